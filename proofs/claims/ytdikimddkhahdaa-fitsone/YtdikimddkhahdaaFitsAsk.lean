/-
  fits: Short, Fits: the program's answer.
-/
import Derived.Test.YtdikimddkhahdaaFitsMay
import Derived.Test.YtdikimddkhahdaaFitsWho
import Derived.Test.YtdikimddkhahdaaFitsMoves
import Derived.Test.YtdikimddkhahdaaLimTwo
namespace Go.Proofs.Ytdikimddkhahdaa
open Go.RowKit
set_option linter.unusedVariables false
set_option linter.unusedSimpArgs false

theorem allB_mv {b : Bks} (g : Good b) {L : List P7} (h : allB b L = true) : L.length ≤ 64 ∧ MvPays L ∧ ∀ p ∈ L, mayB b.A.length p = true := by
  unfold allB at h
  rw [Bool.and_eq_true, decide_eq_true_eq, List.all_eq_true] at h
  have n6 := g.n6
  refine ⟨h.2, ⟨fun p hp => ?_, fun p hp => ?_, fun p hp => ?_⟩, h.1⟩
  · have := (mayB_yes.1 (h.1 p hp)).1; omega
  · have := (mayB_yes.1 (h.1 p hp)).2.1; omega
  · exact (mayB_yes.1 (h.1 p hp)).2.2.2.1
/-- A sum over the first k. -/
def sumN (f : Nat → Int) : Nat → Int
  | 0 => 0
  | k + 1 => sumN f k + f k
theorem sumN_add (f g : Nat → Int) (k : Nat) : sumN (fun j => f j + g j) k = sumN f k + sumN g k := by
  induction k with
  | zero => rfl
  | succ k ih => simp only [sumN, ih]; omega
theorem sumN_zero {f : Nat → Int} {n : Nat} (h : ∀ j, n ≤ j → f j = 0) : ∀ k, sumN f (n + k) = sumN f n := by
  intro k
  induction k with
  | zero => rfl
  | succ k ih => rw [← Nat.add_assoc]; simp only [sumN, ih, h (n + k) (by omega)]; omega
theorem sumN_one (f : Nat → Int) (v : Int) (o : Nat) (h : ∀ j, f j = if j = o then v else 0) : ∀ k, sumN f k = if o < k then v else 0 := by
  intro k
  induction k with
  | zero => simp [sumN]
  | succ k ih =>
    simp only [sumN, ih, h k]
    by_cases e : k = o
    · subst e; rw [if_neg (by omega), if_pos rfl, if_pos (by omega)]; omega
    · rw [if_neg e]
      by_cases e2 : o < k
      · rw [if_pos e2, if_pos (by omega)]; omega
      · rw [if_neg e2, if_neg (by omega)]; omega
/-- What one sends to all is what it sends of Normal ones and of others. -/
theorem sent_sum {L : List P7} (h : MvPays L) (i : Int) : sumN (fun j => sentS L i (j : Nat)) 6 = plainS L i + spentS L i := by
  induction L with
  | nil => rfl
  | cons p L ih =>
    have ih := ih ⟨fun q hq => h.fr q (by simp [hq]), fun q hq => h.to q (by simp [hq]), fun q hq => h.am q (by simp [hq])⟩
    have ht := h.to p (by simp)
    unfold sentS plainS spentS at ih ⊢
    simp only [sumS]
    rw [sumN_add, ih]
    have e : sumN (fun j => sentG i (j : Nat) p) 6 = if p.fr = i then p.am else 0 := by
      rw [sumN_one _ (if p.fr = i then p.am else 0) p.to.toNat (fun j => ?_)]
      · rw [if_pos (by omega)]
      · unfold sentG
        by_cases e1 : p.fr = i
        · by_cases e2 : j = p.to.toNat
          · rw [if_pos ⟨e1, by omega⟩, if_pos e2, if_pos e1]
          · rw [if_neg (by omega), if_neg e2]
        · rw [if_neg (fun x => e1 x.1), if_neg e1]
          split <;> rfl
    rw [e]
    unfold plainG spentG
    by_cases e1 : p.fr = i
    · by_cases e2 : p.cl = 3
      · rw [if_pos e1, if_pos ⟨e1, e2⟩, if_neg (fun x => x.2 e2)]; omega
      · rw [if_pos e1, if_neg (fun x => e2 x.2), if_pos ⟨e1, e2⟩]; omega
    · rw [if_neg e1, if_neg (fun x => e1 x.1), if_neg (fun x => e1 x.1)]; omega
theorem outZ_mv {L : List P7} (h : MvPays L) {i : Nat} (hi : i < 6) : outZ (mvL L) i = plainS L i + spentS L i := by
  rw [← sent_sum h i]
  unfold outZ
  have e0 := mvL_sent L i 0 hi (by omega)
  rw [Nat.add_zero] at e0
  rw [e0, mvL_sent L i 1 hi (by omega), mvL_sent L i 2 hi (by omega), mvL_sent L i 3 hi (by omega), mvL_sent L i 4 hi (by omega), mvL_sent L i 5 hi (by omega)]
  simp only [sumN]
  omega
theorem colZ_mv (L : List P7) (i : Nat) (hi : i < 6) : ∀ k, k ≤ 6 → colZ (mvL L) i k = sumN (fun j => sentS L (j : Nat) i) k := by
  intro k
  induction k with
  | zero => intro _; rfl
  | succ k ih => intro hk; simp only [colZ, sumN, ih (by omega), mvL_sent L k i (by omega) hi]
theorem sentS_none {L : List P7} {i k : Int} (h : ∀ p ∈ L, ¬ (p.fr = i ∧ p.to = k)) : sentS L i k = 0 := by
  unfold sentS
  induction L with
  | nil => rfl
  | cons p L ih =>
    simp only [sumS]
    rw [ih fun q hq => h q (by simp [hq])]
    unfold sentG
    rw [if_neg (h p (by simp))]
    omega
theorem sub_inside (a b c d : Int) : a + b - (c + d) = (a - c) + (b - d) := by omega
theorem dTo_eq (L : List P7) (i : Int) (n : Nat) : dTo L i n = sumN (fun j => sentS L i (j : Nat)) n - sumN (fun j => sentS L (j : Nat) i) n := by
  induction n with
  | zero => rfl
  | succ n ih => simp only [dTo, sumN, ih, netS]; omega
theorem sumN_to {b : Bks} {L : List P7} (h : ∀ p ∈ L, mayB b.A.length p = true) (i : Int) (hn : b.A.length ≤ 6) : sumN (fun j => sentS L i (j : Nat)) 6 = sumN (fun j => sentS L i (j : Nat)) b.A.length := by
  have := sumN_zero (f := fun j => sentS L i (j : Nat)) (n := b.A.length) (fun j hj => sentS_none fun p hp hh => by have := (mayB_yes.1 (h p hp)).2.1; omega) (6 - b.A.length)
  rwa [show b.A.length + (6 - b.A.length) = 6 by omega] at this
theorem sumN_fr {b : Bks} {L : List P7} (h : ∀ p ∈ L, mayB b.A.length p = true) (i : Int) (hn : b.A.length ≤ 6) : sumN (fun j => sentS L (j : Nat) i) 6 = sumN (fun j => sentS L (j : Nat) i) b.A.length := by
  have := sumN_zero (f := fun j => sentS L (j : Nat) i) (n := b.A.length) (fun j hj => sentS_none fun p hp hh => by have := (mayB_yes.1 (h p hp)).1; omega) (6 - b.A.length)
  rwa [show b.A.length + (6 - b.A.length) = 6 by omega] at this
/-- The program's answer is the document's. -/
theorem short_eq {b : Bks} (g : Good b) {L : List P7} (hL : allB b L = true) {i : Nat} (hi : i < b.A.length) : shortZ b (mvL L) b.A.length i = shortB b L b.A.length i := by
  obtain ⟨h64, hm, hmay⟩ := allB_mv g hL
  have n6 := g.n6
  have i6 : i < 6 := by omega
  have eo := outZ_mv hm i6
  have e6 := sumN_to hmay i g.n6
  have f6 := sumN_fr hmay i g.n6
  have ss := sent_sum hm i
  have ei : inZ (mvL L) i = sumN (fun j => sentS L (j : Nat) i) b.A.length := by
    unfold inZ
    rw [colZ_mv L i i6 6 (by omega), f6]
  have ed := dTo_eq L i b.A.length
  have hp := hm.plain h64 i
  have hs := hm.spent h64 i
  have ha : acctB (b.A.getD i a30).1 (b.A.getD i a30).2.1 (b.A.getD i a30).2.2 = true := g.acc i hi
  obtain ⟨_, _, _, _, r0, _⟩ := acctB_yes.1 ha
  have hk := keptV_range (r := (b.A.getD i a30).2.2) r0 hs.1
  unfold shortZ shortB
  have E1 : decide (0 < outZ (mvL L) i) = decide (¬ plainS L i + spentS L i = 0) := by rw [eo, decide_eq_decide]; omega
  have E2 : lackZ (b.A.getD i a30).1 (b.A.getD i a30).2.1 (b.A.getD i a30).2.2 (mvL L) i = lowB b L b.A.length i := by
    unfold lackZ lowB
    rw [mvL_spent L i i6, eo, ei]
    by_cases h : spentS L i < plainS L i + spentS L i
    · rw [if_pos h, Bool.eq_iff_iff]
      simp only [Bool.or_eq_true, Bool.and_eq_true, decide_eq_true_eq]
      omega
    · rw [if_neg h, Bool.eq_iff_iff]
      simp only [Bool.or_eq_true, Bool.and_eq_true, decide_eq_true_eq]
      omega
  have E3 : overZ b (mvL L) b.A.length i = ((List.range b.A.length).any (overB b L i) || wideB b L b.A.length i) := by
    unfold overZ
    congr 1
    · rw [Bool.eq_iff_iff, List.any_eq_true, List.any_eq_true]
      have key : ∀ j, j < 6 → passZ b (mvL L) i j = overB b L i j := by
        intro j hj
        unfold passZ overB aboveB netS
        rw [mvL_sent L i j i6 hj, mvL_sent L j i hj i6]
        rw [Int.add_sub_assoc]
      constructor
      · rintro ⟨j, hj, hp⟩
        have hj := List.mem_range.1 hj
        rw [key j hj] at hp
        refine ⟨j, List.mem_range.2 ?_, hp⟩
        rcases Nat.lt_or_ge j b.A.length with h | h
        · exact h
        · unfold overB at hp
          rw [Bool.and_eq_true, decide_eq_true_eq] at hp
          have : sentS L i j = 0 := sentS_none fun p hp hh => by have := (mayB_yes.1 (hmay p hp)).2.1; omega
          omega
      · rintro ⟨j, hj, hp⟩
        have hj := List.mem_range.1 hj
        exact ⟨j, List.mem_range.2 (by omega), by rw [key j (by omega)]; exact hp⟩
    · unfold aboveB wideB
      rw [eo, ei, ed, ← e6, ss, Int.add_sub_assoc]
  rw [E1, E2, E3]
  cases lowB b L b.A.length i <;> simp
theorem who_eq {b : Bks} (g : Good b) {L : List P7} (hL : allB b L = true) : whoZ b (mvL L) b.A.length b.A.length = shortL b L := by
  unfold whoZ shortL
  refine List.filter_congr fun i hi => ?_
  exact short_eq g hL (List.mem_range.1 hi)

/-- A fact: such a row of ints. -/
def Fact.ints (l : List Nat) : Fact := ⟨fun w v => ∃ a c, v = .slice a l.length c ∧ IGood w a l.length c l, fun w w' v hb ⟨a, c, h1, h2⟩ => ⟨a, c, h1, h2.below hb⟩⟩
theorem ints_fact {f : FuncId} {args : Array Value} {w : World} {l : List Nat} (h : Calls Try.prog f args w (IEnd w l)) :
    Calls Try.prog f args w fun e w' => ∃ v, e = .returned v ∧ Below w.heap.size w w' ∧ (Fact.ints l).1 w' v :=
  h.mono fun e w' ⟨a, c, h1, h2, h3⟩ => ⟨_, h1, h3, a, c, rfl, h2⟩

set_option maxHeartbeats 4000000 in
set_option maxRecDepth 100000 in
theorem areAsked_any (x : BA) (b : Bks) (a : Option Addr) (n c : Nat) (L : List P7) (w : World) (hk : Bk w x b) (g : Good b) (h : PGood w a n c L) :
    Calls Try.prog 29 #[x.val, .slice a n c] w fun e w' => e = .returned (.bool (allB b L)) ∧ Below w.heap.size w w' := by
  have HL : Hid (n = L.length) := h.len
  have HG : Hid (PGood w a n c L) := h
  have IS := fun u (hu : Below w.heap.size w u) => limIs_any x b u (hk.below hu)
  rw [booksB_yes.2 g] at IS
  have MY := fun (p : P7) u => fitsMay_any x p u
  have hx : x.nA = b.A.length := hk.acc.1
  rw [hx] at MY
  obtain ⟨aA, nA, cA, aB, nB, cB, aM, nM, cM, aP, nP, cP⟩ := x
  obtain ⟨w2, hw2⟩ : ∃ w2, w2 = w.alloc (.cells #[.slice aA nA cA, .slice aB nB cB, .slice aM nM cM, .slice aP nP cP] 26) := ⟨_, rfl⟩
  have B2 : Hid (Below w.heap.size w w2) := by rw [hw2]; exact box_below _ _
  have X2 : Hid (Box4 w2 w.heap.size ⟨aA, nA, cA, aB, nB, cB, aM, nM, cM, aP, nP, cP⟩) := by rw [hw2]; exact Box4.new w ⟨aA, nA, cA, aB, nB, cB, aM, nM, cM, aP, nP, cP⟩ _ _
  have HM : Hid (∀ (z0 z1 z2 z3 z4 z5 z6 : Int) (u : World), Calls Try.prog 10 #[.agg #[.slice aA nA cA, .slice aB nB cB, .slice aM nM cM, .slice aP nP cP], .agg #[.int .i64 z0, .int .i64 z1, .int .i64 z2, .int .i64 z3, .int .i64 z4, .int .i64 z5, .int .i64 z6]] u fun e w' => e = .returned (.bool (mayB b.A.length (z0, z1, z2, z3, z4, z5, z6))) ∧ Below u.heap.size u w') := fun z0 z1 z2 z3 z4 z5 z6 u => MY (z0, z1, z2, z3, z4, z5, z6) u
  clear MY hx hk h
  have HNM : Hid (n ≤ 9223372036854775807) := by have := HG.out.cap; have := HG.out.max; show n ≤ _; omega
  obtain ⟨p0, p1, p2, p3⟩ := X2.out
  replace p0 : w2.cell? ⟨w.heap.size, 0, none⟩ = some (.slice aA nA cA) := p0
  replace p1 : w2.cell? ⟨w.heap.size, 1, none⟩ = some (.slice aB nB cB) := p1
  replace p2 : w2.cell? ⟨w.heap.size, 2, none⟩ = some (.slice aM nM cM) := p2
  replace p3 : w2.cell? ⟨w.heap.size, 3, none⟩ = some (.slice aP nP cP) := p3
  rcases Nat.lt_or_ge 64 n with h64 | h64
  · have HE : Hid (false = allB b L) := by
      show false = _
      unfold allB
      rw [decide_eq_false (by have := HL.out; omega), Bool.and_false]
    have h1 : (64 : Int) < (n : Int) := by omega
    go_enter Try.func29, Try.ntmps29
    go_upto_region 1 with fail
    rw [← hw2]
    clear hw2
    go_wp2
    go_ret
    exact ⟨rt_bool HE.out, B2.out⟩
  have h1 : (n : Int) ≤ 64 := by omega
  have h2 : decide ((64 : Int) < (n : Int)) = false := decide_eq_false (by omega)
  have I := IS w2 B2.out
  clear IS
  go_enter Try.func29, Try.ntmps29
  go_upto_region 1 with fail
  rw [← hw2]
  clear hw2
  go_wp2_with fail
  go_at_call 36
  refine I.mono ?_
  rintro e w3 ⟨rfl, hb⟩
  have B3 : Hid (Below w.heap.size w w3) := B2.out.trans (hb.mono B2.out.size)
  have X3 : Hid (Box4 w3 w.heap.size ⟨aA, nA, cA, aB, nB, cB, aM, nM, cM, aP, nP, cP⟩) := X2.out.below hb
  clear hb I X2 B2 p0 p1 p2 p3
  go_wp2
  go_loopw [6, 17] (fun _ t wr => ∃ k : Nat, k ≤ n ∧ t = .int .i64 k ∧ Hid ((L.take k).all (mayB b.A.length) = true) ∧ Hid (Below w3.heap.size w3 wr)) (fun _ t _ => n - (intOf t).toNat)
  case atStart => exact ⟨0, by omega, rfl, rfl, Below.refl _ _⟩
  case round =>
    obtain ⟨k, hk, rfl, HA, HB⟩ := hrel
    have BW : Hid (Below w.heap.size w wr) := B3.out.trans (HB.out.mono B3.out.size)
    by_cases hlt : k < n
    · have k1 : (k : Int) < (n : Int) := by omega
      obtain ⟨ba, off, rfl, HC⟩ := HG.out.at hlt
      have C0 := (HC k hlt).below BW.out
      have HT : Hid (L.take (k + 1) = L.take k ++ [L.getD k p70]) := take_snocA L p70 k (by have := HL.out; omega)
      have HIN : Hid (L.getD k p70 ∈ L) := by show _ ∈ _; rw [getD_get (by have := HL.out; omega)]; exact List.getElem_mem _
      generalize L.getD k p70 = y at C0 HT HIN
      obtain ⟨x0, x1, x2, x3, x4, x5, x6⟩ := y
      have M := fun u => HM.out x0 x1 x2 x3 x4 x5 x6 u
      obtain ⟨q, hq⟩ : ∃ q, mayB b.A.length (x0, x1, x2, x3, x4, x5, x6) = q := ⟨_, rfl⟩
      rw [hq] at M
      have HQ : Hid (mayB b.A.length (x0, x1, x2, x3, x4, x5, x6) = q) := hq
      obtain ⟨r0, r1, r2, r3, r4, r5, r6⟩ := C0
      simp only [P7.id, P7.fr, P7.to, P7.am, P7.cl, P7.st, P7.ti] at r0 r1 r2 r3 r4 r5 r6
      obtain ⟨w4, hw4⟩ : ∃ w4, w4 = wr.alloc (.cells #[.int .i64 x0, .int .i64 x1, .int .i64 x2, .int .i64 x3, .int .i64 x4, .int .i64 x5, .int .i64 x6] 31) := ⟨_, rfl⟩
      have B4 : Hid (Below w3.heap.size w3 w4) := by rw [hw4]; exact HB.out.alloc HB.out.size _
      have C4 : Hid (At7 w4 wr.heap.size 0 (x0, x1, x2, x3, x4, x5, x6)) := by rw [hw4]; exact At7.new _ (x0, x1, x2, x3, x4, x5, x6) _ _
      clear hq HC
      go_upto_region 6 with fail
      rw [← hw4]
      clear hw4 r0 r1 r2 r3 r4 r5 r6
      obtain ⟨r0, r1, r2, r3, r4, r5, r6⟩ := C4.out
      simp only [P7.id, P7.fr, P7.to, P7.am, P7.cl, P7.st, P7.ti, Nat.zero_add] at r0 r1 r2 r3 r4 r5 r6
      obtain ⟨p0, p1, p2, p3⟩ := X3.out.below B4.out
      replace p0 : w4.cell? ⟨w.heap.size, 0, none⟩ = some (.slice aA nA cA) := p0
      replace p1 : w4.cell? ⟨w.heap.size, 1, none⟩ = some (.slice aB nB cB) := p1
      replace p2 : w4.cell? ⟨w.heap.size, 2, none⟩ = some (.slice aM nM cM) := p2
      replace p3 : w4.cell? ⟨w.heap.size, 3, none⟩ = some (.slice aP nP cP) := p3
      go_wp2_with fail
      go_at_call 10
      refine (M _).mono ?_
      rintro e w5 ⟨rfl, hb⟩
      have B5 : Hid (Below w3.heap.size w3 w5) := B4.out.trans (hb.mono B4.out.size)
      have BW5 : Hid (Below w.heap.size w w5) := B3.out.trans (B5.out.mono B3.out.size)
      clear hb M B4 C4 p0 p1 p2 p3 r0 r1 r2 r3 r4 r5 r6
      cases q with
      | false =>
        have HE : Hid (false = allB b L) := by
          show false = _
          unfold allB
          have : L.all (mayB b.A.length) = false := by
            rw [Bool.eq_false_iff]
            intro ha
            rw [List.all_eq_true] at ha
            have := ha _ HIN.out
            rw [HQ.out] at this
            exact Bool.noConfusion this
          rw [this, Bool.false_and]
        go_wp2
        go_ret
        exact ⟨rt_bool HE.out, BW5.out⟩
      | true =>
        have HA2 : Hid ((L.take (k + 1)).all (mayB b.A.length) = true) := by
          show _ = true
          rw [HT.out, List.all_append, HA.out, List.all_cons, HQ.out]; rfl
        go_wp2
        go_roundw
        case rel => exact ⟨k + 1, by omega, by go_num, HA2, B5⟩
        case measure => simp [intOf]; omega
    · obtain rfl : k = n := by omega
      have HE : Hid (true = allB b L) := by
        show true = _
        have := HA.out
        rw [HL.out, List.take_length] at this
        unfold allB
        rw [this, decide_eq_true (by have := HL.out; omega)]; rfl
      go_wp2
      go_ret
      exact ⟨rt_bool HE.out, BW.out⟩

theorem whoShort_fact (x : BA) (b : Bks) (L : List P7) (w : World) (hk : Bk w x b) (g : Good b) (hL : allB b L = true) : Calls Try.prog 30 #[x.val, .agg (mvA (mvL L))] w (IEnd w (shortL b L)) := by
  obtain ⟨h64, hm, hmay⟩ := allB_mv g hL
  have n6 := g.n6
  have := whoIsShort_any x b (mvL L) w hk g (hm.ok h64) (fun i j hi h1 h2 => by
    rw [mvL_sent L i j (by omega) h2]
    exact sentS_none fun p hp hh => by have := (mayB_yes.1 (hmay p hp)).2.1; omega)
  rwa [who_eq g hL] at this

set_option maxHeartbeats 4000000 in
set_option maxRecDepth 100000 in
theorem fitsShort_any (x : BA) (b : Bks) (a : Option Addr) (n c : Nat) (L : List P7) (w : World) (hk : Bk w x b) (g : Good b) (h : PGood w a n c L) :
    Calls Try.prog 16 #[x.val, .slice a n c] w (IEnd w (if allB b L then shortL b L else [])) := by
  have A := areAsked_any x b a n c L
  have A2 := fun u (hu : Below w.heap.size w u) => A u (hk.below hu) g (h.below hu)
  have HMV : Hid (allB b L = true → ∀ u, Below w.heap.size w u → Calls Try.prog 31 #[.slice a n c] u fun e w' => e = .returned (.agg (mvA (mvL L))) ∧ Below u.heap.size u w') := fun hL u hu => movesOf_any a n c L u (h.below hu) (by have := (allB_mv g hL).1; have := h.len; omega) (allB_mv g hL).2.1
  obtain ⟨S, hS⟩ : ∃ S, (if allB b L then shortL b L else []) = S := ⟨_, rfl⟩
  rw [hS]
  have HWH : Hid (allB b L = true → ∀ u, Below w.heap.size w u → Calls Try.prog 30 #[x.val, .agg (mvA (mvL L))] u (IEnd u S)) := fun hL u hu => by
    rw [← hS, if_pos hL]
    exact whoShort_fact x b L u (hk.below hu) g hL
  have HNO : Hid (allB b L = false → S = []) := fun hL => by rw [← hS, hL]; rfl
  obtain ⟨aA, nA, cA, aB, nB, cB, aM, nM, cM, aP, nP, cP⟩ := x
  obtain ⟨w2, hw2⟩ : ∃ w2, w2 = w.alloc (.cells #[.slice aA nA cA, .slice aB nB cB, .slice aM nM cM, .slice aP nP cP] 26) := ⟨_, rfl⟩
  have B2 : Hid (Below w.heap.size w w2) := by rw [hw2]; exact box_below _ _
  have X2 : Hid (Box4 w2 w.heap.size ⟨aA, nA, cA, aB, nB, cB, aM, nM, cM, aP, nP, cP⟩) := by rw [hw2]; exact Box4.new w ⟨aA, nA, cA, aB, nB, cB, aM, nM, cM, aP, nP, cP⟩ _ _
  have I := A2 w2 B2.out
  obtain ⟨p0, p1, p2, p3⟩ := X2.out
  replace p0 : w2.cell? ⟨w.heap.size, 0, none⟩ = some (.slice aA nA cA) := p0
  replace p1 : w2.cell? ⟨w.heap.size, 1, none⟩ = some (.slice aB nB cB) := p1
  replace p2 : w2.cell? ⟨w.heap.size, 2, none⟩ = some (.slice aM nM cM) := p2
  replace p3 : w2.cell? ⟨w.heap.size, 3, none⟩ = some (.slice aP nP cP) := p3
  clear A A2 hk h
  obtain ⟨q, hq⟩ : ∃ q, allB b L = q := ⟨_, rfl⟩
  rw [hq] at I HMV HWH HNO
  clear hq hS
  go_enter Try.func16, Try.ntmps16
  go_upto_region 1 with fail
  rw [← hw2]
  clear hw2
  go_wp2_with fail
  go_at_call 29
  refine I.mono ?_
  rintro e w3 ⟨rfl, hb⟩
  have B3 : Hid (Below w.heap.size w w3) := B2.out.trans (hb.mono B2.out.size)
  have X3 : Hid (Box4 w3 w.heap.size ⟨aA, nA, cA, aB, nB, cB, aM, nM, cM, aP, nP, cP⟩) := X2.out.below hb
  clear hb I X2 B2 p0 p1 p2 p3
  cases q with
  | false =>
    have HE : Hid (S = []) := HNO.out rfl
    clear HNO HMV HWH
    go_wp2
    go_ret
    rw [HE.out]
    exact ⟨none, 0, rfl, ⟨Sl.nil _ _ _, rfl, Nat.le_refl _, by omega, fun _ => rfl⟩, B3.out⟩
  | true =>
    have MV : Hid (∀ u, Below w3.heap.size w3 u → Calls Try.prog 31 #[.slice a n c] u fun e w' => e = .returned (.agg (mvA (mvL L))) ∧ Below u.heap.size u w') := fun u hu => HMV.out rfl u (B3.out.trans (hu.mono B3.out.size))
    have WH : Hid (∀ u, Below w3.heap.size w3 u → Calls Try.prog 30 #[.agg #[.slice aA nA cA, .slice aB nB cB, .slice aM nM cM, .slice aP nP cP], .agg (mvA (mvL L))] u (IEnd u S)) := fun u hu => HWH.out rfl u (B3.out.trans (hu.mono B3.out.size))
    clear HMV HWH HNO
    go_wp2_with fail
    refine region_owes (L := [Fact.is (.agg #[.slice aA nA cA, .slice aB nB cB, .slice aM nM cM, .slice aP nP cP]),
      Fact.is (.slice a n c),
      Fact.is (.agg (mvA (mvL L))),
      Fact.ints S,
      Fact.ints S])
      (T := [9, 10, 11, 12, 4]) (by kernel_rfl) (by kernel_rfl) rfl ?owes ?_
    case owes =>
      refine .cons (owes_value fun q u lh => ⟨wants_free rfl, .agg #[.slice aA nA cA, .slice aB nB cB, .slice aM nM cM, .slice aP nP cP], by have e2 : q.tmps.getD 2 undef = .pointer (some ⟨w.heap.size, 0, none⟩) := lh.old 2 rfl; obtain ⟨p0, p1, p2, p3⟩ := X3.out.below lh.below; simp [execOp, Act.eval, e2, p0, p1, p2, p3, go_sem], rfl⟩) ?_
      refine .cons (owes_move (.tmp 1) (.inl rfl) fun q u lh => ⟨wants_free rfl, lh.old 1 rfl⟩) ?_
      refine .cons (owes_call 31 Try.func31 (by kernel_rfl) (by kernel_rfl) [.tmp 10] #[27] rfl fun q u lh => ⟨wants_free rfl, by have e10 : q.tmps.getD 10 undef = .slice a n c := lh.dep 1 rfl; show Calls Try.prog 31 #[q.tmps.getD 10 undef] u _; rw [e10]; exact is_fact (MV.out u lh.below)⟩) ?_
      refine .cons (owes_call 30 Try.func30 (by kernel_rfl) (by kernel_rfl) [.tmp 9, .tmp 11] #[26, 60] rfl fun q u lh => ⟨wants_free rfl, by have e9 : q.tmps.getD 9 undef = .agg #[.slice aA nA cA, .slice aB nB cB, .slice aM nM cM, .slice aP nP cP] := lh.dep 0 rfl; have e11 : q.tmps.getD 11 undef = .agg (mvA (mvL L)) := lh.dep 2 rfl; show Calls Try.prog 30 #[q.tmps.getD 9 undef, q.tmps.getD 11 undef] u _; rw [e9, e11]; exact ints_fact (WH.out u lh.below)⟩) ?_
      refine .cons (owes_move (.tmp 12) (.inr rfl) fun q u lh => ⟨wants_free rfl, lh.dep 3 rfl⟩) ?_
      exact .nil _
    intro q u hb hsz hdf hold hfact
    obtain ⟨a1, c1, e12, g1⟩ : (Fact.ints S).1 u (q.tmps.getD 12 undef) := hfact 3 (by decide)
    obtain ⟨a4, c4, e4, g4⟩ : (Fact.ints S).1 u (q.tmps.getD 4 undef) := hfact 4 (by decide)
    have B4 : Hid (Below w.heap.size w u) := B3.out.trans (hb.mono B3.out.size)
    have G4 : Hid (IGood u a4 S.length c4 S) := g4
    obtain rfl := frame_puts hsz hdf [9, 10, 11, 12, 4] hold [(9, Value.agg #[.slice aA nA cA, .slice aB nB cB, .slice aM nM cM, .slice aP nP cP]), (10, Value.slice a n c), (11, Value.agg (mvA (mvL L))), (12, Value.slice a1 S.length c1), (4, Value.slice a4 S.length c4)] ⟨hfact 0 (by decide), hfact 1 (by decide), hfact 2 (by decide), e12, e4, trivial⟩ rfl
    clear hsz hdf hold hfact
    clear hb g1 g4
    simp only [puts, Act.put, List.setIfInBounds_toArray, List.set_cons_zero, List.set_cons_succ]
    obtain ⟨sl, hsl⟩ : ∃ sl, S.length = sl := ⟨_, rfl⟩
    go_wp2
    go_ret
    exact ⟨a4, c4, rfl, G4.out, B4.out⟩

set_option maxHeartbeats 4000000 in
set_option maxRecDepth 100000 in
theorem fitsFits_any (x : BA) (b : Bks) (a : Option Addr) (n c : Nat) (L : List P7) (w : World) (hk : Bk w x b) (g : Good b) (h : PGood w a n c L) :
    Calls Try.prog 12 #[x.val, .slice a n c] w fun e w' => e = .returned (.bool (fitsB b L)) ∧ Below w.heap.size w w' := by
  have A := areAsked_any x b a n c L
  have A2 := fun u (hu : Below w.heap.size w u) => A u (hk.below hu) g (h.below hu)
  have HMV : Hid (allB b L = true → ∀ u, Below w.heap.size w u → Calls Try.prog 31 #[.slice a n c] u fun e w' => e = .returned (.agg (mvA (mvL L))) ∧ Below u.heap.size u w') := fun hL u hu => movesOf_any a n c L u (h.below hu) (by have := (allB_mv g hL).1; have := h.len; omega) (allB_mv g hL).2.1
  obtain ⟨S, hS⟩ : ∃ S, shortL b L = S := ⟨_, rfl⟩
  have HWH : Hid (allB b L = true → ∀ u, Below w.heap.size w u → Calls Try.prog 30 #[x.val, .agg (mvA (mvL L))] u (IEnd u S)) := fun hL u hu => by
    rw [← hS]
    exact whoShort_fact x b L u (hk.below hu) g hL
  have HF : Hid (fitsB b L = (allB b L && decide (S.length = 0))) := by show _ = _; rw [← hS]; rfl
  have H0 : n = 0 → fitsB b L = true := fun h0 => by
    have : L = [] := List.length_eq_zero_iff.1 (by rw [← h.len]; exact h0)
    subst this
    have e : shortL b [] = [] := by
      unfold shortL
      rw [List.filter_eq_nil_iff]
      intro i _
      simp [shortB, plainS, spentS, sumS]
    unfold fitsB allB
    rw [e]
    rfl
  obtain ⟨F, hFF⟩ : ∃ F, fitsB b L = F := ⟨_, rfl⟩
  rw [hFF] at HF H0 ⊢
  obtain ⟨aA, nA, cA, aB, nB, cB, aM, nM, cM, aP, nP, cP⟩ := x
  obtain ⟨w2, hw2⟩ : ∃ w2, w2 = w.alloc (.cells #[.slice aA nA cA, .slice aB nB cB, .slice aM nM cM, .slice aP nP cP] 26) := ⟨_, rfl⟩
  have B2 : Hid (Below w.heap.size w w2) := by rw [hw2]; exact box_below _ _
  have X2 : Hid (Box4 w2 w.heap.size ⟨aA, nA, cA, aB, nB, cB, aM, nM, cM, aP, nP, cP⟩) := by rw [hw2]; exact Box4.new w ⟨aA, nA, cA, aB, nB, cB, aM, nM, cM, aP, nP, cP⟩ _ _
  obtain ⟨q, hq⟩ : ∃ q, allB b L = q := ⟨_, rfl⟩
  rw [hq] at A2 HMV HWH HF
  have I : Hid (∀ u, Below w2.heap.size w2 u → Calls Try.prog 29 #[.agg #[.slice aA nA cA, .slice aB nB cB, .slice aM nM cM, .slice aP nP cP], .slice a n c] u fun e w' => e = .returned (.bool q) ∧ Below u.heap.size u w') := fun u hu => A2 u (B2.out.trans (hu.mono B2.out.size))
  have MV : Hid (q = true → ∀ u, Below w2.heap.size w2 u → Calls Try.prog 31 #[.slice a n c] u fun e w' => e = .returned (.agg (mvA (mvL L))) ∧ Below u.heap.size u w') := fun hq u hu => HMV.out hq u (B2.out.trans (hu.mono B2.out.size))
  have WH : Hid (q = true → ∀ u, Below w2.heap.size w2 u → Calls Try.prog 30 #[.agg #[.slice aA nA cA, .slice aB nB cB, .slice aM nM cM, .slice aP nP cP], .agg (mvA (mvL L))] u (IEnd u S)) := fun hq u hu => HWH.out hq u (B2.out.trans (hu.mono B2.out.size))
  clear A A2 hk h hq hS hFF HMV HWH
  by_cases hn : n = 0
  · subst hn
    have HE : Hid (true = F) := (H0 rfl).symm
    clear H0 HF
    go_enter Try.func12, Try.ntmps12
    go_upto_region 1 with fail
    rw [← hw2]
    clear hw2
    go_quiet (fail)
    go_wp2
    go_ret
    exact ⟨rt_bool HE.out, B2.out.trans ((drawn_below _ _).mono B2.out.size)⟩
  · have n0 : ((n : Int) == 0) = false := by rw [beq_eq_false_iff_ne]; omega
    clear H0 hn
    go_enter Try.func12, Try.ntmps12
    go_upto_region 1 with fail
    rw [← hw2]
    clear hw2
    cases q with
    | false =>
      have HE : Hid (false = F) := by show _ = _; rw [HF.out]; rfl
      obtain ⟨A, hA⟩ : ∃ A, A = false := ⟨_, rfl⟩
      have HA : Hid (A = false) := hA
      rw [← hA] at I
      clear hA HF MV WH
      refine region_owes (L := [Fact.is (.slice a n c),
        Fact.is (.int .i64 n),
        Fact.is (.bool false),
        Fact.is (.bool false),
        Fact.is (.agg #[.slice aA nA cA, .slice aB nB cB, .slice aM nM cM, .slice aP nP cP]),
        Fact.is (.slice a n c),
        Fact.is (.bool A),
        Fact.is (.bool A),
        Fact.when (A == true) (.bool false),
        Fact.when (A == true) (.slice a n c),
        Fact.when (A == true) (.bool false),
        Fact.when (A == true) (.bool false),
        Fact.when (A == true) (.bool false),
        Fact.when (A == true) (.bool true),
        Fact.is (.bool false),
        Fact.is (.bool false),
        Fact.is (.bool false)])
        (T := [5, 6, 7, 8, 9, 10, 11, 12, 13, 14, 15, 16, 17, 18, 19, 20, 4]) (by kernel_rfl) (by kernel_rfl) rfl ?owes ?_
      case owes =>
        refine .cons (owes_move (.tmp 1) (.inl rfl) fun q u lh => ⟨wants_free rfl, lh.old 1 rfl⟩) ?_
        refine .cons (owes_value fun q u lh => ⟨wants_free rfl, .int .i64 n, by have e5 : q.tmps.getD 5 undef = .slice a n c := lh.dep 0 rfl; simp [execOp, Act.eval, e5, go_sem], rfl⟩) ?_
        refine .cons (owes_value fun q u lh => ⟨wants_free rfl, .bool false, by have e6 : q.tmps.getD 6 undef = .int .i64 n := lh.dep 1 rfl; simp [execOp, Act.eval, e6, n0, go_sem], rfl⟩) ?_
        refine .cons (owes_move (.tmp 7) (.inl rfl) fun q u lh => ⟨wants_free rfl, lh.dep 2 rfl⟩) ?_
        refine .cons (owes_value fun q u lh => ⟨lh.wants1 3 false rfl rfl rfl, .agg #[.slice aA nA cA, .slice aB nB cB, .slice aM nM cM, .slice aP nP cP], by have e2 : q.tmps.getD 2 undef = .pointer (some ⟨w.heap.size, 0, none⟩) := lh.old 2 rfl; obtain ⟨p0, p1, p2, p3⟩ := X2.out.below lh.below; simp [execOp, Act.eval, e2, p0, p1, p2, p3, go_sem], rfl⟩) ?_
        refine .cons (owes_move (.tmp 1) (.inl rfl) fun q u lh => ⟨lh.wants1 3 false rfl rfl rfl, lh.old 1 rfl⟩) ?_
        refine .cons (owes_call 29 Try.func29 (by kernel_rfl) (by kernel_rfl) [.tmp 9, .tmp 10] #[26, 27] rfl fun q u lh => ⟨lh.wants1 3 false rfl rfl rfl, by have e9 : q.tmps.getD 9 undef = .agg #[.slice aA nA cA, .slice aB nB cB, .slice aM nM cM, .slice aP nP cP] := lh.dep 4 rfl; have e10 : q.tmps.getD 10 undef = .slice a n c := lh.dep 5 rfl; show Calls Try.prog 29 #[q.tmps.getD 9 undef, q.tmps.getD 10 undef] u _; rw [e9, e10]; exact bool_fact (I.out u lh.below)⟩) ?_
        refine .cons (owes_move (.tmp 11) (.inl rfl) fun q u lh => ⟨lh.wants1 3 false rfl rfl rfl, lh.dep 6 rfl⟩) ?_
        refine .cons (owes_when 7 true A (.bool false) rfl rfl rfl rfl fun hg q u lh => by have e2 : q.tmps.getD 2 undef = .pointer (some ⟨w.heap.size, 0, none⟩) := lh.old 2 rfl; refine absurd hg ?_; rw [HA.out]; simp [execOp, Act.eval, e2, go_sem]) ?_
        refine .cons (owes_when 7 true A (.slice a n c) rfl rfl rfl rfl fun hg q u lh => by have e1 : q.tmps.getD 1 undef = .slice a n c := lh.old 1 rfl; simp [execOp, Act.eval, e1, go_sem]) ?_
        refine .cons (owes_when_call 7 true A (.bool false) rfl rfl rfl rfl 31 Try.func31 (by kernel_rfl) (by kernel_rfl) [.tmp 14] #[27] rfl fun hg q u lh => by have e14 : q.tmps.getD 14 undef = .slice a n c := (lh.dep 9 rfl) hg; show Calls Try.prog 31 #[q.tmps.getD 14 undef] u _; rw [e14]; exact absurd hg (by rw [HA.out]; decide)) ?_
        refine .cons (owes_when_call 7 true A (.bool false) rfl rfl rfl rfl 30 Try.func30 (by kernel_rfl) (by kernel_rfl) [.tmp 13, .tmp 15] #[26, 60] rfl fun hg q u lh => by have e13 : q.tmps.getD 13 undef = .bool false := (lh.dep 8 rfl) hg; have e15 : q.tmps.getD 15 undef = .bool false := (lh.dep 10 rfl) hg; show Calls Try.prog 30 #[q.tmps.getD 13 undef, q.tmps.getD 15 undef] u _; rw [e13, e15]; exact absurd hg (by rw [HA.out]; decide)) ?_
        refine .cons (owes_when 7 true A (.bool false) rfl rfl rfl rfl fun hg q u lh => by have e16 : q.tmps.getD 16 undef = .bool false := (lh.dep 11 rfl) hg; refine absurd hg ?_; rw [HA.out]; simp [execOp, Act.eval, e16, go_sem]) ?_
        refine .cons (owes_when 7 true A (.bool true) rfl rfl rfl rfl fun hg q u lh => by have e17 : q.tmps.getD 17 undef = .bool false := (lh.dep 12 rfl) hg; refine absurd hg ?_; rw [HA.out]; simp [execOp, Act.eval, e17, go_sem]) ?_
        refine .cons (owes_pick (.tmp 12) (.tmp 18) (.const (.bool false)) rfl fun q u lh => ⟨lh.wants1 3 false rfl rfl rfl, A, lh.dep 7 rfl, by rw [if_neg (by rw [HA.out]; decide)]; rfl⟩) ?_
        refine .cons (owes_pick (.tmp 8) (.const (.bool true)) (.tmp 19) rfl fun q u lh => ⟨wants_free rfl, false, lh.dep 3 rfl, lh.dep 14 rfl⟩) ?_
        refine .cons (owes_move (.tmp 20) (.inr rfl) fun q u lh => ⟨wants_free rfl, lh.dep 15 rfl⟩) ?_
        exact .nil _
      intro q u hb hsz hdf hold hfact
      obtain ⟨v13, e13⟩ : ∃ v, q.tmps.getD 13 undef = v := ⟨_, rfl⟩
      obtain ⟨v14, e14⟩ : ∃ v, q.tmps.getD 14 undef = v := ⟨_, rfl⟩
      obtain ⟨v15, e15⟩ : ∃ v, q.tmps.getD 15 undef = v := ⟨_, rfl⟩
      obtain ⟨v16, e16⟩ : ∃ v, q.tmps.getD 16 undef = v := ⟨_, rfl⟩
      obtain ⟨v17, e17⟩ : ∃ v, q.tmps.getD 17 undef = v := ⟨_, rfl⟩
      obtain ⟨v18, e18⟩ : ∃ v, q.tmps.getD 18 undef = v := ⟨_, rfl⟩
      have B4 : Hid (Below w.heap.size w u) := B2.out.trans (hb.mono B2.out.size)
      obtain rfl := frame_puts hsz hdf [5, 6, 7, 8, 9, 10, 11, 12, 13, 14, 15, 16, 17, 18, 19, 20, 4] hold [(5, Value.slice a n c), (6, Value.int .i64 n), (7, Value.bool false), (8, Value.bool false), (9, Value.agg #[.slice aA nA cA, .slice aB nB cB, .slice aM nM cM, .slice aP nP cP]), (10, Value.slice a n c), (11, Value.bool A), (12, Value.bool A), (13, v13), (14, v14), (15, v15), (16, v16), (17, v17), (18, v18), (19, Value.bool false), (20, Value.bool false), (4, Value.bool false)] ⟨hfact 0 (by decide), hfact 1 (by decide), hfact 2 (by decide), hfact 3 (by decide), hfact 4 (by decide), hfact 5 (by decide), hfact 6 (by decide), hfact 7 (by decide), e13, e14, e15, e16, e17, e18, hfact 14 (by decide), hfact 15 (by decide), hfact 16 (by decide), trivial⟩ rfl
      clear hsz hdf hold hfact
      clear hb
      simp only [puts, Act.put, List.setIfInBounds_toArray, List.set_cons_zero, List.set_cons_succ]
      go_wp2
      go_ret
      exact ⟨rt_bool HE.out, B4.out⟩
    | true =>
      obtain ⟨m, hm⟩ : ∃ m, S.length = m := ⟨_, rfl⟩
      have HM : Hid (S.length = m) := hm
      obtain ⟨R, hR⟩ : ∃ R, ((m : Int) == 0) = R := ⟨_, rfl⟩
      have HRR : Hid (((m : Int) == 0) = R) := hR
      have HE : Hid (R = F) := by
        show _ = _
        rw [HF.out, hm, ← hR, Bool.true_and, Bool.eq_iff_iff]
        simp
      clear hm hR HF
      refine region_owes (L := [Fact.is (.slice a n c),
        Fact.is (.int .i64 n),
        Fact.is (.bool false),
        Fact.is (.bool false),
        Fact.is (.agg #[.slice aA nA cA, .slice aB nB cB, .slice aM nM cM, .slice aP nP cP]),
        Fact.is (.slice a n c),
        Fact.is (.bool true),
        Fact.is (.bool true),
        Fact.is (.agg #[.slice aA nA cA, .slice aB nB cB, .slice aM nM cM, .slice aP nP cP]),
        Fact.is (.slice a n c),
        Fact.is (.agg (mvA (mvL L))),
        Fact.ints S,
        Fact.is (.int .i64 m),
        Fact.is (.bool R),
        Fact.is (.bool R),
        Fact.is (.bool R),
        Fact.is (.bool R)])
        (T := [5, 6, 7, 8, 9, 10, 11, 12, 13, 14, 15, 16, 17, 18, 19, 20, 4]) (by kernel_rfl) (by kernel_rfl) rfl ?owes ?_
      case owes =>
        refine .cons (owes_move (.tmp 1) (.inl rfl) fun q u lh => ⟨wants_free rfl, lh.old 1 rfl⟩) ?_
        refine .cons (owes_value fun q u lh => ⟨wants_free rfl, .int .i64 n, by have e5 : q.tmps.getD 5 undef = .slice a n c := lh.dep 0 rfl; simp [execOp, Act.eval, e5, go_sem], rfl⟩) ?_
        refine .cons (owes_value fun q u lh => ⟨wants_free rfl, .bool false, by have e6 : q.tmps.getD 6 undef = .int .i64 n := lh.dep 1 rfl; simp [execOp, Act.eval, e6, n0, go_sem], rfl⟩) ?_
        refine .cons (owes_move (.tmp 7) (.inl rfl) fun q u lh => ⟨wants_free rfl, lh.dep 2 rfl⟩) ?_
        refine .cons (owes_value fun q u lh => ⟨lh.wants1 3 false rfl rfl rfl, .agg #[.slice aA nA cA, .slice aB nB cB, .slice aM nM cM, .slice aP nP cP], by have e2 : q.tmps.getD 2 undef = .pointer (some ⟨w.heap.size, 0, none⟩) := lh.old 2 rfl; obtain ⟨p0, p1, p2, p3⟩ := X2.out.below lh.below; simp [execOp, Act.eval, e2, p0, p1, p2, p3, go_sem], rfl⟩) ?_
        refine .cons (owes_move (.tmp 1) (.inl rfl) fun q u lh => ⟨lh.wants1 3 false rfl rfl rfl, lh.old 1 rfl⟩) ?_
        refine .cons (owes_call 29 Try.func29 (by kernel_rfl) (by kernel_rfl) [.tmp 9, .tmp 10] #[26, 27] rfl fun q u lh => ⟨lh.wants1 3 false rfl rfl rfl, by have e9 : q.tmps.getD 9 undef = .agg #[.slice aA nA cA, .slice aB nB cB, .slice aM nM cM, .slice aP nP cP] := lh.dep 4 rfl; have e10 : q.tmps.getD 10 undef = .slice a n c := lh.dep 5 rfl; show Calls Try.prog 29 #[q.tmps.getD 9 undef, q.tmps.getD 10 undef] u _; rw [e9, e10]; exact bool_fact (I.out u lh.below)⟩) ?_
        refine .cons (owes_move (.tmp 11) (.inl rfl) fun q u lh => ⟨lh.wants1 3 false rfl rfl rfl, lh.dep 6 rfl⟩) ?_
        refine .cons (owes_value fun q u lh => ⟨lh.wants1 7 true rfl rfl rfl, .agg #[.slice aA nA cA, .slice aB nB cB, .slice aM nM cM, .slice aP nP cP], by have e2 : q.tmps.getD 2 undef = .pointer (some ⟨w.heap.size, 0, none⟩) := lh.old 2 rfl; obtain ⟨p0, p1, p2, p3⟩ := X2.out.below lh.below; simp [execOp, Act.eval, e2, p0, p1, p2, p3, go_sem], rfl⟩) ?_
        refine .cons (owes_move (.tmp 1) (.inl rfl) fun q u lh => ⟨lh.wants1 7 true rfl rfl rfl, lh.old 1 rfl⟩) ?_
        refine .cons (owes_call 31 Try.func31 (by kernel_rfl) (by kernel_rfl) [.tmp 14] #[27] rfl fun q u lh => ⟨lh.wants1 7 true rfl rfl rfl, by have e14 : q.tmps.getD 14 undef = .slice a n c := lh.dep 9 rfl; show Calls Try.prog 31 #[q.tmps.getD 14 undef] u _; rw [e14]; exact is_fact (MV.out rfl u lh.below)⟩) ?_
        refine .cons (owes_call 30 Try.func30 (by kernel_rfl) (by kernel_rfl) [.tmp 13, .tmp 15] #[26, 60] rfl fun q u lh => ⟨lh.wants1 7 true rfl rfl rfl, by have e13 : q.tmps.getD 13 undef = .agg #[.slice aA nA cA, .slice aB nB cB, .slice aM nM cM, .slice aP nP cP] := lh.dep 8 rfl; have e15 : q.tmps.getD 15 undef = .agg (mvA (mvL L)) := lh.dep 10 rfl; show Calls Try.prog 30 #[q.tmps.getD 13 undef, q.tmps.getD 15 undef] u _; rw [e13, e15]; exact ints_fact (WH.out rfl u lh.below)⟩) ?_
        refine .cons (owes_value fun q u lh => by obtain ⟨a2, c2, e16, g2⟩ := lh.dep 11 rfl; have e16 : q.tmps[16]?.getD undef = .slice a2 S.length c2 := (Array.getD_eq_getD_getElem? ..).symm.trans e16; rw [HM.out] at e16; exact ⟨lh.wants1 7 true rfl rfl rfl, .int .i64 m, by simp [execOp, Act.eval, e16, go_sem], rfl⟩) ?_
        refine .cons (owes_value fun q u lh => ⟨lh.wants1 7 true rfl rfl rfl, .bool R, by have e17 : q.tmps.getD 17 undef = .int .i64 m := lh.dep 12 rfl; simp [execOp, Act.eval, e17, HRR.out, go_sem], rfl⟩) ?_
        refine .cons (owes_pick (.tmp 12) (.tmp 18) (.const (.bool false)) rfl fun q u lh => ⟨lh.wants1 3 false rfl rfl rfl, true, lh.dep 7 rfl, lh.dep 13 rfl⟩) ?_
        refine .cons (owes_pick (.tmp 8) (.const (.bool true)) (.tmp 19) rfl fun q u lh => ⟨wants_free rfl, false, lh.dep 3 rfl, lh.dep 14 rfl⟩) ?_
        refine .cons (owes_move (.tmp 20) (.inr rfl) fun q u lh => ⟨wants_free rfl, lh.dep 15 rfl⟩) ?_
        exact .nil _
      intro q u hb hsz hdf hold hfact
      obtain ⟨v16, e16⟩ : ∃ v, q.tmps.getD 16 undef = v := ⟨_, rfl⟩
      have f16 : (Fact.ints S).1 u v16 := by rw [← e16]; exact hfact 11 (by decide)
      have B4 : Hid (Below w.heap.size w u) := B2.out.trans (hb.mono B2.out.size)
      obtain rfl := frame_puts hsz hdf [5, 6, 7, 8, 9, 10, 11, 12, 13, 14, 15, 16, 17, 18, 19, 20, 4] hold [(5, Value.slice a n c), (6, Value.int .i64 n), (7, Value.bool false), (8, Value.bool false), (9, Value.agg #[.slice aA nA cA, .slice aB nB cB, .slice aM nM cM, .slice aP nP cP]), (10, Value.slice a n c), (11, Value.bool true), (12, Value.bool true), (13, Value.agg #[.slice aA nA cA, .slice aB nB cB, .slice aM nM cM, .slice aP nP cP]), (14, Value.slice a n c), (15, Value.agg (mvA (mvL L))), (16, v16), (17, Value.int .i64 m), (18, Value.bool R), (19, Value.bool R), (20, Value.bool R), (4, Value.bool R)] ⟨hfact 0 (by decide), hfact 1 (by decide), hfact 2 (by decide), hfact 3 (by decide), hfact 4 (by decide), hfact 5 (by decide), hfact 6 (by decide), hfact 7 (by decide), hfact 8 (by decide), hfact 9 (by decide), hfact 10 (by decide), e16, hfact 12 (by decide), hfact 13 (by decide), hfact 14 (by decide), hfact 15 (by decide), hfact 16 (by decide), trivial⟩ rfl
      clear hsz hdf hold hfact
      clear hb
      simp only [puts, Act.put, List.setIfInBounds_toArray, List.set_cons_zero, List.set_cons_succ]
      go_wp2
      go_ret
      exact ⟨rt_bool HE.out, B4.out⟩

end Go.Proofs.Ytdikimddkhahdaa
