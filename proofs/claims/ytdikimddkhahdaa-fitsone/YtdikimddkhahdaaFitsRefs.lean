/-
  giroref15: Short, All, Fits; girolaw15.ints.
-/
import Derived.Test.YtdikimddkhahdaaFitsRef
namespace Go.Proofs.Ytdikimddkhahdaa
open Go.RowKit
set_option linter.unusedVariables false
set_option linter.unusedSimpArgs false

def shortTo (b : Bks) (L : List P7) (k : Nat) : List Nat := (List.range k).filter (shortB b L b.A.length)
theorem shortTo_yes {b : Bks} {L : List P7} {k : Nat} (h : shortB b L b.A.length k = true) : shortTo b L (k + 1) = shortTo b L k ++ [k] := by
  unfold shortTo
  rw [List.range_succ, List.filter_append]
  simp [h]
theorem shortTo_no {b : Bks} {L : List P7} {k : Nat} (h : shortB b L b.A.length k = false) : shortTo b L (k + 1) = shortTo b L k := by
  unfold shortTo
  rw [List.range_succ, List.filter_append]
  simp [h]
theorem shortTo_lt {b : Bks} {L : List P7} {k : Nat} : ∀ i ∈ shortTo b L k, i < k := by
  intro i hi
  simp [shortTo] at hi
  exact hi.1

set_option maxHeartbeats 8000000 in
set_option maxRecDepth 100000 in
theorem refFShort_any (x : BA) (b : Bks) (a : Option Addr) (n c : Nat) (L : List P7) (w : World) (hk : Bk w x b) (g : Good b) (h : PGood w a n c L) (hn : n ≤ 64) (hp : MvPays L) :
    Calls Try.prog 17 #[x.val, .slice a n c] w (IEnd w (shortL b L)) := by
  have ON : Hid (∀ i, i < b.A.length → ∀ u, Below w.heap.size w u → Calls Try.prog 32 #[x.val, .slice a n c, .int .i64 i] u fun e w' => e = .returned (.bool (shortB b L b.A.length i)) ∧ Below u.heap.size u w') := fun i hi u hu => refShortOne_any x b a n c L i u (hk.below hu) g (h.below hu) hn hp hi
  have hx : x.nA = b.A.length := hk.acc.1
  have n6 := g.n6
  have HM : Hid (shortL b L = shortTo b L x.nA) := by show _ = _; rw [hx]; rfl
  rw [HM.out]
  have HS : Hid (∀ k, shortB b L b.A.length k = shortB b L x.nA k) := fun k => by rw [hx]
  rw [← hx] at ON n6
  have HY : Hid (∀ k, shortB b L x.nA k = true → shortTo b L (k + 1) = shortTo b L k ++ [k]) := fun k h => shortTo_yes (by rw [HS.out k]; exact h)
  have HNN : Hid (∀ k, shortB b L x.nA k = false → shortTo b L (k + 1) = shortTo b L k) := fun k h => shortTo_no (by rw [HS.out k]; exact h)
  obtain ⟨aA, nA, cA, aB, nB, cB, aM, nM, cM, aP, nP, cP⟩ := x
  have ONE : Hid (∀ i : Nat, i < nA → ∀ u, Below w.heap.size w u → Calls Try.prog 32 #[.agg #[.slice aA nA cA, .slice aB nB cB, .slice aM nM cM, .slice aP nP cP], .slice a n c, .int .i64 i] u fun e w' => e = .returned (.bool (shortB b L nA i)) ∧ Below u.heap.size u w') := ON.out
  have HY2 : Hid (∀ k, shortB b L nA k = true → shortTo b L (k + 1) = shortTo b L k ++ [k]) := HY.out
  have HN2 : Hid (∀ k, shortB b L nA k = false → shortTo b L (k + 1) = shortTo b L k) := HNN.out
  have H6 : Hid (nA ≤ 6) := n6
  have n6' : (nA : Int) ≤ 6 := by have := H6.out; omega
  obtain ⟨w2, hw2⟩ : ∃ w2, w2 = w.alloc (.cells #[.slice aA nA cA, .slice aB nB cB, .slice aM nM cM, .slice aP nP cP] 26) := ⟨_, rfl⟩
  have B2 : Hid (Below w.heap.size w w2) := by rw [hw2]; exact box_below _ _
  have X2 : Hid (Box4 w2 w.heap.size ⟨aA, nA, cA, aB, nB, cB, aM, nM, cM, aP, nP, cP⟩) := by rw [hw2]; exact Box4.new w ⟨aA, nA, cA, aB, nB, cB, aM, nM, cM, aP, nP, cP⟩ _ _
  show Calls Try.prog 17 #[.agg #[.slice aA nA cA, .slice aB nB cB, .slice aM nM cM, .slice aP nP cP], .slice a n c] w (IEnd w (shortTo b L nA))
  clear hk g h hn hp hx HM HS HY HNN ON n6
  go_enter Try.func17, Try.ntmps17
  go_upto_region 1 with fail
  rw [← hw2]
  clear hw2
  go_wp2
  go_loopw [5, 6] (fun sv t wr => ∃ (k m : Nat) (v : Value), k ≤ nA ∧ t = .int .i64 k ∧ v = sv ∧ m ≤ k ∧ Hid (wr.ownsRow w2.heap.size 3 1 v m (intsV (shortTo b L k))) ∧ Hid (Below w2.heap.size w2 wr)) (fun _ t _ => nA - (intOf t).toNat)
  case atStart => exact ⟨0, 0, _, by omega, rfl, rfl, by omega, World.ownsRow_nil _ _ _ _, Below.refl _ _⟩
  case round =>
    obtain ⟨k, m, v, hk, rfl, rfl, hm, HO, HB⟩ := hrel
    obtain ⟨p0, p1, p2, p3⟩ := X2.out.below HB.out
    replace p0 : wr.cell? ⟨w.heap.size, 0, none⟩ = some (.slice aA nA cA) := p0
    replace p1 : wr.cell? ⟨w.heap.size, 1, none⟩ = some (.slice aB nB cB) := p1
    replace p2 : wr.cell? ⟨w.heap.size, 2, none⟩ = some (.slice aM nM cM) := p2
    replace p3 : wr.cell? ⟨w.heap.size, 3, none⟩ = some (.slice aP nP cP) := p3
    have BW : Hid (Below w.heap.size w wr) := B2.out.trans (HB.out.mono B2.out.size)
    by_cases hlt : k < nA
    · have k1 : (k : Int) < (nA : Int) := by omega
      have O := ONE.out k hlt wr BW.out
      obtain ⟨q, hq⟩ : ∃ q, shortB b L nA k = q := ⟨_, rfl⟩
      have hyy := HY2.out k
      have hnn := HN2.out k
      rw [hq] at O hyy hnn
      have HYY : Hid (q = true → shortTo b L (k + 1) = shortTo b L k ++ [k]) := hyy
      have HNN : Hid (q = false → shortTo b L (k + 1) = shortTo b L k) := hnn
      clear hq hyy hnn
      go_wp2_with fail
      go_at_call 32
      refine O.mono ?_
      rintro e w3 ⟨rfl, hb⟩
      have B3 : Hid (Below w2.heap.size w2 w3) := HB.out.trans (hb.mono HB.out.size)
      have O3 : Hid (w3.ownsRow w2.heap.size 3 1 v m (intsV (shortTo b L k))) := own_below HO.out hb
      clear hb O HB HO BW p0 p1 p2 p3
      cases q with
      | true =>
        have HF : Hid (shortTo b L (k + 1) = shortTo b L k ++ [k]) := HYY.out rfl
        clear HYY HNN
        go_wp2_with (at_builtin; refine append_one rfl _ _ rfl w2.heap.size v m (shortTo b L k) rfl O3.out k (by omega) (by omega) B3.out.size rfl ?_)
        intro v8 w8 h8 g8
        have O8 : Hid (w8.ownsRow w2.heap.size 3 1 v8 (m + 1) (intsV (shortTo b L (k + 1)))) := by rw [HF.out]; exact h8
        have B8 : Hid (Below w2.heap.size w2 w8) := (B3.out.alloc B3.out.size _).grown g8 (by rw [size_alloc]; have := B3.out.size; omega) (fun j hj => (O3.out.lt j hj).1)
        clear h8 g8
        go_wp2
        go_roundw
        case rel => exact ⟨k + 1, m + 1, v8, by omega, by go_num, rfl, by omega, O8, B8⟩
        case measure => simp [intOf]; omega
      | false =>
        have HF : Hid (shortTo b L (k + 1) = shortTo b L k) := HNN.out rfl
        clear HYY HNN
        go_wp2
        go_roundw
        case rel => exact ⟨k + 1, m, v, by omega, by go_num, rfl, by omega, by rw [HF.out]; exact O3.out, B3⟩
        case measure => simp [intOf]; omega
    · obtain rfl : k = nA := by omega
      obtain ⟨a8, c8, rfl, hg⟩ := IGood.own HO.out (fun i hi => by have := shortTo_lt i hi; have := H6.out; omega)
      have HG : Hid (IGood wr a8 (shortTo b L k).length c8 (shortTo b L k)) := hg
      clear hg HO HB
      go_wp2
      go_ret
      exact ⟨a8, c8, rfl, HG.out, BW.out⟩

set_option maxHeartbeats 4000000 in
set_option maxRecDepth 100000 in
theorem refFAll_any (x : BA) (b : Bks) (a : Option Addr) (n c : Nat) (L : List P7) (w : World) (hx : x.nA = b.A.length) (h : PGood w a n c L) :
    Calls Try.prog 14 #[x.val, .slice a n c] w fun e w' => e = .returned (.bool (allB b L)) ∧ Below w.heap.size w w' := by
  have HL : Hid (n = L.length) := h.len
  have HG : Hid (PGood w a n c L) := h
  have MY := fun (p : P7) u => refFMay_any x p u
  rw [hx] at MY
  obtain ⟨aA, nA, cA, aB, nB, cB, aM, nM, cM, aP, nP, cP⟩ := x
  obtain ⟨w2, hw2⟩ : ∃ w2, w2 = w.alloc (.cells #[.slice aA nA cA, .slice aB nB cB, .slice aM nM cM, .slice aP nP cP] 26) := ⟨_, rfl⟩
  have B2 : Hid (Below w.heap.size w w2) := by rw [hw2]; exact box_below _ _
  have X2 : Hid (Box4 w2 w.heap.size ⟨aA, nA, cA, aB, nB, cB, aM, nM, cM, aP, nP, cP⟩) := by rw [hw2]; exact Box4.new w ⟨aA, nA, cA, aB, nB, cB, aM, nM, cM, aP, nP, cP⟩ _ _
  have HM : Hid (∀ (z0 z1 z2 z3 z4 z5 z6 : Int) (u : World), Calls Try.prog 11 #[.agg #[.slice aA nA cA, .slice aB nB cB, .slice aM nM cM, .slice aP nP cP], .agg #[.int .i64 z0, .int .i64 z1, .int .i64 z2, .int .i64 z3, .int .i64 z4, .int .i64 z5, .int .i64 z6]] u fun e w' => e = .returned (.bool (mayB b.A.length (z0, z1, z2, z3, z4, z5, z6))) ∧ Below u.heap.size u w') := fun z0 z1 z2 z3 z4 z5 z6 u => MY (z0, z1, z2, z3, z4, z5, z6) u
  have HNM : Hid (n ≤ 9223372036854775807) := by have := HG.out.cap; have := HG.out.max; show n ≤ _; omega
  have hnm : (n : Int) ≤ 9223372036854775807 := by have := HNM.out; omega
  clear MY hx h
  go_enter Try.func14, Try.ntmps14
  go_upto_region 1 with fail
  rw [← hw2]
  clear hw2
  go_wp2
  go_loopw [5] (fun t wr => ∃ k : Nat, k ≤ n ∧ t = .int .i64 k ∧ Hid ((L.take k).all (mayB b.A.length) = true) ∧ Hid (Below w2.heap.size w2 wr)) (fun t _ => n - (intOf t).toNat)
  case atStart => exact ⟨0, by omega, rfl, rfl, Below.refl _ _⟩
  case round =>
    obtain ⟨k, hk, rfl, HA, HB⟩ := hrel
    have BW : Hid (Below w.heap.size w wr) := B2.out.trans (HB.out.mono B2.out.size)
    by_cases hlt : k < n
    · have k1 : (k : Int) < (n : Int) := by omega
      obtain ⟨ba, off, rfl, HC⟩ := HG.out.at hlt
      have C0 := (HC k hlt).below BW.out
      have HT : Hid (L.take (k + 1) = L.take k ++ [L.getD k p70]) := take_snocA L p70 k (by have := HL.out; omega)
      have HIN : Hid (L.getD k p70 ∈ L) := by show _ ∈ _; rw [getD_get (by have := HL.out; omega)]; exact List.getElem_mem _
      generalize L.getD k p70 = y at C0 HT HIN
      obtain ⟨x0, x1, x2, x3, x4, x5, x6⟩ := y
      have M := fun u => HM.out x0 x1 x2 x3 x4 x5 x6 u
      obtain ⟨qm, hq⟩ : ∃ qm, mayB b.A.length (x0, x1, x2, x3, x4, x5, x6) = qm := ⟨_, rfl⟩
      rw [hq] at M
      have HQ : Hid (mayB b.A.length (x0, x1, x2, x3, x4, x5, x6) = qm) := hq
      have C : Hid (At7 wr ba (off + k * 7) (x0, x1, x2, x3, x4, x5, x6)) := C0
      have X3 : Hid (Box4 wr w.heap.size ⟨aA, nA, cA, aB, nB, cB, aM, nM, cM, aP, nP, cP⟩) := X2.out.below HB.out
      clear hq HC C0
      go_wp2_with fail
      refine region_owes (L := [Fact.is (.agg #[.slice aA nA cA, .slice aB nB cB, .slice aM nM cM, .slice aP nP cP]),
        Fact.is (.slice (some ⟨ba, off, none⟩) n c),
        Fact.is (.int .i64 k),
        Fact.is (.pointer (some ⟨ba, off + k * 7, none⟩)),
        Fact.is (.agg #[.int .i64 x0, .int .i64 x1, .int .i64 x2, .int .i64 x3, .int .i64 x4, .int .i64 x5, .int .i64 x6]),
        Fact.is (.bool qm),
        Fact.is (.bool (!qm))])
        (T := [12, 13, 14, 15, 16, 17, 18]) (by kernel_rfl) (by kernel_rfl) rfl ?owes ?_
      case owes =>
        refine .cons (owes_value fun q u lh => ⟨wants_free rfl, .agg #[.slice aA nA cA, .slice aB nB cB, .slice aM nM cM, .slice aP nP cP], by have e2 : q.tmps.getD 2 undef = .pointer (some ⟨w.heap.size, 0, none⟩) := lh.old 2 rfl; obtain ⟨p0, p1, p2, p3⟩ := X3.out.below lh.below; simp [execOp, Act.eval, e2, p0, p1, p2, p3, go_sem], rfl⟩) ?_
        refine .cons (owes_move (.tmp 1) (.inl rfl) fun q u lh => ⟨wants_free rfl, lh.old 1 rfl⟩) ?_
        refine .cons (owes_move (.tmp 5) (.inl rfl) fun q u lh => ⟨wants_free rfl, lh.old 5 rfl⟩) ?_
        refine .cons (owes_value fun q u lh => ⟨wants_free rfl, .pointer (some ⟨ba, off + k * 7, none⟩), by have e13 : q.tmps.getD 13 undef = .slice (some ⟨ba, off, none⟩) n c := lh.dep 1 rfl; have e14 : q.tmps.getD 14 undef = .int .i64 k := lh.dep 2 rfl; simp [execOp, Act.eval, e13, e14, k1, go_sem], rfl⟩) ?_
        refine .cons (owes_value fun q u lh => ⟨wants_free rfl, .agg #[.int .i64 x0, .int .i64 x1, .int .i64 x2, .int .i64 x3, .int .i64 x4, .int .i64 x5, .int .i64 x6], by have e15 : q.tmps.getD 15 undef = .pointer (some ⟨ba, off + k * 7, none⟩) := lh.dep 3 rfl; obtain ⟨z0, z1, z2, z3, z4, z5, z6⟩ := C.out.below lh.below; simp [execOp, Act.eval, e15, z0, z1, z2, z3, z4, z5, z6, go_sem], rfl⟩) ?_
        refine .cons (owes_call 11 Try.func11 (by kernel_rfl) (by kernel_rfl) [.tmp 12, .tmp 16] #[26, 31] rfl fun q u lh => ⟨wants_free rfl, by have e12 : q.tmps.getD 12 undef = .agg #[.slice aA nA cA, .slice aB nB cB, .slice aM nM cM, .slice aP nP cP] := lh.dep 0 rfl; have e16 : q.tmps.getD 16 undef = .agg #[.int .i64 x0, .int .i64 x1, .int .i64 x2, .int .i64 x3, .int .i64 x4, .int .i64 x5, .int .i64 x6] := lh.dep 4 rfl; show Calls Try.prog 11 #[q.tmps.getD 12 undef, q.tmps.getD 16 undef] u _; rw [e12, e16]; exact bool_fact (M u)⟩) ?_
        refine .cons (owes_value fun q u lh => ⟨wants_free rfl, .bool (!qm), by have e17 : q.tmps.getD 17 undef = .bool qm := lh.dep 5 rfl; simp [execOp, Act.eval, e17, go_sem], rfl⟩) ?_
        exact .nil _
      intro q u hb hsz hdf hold hfact
      have B5 : Hid (Below w2.heap.size w2 u) := HB.out.trans (hb.mono HB.out.size)
      have BW5 : Hid (Below w.heap.size w u) := BW.out.trans (hb.mono BW.out.size)
      obtain ⟨u5, rfl⟩ : ∃ z, z = u := ⟨u, rfl⟩
      obtain rfl := frame_puts hsz hdf [12, 13, 14, 15, 16, 17, 18] hold [(12, Value.agg #[.slice aA nA cA, .slice aB nB cB, .slice aM nM cM, .slice aP nP cP]), (13, Value.slice (some ⟨ba, off, none⟩) n c), (14, Value.int .i64 k), (15, Value.pointer (some ⟨ba, off + k * 7, none⟩)), (16, Value.agg #[.int .i64 x0, .int .i64 x1, .int .i64 x2, .int .i64 x3, .int .i64 x4, .int .i64 x5, .int .i64 x6]), (17, Value.bool qm), (18, Value.bool (!qm))] ⟨hfact 0 (by decide), hfact 1 (by decide), hfact 2 (by decide), hfact 3 (by decide), hfact 4 (by decide), hfact 5 (by decide), hfact 6 (by decide), trivial⟩ rfl
      clear hsz hdf hold hfact
      clear hb M X3 HB BW
      simp only [puts, Act.put, List.setIfInBounds_toArray, List.set_cons_zero, List.set_cons_succ]
      cases qm with
      | false =>
        have HE : Hid (false = allB b L) := by
          show false = _
          unfold allB
          have : L.all (mayB b.A.length) = false := by
            rw [Bool.eq_false_iff]
            intro ha
            rw [List.all_eq_true] at ha
            have := ha _ HIN.out
            rw [HQ.out] at this
            exact Bool.noConfusion this
          rw [this, Bool.false_and]
        go_wp2
        go_ret
        exact ⟨rt_bool HE.out, BW5.out⟩
      | true =>
        have HA2 : Hid ((L.take (k + 1)).all (mayB b.A.length) = true) := by
          show _ = true
          rw [HT.out, List.all_append, HA.out, List.all_cons, HQ.out]; rfl
        go_wp2
        go_roundw
        case rel => exact ⟨k + 1, by omega, by go_num, HA2, B5⟩
        case measure => simp [intOf]; omega
    · obtain rfl : k = n := by omega
      have HE : Hid (decide ((k : Int) ≤ 64) = allB b L) := by
        show _ = _
        have := HA.out
        rw [HL.out, List.take_length] at this
        unfold allB
        rw [this, Bool.true_and, decide_eq_decide]
        have := HL.out
        omega
      go_wp2
      go_ret
      exact ⟨rt_bool HE.out, BW.out⟩

set_option maxHeartbeats 4000000 in
theorem refFFits_any (x : BA) (b : Bks) (a : Option Addr) (n c : Nat) (L : List P7) (w : World) (hk : Bk w x b) (g : Good b) (h : PGood w a n c L) :
    Calls Try.prog 13 #[x.val, .slice a n c] w fun e w' => e = .returned (.bool (fitsB b L)) ∧ Below w.heap.size w w' := by
  have A := fun u (hu : Below w.heap.size w u) => refFAll_any x b a n c L u hk.acc.1 (h.below hu)
  have SH : Hid (allB b L = true → ∀ u, Below w.heap.size w u → Calls Try.prog 17 #[x.val, .slice a n c] u (IEnd u (shortL b L))) := fun hL u hu => refFShort_any x b a n c L u (hk.below hu) g (h.below hu) (by have := (allB_mv g hL).1; have := h.len; omega) (allB_mv g hL).2.1
  unfold fitsB
  obtain ⟨aA, nA, cA, aB, nB, cB, aM, nM, cM, aP, nP, cP⟩ := x
  obtain ⟨w2, hw2⟩ : ∃ w2, w2 = w.alloc (.cells #[.slice aA nA cA, .slice aB nB cB, .slice aM nM cM, .slice aP nP cP] 26) := ⟨_, rfl⟩
  have B2 : Hid (Below w.heap.size w w2) := by rw [hw2]; exact box_below _ _
  have X2 : Hid (Box4 w2 w.heap.size ⟨aA, nA, cA, aB, nB, cB, aM, nM, cM, aP, nP, cP⟩) := by rw [hw2]; exact Box4.new w ⟨aA, nA, cA, aB, nB, cB, aM, nM, cM, aP, nP, cP⟩ _ _
  have I := A w2 B2.out
  obtain ⟨p0, p1, p2, p3⟩ := X2.out
  replace p0 : w2.cell? ⟨w.heap.size, 0, none⟩ = some (.slice aA nA cA) := p0
  replace p1 : w2.cell? ⟨w.heap.size, 1, none⟩ = some (.slice aB nB cB) := p1
  replace p2 : w2.cell? ⟨w.heap.size, 2, none⟩ = some (.slice aM nM cM) := p2
  replace p3 : w2.cell? ⟨w.heap.size, 3, none⟩ = some (.slice aP nP cP) := p3
  generalize allB b L = q at I SH ⊢
  generalize shortL b L = S at SH ⊢
  clear A hk g h
  go_enter Try.func13, Try.ntmps13
  go_upto_region 1 with fail
  rw [← hw2]
  clear hw2
  go_wp2_with fail
  go_at_call 14
  refine I.mono ?_
  rintro e w3 ⟨rfl, hb⟩
  have B3 : Hid (Below w.heap.size w w3) := B2.out.trans (hb.mono B2.out.size)
  have X3 : Hid (Box4 w3 w.heap.size ⟨aA, nA, cA, aB, nB, cB, aM, nM, cM, aP, nP, cP⟩) := X2.out.below hb
  clear hb I X2 B2 p0 p1 p2 p3
  obtain ⟨p0, p1, p2, p3⟩ := X3.out
  replace p0 : w3.cell? ⟨w.heap.size, 0, none⟩ = some (.slice aA nA cA) := p0
  replace p1 : w3.cell? ⟨w.heap.size, 1, none⟩ = some (.slice aB nB cB) := p1
  replace p2 : w3.cell? ⟨w.heap.size, 2, none⟩ = some (.slice aM nM cM) := p2
  replace p3 : w3.cell? ⟨w.heap.size, 3, none⟩ = some (.slice aP nP cP) := p3
  cases q with
  | false =>
    go_wp2
    go_ret
    exact ⟨rfl, B3.out⟩
  | true =>
    have T := SH.out rfl w3 B3.out
    go_wp2_with fail
    go_at_call 17
    refine T.mono ?_
    rintro e w4 ⟨a4, c4, rfl, g4, hb⟩
    have B4 : Hid (Below w.heap.size w w4) := B3.out.trans (hb.mono B3.out.size)
    clear hb T X3 B3 p0 p1 p2 p3 g4
    obtain ⟨m, hm⟩ : ∃ m, S.length = m := ⟨_, rfl⟩
    have HE : Hid (((m : Int) == 0) = (true && decide (S.length = 0))) := by show _ = _; rw [hm, Bool.true_and, Bool.eq_iff_iff]; simp
    rw [hm]
    clear hm
    go_wp2
    go_ret
    exact ⟨rt_bool HE.out, B4.out⟩

def intsB (l m : List Nat) : Bool := decide (l = m)
set_option maxHeartbeats 2000000 in
theorem ints_any (a d : Option Addr) (n c m e0 : Nat) (l r : List Nat) (w : World) (h : IGood w a n c l) (k : IGood w d m e0 r) :
    Calls Try.prog 15 #[.slice a n c, .slice d m e0] w fun e w' => e = .returned (.bool (intsB l r)) ∧ Below w.heap.size w w' := by
  have HN : Hid (n = l.length) := h.len
  have HM : Hid (m = r.length) := k.len
  have HH : Hid (IGood w a n c l) := h
  have HK : Hid (IGood w d m e0 r) := k
  have nm : (n : Int) ≤ 9223372036854775807 := by have := h.cap; have := h.max; omega
  clear h k
  unfold intsB
  by_cases hnm : n = m
  case neg =>
    have h1 : ((n : Int) == (m : Int)) = false := by rw [beq_eq_false_iff_ne]; omega
    have h2 : ¬ (n : Int) = (m : Int) := by omega
    have HE : Hid (decide (l = r) = false) := by
      show _ = false
      rw [decide_eq_false_iff_not]
      rintro rfl
      exact hnm (by rw [HN.out, HM.out])
    rw [HE.out]
    clear hnm
    go_enter Try.func15, Try.ntmps15
    go_wp2
    go_ret
    exact ⟨rt_bool (by simp), Below.refl _ _⟩
  subst hnm
  go_enter Try.func15, Try.ntmps15
  go_wp2
  go_loopw [5] (fun t wr => ∃ k : Nat, k ≤ n ∧ t = .int .i64 k ∧ Hid (l.take k = r.take k) ∧ Hid (Below w.heap.size w wr)) (fun t _ => n - (intOf t).toNat)
  case atStart => exact ⟨0, by omega, rfl, rfl, Below.refl _ _⟩
  case round =>
    obtain ⟨k, hk, rfl, HT, HB⟩ := hrel
    by_cases hlt : k < n
    · have k1 : (k : Int) < (n : Int) := by omega
      obtain ⟨b1, o1, rfl, C1⟩ : ∃ b o, a = some ⟨b, o, none⟩ ∧ wr.cell? ⟨b, o + k, none⟩ = some (.int .i64 (l.getD k 0 : Nat)) := by
        rcases HH.out.sl.2.2 with h0 | ⟨b1, o1, ha, hc⟩
        · have : l.length = 0 := by rw [← intsL_len, h0]; rfl
          have := HN.out; omega
        · have hk := hc k (by rw [intsL_len]; have := HN.out; omega)
          rw [intsL_at (by have := HN.out; omega)] at hk
          exact ⟨b1, o1, ha, (HB.out.cell (p := ⟨b1, o1 + k, none⟩) (block_lt_of_cell hk)).trans hk⟩
      obtain ⟨b2, o2, rfl, C2⟩ : ∃ b o, d = some ⟨b, o, none⟩ ∧ wr.cell? ⟨b, o + k, none⟩ = some (.int .i64 (r.getD k 0 : Nat)) := by
        rcases HK.out.sl.2.2 with h0 | ⟨b1, o1, ha, hc⟩
        · have : r.length = 0 := by rw [← intsL_len, h0]; rfl
          have := HM.out; omega
        · have hk := hc k (by rw [intsL_len]; have := HM.out; omega)
          rw [intsL_at (by have := HM.out; omega)] at hk
          exact ⟨b1, o1, ha, (HB.out.cell (p := ⟨b1, o1 + k, none⟩) (block_lt_of_cell hk)).trans hk⟩
      have H1 : Hid (l.take (k + 1) = l.take k ++ [l.getD k 0]) := take_snocA l 0 k (by have := HN.out; omega)
      have H2 : Hid (r.take (k + 1) = r.take k ++ [r.getD k 0]) := take_snocA r 0 k (by have := HM.out; omega)
      have H3 : Hid (∀ x, x = l → l.getD k 0 = x.getD k 0) := fun x hx => by rw [hx]
      have H4 : Hid (l = r → l.getD k 0 = r.getD k 0) := fun hx => by rw [hx]
      generalize l.getD k 0 = x at C1 H1 H4
      generalize r.getD k 0 = y at C2 H2 H4
      clear H3
      by_cases hxy : x = y
      · subst hxy
        have HT2 : Hid (l.take (k + 1) = r.take (k + 1)) := by show _ = _; rw [H1.out, H2.out, HT.out]
        clear H1 H2 H4
        go_wp2_with fail
        go_quiet (fail)
        go_wp2
        go_roundw
        case rel => exact ⟨k + 1, by omega, by go_num, HT2, HB.out.trans ((drawn_below _ _).mono HB.out.size)⟩
        case measure => simp [intOf]; omega
      · have e1 : ((x : Int) == (y : Int)) = false := by rw [beq_eq_false_iff_ne]; omega
        have e2 : ¬ (x : Int) = (y : Int) := by omega
        have HE : Hid (false = decide (l = r)) := by
          show _ = _
          symm
          rw [decide_eq_false_iff_not]
          intro he
          exact hxy (H4.out he)
        clear H1 H2 H4 hxy
        go_wp2_with fail
        go_quiet (fail)
        go_wp2
        go_ret
        exact ⟨rt_bool HE.out, HB.out.trans ((drawn_below _ _).mono HB.out.size)⟩
    · obtain rfl : k = n := by omega
      have HE : Hid (true = decide (l = r)) := by
        show _ = _
        symm
        rw [decide_eq_true_iff]
        have := HT.out
        rwa [List.take_of_length_le (by have := HN.out; omega), List.take_of_length_le (by have := HM.out; omega)] at this
      go_wp2
      go_ret
      exact ⟨rt_bool HE.out, HB.out⟩

end Go.Proofs.Ytdikimddkhahdaa
