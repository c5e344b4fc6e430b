/-
  Texts of this seat in one: FitsSent, FitsRef, FitsRefs.
-/
import Derived.Test.YtlackjldopeigaaFitsAll
import Derived.Test.YtlackjldopeigaaLimOne
import Derived.Test.YtlackjldopeigaaLimTwo

/-
  giroref15: sent, classed.
-/
namespace Go.Proofs.Ytlackjldopeigaa
open Go.RowKit
set_option linter.unusedVariables false
set_option linter.unusedSimpArgs false

theorem sentS_take {L : List P7} {k : Nat} (h : k < L.length) (i o : Int) : sentS (L.take (k + 1)) i o = sentS (L.take k) i o + sentG i o (L.getD k p70) := by unfold sentS; rw [take_snocA L p70 k h, sumS_snoc]
theorem plainS_take {L : List P7} {k : Nat} (h : k < L.length) (i : Int) : plainS (L.take (k + 1)) i = plainS (L.take k) i + plainG i (L.getD k p70) := by unfold plainS; rw [take_snocA L p70 k h, sumS_snoc]
theorem spentS_take {L : List P7} {k : Nat} (h : k < L.length) (i : Int) : spentS (L.take (k + 1)) i = spentS (L.take k) i + spentG i (L.getD k p70) := by unfold spentS; rw [take_snocA L p70 k h, sumS_snoc]
theorem len_take {L : List P7} {k n : Nat} (hn : n = L.length) (h : n ≤ 64) : (L.take k).length ≤ 64 := by rw [List.length_take]; omega
theorem netS_range {L : List P7} (h : MvPays L) (hl : L.length ≤ 64) (i k : Int) : -70368744177664 ≤ netS L i k ∧ netS L i k ≤ 70368744177664 := by
  have h1 := h.sent hl i k
  have h2 := h.sent hl k i
  unfold netS
  omega
theorem dTo_range {L : List P7} (h : MvPays L) (hl : L.length ≤ 64) (i : Int) (k : Nat) : -(k * 70368744177664 : Int) ≤ dTo L i k ∧ dTo L i k ≤ (k * 70368744177664 : Int) := by
  induction k with
  | zero => simp [dTo]
  | succ k ih =>
    have := netS_range h hl i k
    simp only [dTo]
    omega

set_option maxHeartbeats 4000000 in
theorem refFSent_any (a : Option Addr) (n c : Nat) (L : List P7) (i o : Int) (w : World) (h : PGood w a n c L) (hn : n ≤ 64) (hp : MvPays L) :
    Calls Try.prog 70 #[.slice a n c, .int .i64 i, .int .i64 o] w fun e w' => e = .returned (.int .i64 (sentS L i o)) ∧ w' = w := by
  have HL : Hid (n = L.length) := h.len
  have HG : Hid (PGood w a n c L) := h
  have HP : Hid (∀ k, 0 ≤ sentS (L.take k) i o ∧ sentS (L.take k) i o ≤ 70368744177664) := fun k => (hp.take k).sent (len_take h.len hn) i o
  clear h hp
  go_enter Try.func70, Try.ntmps70
  go_wp2
  go_loop [7, 8] (fun s t => ∃ k : Nat, k ≤ n ∧ t = .int .i64 k ∧ s = .int .i64 (sentS (L.take k) i o)) (fun _ t => n - (intOf t).toNat)
  case atStart => exact ⟨0, by omega, rfl, rfl⟩
  case round =>
    obtain ⟨k, hk, rfl, rfl⟩ := hrel
    by_cases hlt : k < n
    · have k1 : (k : Int) < (n : Int) := by omega
      obtain ⟨b, off, rfl, HC⟩ := HG.out.at hlt
      have C0 := HC k hlt
      have HE : Hid (sentS (L.take (k + 1)) i o = sentS (L.take k) i o + sentG i o (L.getD k p70)) := sentS_take (by have := HL.out; omega) i o
      have r0 := HP.out k
      have r1 := HP.out (k + 1)
      rw [HE.out] at r1
      generalize L.getD k p70 = x at C0 HE r1
      generalize sentS (L.take k) i o = s at HE r0 r1 ⊢
      obtain ⟨x0, x1, x2, x3, x4, x5, x6⟩ := x
      obtain ⟨p0, p1, p2, p3, p4, p5, p6⟩ := C0
      simp only [P7.id, P7.fr, P7.to, P7.am, P7.cl, P7.st, P7.ti] at p0 p1 p2 p3 p4 p5 p6
      clear HC
      by_cases h1 : x1 = i
      case neg =>
        have h1' : (x1 == i) = false := by simpa using h1
        have HF : Hid (sentS (L.take (k + 1)) i o = s) := by show _ = _; rw [HE.out]; unfold sentG; rw [if_neg (fun x => h1 x.1)]; omega
        clear HE h1 r0 r1
        go_wp2
        go_round
        case rel => exact ⟨k + 1, by omega, by go_num, by rw [HF.out]⟩
        case measure => simp [intOf]; omega
      by_cases h2 : x2 = o
      case neg =>
        have h2' : (x2 == o) = false := by simpa using h2
        have HF : Hid (sentS (L.take (k + 1)) i o = s) := by show _ = _; rw [HE.out]; unfold sentG; rw [if_neg (fun x => h2 x.2)]; omega
        subst h1
        clear HE h2 r0 r1
        go_wp2
        go_round
        case rel => exact ⟨k + 1, by omega, by go_num, by rw [HF.out]⟩
        case measure => simp [intOf]; omega
      subst h1 h2
      have eg : sentG x1 x2 (x0, x1, x2, x3, x4, x5, x6) = x3 := by unfold sentG; rw [if_pos ⟨rfl, rfl⟩]
      rw [eg] at HE r1
      obtain ⟨r10, r11⟩ := r1
      clear eg r0
      go_wp2
      go_round
      case rel => exact ⟨k + 1, by omega, by go_num, by rw [HE.out]⟩
      case measure => simp [intOf]; omega
    · obtain rfl : k = n := by omega
      have HT : Hid (L.take k = L) := by show _ = _; rw [HL.out, List.take_length]
      go_wp2
      go_ret
      exact ⟨by rw [HT.out]; rfl, rfl⟩

set_option maxHeartbeats 4000000 in
theorem refClassed_any (a : Option Addr) (n c : Nat) (L : List P7) (i : Int) (w : World) (h : PGood w a n c L) (hn : n ≤ 64) (hp : MvPays L) :
    Calls Try.prog 69 #[.slice a n c, .int .i64 i] w fun e w' => e = .returned (.tuple #[.int .i64 (plainS L i), .int .i64 (spentS L i)]) ∧ w' = w := by
  have HL : Hid (n = L.length) := h.len
  have HG : Hid (PGood w a n c L) := h
  have HP : Hid (∀ k, 0 ≤ plainS (L.take k) i ∧ plainS (L.take k) i ≤ 70368744177664) := fun k => (hp.take k).plain (len_take h.len hn) i
  have HQ : Hid (∀ k, 0 ≤ spentS (L.take k) i ∧ spentS (L.take k) i ≤ 70368744177664) := fun k => (hp.take k).spent (len_take h.len hn) i
  clear h hp
  go_enter Try.func69, Try.ntmps69
  go_wp2
  go_loop [6, 7, 8, 22, 30] (fun s v t _ _ => ∃ k : Nat, k ≤ n ∧ t = .int .i64 k ∧ s = .int .i64 (plainS (L.take k) i) ∧ v = .int .i64 (spentS (L.take k) i)) (fun _ _ t _ _ => n - (intOf t).toNat)
  case atStart => exact ⟨0, by omega, rfl, rfl, rfl⟩
  case round =>
    obtain ⟨k, hk, rfl, rfl, rfl⟩ := hrel
    by_cases hlt : k < n
    · have k1 : (k : Int) < (n : Int) := by omega
      obtain ⟨b, off, rfl, HC⟩ := HG.out.at hlt
      have C0 := HC k hlt
      have HE : Hid (plainS (L.take (k + 1)) i = plainS (L.take k) i + plainG i (L.getD k p70)) := plainS_take (by have := HL.out; omega) i
      have HF : Hid (spentS (L.take (k + 1)) i = spentS (L.take k) i + spentG i (L.getD k p70)) := spentS_take (by have := HL.out; omega) i
      have r0 := HP.out k
      have r1 := HP.out (k + 1)
      have r2 := HQ.out k
      have r3 := HQ.out (k + 1)
      rw [HE.out] at r1
      rw [HF.out] at r3
      generalize L.getD k p70 = x at C0 HE HF r1 r3
      generalize plainS (L.take k) i = s at HE r0 r1 ⊢
      generalize spentS (L.take k) i = v at HF r2 r3 ⊢
      obtain ⟨x0, x1, x2, x3, x4, x5, x6⟩ := x
      obtain ⟨p0, p1, p2, p3, p4, p5, p6⟩ := C0
      simp only [P7.id, P7.fr, P7.to, P7.am, P7.cl, P7.st, P7.ti] at p0 p1 p2 p3 p4 p5 p6
      clear HC
      by_cases h1 : x1 = i
      case neg =>
        have h1' : (x1 == i) = false := by simpa using h1
        have HE2 : Hid (plainS (L.take (k + 1)) i = s) := by show _ = _; rw [HE.out]; unfold plainG; rw [if_neg (fun x => h1 x.1)]; omega
        have HF2 : Hid (spentS (L.take (k + 1)) i = v) := by show _ = _; rw [HF.out]; unfold spentG; rw [if_neg (fun x => h1 x.1)]; omega
        clear HE HF h1 r0 r1 r2 r3
        go_wp2
        go_round
        case rel => exact ⟨k + 1, by omega, by go_num, by rw [HE2.out], by rw [HF2.out]⟩
        case measure => simp [intOf]; omega
      subst h1
      by_cases h2 : x4 = 3
      · subst h2
        have e1 : plainG x1 (x0, x1, x2, x3, 3, x5, x6) = x3 := by unfold plainG; rw [if_pos ⟨rfl, rfl⟩]
        have e2 : spentG x1 (x0, x1, x2, x3, 3, x5, x6) = 0 := by unfold spentG; rw [if_neg (fun x => x.2 rfl)]
        rw [e1] at HE r1
        rw [e2] at HF
        have HF2 : Hid (spentS (L.take (k + 1)) x1 = v) := by show _ = _; rw [HF.out]; omega
        obtain ⟨r10, r11⟩ := r1
        clear e1 e2 r0 r2 r3 HF
        go_wp2
        go_round
        case rel => exact ⟨k + 1, by omega, by go_num, by rw [HE.out], by rw [HF2.out]⟩
        case measure => simp [intOf]; omega
      · have h2' : (x4 == 3) = false := by simpa using h2
        have e1 : plainG x1 (x0, x1, x2, x3, x4, x5, x6) = 0 := by unfold plainG; rw [if_neg (fun x => h2 x.2)]
        have e2 : spentG x1 (x0, x1, x2, x3, x4, x5, x6) = x3 := by unfold spentG; rw [if_pos ⟨rfl, h2⟩]
        rw [e1] at HE
        rw [e2] at HF r3
        have HE2 : Hid (plainS (L.take (k + 1)) x1 = s) := by show _ = _; rw [HE.out]; omega
        obtain ⟨r30, r31⟩ := r3
        clear e1 e2 r0 r1 r2 HE h2
        go_wp2
        go_round
        case rel => exact ⟨k + 1, by omega, by go_num, by rw [HE2.out], by rw [HF.out]⟩
        case measure => simp [intOf]; omega
    · obtain rfl : k = n := by omega
      have HT : Hid (L.take k = L) := by show _ = _; rw [HL.out, List.take_length]
      go_wp2
      go_ret2
      exact ⟨by rw [HT.out]; rfl, rfl⟩


end Go.Proofs.Ytlackjldopeigaa

/-
  giroref15: short.
-/
namespace Go.Proofs.Ytlackjldopeigaa
open Go.RowKit
set_option linter.unusedVariables false
set_option linter.unusedSimpArgs false

set_option maxHeartbeats 8000000 in
set_option maxRecDepth 100000 in
theorem refShortOne_any (x : BA) (b : Bks) (a : Option Addr) (n c : Nat) (L : List P7) (i : Nat) (w : World) (hk : Bk w x b) (g : Good b) (h : PGood w a n c L) (hn : n ≤ 64) (hp : MvPays L) (hi : i < b.A.length) :
    Calls Try.prog 60 #[x.val, .slice a n c, .int .i64 i] w fun e w' => e = .returned (.bool (shortB b L b.A.length i)) ∧ Below w.heap.size w w' := by
  have HK : Hid (Bk w x b) := hk
  have hl64 : L.length ≤ 64 := by have := h.len; omega
  obtain ⟨m, cA, cB, cM, cP, bA, oA, bB, oB, bM, oM, bP, oP, hx, hm, FL⟩ := hk.flat g
  have NET := fun u (hu : Below w.heap.size w u) => refNet_any x b i b.A.length u (HK.out.below hu) g.n6 (squareB_yes.2 ⟨g.pos, g.poss⟩) hi (fun k hk => g.may i k hi hk)
  have nb := netTo_bound (R := b.P) (m := b.A.length) (i := i) (fun k hk => g.may i k hi hk) b.A.length (Nat.le_refl _)
  have n6 := g.n6
  have HGP : Hid (∀ k, k < m → posB (at2 b.P i k) = true) := fun k hk => g.may i k hi (by omega)
  have hac : acctB (b.A.getD i a30).1 (b.A.getD i a30).2.1 (b.A.getD i a30).2.2 = true := g.acc i hi
  rw [← hm] at NET nb hi n6 ⊢
  subst hx
  have HM6 : Hid (m ≤ 6) := n6
  have SE : Hid (∀ (o o2 : Int) u, Below w.heap.size w u → Calls Try.prog 70 #[.slice a n c, .int .i64 o, .int .i64 o2] u fun e w' => e = .returned (.int .i64 (sentS L o o2)) ∧ w' = u) := fun o o2 u hu => refFSent_any a n c L o o2 u (h.below hu) hn hp
  have CL := fun u (hu : Below w.heap.size w u) => refClassed_any a n c L i u (h.below hu) hn hp
  have SR : Hid (∀ o o2 : Int, 0 ≤ sentS L o o2 ∧ sentS L o o2 ≤ 70368744177664) := fun o o2 => hp.sent hl64 o o2
  have DR : Hid (∀ k : Nat, -(k * 70368744177664 : Int) ≤ dTo L i k ∧ dTo L i k ≤ (k * 70368744177664 : Int)) := fun k => dTo_range hp hl64 i k
  have pr := hp.plain hl64 i
  have sr := hp.spent hl64 i
  have HS : Hid (shortB b L m i = (decide (¬ plainS L i + spentS L i = 0) && ((List.range m).any (overB b L i) || (lowB b L m i || wideB b L m i)))) := rfl
  have HLO : Hid (lowB b L m i = (decide ((b.A.getD i a30).1 + (b.A.getD i a30).2.1 - dTo L i m < 0) || (decide (0 < plainS L i) && decide ((b.A.getD i a30).1 + (b.A.getD i a30).2.1 - dTo L i m < keptV (b.A.getD i a30).2.2 (spentS L i))))) := rfl
  have HWI : Hid (wideB b L m i = (decide (¬ b.M.getD i 0 = -1) && decide (b.M.getD i 0 < netTo b.P i m + dTo L i m))) := rfl
  obtain ⟨w2, hw2⟩ : ∃ w2, w2 = w.alloc (.cells #[.slice (some ⟨bA, oA, none⟩) m cA, .slice (some ⟨bB, oB, none⟩) m cB, .slice (some ⟨bM, oM, none⟩) m cM, .slice (some ⟨bP, oP, none⟩) m cP] 27) := ⟨_, rfl⟩
  have B2 : Hid (Below w.heap.size w w2) := by rw [hw2]; exact box_below _ _
  have X2 : Hid (Box4 w2 w.heap.size ⟨some ⟨bA, oA, none⟩, m, cA, some ⟨bB, oB, none⟩, m, cB, some ⟨bM, oM, none⟩, m, cM, some ⟨bP, oP, none⟩, m, cP⟩) := by rw [hw2]; exact Box4.new w ⟨some ⟨bA, oA, none⟩, m, cA, some ⟨bB, oB, none⟩, m, cB, some ⟨bM, oM, none⟩, m, cM, some ⟨bP, oP, none⟩, m, cP⟩ _ _
  have FW : Hid (Flat w2 b m bA oA bB oB bM oM bP oP) := FL.below B2.out
  obtain ⟨b0, b1, c0, c1, r0, r1⟩ := acctB_yes.1 hac
  have KE := fun u => refKept_any (b.A.getD i a30).1 (b.A.getD i a30).2.1 (b.A.getD i a30).2.2 (spentS L i) (by omega) (by omega) (by omega) (by omega) u
  have CLA := CL w2 B2.out
  have A0 := FW.out.acc i hi
  have M0 := FW.out.mul i hi
  have i1 : (i : Int) < (m : Int) := by omega
  have HII : Hid (i < m) := hi
  have N0 : Hid (-432345564227567616 ≤ netTo b.P i m ∧ netTo b.P i m ≤ 432345564227567616) := by show _ ∧ _; omega
  generalize (b.A.getD i a30).1 = y0 at b0 b1 KE HLO A0
  generalize (b.A.getD i a30).2.1 = y1 at c0 c1 KE HLO A0
  generalize (b.A.getD i a30).2.2 = y2 at r0 r1 KE HLO A0
  generalize b.M.getD i 0 = mu at M0 HWI
  generalize plainS L i = pl at CLA HS HLO pr
  generalize spentS L i = sp at CLA HS HLO KE sr
  generalize keptV y2 sp = V at KE HLO
  generalize netTo b.P i m = N at NET HWI N0
  obtain ⟨a0, a1, a2⟩ := A0
  have HA0 : Hid (w2.cell? ⟨bA, oA + i * 3, none⟩ = some (.int .i64 y0)) := a0
  have HA1 : Hid (w2.cell? ⟨bA, oA + i * 3 + 1, none⟩ = some (.int .i64 y1)) := a1
  have HA2 : Hid (w2.cell? ⟨bA, oA + i * 3 + 2, none⟩ = some (.int .i64 y2)) := a2
  have HM0 : Hid (w2.cell? ⟨bM, oM + i, none⟩ = some (.int .i64 mu)) := M0
  obtain ⟨t0, ht0⟩ : ∃ t0, pl + sp = t0 := ⟨_, rfl⟩
  obtain ⟨t1, ht1⟩ : ∃ t1, y0 + y1 = t1 := ⟨_, rfl⟩
  have HT1 : Hid (-6917529027641081856 ≤ t1 ∧ t1 ≤ 6917529027641081856) := by show _ ∧ _; omega
  have W0 : IntKind.i64.wrap (pl + sp) = t0 := by rw [ht0]; exact i64_wf (by omega) (by omega)
  have W1 : Hid (IntKind.i64.wrap (y0 + y1) = t1) := by show _ = _; rw [ht1]; exact i64_wf (by omega) (by omega)
  rw [ht0] at HS
  rw [ht1] at HLO
  have HPL : Hid (0 ≤ pl) := pr.1
  clear hm FL hk g h hp hl64 n6 nb hac CL b0 b1 c0 c1 r0 r1 pr sr a0 a1 a2 M0 ht0 ht1 hn hi
  obtain ⟨p0, p1, p2, p3⟩ := X2.out
  replace p0 : w2.cell? ⟨w.heap.size, 0, none⟩ = some (.slice (some ⟨bA, oA, none⟩) m cA) := p0
  replace p1 : w2.cell? ⟨w.heap.size, 1, none⟩ = some (.slice (some ⟨bB, oB, none⟩) m cB) := p1
  replace p2 : w2.cell? ⟨w.heap.size, 2, none⟩ = some (.slice (some ⟨bM, oM, none⟩) m cM) := p2
  replace p3 : w2.cell? ⟨w.heap.size, 3, none⟩ = some (.slice (some ⟨bP, oP, none⟩) m cP) := p3
  go_enter Try.func60, Try.ntmps60
  go_upto_region 1 with fail
  rw [← hw2]
  clear hw2
  go_wp2_with fail
  go_at_call 69
  refine CLA.mono ?_
  rintro e w3 ⟨rfl, hw⟩
  obtain rfl := hw.symm
  clear hw CLA
  by_cases h0 : t0 = 0
  · subst h0
    have HE : Hid (false = shortB b L m i) := by show _ = _; rw [HS.out]; rfl
    go_wp2
    go_ret
    exact ⟨rt_bool HE.out, B2.out⟩
  have h0' : (t0 == 0) = false := by simpa using h0
  have HS2 : Hid (shortB b L m i = ((List.range m).any (overB b L i) || (lowB b L m i || wideB b L m i))) := by show _ = _; rw [HS.out, decide_eq_true h0, Bool.true_and]
  clear h0 HS
  go_wp2_with fail
  clear p0 p1 p2 p3 W0
  refine region_owes (L := [Fact.is (.pointer (some ⟨w.heap.size, 0, none⟩)),
    Fact.is (.slice (some ⟨bA, oA, none⟩) m cA),
    Fact.is (.int .i64 i),
    Fact.is (.pointer (some ⟨bA, oA + i * 3, none⟩)),
    Fact.is (.pointer (some ⟨bA, oA + i * 3, none⟩)),
    Fact.is (.int .i64 y0),
    Fact.is (.pointer (some ⟨w.heap.size, 0, none⟩)),
    Fact.is (.slice (some ⟨bA, oA, none⟩) m cA),
    Fact.is (.int .i64 i),
    Fact.is (.pointer (some ⟨bA, oA + i * 3, none⟩)),
    Fact.is (.pointer (some ⟨bA, oA + i * 3 + 1, none⟩)),
    Fact.is (.int .i64 y1),
    Fact.is (.int .i64 t1),
    Fact.is (.int .i64 t1)])
    (T := [23, 24, 25, 26, 27, 28, 29, 30, 31, 32, 33, 34, 35, 9]) (by kernel_rfl) (by kernel_rfl) rfl ?owes ?_
  case owes =>
    refine .cons (owes_value fun q u lh => ⟨wants_free rfl, .pointer (some ⟨w.heap.size, 0, none⟩), by have e3 : q.tmps.getD 3 undef = .pointer (some ⟨w.heap.size, 0, none⟩) := lh.old 3 rfl; simp [execOp, Act.eval, e3, go_sem], rfl⟩) ?_
    refine .cons (owes_value fun q u lh => ⟨wants_free rfl, .slice (some ⟨bA, oA, none⟩) m cA, by have e23 : q.tmps.getD 23 undef = .pointer (some ⟨w.heap.size, 0, none⟩) := lh.dep 0 rfl; obtain ⟨p0, p1, p2, p3⟩ := X2.out.below lh.below; simp [execOp, Act.eval, e23, p0, go_sem], rfl⟩) ?_
    refine .cons (owes_move (.tmp 2) (.inl rfl) fun q u lh => ⟨wants_free rfl, lh.old 2 rfl⟩) ?_
    refine .cons (owes_value fun q u lh => ⟨wants_free rfl, .pointer (some ⟨bA, oA + i * 3, none⟩), by have e24 : q.tmps.getD 24 undef = .slice (some ⟨bA, oA, none⟩) m cA := lh.dep 1 rfl; have e25 : q.tmps.getD 25 undef = .int .i64 i := lh.dep 2 rfl; simp [execOp, Act.eval, e24, e25, i1, go_sem], rfl⟩) ?_
    refine .cons (owes_value fun q u lh => ⟨wants_free rfl, .pointer (some ⟨bA, oA + i * 3, none⟩), by have e26 : q.tmps.getD 26 undef = .pointer (some ⟨bA, oA + i * 3, none⟩) := lh.dep 3 rfl; simp [execOp, Act.eval, e26, go_sem], rfl⟩) ?_
    refine .cons (owes_value fun q u lh => ⟨wants_free rfl, .int .i64 y0, by have e27 : q.tmps.getD 27 undef = .pointer (some ⟨bA, oA + i * 3, none⟩) := lh.dep 4 rfl; have z1 := (lh.below.cell (p := ⟨bA, oA + i * 3, none⟩) (block_lt_of_cell HA0.out)).trans HA0.out; simp [execOp, Act.eval, e27, z1, go_sem], rfl⟩) ?_
    refine .cons (owes_value fun q u lh => ⟨wants_free rfl, .pointer (some ⟨w.heap.size, 0, none⟩), by have e3 : q.tmps.getD 3 undef = .pointer (some ⟨w.heap.size, 0, none⟩) := lh.old 3 rfl; simp [execOp, Act.eval, e3, go_sem], rfl⟩) ?_
    refine .cons (owes_value fun q u lh => ⟨wants_free rfl, .slice (some ⟨bA, oA, none⟩) m cA, by have e29 : q.tmps.getD 29 undef = .pointer (some ⟨w.heap.size, 0, none⟩) := lh.dep 6 rfl; obtain ⟨p0, p1, p2, p3⟩ := X2.out.below lh.below; simp [execOp, Act.eval, e29, p0, go_sem], rfl⟩) ?_
    refine .cons (owes_move (.tmp 2) (.inl rfl) fun q u lh => ⟨wants_free rfl, lh.old 2 rfl⟩) ?_
    refine .cons (owes_value fun q u lh => ⟨wants_free rfl, .pointer (some ⟨bA, oA + i * 3, none⟩), by have e30 : q.tmps.getD 30 undef = .slice (some ⟨bA, oA, none⟩) m cA := lh.dep 7 rfl; have e31 : q.tmps.getD 31 undef = .int .i64 i := lh.dep 8 rfl; simp [execOp, Act.eval, e30, e31, i1, go_sem], rfl⟩) ?_
    refine .cons (owes_value fun q u lh => ⟨wants_free rfl, .pointer (some ⟨bA, oA + i * 3 + 1, none⟩), by have e32 : q.tmps.getD 32 undef = .pointer (some ⟨bA, oA + i * 3, none⟩) := lh.dep 9 rfl; simp [execOp, Act.eval, e32, go_sem], rfl⟩) ?_
    refine .cons (owes_value fun q u lh => ⟨wants_free rfl, .int .i64 y1, by have e33 : q.tmps.getD 33 undef = .pointer (some ⟨bA, oA + i * 3 + 1, none⟩) := lh.dep 10 rfl; have z1 := (lh.below.cell (p := ⟨bA, oA + i * 3 + 1, none⟩) (block_lt_of_cell HA1.out)).trans HA1.out; simp [execOp, Act.eval, e33, z1, go_sem], rfl⟩) ?_
    refine .cons (owes_value fun q u lh => ⟨wants_free rfl, .int .i64 t1, by have e28 : q.tmps.getD 28 undef = .int .i64 y0 := lh.dep 5 rfl; have e34 : q.tmps.getD 34 undef = .int .i64 y1 := lh.dep 11 rfl; simp [execOp, Act.eval, e28, e34, W1.out, go_sem], rfl⟩) ?_
    refine .cons (owes_move (.tmp 35) (.inr rfl) fun q u lh => ⟨wants_free rfl, lh.dep 12 rfl⟩) ?_
    exact .nil _
  intro q u hb hsz hdf hold hfact
  have B3 : Hid (Below w2.heap.size w2 u) := hb
  have BW3 : Hid (Below w.heap.size w u) := B2.out.trans (hb.mono B2.out.size)
  have X3 : Hid (Box4 u w.heap.size ⟨some ⟨bA, oA, none⟩, m, cA, some ⟨bB, oB, none⟩, m, cB, some ⟨bM, oM, none⟩, m, cM, some ⟨bP, oP, none⟩, m, cP⟩) := X2.out.below hb
  obtain ⟨p0, p1, p2, p3⟩ := X3.out
  replace p0 : u.cell? ⟨w.heap.size, 0, none⟩ = some (.slice (some ⟨bA, oA, none⟩) m cA) := p0
  replace p1 : u.cell? ⟨w.heap.size, 1, none⟩ = some (.slice (some ⟨bB, oB, none⟩) m cB) := p1
  replace p2 : u.cell? ⟨w.heap.size, 2, none⟩ = some (.slice (some ⟨bM, oM, none⟩) m cM) := p2
  replace p3 : u.cell? ⟨w.heap.size, 3, none⟩ = some (.slice (some ⟨bP, oP, none⟩) m cP) := p3
  have NT := NET u BW3.out
  obtain ⟨u3, rfl⟩ : ∃ z, z = u := ⟨u, rfl⟩
  obtain rfl := frame_puts hsz hdf [23, 24, 25, 26, 27, 28, 29, 30, 31, 32, 33, 34, 35, 9] hold [(23, Value.pointer (some ⟨w.heap.size, 0, none⟩)), (24, Value.slice (some ⟨bA, oA, none⟩) m cA), (25, Value.int .i64 i), (26, Value.pointer (some ⟨bA, oA + i * 3, none⟩)), (27, Value.pointer (some ⟨bA, oA + i * 3, none⟩)), (28, Value.int .i64 y0), (29, Value.pointer (some ⟨w.heap.size, 0, none⟩)), (30, Value.slice (some ⟨bA, oA, none⟩) m cA), (31, Value.int .i64 i), (32, Value.pointer (some ⟨bA, oA + i * 3, none⟩)), (33, Value.pointer (some ⟨bA, oA + i * 3 + 1, none⟩)), (34, Value.int .i64 y1), (35, Value.int .i64 t1), (9, Value.int .i64 t1)] ⟨hfact 0 (by decide), hfact 1 (by decide), hfact 2 (by decide), hfact 3 (by decide), hfact 4 (by decide), hfact 5 (by decide), hfact 6 (by decide), hfact 7 (by decide), hfact 8 (by decide), hfact 9 (by decide), hfact 10 (by decide), hfact 11 (by decide), hfact 12 (by decide), hfact 13 (by decide), trivial⟩ rfl
  clear hsz hdf hold hfact
  clear hb NET
  simp only [puts, Act.put, List.setIfInBounds_toArray, List.set_cons_zero, List.set_cons_succ]
  go_wp2_with fail
  go_at_call 75
  refine NT.mono ?_
  rintro e w4 ⟨rfl, hb⟩
  have B4 : Hid (Below w2.heap.size w2 w4) := B3.out.trans (hb.mono B3.out.size)
  clear hb NT B3 BW3 X3 p0 p1 p2 p3
  go_wp2
  go_loopw [9, 10, 11, 12] (fun s t v _ wr => ∃ k : Nat, k ≤ m ∧ v = .int .i64 k ∧ s = .int .i64 (t1 - dTo L i k) ∧ t = .int .i64 (N + dTo L i k) ∧ Hid (∀ j, j < k → overB b L i j = false) ∧ Hid (Below w2.heap.size w2 wr)) (fun _ _ v _ _ => m - (intOf v).toNat)
  case atStart => exact ⟨0, by omega, rfl, by simp [dTo], by simp [dTo], fun j hj => by omega, B4.out⟩
  case round =>
    obtain ⟨k, hk, rfl, rfl, rfl, HNO, HB⟩ := hrel
    have BW : Hid (Below w.heap.size w wr) := B2.out.trans (HB.out.mono B2.out.size)
    have X5 : Hid (Box4 wr w.heap.size ⟨some ⟨bA, oA, none⟩, m, cA, some ⟨bB, oB, none⟩, m, cB, some ⟨bM, oM, none⟩, m, cM, some ⟨bP, oP, none⟩, m, cP⟩) := X2.out.below HB.out
    obtain ⟨p0, p1, p2, p3⟩ := X5.out
    replace p0 : wr.cell? ⟨w.heap.size, 0, none⟩ = some (.slice (some ⟨bA, oA, none⟩) m cA) := p0
    replace p1 : wr.cell? ⟨w.heap.size, 1, none⟩ = some (.slice (some ⟨bB, oB, none⟩) m cB) := p1
    replace p2 : wr.cell? ⟨w.heap.size, 2, none⟩ = some (.slice (some ⟨bM, oM, none⟩) m cM) := p2
    replace p3 : wr.cell? ⟨w.heap.size, 3, none⟩ = some (.slice (some ⟨bP, oP, none⟩) m cP) := p3
    have dr := DR.out k
    have t1r := HT1.out
    have nr := N0.out
    by_cases hlt : k < m
    · have k1 : (k : Int) < (m : Int) := by omega
      have S1 := SE.out i k wr BW.out
      have S2 := SE.out k i wr BW.out
      have s1r := SR.out i k
      have s2r := SR.out k i
      have dr2 := DR.out (k + 1)
      have HE : Hid (dTo L i (k + 1) = dTo L i k + (sentS L i k - sentS L k i)) := rfl
      have HO : Hid (overB b L i k = (decide (0 < sentS L i k) && (decide (¬ at2 b.B i k = -1) && decide (at2 b.B i k < at2 b.P i k + (sentS L i k - sentS L k i))))) := rfl
      have F5 : Hid (Flat wr b m bA oA bB oB bM oM bP oP) := FW.out.below HB.out
      obtain ⟨g1, o1, d1, bb0, bb1⟩ := F5.out.bil i HII.out
      obtain ⟨g2, o2, d2, pp0, pp1⟩ := F5.out.pos i HII.out
      have Q1 : Hid (wr.cell? ⟨g1, o1 + k, none⟩ = some (.int .i64 (at2 b.B i k))) := bb1 k hlt
      have R1 : Hid (wr.cell? ⟨g2, o2 + k, none⟩ = some (.int .i64 (at2 b.P i k))) := pp1 k hlt
      have Q0 : Hid (wr.cell? ⟨bB, oB + i, none⟩ = some (.slice (some ⟨g1, o1, none⟩) m d1)) := bb0
      have R0 : Hid (wr.cell? ⟨bP, oP + i, none⟩ = some (.slice (some ⟨g2, o2, none⟩) m d2)) := pp0
      have pr := posB_yes (HGP.out k hlt)
      have SD : Hid (∀ u, Below wr.heap.size wr u → Calls Try.prog 70 #[.slice a n c, .int .i64 i, .int .i64 k] u fun e w' => e = .returned (.int .i64 (sentS L i k)) ∧ Below u.heap.size u w') := fun u hu => (SE.out i k u (BW.out.trans (hu.mono BW.out.size))).mono fun e w' h => ⟨h.1, h.2 ▸ Below.refl _ _⟩
      rw [HE.out] at dr2
      generalize at2 b.P i k = p at HO R1 pr
      generalize at2 b.B i k = l at HO Q1
      generalize sentS L i k = s1 at S1 s1r HE HO SD dr2
      generalize sentS L k i = s2 at S2 s2r HE HO dr2
      generalize dTo L i k = dk at dr dr2 HE ⊢
      obtain ⟨d, hd⟩ : ∃ d, s1 - s2 = d := ⟨_, rfl⟩
      have W5 : IntKind.i64.wrap (s1 - s2) = d := by rw [hd]; exact i64_wf (by omega) (by omega)
      rw [hd] at HE HO dr2
      have k6 : (k : Int) ≤ 5 := by have := HM6.out; omega
      obtain ⟨v9, hv9⟩ : ∃ v9, t1 - dk - d = v9 := ⟨_, rfl⟩
      obtain ⟨v10, hv10⟩ : ∃ v10, N + dk + d = v10 := ⟨_, rfl⟩
      have W6 : IntKind.i64.wrap (t1 - dk - d) = v9 := by rw [hv9]; exact i64_wf (by omega) (by omega)
      have W7 : IntKind.i64.wrap (N + dk + d) = v10 := by rw [hv10]; exact i64_wf (by omega) (by omega)
      obtain ⟨s, hs⟩ : ∃ s, p + d = s := ⟨_, rfl⟩
      have W8 : Hid (IntKind.i64.wrap (p + d) = s) := by show _ = _; rw [hs]; exact i64_wf (by omega) (by omega)
      rw [hs] at HO
      obtain ⟨D1, hD1⟩ : ∃ D1, decide (0 < s1) = D1 := ⟨_, rfl⟩
      obtain ⟨E2, hE2⟩ : ∃ E2, (l == -1) = E2 := ⟨_, rfl⟩
      obtain ⟨D3, hD3⟩ : ∃ D3, decide (l < s) = D3 := ⟨_, rfl⟩
      have e2 : decide (¬ l = -1) = !E2 := by rw [← hE2, Bool.eq_iff_iff]; simp
      rw [hD1, hD3, e2] at HO
      obtain ⟨DD, hDD⟩ : ∃ DD, (D1 && !E2) = DD := ⟨_, rfl⟩
      obtain ⟨R, hR⟩ : ∃ R, (DD && D3) = R := ⟨_, rfl⟩
      have HOV : Hid (overB b L i k = R) := by show _ = _; rw [HO.out, ← hR, ← hDD, Bool.and_assoc]
      have HD1 : Hid (decide (0 < s1) = D1) := hD1
      have HE2 : Hid ((l == -1) = E2) := hE2
      have HD3 : Hid (decide (l < s) = D3) := hD3
      have HDD : Hid ((D1 && !E2) = DD) := hDD
      have HRR : Hid ((DD && D3) = R) := hR
      have H9 : Hid (t1 - dTo L i (k + 1) = v9) := by show _ = _; rw [HE.out, ← hv9]; omega
      have H10 : Hid (N + dTo L i (k + 1) = v10) := by show _ = _; rw [HE.out, ← hv10]; omega
      clear dr dr2 t1r nr s1r s2r pr hd hv9 hv10 hs hD1 hE2 hD3 e2 hDD hR HO HE bb0 bb1 pp0 pp1 F5 k6
      go_wp2_with fail
      go_at_call 70
      refine S1.mono ?_
      rintro e w6 ⟨rfl, hw⟩
      obtain rfl := hw.symm
      clear hw S1
      go_wp2_with fail
      go_at_call 70
      refine S2.mono ?_
      rintro e w7 ⟨rfl, hw⟩
      obtain rfl := hw.symm
      clear hw S2
      go_wp2_with fail
      clear p0 p1 p2 p3 W5 W6 W7
      refine region_owes (L := [Fact.is (.slice a n c),
        Fact.is (.int .i64 i),
        Fact.is (.int .i64 k),
        Fact.is (.int .i64 s1),
        Fact.is (.bool D1),
        Fact.is (.bool D1),
        Fact.when (D1 == true) (.pointer (some ⟨w.heap.size, 1, none⟩)),
        Fact.when (D1 == true) (.slice (some ⟨bB, oB, none⟩) m cB),
        Fact.when (D1 == true) (.int .i64 i),
        Fact.when (D1 == true) (.pointer (some ⟨bB, oB + i, none⟩)),
        Fact.when (D1 == true) (.slice (some ⟨g1, o1, none⟩) m d1),
        Fact.when (D1 == true) (.int .i64 k),
        Fact.when (D1 == true) (.pointer (some ⟨g1, o1 + k, none⟩)),
        Fact.when (D1 == true) (.int .i64 l),
        Fact.when (D1 == true) (.bool (!E2)),
        Fact.is (.bool DD),
        Fact.is (.bool DD),
        Fact.when (DD == true) (.pointer (some ⟨w.heap.size, 3, none⟩)),
        Fact.when (DD == true) (.slice (some ⟨bP, oP, none⟩) m cP),
        Fact.when (DD == true) (.int .i64 i),
        Fact.when (DD == true) (.pointer (some ⟨bP, oP + i, none⟩)),
        Fact.when (DD == true) (.slice (some ⟨g2, o2, none⟩) m d2),
        Fact.when (DD == true) (.int .i64 k),
        Fact.when (DD == true) (.pointer (some ⟨g2, o2 + k, none⟩)),
        Fact.when (DD == true) (.int .i64 p),
        Fact.when (DD == true) (.int .i64 d),
        Fact.when (DD == true) (.int .i64 s),
        Fact.when (DD == true) (.pointer (some ⟨w.heap.size, 1, none⟩)),
        Fact.when (DD == true) (.slice (some ⟨bB, oB, none⟩) m cB),
        Fact.when (DD == true) (.int .i64 i),
        Fact.when (DD == true) (.pointer (some ⟨bB, oB + i, none⟩)),
        Fact.when (DD == true) (.slice (some ⟨g1, o1, none⟩) m d1),
        Fact.when (DD == true) (.int .i64 k),
        Fact.when (DD == true) (.pointer (some ⟨g1, o1 + k, none⟩)),
        Fact.when (DD == true) (.int .i64 l),
        Fact.when (DD == true) (.bool D3),
        Fact.is (.bool R)])
        (T := [61, 62, 63, 64, 65, 66, 67, 68, 69, 70, 71, 72, 73, 74, 75, 76, 77, 78, 79, 80, 81, 82, 83, 84, 85, 86, 87, 88, 89, 90, 91, 92, 93, 94, 95, 96, 97]) (by kernel_rfl) (by kernel_rfl) rfl ?owes ?_
      case owes =>
        refine .cons (owes_move (.tmp 1) (.inl rfl) fun q u lh => ⟨wants_free rfl, lh.old 1 rfl⟩) ?_
        refine .cons (owes_move (.tmp 2) (.inl rfl) fun q u lh => ⟨wants_free rfl, lh.old 2 rfl⟩) ?_
        refine .cons (owes_move (.tmp 11) (.inl rfl) fun q u lh => ⟨wants_free rfl, lh.old 11 rfl⟩) ?_
        refine .cons (owes_call 70 Try.func70 (by kernel_rfl) (by kernel_rfl) [.tmp 61, .tmp 62, .tmp 63] #[23, 3, 3] rfl fun q u lh => ⟨wants_free rfl, by have e61 : q.tmps.getD 61 undef = .slice a n c := lh.dep 0 rfl; have e62 : q.tmps.getD 62 undef = .int .i64 i := lh.dep 1 rfl; have e63 : q.tmps.getD 63 undef = .int .i64 k := lh.dep 2 rfl; show Calls Try.prog 70 #[q.tmps.getD 61 undef, q.tmps.getD 62 undef, q.tmps.getD 63 undef] u _; rw [e61, e62, e63]; exact int_fact (SD.out u lh.below)⟩) ?_
        refine .cons (owes_value fun q u lh => ⟨wants_free rfl, .bool D1, by have e64 : q.tmps.getD 64 undef = .int .i64 s1 := lh.dep 3 rfl; simp [execOp, Act.eval, e64, HD1.out, go_sem], rfl⟩) ?_
        refine .cons (owes_move (.tmp 65) (.inl rfl) fun q u lh => ⟨wants_free rfl, lh.dep 4 rfl⟩) ?_
        refine .cons (owes_when 5 true D1 (.pointer (some ⟨w.heap.size, 1, none⟩)) rfl rfl rfl rfl fun hg q u lh => by have e3 : q.tmps.getD 3 undef = .pointer (some ⟨w.heap.size, 0, none⟩) := lh.old 3 rfl; simp [execOp, Act.eval, e3, go_sem]) ?_
        refine .cons (owes_when 5 true D1 (.slice (some ⟨bB, oB, none⟩) m cB) rfl rfl rfl rfl fun hg q u lh => by have e67 : q.tmps.getD 67 undef = .pointer (some ⟨w.heap.size, 1, none⟩) := (lh.dep 6 rfl) hg; obtain ⟨p0, p1, p2, p3⟩ := X5.out.below lh.below; simp [execOp, Act.eval, e67, p1, go_sem]) ?_
        refine .cons (owes_when 5 true D1 (.int .i64 i) rfl rfl rfl rfl fun hg q u lh => by have e2 : q.tmps.getD 2 undef = .int .i64 i := lh.old 2 rfl; simp [execOp, Act.eval, e2, go_sem]) ?_
        refine .cons (owes_when 5 true D1 (.pointer (some ⟨bB, oB + i, none⟩)) rfl rfl rfl rfl fun hg q u lh => by have e68 : q.tmps.getD 68 undef = .slice (some ⟨bB, oB, none⟩) m cB := (lh.dep 7 rfl) hg; have e69 : q.tmps.getD 69 undef = .int .i64 i := (lh.dep 8 rfl) hg; simp [execOp, Act.eval, e68, e69, i1, go_sem]) ?_
        refine .cons (owes_when 5 true D1 (.slice (some ⟨g1, o1, none⟩) m d1) rfl rfl rfl rfl fun hg q u lh => by have e70 : q.tmps.getD 70 undef = .pointer (some ⟨bB, oB + i, none⟩) := (lh.dep 9 rfl) hg; have z1 := (lh.below.cell (p := ⟨bB, oB + i, none⟩) (block_lt_of_cell Q0.out)).trans Q0.out; simp [execOp, Act.eval, e70, z1, go_sem]) ?_
        refine .cons (owes_when 5 true D1 (.int .i64 k) rfl rfl rfl rfl fun hg q u lh => by have e11 : q.tmps.getD 11 undef = .int .i64 k := lh.old 11 rfl; simp [execOp, Act.eval, e11, go_sem]) ?_
        refine .cons (owes_when 5 true D1 (.pointer (some ⟨g1, o1 + k, none⟩)) rfl rfl rfl rfl fun hg q u lh => by have e71 : q.tmps.getD 71 undef = .slice (some ⟨g1, o1, none⟩) m d1 := (lh.dep 10 rfl) hg; have e72 : q.tmps.getD 72 undef = .int .i64 k := (lh.dep 11 rfl) hg; simp [execOp, Act.eval, e71, e72, k1, go_sem]) ?_
        refine .cons (owes_when 5 true D1 (.int .i64 l) rfl rfl rfl rfl fun hg q u lh => by have e73 : q.tmps.getD 73 undef = .pointer (some ⟨g1, o1 + k, none⟩) := (lh.dep 12 rfl) hg; have z1 := (lh.below.cell (p := ⟨g1, o1 + k, none⟩) (block_lt_of_cell Q1.out)).trans Q1.out; simp [execOp, Act.eval, e73, z1, go_sem]) ?_
        refine .cons (owes_when 5 true D1 (.bool (!E2)) rfl rfl rfl rfl fun hg q u lh => by have e74 : q.tmps.getD 74 undef = .int .i64 l := (lh.dep 13 rfl) hg; simp [execOp, Act.eval, e74, HE2.out, bne, go_sem]) ?_
        refine .cons (owes_and 66 75 5 14 D1 (!E2) rfl rfl rfl rfl rfl rfl rfl rfl (congrArg (fun b => Fact.is (.bool b)) HDD.out.symm)) ?_
        refine .cons (owes_move (.tmp 76) (.inl rfl) fun q u lh => ⟨wants_free rfl, lh.dep 15 rfl⟩) ?_
        refine .cons (owes_when 16 true DD (.pointer (some ⟨w.heap.size, 3, none⟩)) rfl rfl rfl rfl fun hg q u lh => by have e3 : q.tmps.getD 3 undef = .pointer (some ⟨w.heap.size, 0, none⟩) := lh.old 3 rfl; simp [execOp, Act.eval, e3, go_sem]) ?_
        refine .cons (owes_when 16 true DD (.slice (some ⟨bP, oP, none⟩) m cP) rfl rfl rfl rfl fun hg q u lh => by have e78 : q.tmps.getD 78 undef = .pointer (some ⟨w.heap.size, 3, none⟩) := (lh.dep 17 rfl) hg; obtain ⟨p0, p1, p2, p3⟩ := X5.out.below lh.below; simp [execOp, Act.eval, e78, p3, go_sem]) ?_
        refine .cons (owes_when 16 true DD (.int .i64 i) rfl rfl rfl rfl fun hg q u lh => by have e2 : q.tmps.getD 2 undef = .int .i64 i := lh.old 2 rfl; simp [execOp, Act.eval, e2, go_sem]) ?_
        refine .cons (owes_when 16 true DD (.pointer (some ⟨bP, oP + i, none⟩)) rfl rfl rfl rfl fun hg q u lh => by have e79 : q.tmps.getD 79 undef = .slice (some ⟨bP, oP, none⟩) m cP := (lh.dep 18 rfl) hg; have e80 : q.tmps.getD 80 undef = .int .i64 i := (lh.dep 19 rfl) hg; simp [execOp, Act.eval, e79, e80, i1, go_sem]) ?_
        refine .cons (owes_when 16 true DD (.slice (some ⟨g2, o2, none⟩) m d2) rfl rfl rfl rfl fun hg q u lh => by have e81 : q.tmps.getD 81 undef = .pointer (some ⟨bP, oP + i, none⟩) := (lh.dep 20 rfl) hg; have z1 := (lh.below.cell (p := ⟨bP, oP + i, none⟩) (block_lt_of_cell R0.out)).trans R0.out; simp [execOp, Act.eval, e81, z1, go_sem]) ?_
        refine .cons (owes_when 16 true DD (.int .i64 k) rfl rfl rfl rfl fun hg q u lh => by have e11 : q.tmps.getD 11 undef = .int .i64 k := lh.old 11 rfl; simp [execOp, Act.eval, e11, go_sem]) ?_
        refine .cons (owes_when 16 true DD (.pointer (some ⟨g2, o2 + k, none⟩)) rfl rfl rfl rfl fun hg q u lh => by have e82 : q.tmps.getD 82 undef = .slice (some ⟨g2, o2, none⟩) m d2 := (lh.dep 21 rfl) hg; have e83 : q.tmps.getD 83 undef = .int .i64 k := (lh.dep 22 rfl) hg; simp [execOp, Act.eval, e82, e83, k1, go_sem]) ?_
        refine .cons (owes_when 16 true DD (.int .i64 p) rfl rfl rfl rfl fun hg q u lh => by have e84 : q.tmps.getD 84 undef = .pointer (some ⟨g2, o2 + k, none⟩) := (lh.dep 23 rfl) hg; have z1 := (lh.below.cell (p := ⟨g2, o2 + k, none⟩) (block_lt_of_cell R1.out)).trans R1.out; simp [execOp, Act.eval, e84, z1, go_sem]) ?_
        refine .cons (owes_when 16 true DD (.int .i64 d) rfl rfl rfl rfl fun hg q u lh => by have e12 : q.tmps.getD 12 undef = .int .i64 d := lh.old 12 rfl; simp [execOp, Act.eval, e12, go_sem]) ?_
        refine .cons (owes_when 16 true DD (.int .i64 s) rfl rfl rfl rfl fun hg q u lh => by have e85 : q.tmps.getD 85 undef = .int .i64 p := (lh.dep 24 rfl) hg; have e86 : q.tmps.getD 86 undef = .int .i64 d := (lh.dep 25 rfl) hg; simp [execOp, Act.eval, e85, e86, W8.out, go_sem]) ?_
        refine .cons (owes_when 16 true DD (.pointer (some ⟨w.heap.size, 1, none⟩)) rfl rfl rfl rfl fun hg q u lh => by have e3 : q.tmps.getD 3 undef = .pointer (some ⟨w.heap.size, 0, none⟩) := lh.old 3 rfl; simp [execOp, Act.eval, e3, go_sem]) ?_
        refine .cons (owes_when 16 true DD (.slice (some ⟨bB, oB, none⟩) m cB) rfl rfl rfl rfl fun hg q u lh => by have e88 : q.tmps.getD 88 undef = .pointer (some ⟨w.heap.size, 1, none⟩) := (lh.dep 27 rfl) hg; obtain ⟨p0, p1, p2, p3⟩ := X5.out.below lh.below; simp [execOp, Act.eval, e88, p1, go_sem]) ?_
        refine .cons (owes_when 16 true DD (.int .i64 i) rfl rfl rfl rfl fun hg q u lh => by have e2 : q.tmps.getD 2 undef = .int .i64 i := lh.old 2 rfl; simp [execOp, Act.eval, e2, go_sem]) ?_
        refine .cons (owes_when 16 true DD (.pointer (some ⟨bB, oB + i, none⟩)) rfl rfl rfl rfl fun hg q u lh => by have e89 : q.tmps.getD 89 undef = .slice (some ⟨bB, oB, none⟩) m cB := (lh.dep 28 rfl) hg; have e90 : q.tmps.getD 90 undef = .int .i64 i := (lh.dep 29 rfl) hg; simp [execOp, Act.eval, e89, e90, i1, go_sem]) ?_
        refine .cons (owes_when 16 true DD (.slice (some ⟨g1, o1, none⟩) m d1) rfl rfl rfl rfl fun hg q u lh => by have e91 : q.tmps.getD 91 undef = .pointer (some ⟨bB, oB + i, none⟩) := (lh.dep 30 rfl) hg; have z1 := (lh.below.cell (p := ⟨bB, oB + i, none⟩) (block_lt_of_cell Q0.out)).trans Q0.out; simp [execOp, Act.eval, e91, z1, go_sem]) ?_
        refine .cons (owes_when 16 true DD (.int .i64 k) rfl rfl rfl rfl fun hg q u lh => by have e11 : q.tmps.getD 11 undef = .int .i64 k := lh.old 11 rfl; simp [execOp, Act.eval, e11, go_sem]) ?_
        refine .cons (owes_when 16 true DD (.pointer (some ⟨g1, o1 + k, none⟩)) rfl rfl rfl rfl fun hg q u lh => by have e92 : q.tmps.getD 92 undef = .slice (some ⟨g1, o1, none⟩) m d1 := (lh.dep 31 rfl) hg; have e93 : q.tmps.getD 93 undef = .int .i64 k := (lh.dep 32 rfl) hg; simp [execOp, Act.eval, e92, e93, k1, go_sem]) ?_
        refine .cons (owes_when 16 true DD (.int .i64 l) rfl rfl rfl rfl fun hg q u lh => by have e94 : q.tmps.getD 94 undef = .pointer (some ⟨g1, o1 + k, none⟩) := (lh.dep 33 rfl) hg; have z1 := (lh.below.cell (p := ⟨g1, o1 + k, none⟩) (block_lt_of_cell Q1.out)).trans Q1.out; simp [execOp, Act.eval, e94, z1, go_sem]) ?_
        refine .cons (owes_when 16 true DD (.bool D3) rfl rfl rfl rfl fun hg q u lh => by have e87 : q.tmps.getD 87 undef = .int .i64 s := (lh.dep 26 rfl) hg; have e95 : q.tmps.getD 95 undef = .int .i64 l := (lh.dep 34 rfl) hg; simp [execOp, Act.eval, e87, e95, HD3.out, go_sem]) ?_
        refine .cons (owes_and 77 96 16 35 DD D3 rfl rfl rfl rfl rfl rfl rfl rfl (congrArg (fun b => Fact.is (.bool b)) HRR.out.symm)) ?_
        exact .nil _
      intro q u hb hsz hdf hold hfact
      obtain ⟨v67, e67⟩ : ∃ v, q.tmps.getD 67 undef = v := ⟨_, rfl⟩
      obtain ⟨v68, e68⟩ : ∃ v, q.tmps.getD 68 undef = v := ⟨_, rfl⟩
      obtain ⟨v69, e69⟩ : ∃ v, q.tmps.getD 69 undef = v := ⟨_, rfl⟩
      obtain ⟨v70, e70⟩ : ∃ v, q.tmps.getD 70 undef = v := ⟨_, rfl⟩
      obtain ⟨v71, e71⟩ : ∃ v, q.tmps.getD 71 undef = v := ⟨_, rfl⟩
      obtain ⟨v72, e72⟩ : ∃ v, q.tmps.getD 72 undef = v := ⟨_, rfl⟩
      obtain ⟨v73, e73⟩ : ∃ v, q.tmps.getD 73 undef = v := ⟨_, rfl⟩
      obtain ⟨v74, e74⟩ : ∃ v, q.tmps.getD 74 undef = v := ⟨_, rfl⟩
      obtain ⟨v75, e75⟩ : ∃ v, q.tmps.getD 75 undef = v := ⟨_, rfl⟩
      obtain ⟨v78, e78⟩ : ∃ v, q.tmps.getD 78 undef = v := ⟨_, rfl⟩
      obtain ⟨v79, e79⟩ : ∃ v, q.tmps.getD 79 undef = v := ⟨_, rfl⟩
      obtain ⟨v80, e80⟩ : ∃ v, q.tmps.getD 80 undef = v := ⟨_, rfl⟩
      obtain ⟨v81, e81⟩ : ∃ v, q.tmps.getD 81 undef = v := ⟨_, rfl⟩
      obtain ⟨v82, e82⟩ : ∃ v, q.tmps.getD 82 undef = v := ⟨_, rfl⟩
      obtain ⟨v83, e83⟩ : ∃ v, q.tmps.getD 83 undef = v := ⟨_, rfl⟩
      obtain ⟨v84, e84⟩ : ∃ v, q.tmps.getD 84 undef = v := ⟨_, rfl⟩
      obtain ⟨v85, e85⟩ : ∃ v, q.tmps.getD 85 undef = v := ⟨_, rfl⟩
      obtain ⟨v86, e86⟩ : ∃ v, q.tmps.getD 86 undef = v := ⟨_, rfl⟩
      obtain ⟨v87, e87⟩ : ∃ v, q.tmps.getD 87 undef = v := ⟨_, rfl⟩
      obtain ⟨v88, e88⟩ : ∃ v, q.tmps.getD 88 undef = v := ⟨_, rfl⟩
      obtain ⟨v89, e89⟩ : ∃ v, q.tmps.getD 89 undef = v := ⟨_, rfl⟩
      obtain ⟨v90, e90⟩ : ∃ v, q.tmps.getD 90 undef = v := ⟨_, rfl⟩
      obtain ⟨v91, e91⟩ : ∃ v, q.tmps.getD 91 undef = v := ⟨_, rfl⟩
      obtain ⟨v92, e92⟩ : ∃ v, q.tmps.getD 92 undef = v := ⟨_, rfl⟩
      obtain ⟨v93, e93⟩ : ∃ v, q.tmps.getD 93 undef = v := ⟨_, rfl⟩
      obtain ⟨v94, e94⟩ : ∃ v, q.tmps.getD 94 undef = v := ⟨_, rfl⟩
      obtain ⟨v95, e95⟩ : ∃ v, q.tmps.getD 95 undef = v := ⟨_, rfl⟩
      obtain ⟨v96, e96⟩ : ∃ v, q.tmps.getD 96 undef = v := ⟨_, rfl⟩
      have B6 : Hid (Below w2.heap.size w2 u) := HB.out.trans (hb.mono HB.out.size)
      have BW6 : Hid (Below w.heap.size w u) := BW.out.trans (hb.mono BW.out.size)
      obtain ⟨u6, rfl⟩ : ∃ z, z = u := ⟨u, rfl⟩
      obtain rfl := frame_puts hsz hdf [61, 62, 63, 64, 65, 66, 67, 68, 69, 70, 71, 72, 73, 74, 75, 76, 77, 78, 79, 80, 81, 82, 83, 84, 85, 86, 87, 88, 89, 90, 91, 92, 93, 94, 95, 96, 97] hold [(61, Value.slice a n c), (62, Value.int .i64 i), (63, Value.int .i64 k), (64, Value.int .i64 s1), (65, Value.bool D1), (66, Value.bool D1), (67, v67), (68, v68), (69, v69), (70, v70), (71, v71), (72, v72), (73, v73), (74, v74), (75, v75), (76, Value.bool DD), (77, Value.bool DD), (78, v78), (79, v79), (80, v80), (81, v81), (82, v82), (83, v83), (84, v84), (85, v85), (86, v86), (87, v87), (88, v88), (89, v89), (90, v90), (91, v91), (92, v92), (93, v93), (94, v94), (95, v95), (96, v96), (97, Value.bool R)] ⟨hfact 0 (by decide), hfact 1 (by decide), hfact 2 (by decide), hfact 3 (by decide), hfact 4 (by decide), hfact 5 (by decide), e67, e68, e69, e70, e71, e72, e73, e74, e75, hfact 15 (by decide), hfact 16 (by decide), e78, e79, e80, e81, e82, e83, e84, e85, e86, e87, e88, e89, e90, e91, e92, e93, e94, e95, e96, hfact 36 (by decide), trivial⟩ rfl
      clear hsz hdf hold hfact
      clear hb X5 HB BW SD Q0 Q1 R0 R1
      simp only [puts, Act.put, List.setIfInBounds_toArray, List.set_cons_zero, List.set_cons_succ]
      cases R with
      | true =>
        have HF : Hid (true = shortB b L m i) := by
          show _ = _
          rw [HS2.out, show (List.range m).any (overB b L i) = true from List.any_eq_true.2 ⟨k, List.mem_range.2 hlt, HOV.out⟩]; rfl
        go_wp2
        go_ret
        exact ⟨rt_bool HF.out, BW6.out⟩
      | false =>
        have k5 : (k : Int) ≤ 5 := by have := HM6.out; omega
        go_wp2
        go_roundw
        case rel =>
          refine ⟨k + 1, by omega, by go_num, by rw [H9.out], by rw [H10.out], fun j hj => ?_, B6.out⟩
          rcases Nat.lt_or_ge j k with h | h
          · exact HNO.out j h
          · obtain rfl : j = k := by omega
            exact HOV.out
        case measure => simp [intOf]; omega
    · obtain rfl : k = m := by omega
      have HNA : Hid ((List.range k).any (overB b L i) = false) := by
        show _ = false
        rw [Bool.eq_false_iff]
        intro ha
        obtain ⟨j, hj, hp⟩ := List.any_eq_true.1 ha
        rw [HNO.out j (List.mem_range.1 hj)] at hp
        exact Bool.noConfusion hp
      have HSH : Hid (shortB b L k i = (lowB b L k i || wideB b L k i)) := by show _ = _; rw [HS2.out, HNA.out, Bool.false_or]
      generalize dTo L i k = dk at HLO HWI dr ⊢
      obtain ⟨v9, hv9⟩ : ∃ v9, t1 - dk = v9 := ⟨_, rfl⟩
      obtain ⟨v10, hv10⟩ : ∃ v10, N + dk = v10 := ⟨_, rfl⟩
      rw [hv9] at HLO
      rw [hv10] at HWI
      rw [hv9, hv10]
      have m0 := (HB.out.cell (p := ⟨bM, oM + i, none⟩) (block_lt_of_cell HM0.out)).trans HM0.out
      have a0 := (HB.out.cell (p := ⟨bA, oA + i * 3, none⟩) (block_lt_of_cell HA0.out)).trans HA0.out
      have a1 := (HB.out.cell (p := ⟨bA, oA + i * 3 + 1, none⟩) (block_lt_of_cell HA1.out)).trans HA1.out
      have a2 := (HB.out.cell (p := ⟨bA, oA + i * 3 + 2, none⟩) (block_lt_of_cell HA2.out)).trans HA2.out
      have HW : Hid (wideB b L k i = (decide (¬ mu = -1) && decide (mu < v10))) := HWI.out
      have HT : Hid (True) := trivial
      clear hv9 hv10 dr t1r nr HNO HNA HS2 HWI
      rcases Int.lt_or_le v9 0 with hneg | hneg
      · have HF : Hid (true = shortB b L k i) := by show _ = _; rw [HSH.out, HLO.out, decide_eq_true hneg]; rfl
        clear HSH HLO HW HT a0 a1 a2 m0
        go_wp2
        go_ret
        exact ⟨rt_bool HF.out, BW.out⟩
      have hneg' : decide (v9 < 0) = false := decide_eq_false (by omega)
      rcases Int.lt_or_le 0 pl with hpl | hpl
      · rcases Int.lt_or_le v9 V with hV | hV
        · have HF : Hid (true = shortB b L k i) := by show _ = _; rw [HSH.out, HLO.out, decide_eq_true hpl, decide_eq_true hV]; simp
          clear HSH HLO HW HT m0
          go_wp2_with fail
          go_at_call 46
          refine (KE _).mono ?_
          rintro e w6 ⟨rfl, hb⟩
          have B6 : Hid (Below w.heap.size w w6) := BW.out.trans (hb.mono BW.out.size)
          clear hb KE
          go_wp2
          go_ret
          exact ⟨rt_bool HF.out, B6.out⟩
        · have hV' : decide (v9 < V) = false := decide_eq_false (by omega)
          have HNOT : Hid (shortB b L k i = wideB b L k i) := by show _ = _; rw [HSH.out, HLO.out, hneg', hV']; simp
          clear HSH HLO
          go_wp2_with fail
          go_at_call 46
          refine (KE _).mono ?_
          rintro e w6 ⟨rfl, hb⟩
          have B6 : Hid (Below w.heap.size w w6) := BW.out.trans (hb.mono BW.out.size)
          have m6 := (hb.cell (p := ⟨bM, oM + i, none⟩) (block_lt_of_cell m0)).trans m0
          have p6 := (hb.cell (p := ⟨w.heap.size, 2, none⟩) (block_lt_of_cell p2)).trans p2
          clear hb KE p0 p1 p2 p3 m0 a0 a1 a2 hneg
          by_cases hmu : mu = -1
          · subst hmu
            have HE : Hid (false = shortB b L k i) := by show _ = _; rw [HNOT.out, HW.out]; rfl
            clear HT HW HNOT
            go_wp2
            go_ret
            exact ⟨rt_bool HE.out, B6.out⟩
          · have hm2 : (mu == -1) = false := by simpa using hmu
            rcases Int.lt_or_le mu v10 with hv | hv
            · have HE : Hid ((mu != -1) = shortB b L k i) := by show _ = _; rw [HNOT.out, HW.out, decide_eq_true hv]; simp [hmu]
              clear HT HW HNOT
              go_wp2
              go_ret
              exact ⟨rt_bool HE.out, B6.out⟩
            · have hv' : decide (mu < v10) = false := decide_eq_false (by omega)
              have HE : Hid (false = shortB b L k i) := by show _ = _; rw [HNOT.out, HW.out, hv', Bool.and_false]
              clear HT HW HNOT hv
              go_wp2
              go_ret
              exact ⟨rt_bool HE.out, B6.out⟩
      · have hpl' : decide (0 < pl) = false := decide_eq_false (by omega)
        have HNOT : Hid (shortB b L k i = wideB b L k i) := by show _ = _; rw [HSH.out, HLO.out, hneg', hpl']; simp
        clear HSH HLO a0 a1 a2 KE hneg hpl
        by_cases hmu : mu = -1
        · subst hmu
          have HE : Hid (false = shortB b L k i) := by show _ = _; rw [HNOT.out, HW.out]; rfl
          clear HT HW HNOT
          go_wp2
          go_ret
          exact ⟨rt_bool HE.out, BW.out⟩
        · have hm2 : (mu == -1) = false := by simpa using hmu
          rcases Int.lt_or_le mu v10 with hv | hv
          · have HE : Hid ((mu != -1) = shortB b L k i) := by show _ = _; rw [HNOT.out, HW.out, decide_eq_true hv]; simp [hmu]
            clear HT HW HNOT
            go_wp2
            go_ret
            exact ⟨rt_bool HE.out, BW.out⟩
          · have hv' : decide (mu < v10) = false := decide_eq_false (by omega)
            have HE : Hid (false = shortB b L k i) := by show _ = _; rw [HNOT.out, HW.out, hv', Bool.and_false]
            clear HT HW HNOT hv
            go_wp2
            go_ret
            exact ⟨rt_bool HE.out, BW.out⟩

end Go.Proofs.Ytlackjldopeigaa

/-
  giroref15: Short, All, Fits; girolaw15.ints.
-/
namespace Go.Proofs.Ytlackjldopeigaa
open Go.RowKit
set_option linter.unusedVariables false
set_option linter.unusedSimpArgs false

def shortTo (b : Bks) (L : List P7) (k : Nat) : List Nat := (List.range k).filter (shortB b L b.A.length)
theorem shortTo_yes {b : Bks} {L : List P7} {k : Nat} (h : shortB b L b.A.length k = true) : shortTo b L (k + 1) = shortTo b L k ++ [k] := by
  unfold shortTo
  rw [List.range_succ, List.filter_append]
  simp [h]
theorem shortTo_no {b : Bks} {L : List P7} {k : Nat} (h : shortB b L b.A.length k = false) : shortTo b L (k + 1) = shortTo b L k := by
  unfold shortTo
  rw [List.range_succ, List.filter_append]
  simp [h]
theorem shortTo_lt {b : Bks} {L : List P7} {k : Nat} : ∀ i ∈ shortTo b L k, i < k := by
  intro i hi
  simp [shortTo] at hi
  exact hi.1

set_option maxHeartbeats 8000000 in
set_option maxRecDepth 100000 in
theorem refFShort_new (x : BA) (b : Bks) (a : Option Addr) (n c : Nat) (L : List P7) (w : World) (hk : Bk w x b) (g : Good b) (h : PGood w a n c L) (hn : n ≤ 64) (hp : MvPays L) :
    Calls Try.prog 33 #[x.val, .slice a n c] w (IEndN w (shortL b L)) := by
  have ON : Hid (∀ i, i < b.A.length → ∀ u, Below w.heap.size w u → Calls Try.prog 60 #[x.val, .slice a n c, .int .i64 i] u fun e w' => e = .returned (.bool (shortB b L b.A.length i)) ∧ Below u.heap.size u w') := fun i hi u hu => refShortOne_any x b a n c L i u (hk.below hu) g (h.below hu) hn hp hi
  have hx : x.nA = b.A.length := hk.acc.1
  have n6 := g.n6
  have HM : Hid (shortL b L = shortTo b L x.nA) := by show _ = _; rw [hx]; rfl
  rw [HM.out]
  have HS : Hid (∀ k, shortB b L b.A.length k = shortB b L x.nA k) := fun k => by rw [hx]
  rw [← hx] at ON n6
  have HY : Hid (∀ k, shortB b L x.nA k = true → shortTo b L (k + 1) = shortTo b L k ++ [k]) := fun k h => shortTo_yes (by rw [HS.out k]; exact h)
  have HNN : Hid (∀ k, shortB b L x.nA k = false → shortTo b L (k + 1) = shortTo b L k) := fun k h => shortTo_no (by rw [HS.out k]; exact h)
  obtain ⟨aA, nA, cA, aB, nB, cB, aM, nM, cM, aP, nP, cP⟩ := x
  have ONE : Hid (∀ i : Nat, i < nA → ∀ u, Below w.heap.size w u → Calls Try.prog 60 #[.agg #[.slice aA nA cA, .slice aB nB cB, .slice aM nM cM, .slice aP nP cP], .slice a n c, .int .i64 i] u fun e w' => e = .returned (.bool (shortB b L nA i)) ∧ Below u.heap.size u w') := ON.out
  have HY2 : Hid (∀ k, shortB b L nA k = true → shortTo b L (k + 1) = shortTo b L k ++ [k]) := HY.out
  have HN2 : Hid (∀ k, shortB b L nA k = false → shortTo b L (k + 1) = shortTo b L k) := HNN.out
  have H6 : Hid (nA ≤ 6) := n6
  have n6' : (nA : Int) ≤ 6 := by have := H6.out; omega
  obtain ⟨w2, hw2⟩ : ∃ w2, w2 = w.alloc (.cells #[.slice aA nA cA, .slice aB nB cB, .slice aM nM cM, .slice aP nP cP] 27) := ⟨_, rfl⟩
  have B2 : Hid (Below w.heap.size w w2) := by rw [hw2]; exact box_below _ _
  have X2 : Hid (Box4 w2 w.heap.size ⟨aA, nA, cA, aB, nB, cB, aM, nM, cM, aP, nP, cP⟩) := by rw [hw2]; exact Box4.new w ⟨aA, nA, cA, aB, nB, cB, aM, nM, cM, aP, nP, cP⟩ _ _
  show Calls Try.prog 33 #[.agg #[.slice aA nA cA, .slice aB nB cB, .slice aM nM cM, .slice aP nP cP], .slice a n c] w (IEndN w (shortTo b L nA))
  clear hk g h hn hp hx HM HS HY HNN ON n6
  go_enter Try.func33, Try.ntmps33
  go_upto_region 1 with fail
  rw [← hw2]
  clear hw2
  go_wp2
  go_loopw [5, 6] (fun sv t wr => ∃ (k m : Nat) (v : Value), k ≤ nA ∧ t = .int .i64 k ∧ v = sv ∧ m ≤ k ∧ Hid (wr.ownsRow w2.heap.size 3 1 v m (intsV (shortTo b L k))) ∧ Hid (Below w2.heap.size w2 wr)) (fun _ t _ => nA - (intOf t).toNat)
  case atStart => exact ⟨0, 0, _, by omega, rfl, rfl, by omega, World.ownsRow_nil _ _ _ _, Below.refl _ _⟩
  case round =>
    obtain ⟨k, m, v, hk, rfl, rfl, hm, HO, HB⟩ := hrel
    obtain ⟨p0, p1, p2, p3⟩ := X2.out.below HB.out
    replace p0 : wr.cell? ⟨w.heap.size, 0, none⟩ = some (.slice aA nA cA) := p0
    replace p1 : wr.cell? ⟨w.heap.size, 1, none⟩ = some (.slice aB nB cB) := p1
    replace p2 : wr.cell? ⟨w.heap.size, 2, none⟩ = some (.slice aM nM cM) := p2
    replace p3 : wr.cell? ⟨w.heap.size, 3, none⟩ = some (.slice aP nP cP) := p3
    have BW : Hid (Below w.heap.size w wr) := B2.out.trans (HB.out.mono B2.out.size)
    by_cases hlt : k < nA
    · have k1 : (k : Int) < (nA : Int) := by omega
      have O := ONE.out k hlt wr BW.out
      obtain ⟨q, hq⟩ : ∃ q, shortB b L nA k = q := ⟨_, rfl⟩
      have hyy := HY2.out k
      have hnn := HN2.out k
      rw [hq] at O hyy hnn
      have HYY : Hid (q = true → shortTo b L (k + 1) = shortTo b L k ++ [k]) := hyy
      have HNN : Hid (q = false → shortTo b L (k + 1) = shortTo b L k) := hnn
      clear hq hyy hnn
      go_wp2_with fail
      go_at_call 60
      refine O.mono ?_
      rintro e w3 ⟨rfl, hb⟩
      have B3 : Hid (Below w2.heap.size w2 w3) := HB.out.trans (hb.mono HB.out.size)
      have O3 : Hid (w3.ownsRow w2.heap.size 3 1 v m (intsV (shortTo b L k))) := own_below HO.out hb
      clear hb O HB HO BW p0 p1 p2 p3
      cases q with
      | true =>
        have HF : Hid (shortTo b L (k + 1) = shortTo b L k ++ [k]) := HYY.out rfl
        clear HYY HNN
        go_wp2_with (at_builtin; refine append_one rfl _ _ rfl w2.heap.size v m (shortTo b L k) rfl O3.out k (by omega) (by omega) B3.out.size rfl ?_)
        intro v8 w8 h8 g8
        have O8 : Hid (w8.ownsRow w2.heap.size 3 1 v8 (m + 1) (intsV (shortTo b L (k + 1)))) := by rw [HF.out]; exact h8
        have B8 : Hid (Below w2.heap.size w2 w8) := (B3.out.alloc B3.out.size _).grown g8 (by rw [size_alloc]; have := B3.out.size; omega) (fun j hj => (O3.out.lt j hj).1)
        clear h8 g8
        go_wp2
        go_roundw
        case rel => exact ⟨k + 1, m + 1, v8, by omega, by go_num, rfl, by omega, O8, B8⟩
        case measure => simp [intOf]; omega
      | false =>
        have HF : Hid (shortTo b L (k + 1) = shortTo b L k) := HNN.out rfl
        clear HYY HNN
        go_wp2
        go_roundw
        case rel => exact ⟨k + 1, m, v, by omega, by go_num, rfl, by omega, by rw [HF.out]; exact O3.out, B3⟩
        case measure => simp [intOf]; omega
    · obtain rfl : k = nA := by omega
      obtain ⟨a8, c8, rfl, hg, hnw⟩ := IGood.ownN HO.out (fun i hi => by have := shortTo_lt i hi; have := H6.out; omega)
      have HG : Hid (IGood wr a8 (shortTo b L k).length c8 (shortTo b L k)) := hg
      have HNW : Hid (∀ x, a8 = some x → w.heap.size ≤ x.block) := fun x hx => Nat.le_trans B2.out.size (hnw x hx)
      clear hg HO HB hnw
      go_wp2
      go_ret
      exact ⟨a8, c8, rfl, HG.out, HNW.out, BW.out⟩
theorem refFShort_any (x : BA) (b : Bks) (a : Option Addr) (n c : Nat) (L : List P7) (w : World) (hk : Bk w x b) (g : Good b) (h : PGood w a n c L) (hn : n ≤ 64) (hp : MvPays L) :
    Calls Try.prog 33 #[x.val, .slice a n c] w (IEnd w (shortL b L)) := (refFShort_new x b a n c L w hk g h hn hp).mono fun _ _ h => h.end

set_option maxHeartbeats 4000000 in
set_option maxRecDepth 100000 in
theorem refFAll_any (x : BA) (b : Bks) (a : Option Addr) (n c : Nat) (L : List P7) (w : World) (hx : x.nA = b.A.length) (h : PGood w a n c L) :
    Calls Try.prog 19 #[x.val, .slice a n c] w fun e w' => e = .returned (.bool (allB b L)) ∧ Below w.heap.size w w' := by
  have HL : Hid (n = L.length) := h.len
  have HG : Hid (PGood w a n c L) := h
  have MY := fun (p : P7) u => refFMay_any x p u
  rw [hx] at MY
  obtain ⟨aA, nA, cA, aB, nB, cB, aM, nM, cM, aP, nP, cP⟩ := x
  obtain ⟨w2, hw2⟩ : ∃ w2, w2 = w.alloc (.cells #[.slice aA nA cA, .slice aB nB cB, .slice aM nM cM, .slice aP nP cP] 27) := ⟨_, rfl⟩
  have B2 : Hid (Below w.heap.size w w2) := by rw [hw2]; exact box_below _ _
  have X2 : Hid (Box4 w2 w.heap.size ⟨aA, nA, cA, aB, nB, cB, aM, nM, cM, aP, nP, cP⟩) := by rw [hw2]; exact Box4.new w ⟨aA, nA, cA, aB, nB, cB, aM, nM, cM, aP, nP, cP⟩ _ _
  have HM : Hid (∀ (z0 z1 z2 z3 z4 z5 z6 : Int) (u : World), Calls Try.prog 43 #[.agg #[.slice aA nA cA, .slice aB nB cB, .slice aM nM cM, .slice aP nP cP], .agg #[.int .i64 z0, .int .i64 z1, .int .i64 z2, .int .i64 z3, .int .i64 z4, .int .i64 z5, .int .i64 z6]] u fun e w' => e = .returned (.bool (mayB b.A.length (z0, z1, z2, z3, z4, z5, z6))) ∧ Below u.heap.size u w') := fun z0 z1 z2 z3 z4 z5 z6 u => MY (z0, z1, z2, z3, z4, z5, z6) u
  have HNM : Hid (n ≤ 9223372036854775807) := by have := HG.out.cap; have := HG.out.max; show n ≤ _; omega
  have hnm : (n : Int) ≤ 9223372036854775807 := by have := HNM.out; omega
  clear MY hx h
  go_enter Try.func19, Try.ntmps19
  go_upto_region 1 with fail
  rw [← hw2]
  clear hw2
  go_wp2
  go_loopw [5] (fun t wr => ∃ k : Nat, k ≤ n ∧ t = .int .i64 k ∧ Hid ((L.take k).all (mayB b.A.length) = true) ∧ Hid (Below w2.heap.size w2 wr)) (fun t _ => n - (intOf t).toNat)
  case atStart => exact ⟨0, by omega, rfl, rfl, Below.refl _ _⟩
  case round =>
    obtain ⟨k, hk, rfl, HA, HB⟩ := hrel
    have BW : Hid (Below w.heap.size w wr) := B2.out.trans (HB.out.mono B2.out.size)
    by_cases hlt : k < n
    · have k1 : (k : Int) < (n : Int) := by omega
      obtain ⟨ba, off, rfl, HC⟩ := HG.out.at hlt
      have C0 := (HC k hlt).below BW.out
      have HT : Hid (L.take (k + 1) = L.take k ++ [L.getD k p70]) := take_snocA L p70 k (by have := HL.out; omega)
      have HIN : Hid (L.getD k p70 ∈ L) := by show _ ∈ _; rw [getD_get (by have := HL.out; omega)]; exact List.getElem_mem _
      generalize L.getD k p70 = y at C0 HT HIN
      obtain ⟨x0, x1, x2, x3, x4, x5, x6⟩ := y
      have M := fun u => HM.out x0 x1 x2 x3 x4 x5 x6 u
      obtain ⟨qm, hq⟩ : ∃ qm, mayB b.A.length (x0, x1, x2, x3, x4, x5, x6) = qm := ⟨_, rfl⟩
      rw [hq] at M
      have HQ : Hid (mayB b.A.length (x0, x1, x2, x3, x4, x5, x6) = qm) := hq
      have C : Hid (At7 wr ba (off + k * 7) (x0, x1, x2, x3, x4, x5, x6)) := C0
      have X3 : Hid (Box4 wr w.heap.size ⟨aA, nA, cA, aB, nB, cB, aM, nM, cM, aP, nP, cP⟩) := X2.out.below HB.out
      clear hq HC C0
      go_wp2_with fail
      refine region_owes (L := [Fact.is (.agg #[.slice aA nA cA, .slice aB nB cB, .slice aM nM cM, .slice aP nP cP]),
        Fact.is (.slice (some ⟨ba, off, none⟩) n c),
        Fact.is (.int .i64 k),
        Fact.is (.pointer (some ⟨ba, off + k * 7, none⟩)),
        Fact.is (.agg #[.int .i64 x0, .int .i64 x1, .int .i64 x2, .int .i64 x3, .int .i64 x4, .int .i64 x5, .int .i64 x6]),
        Fact.is (.bool qm),
        Fact.is (.bool (!qm))])
        (T := [12, 13, 14, 15, 16, 17, 18]) (by kernel_rfl) (by kernel_rfl) rfl ?owes ?_
      case owes =>
        refine .cons (owes_value fun q u lh => ⟨wants_free rfl, .agg #[.slice aA nA cA, .slice aB nB cB, .slice aM nM cM, .slice aP nP cP], by have e2 : q.tmps.getD 2 undef = .pointer (some ⟨w.heap.size, 0, none⟩) := lh.old 2 rfl; obtain ⟨p0, p1, p2, p3⟩ := X3.out.below lh.below; simp [execOp, Act.eval, e2, p0, p1, p2, p3, go_sem], rfl⟩) ?_
        refine .cons (owes_move (.tmp 1) (.inl rfl) fun q u lh => ⟨wants_free rfl, lh.old 1 rfl⟩) ?_
        refine .cons (owes_move (.tmp 5) (.inl rfl) fun q u lh => ⟨wants_free rfl, lh.old 5 rfl⟩) ?_
        refine .cons (owes_value fun q u lh => ⟨wants_free rfl, .pointer (some ⟨ba, off + k * 7, none⟩), by have e13 : q.tmps.getD 13 undef = .slice (some ⟨ba, off, none⟩) n c := lh.dep 1 rfl; have e14 : q.tmps.getD 14 undef = .int .i64 k := lh.dep 2 rfl; simp [execOp, Act.eval, e13, e14, k1, go_sem], rfl⟩) ?_
        refine .cons (owes_value fun q u lh => ⟨wants_free rfl, .agg #[.int .i64 x0, .int .i64 x1, .int .i64 x2, .int .i64 x3, .int .i64 x4, .int .i64 x5, .int .i64 x6], by have e15 : q.tmps.getD 15 undef = .pointer (some ⟨ba, off + k * 7, none⟩) := lh.dep 3 rfl; obtain ⟨z0, z1, z2, z3, z4, z5, z6⟩ := C.out.below lh.below; simp [execOp, Act.eval, e15, z0, z1, z2, z3, z4, z5, z6, go_sem], rfl⟩) ?_
        refine .cons (owes_call 43 Try.func43 (by kernel_rfl) (by kernel_rfl) [.tmp 12, .tmp 16] #[27, 51] rfl fun q u lh => ⟨wants_free rfl, by have e12 : q.tmps.getD 12 undef = .agg #[.slice aA nA cA, .slice aB nB cB, .slice aM nM cM, .slice aP nP cP] := lh.dep 0 rfl; have e16 : q.tmps.getD 16 undef = .agg #[.int .i64 x0, .int .i64 x1, .int .i64 x2, .int .i64 x3, .int .i64 x4, .int .i64 x5, .int .i64 x6] := lh.dep 4 rfl; show Calls Try.prog 43 #[q.tmps.getD 12 undef, q.tmps.getD 16 undef] u _; rw [e12, e16]; exact bool_fact (M u)⟩) ?_
        refine .cons (owes_value fun q u lh => ⟨wants_free rfl, .bool (!qm), by have e17 : q.tmps.getD 17 undef = .bool qm := lh.dep 5 rfl; simp [execOp, Act.eval, e17, go_sem], rfl⟩) ?_
        exact .nil _
      intro q u hb hsz hdf hold hfact
      have B5 : Hid (Below w2.heap.size w2 u) := HB.out.trans (hb.mono HB.out.size)
      have BW5 : Hid (Below w.heap.size w u) := BW.out.trans (hb.mono BW.out.size)
      obtain ⟨u5, rfl⟩ : ∃ z, z = u := ⟨u, rfl⟩
      obtain rfl := frame_puts hsz hdf [12, 13, 14, 15, 16, 17, 18] hold [(12, Value.agg #[.slice aA nA cA, .slice aB nB cB, .slice aM nM cM, .slice aP nP cP]), (13, Value.slice (some ⟨ba, off, none⟩) n c), (14, Value.int .i64 k), (15, Value.pointer (some ⟨ba, off + k * 7, none⟩)), (16, Value.agg #[.int .i64 x0, .int .i64 x1, .int .i64 x2, .int .i64 x3, .int .i64 x4, .int .i64 x5, .int .i64 x6]), (17, Value.bool qm), (18, Value.bool (!qm))] ⟨hfact 0 (by decide), hfact 1 (by decide), hfact 2 (by decide), hfact 3 (by decide), hfact 4 (by decide), hfact 5 (by decide), hfact 6 (by decide), trivial⟩ rfl
      clear hsz hdf hold hfact
      clear hb M X3 HB BW
      simp only [puts, Act.put, List.setIfInBounds_toArray, List.set_cons_zero, List.set_cons_succ]
      cases qm with
      | false =>
        have HE : Hid (false = allB b L) := by
          show false = _
          unfold allB
          have : L.all (mayB b.A.length) = false := by
            rw [Bool.eq_false_iff]
            intro ha
            rw [List.all_eq_true] at ha
            have := ha _ HIN.out
            rw [HQ.out] at this
            exact Bool.noConfusion this
          rw [this, Bool.false_and]
        go_wp2
        go_ret
        exact ⟨rt_bool HE.out, BW5.out⟩
      | true =>
        have HA2 : Hid ((L.take (k + 1)).all (mayB b.A.length) = true) := by
          show _ = true
          rw [HT.out, List.all_append, HA.out, List.all_cons, HQ.out]; rfl
        go_wp2
        go_roundw
        case rel => exact ⟨k + 1, by omega, by go_num, HA2, B5⟩
        case measure => simp [intOf]; omega
    · obtain rfl : k = n := by omega
      have HE : Hid (decide ((k : Int) ≤ 64) = allB b L) := by
        show _ = _
        have := HA.out
        rw [HL.out, List.take_length] at this
        unfold allB
        rw [this, Bool.true_and, decide_eq_decide]
        have := HL.out
        omega
      go_wp2
      go_ret
      exact ⟨rt_bool HE.out, BW.out⟩

set_option maxHeartbeats 4000000 in
theorem refFFits_any (x : BA) (b : Bks) (a : Option Addr) (n c : Nat) (L : List P7) (w : World) (hk : Bk w x b) (g : Good b) (h : PGood w a n c L) :
    Calls Try.prog 21 #[x.val, .slice a n c] w fun e w' => e = .returned (.bool (fitsB b L)) ∧ Below w.heap.size w w' := by
  have A := fun u (hu : Below w.heap.size w u) => refFAll_any x b a n c L u hk.acc.1 (h.below hu)
  have SH : Hid (allB b L = true → ∀ u, Below w.heap.size w u → Calls Try.prog 33 #[x.val, .slice a n c] u (IEnd u (shortL b L))) := fun hL u hu => refFShort_any x b a n c L u (hk.below hu) g (h.below hu) (by have := (allB_mv g hL).1; have := h.len; omega) (allB_mv g hL).2.1
  unfold fitsB
  obtain ⟨aA, nA, cA, aB, nB, cB, aM, nM, cM, aP, nP, cP⟩ := x
  obtain ⟨w2, hw2⟩ : ∃ w2, w2 = w.alloc (.cells #[.slice aA nA cA, .slice aB nB cB, .slice aM nM cM, .slice aP nP cP] 27) := ⟨_, rfl⟩
  have B2 : Hid (Below w.heap.size w w2) := by rw [hw2]; exact box_below _ _
  have X2 : Hid (Box4 w2 w.heap.size ⟨aA, nA, cA, aB, nB, cB, aM, nM, cM, aP, nP, cP⟩) := by rw [hw2]; exact Box4.new w ⟨aA, nA, cA, aB, nB, cB, aM, nM, cM, aP, nP, cP⟩ _ _
  have I := A w2 B2.out
  obtain ⟨p0, p1, p2, p3⟩ := X2.out
  replace p0 : w2.cell? ⟨w.heap.size, 0, none⟩ = some (.slice aA nA cA) := p0
  replace p1 : w2.cell? ⟨w.heap.size, 1, none⟩ = some (.slice aB nB cB) := p1
  replace p2 : w2.cell? ⟨w.heap.size, 2, none⟩ = some (.slice aM nM cM) := p2
  replace p3 : w2.cell? ⟨w.heap.size, 3, none⟩ = some (.slice aP nP cP) := p3
  generalize allB b L = q at I SH ⊢
  generalize shortL b L = S at SH ⊢
  clear A hk g h
  go_enter Try.func21, Try.ntmps21
  go_upto_region 1 with fail
  rw [← hw2]
  clear hw2
  go_wp2_with fail
  go_at_call 19
  refine I.mono ?_
  rintro e w3 ⟨rfl, hb⟩
  have B3 : Hid (Below w.heap.size w w3) := B2.out.trans (hb.mono B2.out.size)
  have X3 : Hid (Box4 w3 w.heap.size ⟨aA, nA, cA, aB, nB, cB, aM, nM, cM, aP, nP, cP⟩) := X2.out.below hb
  clear hb I X2 B2 p0 p1 p2 p3
  obtain ⟨p0, p1, p2, p3⟩ := X3.out
  replace p0 : w3.cell? ⟨w.heap.size, 0, none⟩ = some (.slice aA nA cA) := p0
  replace p1 : w3.cell? ⟨w.heap.size, 1, none⟩ = some (.slice aB nB cB) := p1
  replace p2 : w3.cell? ⟨w.heap.size, 2, none⟩ = some (.slice aM nM cM) := p2
  replace p3 : w3.cell? ⟨w.heap.size, 3, none⟩ = some (.slice aP nP cP) := p3
  cases q with
  | false =>
    go_wp2
    go_ret
    exact ⟨rfl, B3.out⟩
  | true =>
    have T := SH.out rfl w3 B3.out
    go_wp2_with fail
    go_at_call 33
    refine T.mono ?_
    rintro e w4 ⟨a4, c4, rfl, g4, hb⟩
    have B4 : Hid (Below w.heap.size w w4) := B3.out.trans (hb.mono B3.out.size)
    clear hb T X3 B3 p0 p1 p2 p3 g4
    obtain ⟨m, hm⟩ : ∃ m, S.length = m := ⟨_, rfl⟩
    have HE : Hid (((m : Int) == 0) = (true && decide (S.length = 0))) := by show _ = _; rw [hm, Bool.true_and, Bool.eq_iff_iff]; simp
    rw [hm]
    clear hm
    go_wp2
    go_ret
    exact ⟨rt_bool HE.out, B4.out⟩

def intsB (l m : List Nat) : Bool := decide (l = m)
end Go.Proofs.Ytlackjldopeigaa
