/-
  The walk of ViewHeads.
-/
import Derived.Test.YtmfmdicdbjghkaaKnown14
import Derived.Test.YtmfmdicdbjghkaaViewPure
import Derived.Test.YtmfmdicdbjghkaaPaysGood
import Derived.Test.YtmfmdicdbjghkaaArgs
namespace Go.Proofs.Ytmfmdicdbjghkaa
open Go.RowKit
set_option linter.unusedVariables false
set_option linter.unusedSimpArgs false

/-- The first ones of each: so many as are asked, if there are. -/
theorem vOf_heads_to (R : List P7) (M : List Int) (f : Nat) (hf : f < M.length) : ∀ k, k ≤ R.length → vOf (sel (headK M) (R.take k)) (f : Int) = (vOf (R.take k) (f : Int)).take (M.getD f 0).toNat
  | 0, _ => by simp [sel, selA, vOf]
  | k + 1, hk => by
    have ih := vOf_heads_to R M f hf k (by omega)
    rw [sel_take _ _ (by omega : k < R.length), take_snoc7 R (by omega), vOf_snoc, vOf_append, ih]
    obtain ⟨x, hx⟩ : ∃ x, R.getD k p70 = x := ⟨_, rfl⟩
    obtain ⟨B, hB⟩ : ∃ B, R.take k = B := ⟨_, rfl⟩
    rw [hx, hB]
    clear ih hx hB
    by_cases hfr : x.fr = (f : Int)
    · rw [if_pos hfr]
      have hK : headK M B x = decide ((cntF B (f : Int) : Int) < M.getD f 0) := by
        unfold headK
        rw [hfr, decide_eq_true (p := (0 : Int) ≤ _) (by omega), decide_eq_true (p := (f : Int) < _) (by omega), Int.toNat_natCast]
        rfl
      rw [hK]
      unfold cntF
      obtain ⟨A, hA⟩ : ∃ A, vOf B (f : Int) = A := ⟨_, rfl⟩
      rw [hA]
      by_cases hlt : (A.length : Int) < M.getD f 0
      · rw [decide_eq_true hlt, if_pos rfl, vOf_one, if_pos hfr]
        rw [List.take_of_length_le (l := A) (by omega), List.take_of_length_le (l := A ++ [x]) (by rw [List.length_append, List.length_cons, List.length_nil]; omega)]
      · rw [decide_eq_false hlt]
        rw [List.take_append_of_le_length (by omega)]
        simp [vOf_eq]
    · rw [if_neg hfr, List.append_nil]
      have : vOf (if headK M B x = true then [x] else []) (f : Int) = [] := by
        split
        · rw [vOf_one, if_neg hfr]
        · rfl
      rw [this, List.append_nil]
theorem vOf_heads (R : List P7) (M : List Int) (f : Nat) (hf : f < M.length) : vOf (vHeads R M) (f : Int) = (vOf R (f : Int)).take (M.getD f 0).toNat := by
  have := vOf_heads_to R M f hf R.length (Nat.le_refl _)
  rwa [List.take_length] at this
theorem vHeads_all_to (R : List P7) (M : List Int) (h : ∀ p ∈ R, 0 ≤ p.fr ∧ p.fr < M.length ∧ (R.length : Int) ≤ M.getD p.fr.toNat 0) : ∀ k, k ≤ R.length → sel (headK M) (R.take k) = R.take k
  | 0, _ => rfl
  | k + 1, hk => by
    rw [sel_take _ _ (by omega : k < R.length), vHeads_all_to R M h k (by omega), take_snoc7 R (by omega)]
    have hp := h _ (getD_in (by omega : k < R.length))
    have hc := cntF_le (R.take k) (R.getD k p70).fr
    have hK : headK M (R.take k) (R.getD k p70) = true := by
      unfold headK
      rw [decide_eq_true hp.1, decide_eq_true hp.2.1, decide_eq_true (by rw [List.length_take] at hc; have := hp.2.2; omega)]
      rfl
    rw [hK]
    rfl
theorem vHeads_all (R : List P7) (M : List Int) (h : ∀ p ∈ R, 0 ≤ p.fr ∧ p.fr < M.length ∧ (R.length : Int) ≤ M.getD p.fr.toNat 0) : vHeads R M = R := by
  have := vHeads_all_to R M h R.length (Nat.le_refl _)
  rwa [List.take_length] at this
theorem vHeads_none (R : List P7) : vHeads R [] = [] := by
  have : ∀ k, k ≤ R.length → sel (headK []) (R.take k) = [] := by
    intro k
    induction k with
    | zero => intro _; rfl
    | succ k ih =>
      intro hk
      rw [sel_take _ _ (by omega : k < R.length), ih (by omega)]
      have hK : headK [] (R.take k) (R.getD k p70) = false := by
        unfold headK
        by_cases h0 : 0 ≤ (R.getD k p70).fr
        · rw [decide_eq_false (p := (R.getD k p70).fr < _) (by rw [List.length_nil]; omega), Bool.and_false]; rfl
        · rw [decide_eq_false h0]; rfl
      rw [hK]
      rfl
  have h := this R.length (Nat.le_refl _)
  rwa [List.take_length] at h

namespace Walk

theorem viewHeads_out (a am : Option Addr) (n c nm cm : Nat) (w : World) (h : 40 < n ∨ nm < 3 ∨ 6 < nm) : Calls Try.prog 5 #[.slice a n c, .slice am nm cm] w fun e w' => e = .returned (.bool true) ∧ Below w.heap.size w w' := by
  by_cases h0 : 40 < n
  · have h1 : (40 : Int) < (n : Int) := by omega
    clear h h0
    go_enter Try.func5, Try.ntmps5
    go_wp2
    go_ret
    exact ⟨rfl, Below.refl _ _⟩
  · have h1 : (n : Int) ≤ 40 := by omega
    by_cases h2 : nm < 3
    · have h3 : (nm : Int) < 3 := by omega
      clear h h0 h2
      go_enter Try.func5, Try.ntmps5
      go_wp2
      go_ret
      exact ⟨rfl, Below.refl _ _⟩
    · have h3 : 3 ≤ (nm : Int) := by omega
      have h4 : 6 < (nm : Int) := by omega
      clear h h0 h2
      go_enter Try.func5, Try.ntmps5
      go_wp2
      go_ret
      exact ⟨rfl, Below.refl _ _⟩

set_option maxHeartbeats 8000000 in
set_option maxRecDepth 100000 in
theorem viewHeads_in (a am : Option Addr) (n c nm cm : Nat) (L : List P7) (M : List Int) (w : World) (h : PGood w a n c L) (hM : Sl .i64 w am nm M) (h1 : n ≤ 40) (h2 : 3 ≤ nm) (h3 : nm ≤ 6) : Calls Try.prog 5 #[.slice a n c, .slice am nm cm] w fun e w' => e = .returned (.bool true) ∧ Below w.heap.size w w' := by
  have W := rowed_any a n c L w h (by omega)
  obtain ⟨hq, hrl, hrp⟩ := rowed_ok (L := L) (by have := h.len; omega)
  rw [← h.len] at hrl
  obtain ⟨r, hr⟩ : ∃ r, rowedL L = r := ⟨_, rfl⟩
  unfold PGot at W
  rw [hr] at W hq hrl hrp
  rw [hrl] at W
  have hML := hM.1
  have HD := fun f hf => vOf_heads r M f hf
  have hall : vHeads r [99, 99, 99] = r := vHeads_all r _ fun p hp => by
    have hb := (hrp p hp).2.1
    refine ⟨hb.1, by simp; omega, ?_⟩
    obtain ⟨k, hk⟩ : ∃ k : Nat, p.fr = k := ⟨p.fr.toNat, by omega⟩
    rw [hk]
    have : k = 0 ∨ k = 1 ∨ k = 2 := by omega
    rcases this with rfl | rfl | rfl <;> simp <;> omega
  have hnone := vHeads_none r
  have hhl : (vHeads r M).length ≤ n := by have := sel_len (headK M) r; have e : sel (headK M) r = vHeads r M := rfl; rw [e] at this; omega
  have V1 := fun u a' c' am' cm' (g : PGood u a' n c' r) (s : Sl .i64 u am' nm M) => viewHeads_any a' am' n c' nm cm' r M u g s (by omega) (by omega)
  have V2 := fun u a' c' am' (g : PGood u a' n c' r) (s : Sl .i64 u am' 3 [99, 99, 99]) => viewHeads_any a' am' n c' 3 3 r [99, 99, 99] u g s (by omega) (by omega)
  have V3 := fun u a' c' (g : PGood u a' n c' r) => viewHeads_any a' none n c' 0 0 r [] u g (Sl.nil _ _ _) (by omega) (by omega)
  have O1 := fun u a' c' f (g : PGood u a' n c' r) => refVOf_any a' n c' r f u g (by omega)
  obtain ⟨m, hm⟩ : ∃ m, vHeads r M = m := ⟨_, rfl⟩
  rw [hm] at hhl
  obtain ⟨lm, hlm⟩ : ∃ lm, m.length = lm := ⟨_, rfl⟩
  rw [hlm] at hhl
  unfold PEnd at V1 V2 V3 O1
  simp only [hm, hlm] at V1
  simp only [hall, hrl] at V2
  simp only [hnone, List.length_nil] at V3
  have O2 := fun u a' c' f (g : PGood u a' lm c' m) => refVOf_any a' lm c' m f u g (by omega)
  unfold PEnd at O2
  have HHD : Hid (∀ f : Nat, f < 3 → vOf m (f : Int) = (vOf r (f : Int)).take (M.getD f 0).toNat) := fun f hf => by rw [← hm]; exact HD f (by omega)
  have HRL : Hid (r.length = n) := hrl
  have HM : Hid (Sl .i64 w am nm M) := hM
  have HNM : Hid (3 ≤ nm ∧ lm ≤ 40) := ⟨h2, by omega⟩
  have a1 : (n : Int) ≤ 40 := by omega
  have a2 : 3 ≤ (nm : Int) := by omega
  have a3 : (nm : Int) ≤ 6 := by omega
  clear h hq hrl hrp hr hML HD hall hnone hhl hm hlm hM h1 h2 h3
  go_enter Try.func5, Try.ntmps5
  go_wp2_with fail
  go_at_call 18
  refine W.mono ?_
  rintro e w1 ⟨ar, cr, rfl, gr, hb⟩
  have B1 : Hid (Below w.heap.size w w1) := hb
  have GR1 : Hid (PGood w1 ar n cr r) := gr
  have V1' := V1 w1 ar cr am cm gr (HM.out.below hb)
  clear hb W gr V1
  go_wp2_with fail
  go_at_call 15
  refine V1'.mono ?_
  rintro e w2 ⟨ah, ch, rfl, gm, -, hb⟩
  have B2 : Hid (Below w.heap.size w w2) := B1.out.trans (hb.mono B1.out.size)
  have GR : Hid (PGood w2 ar n cr r) := GR1.out.below hb
  have GM : Hid (PGood w2 ah lm ch m) := gm
  have HM2 : Hid (Sl .i64 w2 am nm M) := HM.out.below B2.out
  clear hb V1' GR1 gm B1 HM
  go_wp2
  go_loopw [7] (fun i wr => ∃ k : Nat, k ≤ 3 ∧ i = .int .i64 k ∧ Hid (Below w2.heap.size w2 wr)) (fun i _ => 3 - (intOf i).toNat)
  case atStart => exact ⟨0, by omega, rfl, Below.refl _ _⟩
  case round =>
    obtain ⟨k, hk, rfl, HB⟩ := hrel
    by_cases hlt : k < 3
    · have i1 : (k : Int) < 3 := by omega
      have i2 : (k : Int) < (nm : Int) := by have := HNM.out.1; omega
      have e2 := HHD.out k hlt
      have O1' := O1 wr ar cr (k : Int) (GR.out.below HB.out)
      have O2' := fun u a' c' => O2 u a' c' (k : Int)
      obtain ⟨bm, om, rfl, hcm⟩ := HM2.out.cells_at (k := k) (by have := HNM.out.1; omega)
      have m0 := hcm k (by have := HNM.out.1; omega)
      have hwm := getD_mem (l := M) (i := k) (by have := HM2.out.1; have := HNM.out.1; omega)
      have hwm2 := wf_i64 (HM2.out.2.1 _ hwm)
      obtain ⟨mq, hmq⟩ : ∃ mq, M.getD k 0 = mq := ⟨_, rfl⟩
      rw [hmq] at m0 e2 hwm2
      obtain ⟨A, hA⟩ : ∃ A, vOf r (k : Int) = A := ⟨_, rfl⟩
      rw [hA] at e2
      have hAl : A.length ≤ n := by have := sel_len (ofK k) r; have e : sel (ofK k) r = vOf r k := rfl; rw [e, hA] at this; have := HRL.out; omega
      obtain ⟨la, hla⟩ : ∃ la, A.length = la := ⟨_, rfl⟩
      rw [hla] at hAl
      simp only [hA, hla] at O1'
      obtain ⟨z, hz⟩ : ∃ z, min mq.toNat la = z := ⟨_, rfl⟩
      have hzl : (A.take mq.toNat).length = z := by rw [List.length_take, hla, hz]
      simp only [e2, hzl] at O2'
      have hzA : A.take mq.toNat = A.take z := by
        rw [← hz]
        rcases Nat.le_total mq.toNat la with h5 | h5
        · rw [Nat.min_eq_left h5]
        · rw [Nat.min_eq_right h5, List.take_of_length_le (by omega), List.take_of_length_le (by omega)]
      rw [hzA] at O2'
      obtain ⟨K, hK⟩ : ∃ K, mq.toNat = K := ⟨_, rfl⟩
      rw [hK] at hz
      have hmx : ∀ (w : World) (ts : Array TypeId) (t : TypeId), (Builtin.max_ ts t #[.int .i64 mq, .int .i64 0]).run Try.prog w = .ok (.int .i64 K) w := by
        intro w ts t
        rw [run_max_int2]
        exact congrArg (fun x => Result.ok (Value.int .i64 x) w) (by split <;> omega)
      have hmn : ∀ (w : World) (ts : Array TypeId) (t : TypeId), (Builtin.min_ ts t #[.int .i64 K, .int .i64 la]).run Try.prog w = .ok (.int .i64 z) w := by
        intro w ts t
        rw [run_min_int2]
        exact congrArg (fun x => Result.ok (Value.int .i64 x) w) (by split <;> omega)
      have z1 : z ≤ la := by omega
      have MC : Hid (w2.cell? ⟨bm, om + k, none⟩ = some (.int .i64 mq)) := m0
      clear hcm m0 hwm hwm2 hmq hA hla hAl hz hzl hzA hK e2 V2 V3 O1 O2
      go_wp2_with fail
      go_at_call 12
      refine O1'.mono ?_
      rintro e w4 ⟨a4, c4, rfl, g4, -, hb⟩
      have B4 : Hid (Below w2.heap.size w2 w4) := HB.out.trans (hb.mono HB.out.size)
      have G4 : Hid (PGood w4 a4 la c4 A) := g4
      have O4 := O2' w4 ah ch (GM.out.below B4.out)
      clear g4 hb O1' O2' HB
      go_wp2_with fail
      go_at_call 12
      refine O4.mono ?_
      rintro e w5 ⟨a5, c5, rfl, g5, -, hb⟩
      have B5 : Hid (Below w2.heap.size w2 w5) := B4.out.trans (hb.mono B4.out.size)
      have G4' : Hid (PGood w5 a4 la c4 A) := G4.out.below hb
      have S := same_true a5 a4 z z c5 c4 (A.take z) w5 g5 (G4'.out.take z z1)
      have m1 := (B5.out.cell (p := ⟨bm, om + k, none⟩) (block_lt_of_cell MC.out)).trans MC.out
      have z3 : z ≤ c4 := by have := G4'.out.cap; omega
      have z4 : ¬ c4 < z := by omega
      have z5 : (z : Int) ≤ (c4 : Int) := by omega
      clear g5 hb O4 B4 G4 G4'
      go_wp2_with fail
      go_at_call 8
      refine S.mono ?_
      rintro e w6 ⟨rfl, hb⟩
      have B6 : Hid (Below w2.heap.size w2 w6) := B5.out.trans (hb.mono B5.out.size)
      clear hb S m1 B5 MC hmx hmn
      go_wp2
      go_roundw
      case rel => exact ⟨k + 1, by omega, by go_num, B6⟩
      case measure => simp [intOf]; omega
    · obtain ⟨wo, rfl⟩ : ∃ wo, wo = wr := ⟨wr, rfl⟩
      have BO : Hid (Below w.heap.size w wo) := B2.out.trans (HB.out.mono B2.out.size)
      have GRO : Hid (PGood wo ar n cr r) := GR.out.below HB.out
      have V2' := V2 _ ar cr _ (GRO.out.below (box_below wo (.cells #[.int .i64 99, .int .i64 99, .int .i64 99] 3))) (Sl.new .i64 wo 3 (0, 0) [99, 99, 99] (by intro x hx; simp at hx; subst hx; rfl))
      have BX : Hid (Below w.heap.size w (wo.alloc (.cells #[.int .i64 99, .int .i64 99, .int .i64 99] 3))) := BO.out.alloc BO.out.size _
      have GX : Hid (PGood (wo.alloc (.cells #[.int .i64 99, .int .i64 99, .int .i64 99] 3)) ar n cr r) := GRO.out.below (box_below _ _)
      clear V2 O1 O2 HB GR GM B2 HHD HM2 HRL BO GRO
      go_wp2_with fail
      go_at_call 15
      refine V2'.mono ?_
      rintro e w3 ⟨a3, c3, rfl, g3, -, hb⟩
      have B3 : Hid (Below w.heap.size w w3) := BX.out.trans (hb.mono BX.out.size)
      have G3 : Hid (PGood w3 ar n cr r) := GX.out.below hb
      have S := same_true a3 ar n n c3 cr r w3 g3 G3.out
      clear g3 hb V2' BX GX
      go_wp2_with fail
      go_at_call 8
      refine S.mono ?_
      rintro e w4 ⟨rfl, hb⟩
      have B4 : Hid (Below w.heap.size w w4) := B3.out.trans (hb.mono B3.out.size)
      have V3' := V3 w4 ar cr (G3.out.below hb)
      clear hb S B3 G3 V3
      go_wp2_with fail
      go_at_call 15
      refine V3'.mono ?_
      rintro e w5 ⟨a5, c5, rfl, -, -, hb⟩
      have B5 : Hid (Below w.heap.size w w5) := B4.out.trans (hb.mono B4.out.size)
      clear hb V3' B4
      go_wp2_with fail
      go_at_call 17
      refine (known14 _).mono ?_
      rintro e w9 ⟨rfl, hb⟩
      have B9 : Hid (Below w.heap.size w w9) := B5.out.trans (hb.mono B5.out.size)
      clear hb
      go_wp2
      go_ret
      exact ⟨rfl, B9.out⟩

theorem viewHeads (a : Option Addr) (n c : Nat) (L : List P7) (am : Option Addr) (nm cm : Nat) (Z : List Int) (w : World) (h : PaysIn w a n c L) (hz : IsRow .i64 w am nm cm Z) : Calls Try.prog 5 #[.slice a n c, .slice am nm cm] w fun e w' => e = .returned (.bool true) ∧ Below w.heap.size w w' := by
  by_cases ho : 40 < n ∨ nm < 3 ∨ 6 < nm
  · exact viewHeads_out a am n c nm cm w ho
  · exact viewHeads_in a am n c nm cm L _ w h.good (hz.sl wf_i64').1 (by omega) (by omega) (by omega)

end Walk
end Go.Proofs.Ytmfmdicdbjghkaa
