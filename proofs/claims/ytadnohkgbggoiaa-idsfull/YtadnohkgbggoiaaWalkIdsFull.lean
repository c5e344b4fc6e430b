/-
  The walk of IdsFull.
-/
import Derived.Test.YtadnohkgbggoiaaWalkIdsAll
namespace Go.Proofs.Ytadnohkgbggoiaa
open Go.RowKit
set_option linter.unusedVariables false
set_option linter.unusedSimpArgs false
namespace Walk

theorem idsFull_out1 (m x : Int) (w : World) (h : m < 0) : Calls Try.prog 5 #[.int .i64 m, .int .i64 x] w fun e w' => e = .returned (.bool true) ∧ Below w.heap.size w w' := by
  go_enter Try.func5, Try.ntmps5
  go_wp2
  go_ret
  exact ⟨rfl, Below.refl _ _⟩
theorem idsFull_out2 (m x : Int) (w : World) (h0 : ¬ m < 0) (h : 20 < m) : Calls Try.prog 5 #[.int .i64 m, .int .i64 x] w fun e w' => e = .returned (.bool true) ∧ Below w.heap.size w w' := by
  go_enter Try.func5, Try.ntmps5
  go_wp2
  go_ret
  exact ⟨rfl, Below.refl _ _⟩
theorem idsFull_out3 (m x : Int) (w : World) (h0 : ¬ m < 0) (h : ¬ 20 < m) (h1 : x < 1) : Calls Try.prog 5 #[.int .i64 m, .int .i64 x] w fun e w' => e = .returned (.bool true) ∧ Below w.heap.size w w' := by
  go_enter Try.func5, Try.ntmps5
  go_wp2
  go_ret
  exact ⟨rfl, Below.refl _ _⟩

/-- What stands there ahead of round k: such, as many as there are rounds, to 200; all above 1000 - k. -/
structure Upto (k : Nat) (l : List Int) : Prop where
  is : isB l = true
  low : k ≤ 201 → l.length = k - 1
  full : 201 ≤ k → l.length = 200
  above : ∀ y ∈ l, 1000 - (k : Int) < y

theorem Upto.next {k : Nat} {l : List Int} (h : Upto k l) (h1 : 1 ≤ k) (h2 : k ≤ 220) : hasB l (1000 - (k : Int)) = false ∧ Upto (k + 1) (addL l (1000 - (k : Int))) ∧ (addE l (1000 - (k : Int)) = if k ≤ 200 then 0 else 3) := by
  have hn : hasB l (1000 - (k : Int)) = false := by
    rw [Bool.eq_false_iff]
    intro hh
    have := h.above _ (has_mem.1 hh)
    omega
  have hi := add_is h.is (x := 1000 - (k : Int)) (by omega)
  refine ⟨hn, ?_, ?_⟩
  · by_cases hk : k ≤ 200
    · have hl := h.low (by omega)
      have e := (add_ins hn (by omega)).1
      rw [e] at hi ⊢
      refine ⟨hi, fun _ => by rw [ins_len]; omega, fun _ => by rw [ins_len]; omega, fun y hy => ?_⟩
      rcases (ins_mem _ _ _).1 hy with rfl | hy
      · omega
      · have := h.above y hy; omega
    · have hl := h.full (by omega)
      have e := (add_full hn (by omega)).1
      rw [e] at hi ⊢
      exact ⟨hi, fun _ => by omega, fun _ => hl, fun y hy => by have := h.above y hy; omega⟩
  · by_cases hk : k ≤ 200
    · rw [if_pos hk]
      exact (add_ins hn (by have := h.low (by omega); omega)).2
    · rw [if_neg hk]
      exact (add_full hn (by have := h.full (by omega); omega)).2

theorem upto_one : Upto 1 [] := ⟨isB_nil, fun _ => rfl, fun h => by omega, fun y hy => by simp at hy⟩

set_option maxHeartbeats 8000000 in
set_option maxRecDepth 100000 in
theorem idsFull_in (m : Nat) (x : Int) (w : World) (hm : m ≤ 20) (h1 : 1 ≤ x) (hx : IntKind.i64.wrap x = x) : Calls Try.prog 5 #[.int .i64 m, .int .i64 x] w fun e w' => e = .returned (.bool true) ∧ Below w.heap.size w w' := by
  have HX : Hid (IntKind.i64.wrap x = x) := hx
  have i0 : (m : Int) ≤ 20 := by omega
  clear hx
  go_enter Try.func5, Try.ntmps5
  go_wp2
  go_loopw [5, 6] (fun t i wr => ∃ (k m0 : Nat) (a3 : Option Addr) (c3 : Nat) (l : List Int), 1 ≤ k ∧ k ≤ 201 + m ∧ i = .int .i64 k ∧ t = .slice a3 m0 c3 ∧ Hid (Good wr a3 m0 c3 l) ∧ Hid (Upto k l) ∧ Hid (Below w.heap.size w wr)) (fun _ i _ => 221 - (intOf i).toNat)
  case atStart => exact ⟨1, 0, none, 0, [], by omega, by omega, rfl, rfl, Good.nil _, upto_one, Below.refl _ _⟩
  case round =>
    obtain ⟨k, m0, a3, c3, l, hk1, hk, rfl, rfl, G, HU, HB⟩ := hrel
    have j1 : (1 : Int) ≤ (k : Int) := by omega
    have j2 : (k : Int) ≤ 221 := by omega
    by_cases hlt : k ≤ 200 + m
    · obtain ⟨u1, u2, u3⟩ := HU.out.next hk1 (by omega)
      have i1 : (k : Int) ≤ 200 + (m : Int) := by omega
      have HM : Hid (m0 ≤ 200) := by have := (isB_up HU.out.is).2; have := G.out.sl.1; show _ ≤ _; omega
      have A0 := idsAdd_any a3 m0 c3 l (1000 - (k : Int)) wr G.out (i64_wf (by omega) (by omega)) (by have := HM.out; omega) (isB_up HU.out.is).1
      have U2 : Hid (Upto (k + 1) (addL l (1000 - (k : Int)))) := u2
      obtain ⟨m1, hm1⟩ : ∃ m1, (addL l (1000 - (k : Int))).length = m1 := ⟨_, rfl⟩
      unfold AddEnd at A0
      rw [u3, hm1] at A0
      clear u1 u2 u3 hm1
      by_cases h200 : k ≤ 200
      · have h2 : (k : Int) ≤ 200 := by omega
        rw [if_pos h200] at A0
        go_wp2_with fail
        go_at_call 9
        refine A0.mono ?_
        rintro e w2 ⟨a2, c2, rfl, g2, hb2⟩
        have G2 : Hid (Good w2 a2 m1 c2 (addL l (1000 - (k : Int)))) := g2
        have B2 : Hid (Below w.heap.size w w2) := HB.out.trans (hb2.mono HB.out.size)
        have IS := idsIs_any a2 m1 c2 (addL l (1000 - (k : Int))) w2 g2.sl
        rw [U2.out.is] at IS
        clear A0 g2 hb2
        go_wp2_with fail
        go_at_call 7
        refine IS.mono ?_
        rintro e w3 ⟨rfl, rfl⟩
        clear IS
        go_wp2
        go_roundw
        case rel => exact ⟨k + 1, m1, a2, c2, addL l (1000 - (k : Int)), by omega, by omega, by go_num, rfl, G2, U2, B2⟩
        case measure => simp [intOf]; omega
      · have h2 : ¬ (k : Int) ≤ 200 := by omega
        rw [if_neg h200] at A0
        go_wp2_with fail
        go_at_call 9
        refine A0.mono ?_
        rintro e w2 ⟨a2, c2, rfl, g2, hb2⟩
        have G2 : Hid (Good w2 a2 m1 c2 (addL l (1000 - (k : Int)))) := g2
        have B2 : Hid (Below w.heap.size w w2) := HB.out.trans (hb2.mono HB.out.size)
        have IS := idsIs_any a2 m1 c2 (addL l (1000 - (k : Int))) w2 g2.sl
        rw [U2.out.is] at IS
        clear A0 g2 hb2
        go_wp2_with fail
        go_at_call 7
        refine IS.mono ?_
        rintro e w3 ⟨rfl, rfl⟩
        clear IS
        go_wp2
        go_roundw
        case rel => exact ⟨k + 1, m1, a2, c2, addL l (1000 - (k : Int)), by omega, by omega, by go_num, rfl, G2, U2, B2⟩
        case measure => simp [intOf]; omega
    · have i1 : 200 + (m : Int) < (k : Int) := by omega
      have L200 : Hid (l.length = 200) := HU.out.full (by omega)
      have M200 : m0 = 200 := by have := L200.out; have := G.out.sl.1; omega
      subst M200
      have A0 := idsAdd_any a3 200 c3 l x wr G.out HX.out (by omega) (isB_up HU.out.is).1
      obtain ⟨m1, hm1⟩ : ∃ m1, (addL l x).length = m1 := ⟨_, rfl⟩
      have H0 := fun u (hb : Below wr.heap.size wr u) => idsHas_any a3 200 c3 l x u (G.out.below hb).sl (by omega) (isB_up HU.out.is).1
      unfold AddEnd at A0
      rw [hm1] at A0
      clear hm1
      cases hq : hasB l x
      · rw [(add_full hq (by have := L200.out; omega)).2] at A0
        rw [hq] at H0
        clear hq
        go_wp2_with fail
        go_at_call 9
        refine A0.mono ?_
        rintro e w2 ⟨a2, c2, rfl, _, hb2⟩
        have B2 : Hid (Below w.heap.size w w2) := HB.out.trans (hb2.mono HB.out.size)
        have H2 := H0 w2 hb2
        clear A0 H0 hb2
        go_wp2_with fail
        go_at_call 12
        refine H2.mono ?_
        rintro e w3 ⟨rfl, rfl⟩
        clear H2
        go_wp2_with fail
        go_at_call 8
        refine (known12 _).mono ?_
        rintro e w9 ⟨rfl, hb9⟩
        have B9 : Hid (Below w.heap.size w w9) := B2.out.trans (hb9.mono B2.out.size)
        clear hb9
        go_wp2
        go_ret
        exact ⟨rfl, B9.out⟩
      · rw [(add_has hq).2] at A0
        rw [hq] at H0
        clear hq
        go_wp2_with fail
        go_at_call 9
        refine A0.mono ?_
        rintro e w2 ⟨a2, c2, rfl, _, hb2⟩
        have B2 : Hid (Below w.heap.size w w2) := HB.out.trans (hb2.mono HB.out.size)
        have H2 := H0 w2 hb2
        clear A0 H0 hb2
        go_wp2_with fail
        go_at_call 12
        refine H2.mono ?_
        rintro e w3 ⟨rfl, rfl⟩
        clear H2
        go_wp2_with fail
        go_at_call 8
        refine (known12 _).mono ?_
        rintro e w9 ⟨rfl, hb9⟩
        have B9 : Hid (Below w.heap.size w w9) := B2.out.trans (hb9.mono B2.out.size)
        clear hb9
        go_wp2
        go_ret
        exact ⟨rfl, B9.out⟩

theorem idsFull (m x : Int) (w : World) (hm : (Lit.int .i64 m).wf = true) (hx : (Lit.int .i64 x).wf = true) : Calls Try.prog 5 #[.int .i64 m, .int .i64 x] w fun e w' => e = .returned (.bool true) ∧ Below w.heap.size w w' := by
  by_cases h0 : m < 0
  · exact idsFull_out1 m x w h0
  · by_cases h1 : 20 < m
    · exact idsFull_out2 m x w h0 h1
    · by_cases h2 : x < 1
      · exact idsFull_out3 m x w h0 h1 h2
      · obtain ⟨n, rfl⟩ : ∃ n : Nat, m = n := ⟨m.toNat, by omega⟩
        exact idsFull_in n x w (by omega) (by omega) (wf_i64' x hx)

end Walk
end Go.Proofs.Ytadnohkgbggoiaa
