/-
  The walk of IdsTells.
-/
import Derived.Test.YtadnohkgbggoiaaKnown12
import Derived.Test.YtadnohkgbggoiaaIdsRef
import Derived.Test.YtadnohkgbggoiaaArgs
namespace Go.Proofs.Ytadnohkgbggoiaa
open Go.RowKit
set_option linter.unusedVariables false
set_option linter.unusedSimpArgs false
namespace Walk

theorem idsTells_out (a : Option Addr) (n c : Nat) (x : Int) (w : World) (h : 300 < n) : Calls Try.prog 3 #[.slice a n c, .int .i64 x] w fun e w' => e = .returned (.bool true) ∧ Below w.heap.size w w' := by
  have h0 : 300 < (n : Int) := by omega
  go_enter Try.func3, Try.ntmps3
  go_wp2
  go_ret
  exact ⟨rfl, Below.refl _ _⟩

set_option maxHeartbeats 4000000 in
theorem idsTells_no (a : Option Addr) (n c : Nat) (zs : List Int) (x : Int) (w : World) (h : Good w a n c zs) (hn : n ≤ 300) (hz : isB zs = false) : Calls Try.prog 3 #[.slice a n c, .int .i64 x] w fun e w' => e = .returned (.bool true) ∧ Below w.heap.size w w' := by
  have h0 : (n : Int) ≤ 300 := by omega
  have R := refIs_any a n c zs w h.sl (by omega)
  have I := fun q => idsIs_any a n c zs (w.drewN q) (h.sl.drew q)
  rw [hz] at R
  simp only [hz] at I
  clear hz h hn
  go_enter Try.func3, Try.ntmps3
  go_wp2_with fail
  go_at_call 6
  refine R.mono ?_
  rintro e w1 ⟨rfl, q, rfl⟩
  have I1 := I q
  clear I R
  go_wp2_with fail
  go_at_call 7
  refine I1.mono ?_
  rintro e w2 ⟨rfl, hw2⟩
  have B2 : Hid (Below w.heap.size w w2) := by rw [hw2]; exact drawn_below w q
  have I2 : Hid (w2 = w.drewN q) := hw2
  clear hw2
  go_wp2_with fail
  go_at_call 7
  rw [I2.out]
  refine I1.mono ?_
  rintro e w3 ⟨rfl, hw3⟩
  have B3 : Hid (Below w.heap.size w w3) := by rw [hw3]; exact drawn_below w q
  clear hw3 I1 I2 B2
  go_wp2_with fail
  go_at_call 8
  refine (known12 _).mono ?_
  rintro e w9 ⟨rfl, hb9⟩
  have B9 : Hid (Below w.heap.size w w9) := B3.out.trans (hb9.mono B3.out.size)
  clear hb9
  go_wp2
  go_ret
  exact ⟨rfl, B9.out⟩

set_option maxHeartbeats 4000000 in
theorem idsTells_yes (a : Option Addr) (n c : Nat) (zs : List Int) (x : Int) (w : World) (h : Good w a n c zs) (hx : IntKind.i64.wrap x = x) (hn : n ≤ 300) (hz : isB zs = true) : Calls Try.prog 3 #[.slice a n c, .int .i64 x] w fun e w' => e = .returned (.bool true) ∧ Below w.heap.size w w' := by
  have h0 : (n : Int) ≤ 300 := by omega
  have hu := (isB_up hz).1
  have R := refIs_any a n c zs w h.sl (by omega)
  have I := fun q => idsIs_any a n c zs (w.drewN q) (h.sl.drew q)
  rw [hz] at R
  simp only [hz] at I
  have A := fun u (hb : Below w.heap.size w u) => idsAdd_any a n c zs x u (h.below hb) hx (by omega) hu
  have A2 := fun u (hb : Below w.heap.size w u) => refAdd_any a n c zs x u (h.below hb) hx (by omega)
  have H1 := fun u (hb : Below w.heap.size w u) => idsHas_any a n c zs x u (h.below hb).sl (by omega) hu
  have H2 := fun u (hb : Below w.heap.size w u) => refHas_any a n c zs x u (h.below hb).sl (by omega)
  have hlen : (addL zs x).length ≤ 9223372036854775807 := by
    have := h.sl.1
    have h2 := ins_len zs x
    unfold addL
    split
    · omega
    · split <;> omega
  obtain ⟨e0, he0⟩ : ∃ e0, addE zs x = e0 := ⟨_, rfl⟩
  obtain ⟨m0, hm0⟩ : ∃ m0, (addL zs x).length = m0 := ⟨_, rfl⟩
  obtain ⟨b0, hb0⟩ : ∃ b0, hasB zs x = b0 := ⟨_, rfl⟩
  unfold AddEnd at A A2
  simp only [he0, hm0] at A A2
  simp only [hb0] at H1 H2
  rw [hm0] at hlen
  clear hz h hn hu hx he0 hm0 hb0
  go_enter Try.func3, Try.ntmps3
  go_wp2_with fail
  go_at_call 6
  refine R.mono ?_
  rintro e w1 ⟨rfl, q, rfl⟩
  have I1 := I q
  clear I R
  go_wp2_with fail
  go_at_call 7
  refine I1.mono ?_
  rintro e w2 ⟨rfl, hw2⟩
  have B2 : Hid (Below w.heap.size w w2) := by rw [hw2]; exact drawn_below w q
  have A' := A w2 B2.out
  clear hw2 I1 A
  go_wp2_with fail
  go_at_call 9
  refine A'.mono ?_
  rintro e w3 ⟨a3, c3, rfl, g3, hb3⟩
  have B3 : Hid (Below w.heap.size w w3) := B2.out.trans (hb3.mono B2.out.size)
  have G3 : Hid (Good w3 a3 m0 c3 (addL zs x)) := g3
  have A' := A2 w3 B3.out
  clear hb3 g3 A2 B2
  go_wp2_with fail
  go_at_call 10
  refine A'.mono ?_
  rintro e w4 ⟨a4, c4, rfl, g4, hb4⟩
  have B4 : Hid (Below w.heap.size w w4) := B3.out.trans (hb4.mono B3.out.size)
  have S := same_any a3 a4 m0 m0 c3 c4 (addL zs x) (addL zs x) w4 (G3.out.below hb4).sl g4.sl hlen
  rw [decide_eq_true (rfl : addL zs x = addL zs x)] at S
  clear hb4 g4 A' G3 B3
  go_wp2_with fail
  go_at_call 11
  refine S.mono ?_
  rintro e w5 ⟨rfl, q5, hw5⟩
  have B5 : Hid (Below w.heap.size w w5) := by rw [hw5]; exact B4.out.trans ((drawn_below _ _).mono B4.out.size)
  have T1 := H1 w5 B5.out
  have T2 := H2 w5 B5.out
  clear hw5 S B4 H1 H2
  go_wp2_with fail
  go_at_call 12
  refine T1.mono ?_
  rintro e w6 ⟨rfl, rfl⟩
  go_wp2_with fail
  go_at_call 13
  refine T2.mono ?_
  rintro e w7 ⟨rfl, rfl⟩
  cases b0
  all_goals
    go_wp2_with fail
    go_at_call 8
    refine (known12 _).mono ?_
    rintro e w9 ⟨rfl, hb9⟩
    have B9 : Hid (Below w.heap.size w w9) := B5.out.trans (hb9.mono B5.out.size)
    clear hb9
    go_wp2
    go_ret
    exact ⟨rfl, B9.out⟩

theorem idsTells (a : Option Addr) (n c : Nat) (z : List Int) (x : Int) (w : World) (h : IsRow .i64 w a n c z) (hx : (Lit.int .i64 x).wf = true) : Calls Try.prog 3 #[.slice a n c, .int .i64 x] w fun e w' => e = .returned (.bool true) ∧ Below w.heap.size w w' := by
  obtain ⟨h1, h2, h3⟩ := h.sl wf_i64'
  have g : Good w a n c (z.take n) := ⟨h1, h2, h3, h.none⟩
  by_cases hn : 300 < n
  · exact idsTells_out a n c x w hn
  · cases hz : isB (z.take n) with
    | false => exact idsTells_no a n c _ x w g (by omega) hz
    | true => exact idsTells_yes a n c _ x w g (wf_i64' x hx) (by omega) hz

end Walk
end Go.Proofs.Ytadnohkgbggoiaa
