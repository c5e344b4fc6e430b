/-
  girolaw17.known: three, five.
-/
import Derived.Test.YtcdahjkngejkeaaMostDo
import Derived.Test.YtcdahjkngejkeaaSomeLay
namespace Go.Proofs.Ytcdahjkngejkeaa
open Go.RowKit
set_option linter.unusedVariables false
set_option linter.unusedSimpArgs false

def k17 : Bks := ⟨[(5, 0, 2), (0, 0, 0), (0, 0, 0)], [[-1, -1, -1], [-1, -1, -1], [-1, -1, -1]], [-1, -1, -1], [[0, 0, 0], [0, 0, 0], [0, 0, 0]]⟩
theorem good_k17 : Good k17 := booksB_yes.1 (by decide +kernel)
theorem Lay4.bk17 {w : World} {H z g vc : Nat} {A : List A3} {B0 B1 B2 M P0 P1 P2 : List Int} (h : Lay4 w H z g vc A B0 B1 B2 M P0 P1 P2)
    (ll : B0.length = 3 ∧ B1.length = 3 ∧ B2.length = 3 ∧ M.length = 3 ∧ P0.length = 3 ∧ P1.length = 3 ∧ P2.length = 3) (wB : ∀ z ∈ [B0, B1, B2], W64 z) (wM : W64 M) (wP : ∀ z ∈ [P0, P1, P2], W64 z) : Bk w (ba3 H g vc) ⟨A, [B0, B1, B2], M, [P0, P1, P2]⟩ :=
  (h.lay.newBk ll wB wM wP).bk

set_option maxHeartbeats 8000000 in
set_option maxRecDepth 100000 in
theorem known17 (w : World) : Calls Try.prog 9 #[] w fun e w' => e = .returned (.bool true) ∧ Below w.heap.size w w' := by
  have S := some_zero [5] 0 (some ⟨w.heap.size, 0, none⟩) 1 1 (w.alloc (.cells #[.int .i64 5] 2)) (Sl.new .i64 w 2 (0, 0) [5] (by decide)) (by omega) (by decide) (by decide) (by decide)
  obtain ⟨H, hH⟩ : ∃ H, (w.alloc (.cells #[.int .i64 5] 2)).heap.size = H := ⟨_, rfl⟩
  have HH : Hid (H = w.heap.size + 1) := by show _ = _; rw [← hH, size_alloc]
  unfold SomeEnd3 at S
  rw [hH] at S
  clear hH
  obtain ⟨sB, hsB⟩ : ∃ x, H + 4 = x := ⟨_, rfl⟩
  obtain ⟨sM, hsM⟩ : ∃ x, H + 5 = x := ⟨_, rfl⟩
  obtain ⟨sP, hsP⟩ : ∃ x, H + 9 = x := ⟨_, rfl⟩
  have HLIES : Hid (sB = H + 4 ∧ sM = H + 5 ∧ sP = H + 9) := ⟨hsB.symm, hsM.symm, hsP.symm⟩
  clear hsB hsM hsP
  go_enter Try.func9, Try.ntmps9
  go_wp2_with fail
  go_at_call 11
  refine S.mono ?_
  rintro e w4 ⟨g, vc, he, lay, bel⟩
  have he : e = .returned (.agg #[.slice (some ⟨g, 0, none⟩) 3 vc, .slice (some ⟨sB, 0, none⟩) 3 3, .slice (some ⟨sM, 0, none⟩) 3 3, .slice (some ⟨sP, 0, none⟩) 3 3]) := by rw [he, HLIES.out.1, HLIES.out.2.1, HLIES.out.2.2]; rfl
  subst he
  have b34 : Below w.heap.size w w4 := (box_below _ _).trans (bel.mono (by rw [HH.out]; omega))
  obtain ⟨w5, hw5⟩ : ∃ w5, w5 = w4.alloc (.cells #[.slice (some ⟨g, 0, none⟩) 3 vc, .slice (some ⟨sB, 0, none⟩) 3 3, .slice (some ⟨sM, 0, none⟩) 3 3, .slice (some ⟨sP, 0, none⟩) 3 3] 26) := ⟨_, rfl⟩
  have b5 : Below w.heap.size w w5 := by rw [hw5]; exact b34.alloc b34.size _
  obtain ⟨z, hz⟩ : ∃ z, w4.heap.size = z := ⟨_, rfl⟩
  have HGT : Hid (H + 10 < g ∧ g < z) := ⟨lay.gt, by rw [← hz]; exact lay.lt⟩
  have L5 : Hid (Lay4 w5 H z g vc [(5, 0, 0), (0, 0, 0), (0, 0, 0)] [-1, -1, -1] [-1, -1, -1] [-1, -1, -1] [-1, -1, -1] [0, 0, 0] [0, 0, 0] [0, 0, 0]) := by
    refine ⟨by rw [hw5]; exact lay.below (box_below _ _), HGT.out.2, ?_⟩
    rw [hw5, ← hz, HLIES.out.1, HLIES.out.2.1, HLIES.out.2.2]
    exact heap_alloc_new w4 _
  have W5 : Hid (Below w.heap.size w w5) := b5
  clear S lay bel b34 b5
  go_upto_region 2 with fail
  rw [← hw5]
  clear hw5 hz
  have x0 : w5.cell? ⟨z, 0, none⟩ = some (.slice (some ⟨g, 0, none⟩) 3 vc) := L5.out.cell rfl
  have c2 : w5.cell? ⟨g, 2, none⟩ = some (.int .i64 0) := L5.out.acct (by omega) rfl
  have f2 := L5.out.free 2
  obtain ⟨w6, hw6⟩ : ∃ w6, w6 = w5.setCell ⟨g, 2, none⟩ (.int .i64 2) := ⟨_, rfl⟩
  have L6 : Hid (Lay4 w6 H z g vc [(5, 0, 2), (0, 0, 0), (0, 0, 0)] [-1, -1, -1] [-1, -1, -1] [-1, -1, -1] [-1, -1, -1] [0, 0, 0] [0, 0, 0] [0, 0, 0]) := by
    rw [hw6]
    exact L5.out.setA 2 (.int .i64 2) [(5, 0, 2), (0, 0, 0), (0, 0, 0)] rfl rfl (by omega)
  have W6 : Hid (Below w.heap.size w w6) := by
    have := HGT.out
    have := HH.out
    rw [hw6]
    exact W5.out.setCell (p := ⟨g, 2, none⟩) (by show w.heap.size ≤ g; omega) _
  go_upto_region 3 with fail
  rw [← hw6]
  clear hw6 x0 c2 f2 L5 W5
  have NB : Hid (Bk w6 ⟨some ⟨g, 0, none⟩, 3, vc, some ⟨sB, 0, none⟩, 3, 3, some ⟨sM, 0, none⟩, 3, 3, some ⟨sP, 0, none⟩, 3, 3⟩ k17) := by
    have := L6.out.bk17 ⟨rfl, rfl, rfl, rfl, rfl, rfl, rfl⟩ (by show ∀ z ∈ _, ∀ n ∈ z, IntKind.i64.wrap n = n; decide) (by show ∀ n ∈ _, IntKind.i64.wrap n = n; decide) (by show ∀ z ∈ _, ∀ n ∈ z, IntKind.i64.wrap n = n; decide)
    rw [HLIES.out.1, HLIES.out.2.1, HLIES.out.2.2]
    exact this
  have X : Hid (Box4 w6 z ⟨some ⟨g, 0, none⟩, 3, vc, some ⟨sB, 0, none⟩, 3, 3, some ⟨sM, 0, none⟩, 3, 3, some ⟨sP, 0, none⟩, 3, 3⟩) := by
    refine ⟨L6.out.cell rfl, ?_, ?_, ?_⟩
    · show _ = some (Value.slice (some ⟨sB, 0, none⟩) 3 3)
      rw [HLIES.out.1]; exact L6.out.cell rfl
    · show _ = some (Value.slice (some ⟨sM, 0, none⟩) 3 3)
      rw [HLIES.out.2.1]; exact L6.out.cell rfl
    · show _ = some (Value.slice (some ⟨sP, 0, none⟩) 3 3)
      rw [HLIES.out.2.2]; exact L6.out.cell rfl
  have MO := fun (f t cl : Int) (u : World) (hu : Below w6.heap.size w6 u) => most_any ⟨some ⟨g, 0, none⟩, 3, vc, some ⟨sB, 0, none⟩, 3, 3, some ⟨sM, 0, none⟩, 3, 3, some ⟨sP, 0, none⟩, 3, 3⟩ k17 f t cl u (NB.out.below hu) good_k17
  have M1 := MO 0 1 3
  have M2 := MO 0 1 2
  have M3 := MO 1 0 1
  have M4 := MO 0 0 1
  rw [show mostV k17 0 1 3 = 3 by decide +kernel] at M1
  rw [show mostV k17 0 1 2 = 5 by decide +kernel] at M2
  rw [show mostV k17 1 0 1 = 0 by decide +kernel] at M3
  rw [show mostV k17 0 0 1 = 0 by decide +kernel] at M4
  clear L6 HGT HLIES HH MO NB
  obtain ⟨p0, p1, p2, p3⟩ := X.out
  replace p0 : w6.cell? ⟨z, 0, none⟩ = some (.slice (some ⟨g, 0, none⟩) 3 vc) := p0
  replace p1 : w6.cell? ⟨z, 1, none⟩ = some (.slice (some ⟨sB, 0, none⟩) 3 3) := p1
  replace p2 : w6.cell? ⟨z, 2, none⟩ = some (.slice (some ⟨sM, 0, none⟩) 3 3) := p2
  replace p3 : w6.cell? ⟨z, 3, none⟩ = some (.slice (some ⟨sP, 0, none⟩) 3 3) := p3
  go_wp2_with fail
  go_at_call 7
  refine (M1 _ (Below.refl _ _)).mono ?_
  rintro e w7 ⟨rfl, hb⟩
  have B7 : Hid (Below w6.heap.size w6 w7) := hb
  clear hb M1 p0 p1 p2 p3
  obtain ⟨p0, p1, p2, p3⟩ := X.out.below B7.out
  replace p0 : w7.cell? ⟨z, 0, none⟩ = some (.slice (some ⟨g, 0, none⟩) 3 vc) := p0
  replace p1 : w7.cell? ⟨z, 1, none⟩ = some (.slice (some ⟨sB, 0, none⟩) 3 3) := p1
  replace p2 : w7.cell? ⟨z, 2, none⟩ = some (.slice (some ⟨sM, 0, none⟩) 3 3) := p2
  replace p3 : w7.cell? ⟨z, 3, none⟩ = some (.slice (some ⟨sP, 0, none⟩) 3 3) := p3
  have M2 := M2 w7 B7.out
  go_wp2_with fail
  go_at_call 7
  refine M2.mono ?_
  rintro e w8 ⟨rfl, hb⟩
  have B8 : Hid (Below w6.heap.size w6 w8) := B7.out.trans (hb.mono B7.out.size)
  clear hb M2 p0 p1 p2 p3 B7
  obtain ⟨p0, p1, p2, p3⟩ := X.out.below B8.out
  replace p0 : w8.cell? ⟨z, 0, none⟩ = some (.slice (some ⟨g, 0, none⟩) 3 vc) := p0
  replace p1 : w8.cell? ⟨z, 1, none⟩ = some (.slice (some ⟨sB, 0, none⟩) 3 3) := p1
  replace p2 : w8.cell? ⟨z, 2, none⟩ = some (.slice (some ⟨sM, 0, none⟩) 3 3) := p2
  replace p3 : w8.cell? ⟨z, 3, none⟩ = some (.slice (some ⟨sP, 0, none⟩) 3 3) := p3
  have M3 := M3 w8 B8.out
  go_wp2_with fail
  go_at_call 7
  refine M3.mono ?_
  rintro e w9 ⟨rfl, hb⟩
  have B9 : Hid (Below w6.heap.size w6 w9) := B8.out.trans (hb.mono B8.out.size)
  clear hb M3 p0 p1 p2 p3 B8
  obtain ⟨p0, p1, p2, p3⟩ := X.out.below B9.out
  replace p0 : w9.cell? ⟨z, 0, none⟩ = some (.slice (some ⟨g, 0, none⟩) 3 vc) := p0
  replace p1 : w9.cell? ⟨z, 1, none⟩ = some (.slice (some ⟨sB, 0, none⟩) 3 3) := p1
  replace p2 : w9.cell? ⟨z, 2, none⟩ = some (.slice (some ⟨sM, 0, none⟩) 3 3) := p2
  replace p3 : w9.cell? ⟨z, 3, none⟩ = some (.slice (some ⟨sP, 0, none⟩) 3 3) := p3
  have M4 := M4 w9 B9.out
  go_wp2_with fail
  go_at_call 7
  refine M4.mono ?_
  rintro e wa ⟨rfl, hb⟩
  have Ba : Hid (Below w.heap.size w wa) := W6.out.trans ((B9.out.trans (hb.mono B9.out.size)).mono W6.out.size)
  clear hb M4 p0 p1 p2 p3 B9
  go_wp2
  go_ret
  exact ⟨rfl, Ba.out⟩

end Go.Proofs.Ytcdahjkngejkeaa
