/-
  Books of three accounts that a law made and laid into a variable, where each list lies; what is written.
-/
import Derived.Test.YtlackjldopeigaaSomeGood
namespace Go.Proofs.Ytlackjldopeigaa
open Go.RowKit
set_option linter.unusedVariables false
set_option linter.unusedSimpArgs false

/-- With the variable at z. -/
structure Lay4 (w : World) (H z g vc : Nat) (A : List A3) (B0 B1 B2 M P0 P1 P2 : List Int) : Prop where
  lay : Lay3 w H g vc A B0 B1 B2 M P0 P1 P2
  zg : g < z
  box : w.heap[z]? = some (.cells #[.slice (some ⟨g, 0, none⟩) 3 vc, .slice (some ⟨H + 4, 0, none⟩) 3 3, .slice (some ⟨H + 5, 0, none⟩) 3 3, .slice (some ⟨H + 9, 0, none⟩) 3 3] 27 (0, 0))

section
variable {w w' : World} {H z g vc : Nat} {A : List A3} {B0 B1 B2 M P0 P1 P2 : List Int}
theorem Lay3.below (h : Lay3 w H g vc A B0 B1 B2 M P0 P1 P2) (k : Below w.heap.size w w') : Lay3 w' H g vc A B0 B1 B2 M P0 P1 P2 :=
  ⟨h.gt, own_below h.acc k, h.len, (k.block _ (lt_of_block h.spB)).trans h.spB, (k.block _ (lt_of_block h.r0)).trans h.r0, (k.block _ (lt_of_block h.r1)).trans h.r1, (k.block _ (lt_of_block h.r2)).trans h.r2, (k.block _ (lt_of_block h.mul)).trans h.mul, (k.block _ (lt_of_block h.spP)).trans h.spP, (k.block _ (lt_of_block h.q0)).trans h.q0, (k.block _ (lt_of_block h.q1)).trans h.q1, (k.block _ (lt_of_block h.q2)).trans h.q2⟩
theorem Lay3.lt (h : Lay3 w H g vc A B0 B1 B2 M P0 P1 P2) : g < w.heap.size := by
  have c := (own_row_block h.acc).2.2 0 (by omega)
  obtain ⟨_, _, _⟩ := own_row_block h.acc
  rcases h.acc.2 with ⟨hv, h0⟩ | ⟨g', cap, cur, hv, hb, hg, _⟩
  · simp at hv
  · simp at hv
    obtain ⟨rfl, rfl⟩ := hv
    exact lt_of_block hg
theorem Lay4.below (h : Lay4 w H z g vc A B0 B1 B2 M P0 P1 P2) (k : Below w.heap.size w w') : Lay4 w' H z g vc A B0 B1 B2 M P0 P1 P2 :=
  ⟨h.lay.below k, h.zg, (k.block _ (lt_of_block h.box)).trans h.box⟩
theorem Lay4.drew (h : Lay4 w H z g vc A B0 B1 B2 M P0 P1 P2) : Lay4 w.drew H z g vc A B0 B1 B2 M P0 P1 P2 := h.below (drawn_below w 1)
theorem Lay4.cell (h : Lay4 w H z g vc A B0 B1 B2 M P0 P1 P2) {i : Nat} {v : Value} (hi : (#[.slice (some ⟨g, 0, none⟩) 3 vc, .slice (some ⟨H + 4, 0, none⟩) 3 3, .slice (some ⟨H + 5, 0, none⟩) 3 3, .slice (some ⟨H + 9, 0, none⟩) 3 3] : Array Value)[i]? = some v) : w.cell? ⟨z, i, none⟩ = some v := by
  rw [cell_of_row w z i _ _ _ h.box]; exact hi
theorem Lay4.acct (h : Lay4 w H z g vc A B0 B1 B2 M P0 P1 P2) {i : Nat} (hi : i < 9) {v : Value} (hv : (accL A)[i]? = some v) : w.cell? ⟨g, i, none⟩ = some v := by
  rw [(own_row_block h.lay.acc).2.2 i (by omega)]; exact hv
theorem Lay4.free (h : Lay4 w H z g vc A B0 B1 B2 M P0 P1 P2) (i : Nat) : w.frozen? ⟨g, i, none⟩ = false := (own_row_block h.lay.acc).2.1 i
/-- A number of a block beside all others is written. -/
theorem Lay4.setA (h : Lay4 w H z g vc A B0 B1 B2 M P0 P1 P2) (i : Nat) (u : Value) (A' : List A3) (hA : accL A' = (accL A).set i u) (hl : A'.length = 3) (hi : i < 9) : Lay4 (w.setCell ⟨g, i, none⟩ u) H z g vc A' B0 B1 B2 M P0 P1 P2 := by
  have hg := h.lay.gt
  have hz := h.zg
  have k : ∀ j, j ≠ g → (w.setCell ⟨g, i, none⟩ u).heap[j]? = w.heap[j]? := fun j hj => heap_setCell_other w ⟨g, i, none⟩ j u hj
  refine ⟨⟨h.lay.gt, by rw [hA]; exact own_set h.lay.acc (by omega) u, hl, (k _ (by omega)).trans h.lay.spB, (k _ (by omega)).trans h.lay.r0, (k _ (by omega)).trans h.lay.r1, (k _ (by omega)).trans h.lay.r2, (k _ (by omega)).trans h.lay.mul, (k _ (by omega)).trans h.lay.spP, (k _ (by omega)).trans h.lay.q0, (k _ (by omega)).trans h.lay.q1, (k _ (by omega)).trans h.lay.q2⟩, h.zg, (k _ (by omega)).trans h.box⟩
theorem own_lower {B b i : Nat} {T : TypeId} {s n : Nat} {v u : Value} {xs : List Value} (h : w.ownsRow B T s v n xs) (hb : b < B) : (w.setCell ⟨b, i, none⟩ u).ownsRow B T s v n xs :=
  own_kept h fun j hj => heap_setCell_other w ⟨b, i, none⟩ j u (by have hj : B ≤ j := hj; show j ≠ b; omega)
theorem Lay4.setB0 (h : Lay4 w H z g vc A B0 B1 B2 M P0 P1 P2) (i : Nat) (x : Int) : Lay4 (w.setCell ⟨H + 1, i, none⟩ (.int .i64 x)) H z g vc A (B0.set i x) B1 B2 M P0 P1 P2 := by
  have hg := h.lay.gt
  have hz := h.zg
  have k : ∀ j, j ≠ H + 1 → (w.setCell ⟨H + 1, i, none⟩ (.int .i64 x)).heap[j]? = w.heap[j]? := fun j hj => heap_setCell_other w ⟨H + 1, i, none⟩ j _ hj
  exact ⟨⟨h.lay.gt, own_lower h.lay.acc (by omega), h.lay.len, (k _ (by omega)).trans h.lay.spB, h.lay.r0.set i x, (k _ (by omega)).trans h.lay.r1, (k _ (by omega)).trans h.lay.r2, (k _ (by omega)).trans h.lay.mul, (k _ (by omega)).trans h.lay.spP, (k _ (by omega)).trans h.lay.q0, (k _ (by omega)).trans h.lay.q1, (k _ (by omega)).trans h.lay.q2⟩, h.zg, (k _ (by omega)).trans h.box⟩
theorem Lay4.setM (h : Lay4 w H z g vc A B0 B1 B2 M P0 P1 P2) (i : Nat) (x : Int) : Lay4 (w.setCell ⟨H + 5, i, none⟩ (.int .i64 x)) H z g vc A B0 B1 B2 (M.set i x) P0 P1 P2 := by
  have hg := h.lay.gt
  have hz := h.zg
  have k : ∀ j, j ≠ H + 5 → (w.setCell ⟨H + 5, i, none⟩ (.int .i64 x)).heap[j]? = w.heap[j]? := fun j hj => heap_setCell_other w ⟨H + 5, i, none⟩ j _ hj
  exact ⟨⟨h.lay.gt, own_lower h.lay.acc (by omega), h.lay.len, (k _ (by omega)).trans h.lay.spB, (k _ (by omega)).trans h.lay.r0, (k _ (by omega)).trans h.lay.r1, (k _ (by omega)).trans h.lay.r2, h.lay.mul.set i x, (k _ (by omega)).trans h.lay.spP, (k _ (by omega)).trans h.lay.q0, (k _ (by omega)).trans h.lay.q1, (k _ (by omega)).trans h.lay.q2⟩, h.zg, (k _ (by omega)).trans h.box⟩
theorem Lay4.setP0 (h : Lay4 w H z g vc A B0 B1 B2 M P0 P1 P2) (i : Nat) (x : Int) : Lay4 (w.setCell ⟨H + 6, i, none⟩ (.int .i64 x)) H z g vc A B0 B1 B2 M (P0.set i x) P1 P2 := by
  have hg := h.lay.gt
  have hz := h.zg
  have k : ∀ j, j ≠ H + 6 → (w.setCell ⟨H + 6, i, none⟩ (.int .i64 x)).heap[j]? = w.heap[j]? := fun j hj => heap_setCell_other w ⟨H + 6, i, none⟩ j _ hj
  exact ⟨⟨h.lay.gt, own_lower h.lay.acc (by omega), h.lay.len, (k _ (by omega)).trans h.lay.spB, (k _ (by omega)).trans h.lay.r0, (k _ (by omega)).trans h.lay.r1, (k _ (by omega)).trans h.lay.r2, (k _ (by omega)).trans h.lay.mul, (k _ (by omega)).trans h.lay.spP, h.lay.q0.set i x, (k _ (by omega)).trans h.lay.q1, (k _ (by omega)).trans h.lay.q2⟩, h.zg, (k _ (by omega)).trans h.box⟩
theorem Lay4.setP1 (h : Lay4 w H z g vc A B0 B1 B2 M P0 P1 P2) (i : Nat) (x : Int) : Lay4 (w.setCell ⟨H + 7, i, none⟩ (.int .i64 x)) H z g vc A B0 B1 B2 M P0 (P1.set i x) P2 := by
  have hg := h.lay.gt
  have hz := h.zg
  have k : ∀ j, j ≠ H + 7 → (w.setCell ⟨H + 7, i, none⟩ (.int .i64 x)).heap[j]? = w.heap[j]? := fun j hj => heap_setCell_other w ⟨H + 7, i, none⟩ j _ hj
  exact ⟨⟨h.lay.gt, own_lower h.lay.acc (by omega), h.lay.len, (k _ (by omega)).trans h.lay.spB, (k _ (by omega)).trans h.lay.r0, (k _ (by omega)).trans h.lay.r1, (k _ (by omega)).trans h.lay.r2, (k _ (by omega)).trans h.lay.mul, (k _ (by omega)).trans h.lay.spP, (k _ (by omega)).trans h.lay.q0, h.lay.q1.set i x, (k _ (by omega)).trans h.lay.q2⟩, h.zg, (k _ (by omega)).trans h.box⟩
/-- Blocks beside it are written. -/
theorem Lay4.far (h : Lay4 w H z g vc A B0 B1 B2 M P0 P1 P2) {f : Nat} (hf : z < f) (i : Nat) (u : Value) : Lay4 (w.setCell ⟨f, i, none⟩ u) H z g vc A B0 B1 B2 M P0 P1 P2 := by
  have hg := h.lay.gt
  have hz := h.zg
  have k : ∀ j, j ≠ f → (w.setCell ⟨f, i, none⟩ u).heap[j]? = w.heap[j]? := fun j hj => heap_setCell_other w ⟨f, i, none⟩ j _ hj
  refine ⟨⟨h.lay.gt, ?_, h.lay.len, (k _ (by omega)).trans h.lay.spB, (k _ (by omega)).trans h.lay.r0, (k _ (by omega)).trans h.lay.r1, (k _ (by omega)).trans h.lay.r2, (k _ (by omega)).trans h.lay.mul, (k _ (by omega)).trans h.lay.spP, (k _ (by omega)).trans h.lay.q0, (k _ (by omega)).trans h.lay.q1, (k _ (by omega)).trans h.lay.q2⟩, h.zg, (k _ (by omega)).trans h.box⟩
  refine ⟨h.lay.acc.1, ?_⟩
  rcases h.lay.acc.2 with h0 | ⟨g', cap, cur, hv, hb, hg', rest⟩
  · exact .inl h0
  · have : g' = g := by simp at hv; exact hv.1.symm
    exact .inr ⟨g', cap, cur, hv, hb, (k g' (by omega)).trans hg', rest⟩
end
/-- What some makes of nobody's numbers, laid into a variable. -/
theorem some_zero (zs : List Int) (way : Int) (a : Option Addr) (n c : Nat) (w : World) (h : Sl .i64 w a n zs) (hn : n ≤ 9223372036854775807) (h1 : bitB way 1 = false) (h2 : bitB way 2 = false) (h4 : bitB way 4 = false) :
    Calls Try.prog 9 #[.slice a n c, .int .i64 way] w (SomeEnd3 w [(balV zs 0, 0, 0), (balV zs 1, 0, 0), (balV zs 2, 0, 0)] [-1, -1, -1] [-1, -1, -1] [-1, -1, -1] [-1, -1, -1] [0, 0, 0] [0, 0, 0] [0, 0, 0]) := by
  have := some3_any a n c zs way w h hn
  rw [h1, h2, h4] at this
  exact this

end Go.Proofs.Ytlackjldopeigaa
