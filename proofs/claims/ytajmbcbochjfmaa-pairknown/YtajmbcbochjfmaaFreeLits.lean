/-
  Books of three accounts and payments in variables, some of whose numbers are written.
-/
import Derived.Test.YtajmbcbochjfmaaSomeLay
import Derived.Test.YtajmbcbochjfmaaRowRefs
namespace Go.Proofs.Ytajmbcbochjfmaa
open Go.RowKit
set_option linter.unusedVariables false
set_option linter.unusedSimpArgs false

/-- A block below all of them is written. -/
theorem Lay4.near {w : World} {H z g vc : Nat} {A : List A3} {B0 B1 B2 M P0 P1 P2 : List Int} (h : Lay4 w H z g vc A B0 B1 B2 M P0 P1 P2) {f : Nat} (hf : f < H) (i : Nat) (u : Value) : Lay4 (w.setCell ⟨f, i, none⟩ u) H z g vc A B0 B1 B2 M P0 P1 P2 := by
  have hg := h.lay.gt
  have hz := h.zg
  have k : ∀ j, j ≠ f → (w.setCell ⟨f, i, none⟩ u).heap[j]? = w.heap[j]? := fun j hj => heap_setCell_other w ⟨f, i, none⟩ j u hj
  refine ⟨⟨h.lay.gt, ?_, h.lay.len, (k _ (by omega)).trans h.lay.spB, (k _ (by omega)).trans h.lay.r0, (k _ (by omega)).trans h.lay.r1, (k _ (by omega)).trans h.lay.r2, (k _ (by omega)).trans h.lay.mul, (k _ (by omega)).trans h.lay.spP, (k _ (by omega)).trans h.lay.q0, (k _ (by omega)).trans h.lay.q1, (k _ (by omega)).trans h.lay.q2⟩, h.zg, (k _ (by omega)).trans h.box⟩
  exact own_kept h.lay.acc fun j hj => k j (by have hj : H + 11 ≤ j := hj; omega)
theorem Lay4.bk4 {w : World} {H z g vc : Nat} {A : List A3} {B0 B1 B2 M P0 P1 P2 : List Int} (h : Lay4 w H z g vc A B0 B1 B2 M P0 P1 P2)
    (ll : B0.length = 3 ∧ B1.length = 3 ∧ B2.length = 3 ∧ M.length = 3 ∧ P0.length = 3 ∧ P1.length = 3 ∧ P2.length = 3) (wB : ∀ z ∈ [B0, B1, B2], W64 z) (wM : W64 M) (wP : ∀ z ∈ [P0, P1, P2], W64 z) : Bk w (ba3 H g vc) ⟨A, [B0, B1, B2], M, [P0, P1, P2]⟩ :=
  (h.lay.newBk ll wB wM wP).bk
/-- A payment's variable: a number of it is written; another block is. -/
theorem PBox.cellFar {w : World} {g b : Nat} {p : P7} (h : PBox w g p) (hb : g ≠ b) (i : Nat) (u : Value) : PBox (w.setCell ⟨b, i, none⟩ u) g p := (heap_setCell_other w ⟨b, i, none⟩ g u hb).trans h
theorem PBox.cellSet {w : World} {g : Nat} {p : P7} (h : PBox w g p) (i : Nat) (u : Value) (q : P7) (hq : (#[.int .i64 p.id, .int .i64 p.fr, .int .i64 p.to, .int .i64 p.am, .int .i64 p.cl, .int .i64 p.st, .int .i64 p.ti] : Array Value).setIfInBounds i u = #[.int .i64 q.id, .int .i64 q.fr, .int .i64 q.to, .int .i64 q.am, .int .i64 q.cl, .int .i64 q.st, .int .i64 q.ti]) : PBox (w.setCell ⟨g, i, none⟩ u) g q := by
  unfold PBox
  rw [heap_setCell_same w g i _ _ _ h, ← hq]
theorem PBox.free {w : World} {g : Nat} {p : P7} (h : PBox w g p) (i : Nat) : w.frozen? ⟨g, i, none⟩ = false := frozen_of_row w g i _ _ h
/-- Three payments in a literal. -/
theorem PGood.lits3 (w : World) (p r s : P7) : PGood (w.alloc (.cells #[.int .i64 p.id, .int .i64 p.fr, .int .i64 p.to, .int .i64 p.am, .int .i64 p.cl, .int .i64 p.st, .int .i64 p.ti, .int .i64 r.id, .int .i64 r.fr, .int .i64 r.to, .int .i64 r.am, .int .i64 r.cl, .int .i64 r.st, .int .i64 r.ti, .int .i64 s.id, .int .i64 s.fr, .int .i64 s.to, .int .i64 s.am, .int .i64 s.cl, .int .i64 s.st, .int .i64 s.ti] 31)) (some ⟨w.heap.size, 0, none⟩) 3 3 [p, r, s] :=
  ⟨⟨rfl, .inr ⟨w.heap.size, 0, rfl, fun i hi => by
    have hi : i < 3 := hi
    rcases (by omega : i = 0 ∨ i = 1 ∨ i = 2) with rfl | rfl | rfl
    · exact ⟨by rw [cell_new]; rfl, by rw [cell_new]; rfl, by rw [cell_new]; rfl, by rw [cell_new]; rfl, by rw [cell_new]; rfl, by rw [cell_new]; rfl, by rw [cell_new]; rfl⟩
    · exact ⟨by rw [cell_new]; rfl, by rw [cell_new]; rfl, by rw [cell_new]; rfl, by rw [cell_new]; rfl, by rw [cell_new]; rfl, by rw [cell_new]; rfl, by rw [cell_new]; rfl⟩
    · exact ⟨by rw [cell_new]; rfl, by rw [cell_new]; rfl, by rw [cell_new]; rfl, by rw [cell_new]; rfl, by rw [cell_new]; rfl, by rw [cell_new]; rfl, by rw [cell_new]; rfl⟩⟩⟩, Nat.le_refl _, by omega, fun h => by cases h⟩

end Go.Proofs.Ytajmbcbochjfmaa
