/-
  The fourPays payments that the laws of stage 15 make; books that were written, as books.
-/
import Derived.Test.YthpcpbjgihhjeaaSomeLay
import Derived.Test.YthpcpbjgihhjeaaKnown15
namespace Go.Proofs.Ythpcpbjgihhjeaa
open Go.RowKit
set_option linter.unusedVariables false
set_option linter.unusedSimpArgs false

theorem Lay4.bk {w : World} {H z g vc : Nat} {A : List A3} {B0 B1 B2 M P0 P1 P2 : List Int} (h : Lay4 w H z g vc A B0 B1 B2 M P0 P1 P2)
    (ll : B0.length = 3 ∧ B1.length = 3 ∧ B2.length = 3 ∧ M.length = 3 ∧ P0.length = 3 ∧ P1.length = 3 ∧ P2.length = 3) (wB : ∀ z ∈ [B0, B1, B2], W64 z) (wM : W64 M) (wP : ∀ z ∈ [P0, P1, P2], W64 z) : Bk w (ba3 H g vc) ⟨A, [B0, B1, B2], M, [P0, P1, P2]⟩ :=
  (h.lay.newBk ll wB wM wP).bk
/-- Payments that lie by themselves. -/
def PBlk (w : World) (f : Nat) (L : List P7) : Prop := w.heap[f]? = some (.cells (payL L).toArray 46 (0, 0))
theorem PBlk.below {w w' : World} {f : Nat} {L : List P7} (h : PBlk w f L) (k : Below w.heap.size w w') : PBlk w' f L := (k.block _ (lt_of_block h)).trans h
theorem PBlk.far {w : World} {f : Nat} {L : List P7} (h : PBlk w f L) {b : Nat} (hb : f ≠ b) (i : Nat) (u : Value) : PBlk (w.setCell ⟨b, i, none⟩ u) f L := (heap_setCell_other w ⟨b, i, none⟩ f u hb).trans h
theorem PBlk.set {w : World} {f : Nat} {L : List P7} (h : PBlk w f L) (i : Nat) (u : Value) (L' : List P7) (hL : payL L' = (payL L).set i u) : PBlk (w.setCell ⟨f, i, none⟩ u) f L' := by
  unfold PBlk
  rw [heap_setCell_same w f i _ _ _ h, hL]
  simp
theorem PBlk.cell {w : World} {f : Nat} {L : List P7} (h : PBlk w f L) {i : Nat} {v : Value} (hv : (payL L)[i]? = some v) : w.cell? ⟨f, i, none⟩ = some v := by
  rw [cell_of_row w f i _ _ _ h]; simpa using hv
theorem PBlk.free {w : World} {f : Nat} {L : List P7} (h : PBlk w f L) (i : Nat) : w.frozen? ⟨f, i, none⟩ = false := frozen_of_row w f i _ _ h
theorem PGood.lit3 (w : World) (p r s : P7) : PGood (w.alloc (.cells #[.int .i64 p.id, .int .i64 p.fr, .int .i64 p.to, .int .i64 p.am, .int .i64 p.cl, .int .i64 p.st, .int .i64 p.ti, .int .i64 r.id, .int .i64 r.fr, .int .i64 r.to, .int .i64 r.am, .int .i64 r.cl, .int .i64 r.st, .int .i64 r.ti, .int .i64 s.id, .int .i64 s.fr, .int .i64 s.to, .int .i64 s.am, .int .i64 s.cl, .int .i64 s.st, .int .i64 s.ti] 46)) (some ⟨w.heap.size, 0, none⟩) 3 3 [p, r, s] :=
  ⟨⟨rfl, .inr ⟨w.heap.size, 0, rfl, fun i hi => by
    have hi : i < 3 := hi
    rcases (by omega : i = 0 ∨ i = 1 ∨ i = 2) with rfl | rfl | rfl
    · exact ⟨by rw [cell_new]; rfl, by rw [cell_new]; rfl, by rw [cell_new]; rfl, by rw [cell_new]; rfl, by rw [cell_new]; rfl, by rw [cell_new]; rfl, by rw [cell_new]; rfl⟩
    · exact ⟨by rw [cell_new]; rfl, by rw [cell_new]; rfl, by rw [cell_new]; rfl, by rw [cell_new]; rfl, by rw [cell_new]; rfl, by rw [cell_new]; rfl, by rw [cell_new]; rfl⟩
    · exact ⟨by rw [cell_new]; rfl, by rw [cell_new]; rfl, by rw [cell_new]; rfl, by rw [cell_new]; rfl, by rw [cell_new]; rfl, by rw [cell_new]; rfl, by rw [cell_new]; rfl⟩⟩⟩, Nat.le_refl _, by omega, fun h => by cases h⟩

/-- The fourPays. -/
def fourPays : List P7 := [(1, 0, 1, 1, 3, 0, 0), (2, 0, 1, 1, 3, 0, 0), (3, 0, 2, 3, 3, 0, 0), (4, 1, 0, 2, 3, 0, 0)]
end Go.Proofs.Ythpcpbjgihhjeaa
