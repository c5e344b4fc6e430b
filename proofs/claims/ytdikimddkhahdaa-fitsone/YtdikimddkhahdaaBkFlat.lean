/-
  Books that are such, cell by cell.
-/
import Derived.Test.YtdikimddkhahdaaLimTwo
namespace Go.Proofs.Ytdikimddkhahdaa
open Go.RowKit
set_option linter.unusedVariables false
set_option linter.unusedSimpArgs false

structure Flat (w : World) (b : Bks) (n bA oA bB oB bM oM bP oP : Nat) : Prop where
  acc : ∀ i, i < n → w.cell? ⟨bA, oA + i * 3, none⟩ = some (.int .i64 (b.A.getD i a30).1) ∧ w.cell? ⟨bA, oA + i * 3 + 1, none⟩ = some (.int .i64 (b.A.getD i a30).2.1) ∧ w.cell? ⟨bA, oA + i * 3 + 2, none⟩ = some (.int .i64 (b.A.getD i a30).2.2)
  bil : Sq w bB oB n b.B
  mul : ∀ i, i < n → w.cell? ⟨bM, oM + i, none⟩ = some (.int .i64 (b.M.getD i 0))
  pos : Sq w bP oP n b.P
theorem Flat.below {w w' : World} {b : Bks} {n bA oA bB oB bM oM bP oP : Nat} (h : Flat w b n bA oA bB oB bM oM bP oP) (k : Below w.heap.size w w') : Flat w' b n bA oA bB oB bM oM bP oP := by
  refine ⟨fun i hi => ?_, h.bil.below k, fun i hi => ?_, h.pos.below k⟩
  · obtain ⟨c0, c1, c2⟩ := h.acc i hi
    have hl := block_lt_of_cell c0
    exact ⟨(k.cell (p := ⟨bA, oA + i * 3, none⟩) hl).trans c0, (k.cell (p := ⟨bA, oA + i * 3 + 1, none⟩) hl).trans c1, (k.cell (p := ⟨bA, oA + i * 3 + 2, none⟩) hl).trans c2⟩
  · have c := h.mul i hi
    exact (k.cell (p := ⟨bM, oM + i, none⟩) (block_lt_of_cell c)).trans c
theorem Bk.flat {w : World} {x : BA} {b : Bks} (h : Bk w x b) (g : Good b) : ∃ n cA cB cM cP bA oA bB oB bM oM bP oP : Nat,
    x = ⟨some ⟨bA, oA, none⟩, n, cA, some ⟨bB, oB, none⟩, n, cB, some ⟨bM, oM, none⟩, n, cM, some ⟨bP, oP, none⟩, n, cP⟩ ∧ n = b.A.length ∧ Flat w b n bA oA bB oB bM oM bP oP := by
  obtain ⟨aA, nA, cA, aB, nB, cB, aM, nM, cM, aP, nP, cP⟩ := x
  have n1 := g.n1
  obtain ⟨bB, oB, hB, eB, SB⟩ := RowsI.sq h.bil (by omega : 0 < b.A.length) (squareB_yes.2 ⟨g.bil, g.bils⟩)
  obtain ⟨bP, oP, hP, eP, SP⟩ := RowsI.sq h.pos (by omega : 0 < b.A.length) (squareB_yes.2 ⟨g.pos, g.poss⟩)
  have hB : aB = some ⟨bB, oB, none⟩ := hB
  have eB : nB = b.A.length := eB
  have hP : aP = some ⟨bP, oP, none⟩ := hP
  have eP : nP = b.A.length := eP
  have eA : nA = b.A.length := h.acc.1
  have eM : nM = b.M.length := h.mul.1
  have gm := g.mul
  obtain ⟨bA, oA, hA, CA⟩ : ∃ bA oA, aA = some ⟨bA, oA, none⟩ ∧ ∀ i, i < b.A.length → w.cell? ⟨bA, oA + i * 3, none⟩ = some (.int .i64 (b.A.getD i a30).1) ∧ w.cell? ⟨bA, oA + i * 3 + 1, none⟩ = some (.int .i64 (b.A.getD i a30).2.1) ∧ w.cell? ⟨bA, oA + i * 3 + 2, none⟩ = some (.int .i64 (b.A.getD i a30).2.2) := by
    rcases h.acc.2 with h1 | ⟨b1, o1, h1, h2⟩
    · rw [h1] at n1; simp at n1
    · exact ⟨b1, o1, h1, h2⟩
  obtain ⟨bM, oM, hM, CM⟩ : ∃ bM oM, aM = some ⟨bM, oM, none⟩ ∧ ∀ i, i < b.M.length → w.cell? ⟨bM, oM + i, none⟩ = some (.int .i64 (b.M.getD i 0)) := by
    rcases h.mul.2.2 with h1 | ⟨b1, o1, h1, h2⟩
    · rw [h1] at gm; simp at gm; omega
    · exact ⟨b1, o1, h1, h2⟩
  refine ⟨b.A.length, cA, cB, cM, cP, bA, oA, bB, oB, bM, oM, bP, oP, ?_, rfl, ⟨CA, SB, fun i hi => CM i (by omega), SP⟩⟩
  rw [hA, hB, hM, hP, eA, eB, eM, eP, gm]

end Go.Proofs.Ytdikimddkhahdaa
