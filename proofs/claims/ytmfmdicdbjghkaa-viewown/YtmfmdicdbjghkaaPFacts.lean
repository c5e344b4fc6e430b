/-
  Rows of payments as facts of operations in a region that draws; rows laid for slices.Concat.
-/
import Derived.Test.YtmfmdicdbjghkaaPayConcat
import Derived.Test.YtmfmdicdbjghkaaFactK
namespace Go.Proofs.Ytmfmdicdbjghkaa
open Go.RowKit
set_option linter.unusedVariables false
set_option linter.unusedSimpArgs false

/-- A row of these payments, in no block below B. -/
def Fact.pnew (B : Nat) (L : List P7) : Fact := ⟨fun w v => ∃ a c, v = .slice a L.length c ∧ PGood w a L.length c L ∧ ∀ x, a = some x → B ≤ x.block, fun _ _ _ hb ⟨a, c, h1, h2, h3⟩ => ⟨a, c, h1, h2.below hb, h3⟩⟩
/-- Rows one behind the other. -/
def Fact.spine (Ls : List (List P7)) : Fact := ⟨fun w v => ∃ b, v = .slice (some ⟨b, 0, none⟩) Ls.length Ls.length ∧ Spine w b Ls, fun _ _ _ hb ⟨b, h1, h2⟩ => ⟨b, h1, h2.below hb⟩⟩
theorem pend_fact {B : Nat} {f : FuncId} {args : Array Value} {w : World} {L : List P7} (hB : B ≤ w.heap.size) (h : Calls Try.prog f args w (PEnd w L)) : Calls Try.prog f args w fun e w' => ∃ v, e = .returned v ∧ Below w.heap.size w w' ∧ (Fact.pnew B L).1 w' v :=
  h.mono fun e w' ⟨a, c, h1, h2, h4, h3⟩ => ⟨_, h1, h3, a, c, rfl, h2, fun x hx => Nat.le_trans hB (h4 x hx)⟩

theorem Spine.new2 {w : World} {a1 a2 : Option Addr} {n1 n2 c1 c2 : Nat} {l1 l2 : List P7} (g1 : PGood w a1 n1 c1 l1) (g2 : PGood w a2 n2 c2 l2) (t : TypeId) : Spine (w.alloc (.cells #[.slice a1 n1 c1, .slice a2 n2 c2] t)) w.heap.size [l1, l2] := by
  intro i hi
  have hi : i < 2 := hi
  rcases (by omega : i = 0 ∨ i = 1) with rfl | rfl
  · exact ⟨a1, n1, c1, by rw [cell_new]; rfl, g1.below (box_below _ _)⟩
  · exact ⟨a2, n2, c2, by rw [cell_new]; rfl, g2.below (box_below _ _)⟩
theorem Spine.new3 {w : World} {a1 a2 a3 : Option Addr} {n1 n2 n3 c1 c2 c3 : Nat} {l1 l2 l3 : List P7} (g1 : PGood w a1 n1 c1 l1) (g2 : PGood w a2 n2 c2 l2) (g3 : PGood w a3 n3 c3 l3) (t : TypeId) : Spine (w.alloc (.cells #[.slice a1 n1 c1, .slice a2 n2 c2, .slice a3 n3 c3] t)) w.heap.size [l1, l2, l3] := by
  intro i hi
  have hi : i < 3 := hi
  rcases (by omega : i = 0 ∨ i = 1 ∨ i = 2) with rfl | rfl | rfl
  · exact ⟨a1, n1, c1, by rw [cell_new]; rfl, g1.below (box_below _ _)⟩
  · exact ⟨a2, n2, c2, by rw [cell_new]; rfl, g2.below (box_below _ _)⟩
  · exact ⟨a3, n3, c3, by rw [cell_new]; rfl, g3.below (box_below _ _)⟩

end Go.Proofs.Ytmfmdicdbjghkaa
