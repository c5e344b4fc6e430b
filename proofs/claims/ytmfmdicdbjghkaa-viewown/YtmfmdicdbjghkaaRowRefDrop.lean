/-
  giroref13.Drop.
-/
import Derived.Test.YtmfmdicdbjghkaaRowDrop
import Derived.Test.YtmfmdicdbjghkaaRowRefIns
namespace Go.Proofs.Ytmfmdicdbjghkaa
open Go.RowKit
set_option linter.unusedVariables false
set_option linter.unusedSimpArgs false

/-- What the document's calls leave. -/
def RPutEnd (w : World) (L : List P7) (n : Int) (e : Ending) (w' : World) : Prop := ∃ a c, e = .returned (.tuple #[.slice a L.length c, .int .i64 n]) ∧ PGood w' a L.length c L ∧ Below w.heap.size w w'
def RDropEnd (w : World) (L : List P7) (p : P7) (n : Int) (e : Ending) (w' : World) : Prop := ∃ a c, e = .returned (.tuple #[.slice a L.length c, p.val, .int .i64 n]) ∧ PGood w' a L.length c L ∧ Below w.heap.size w w'

/-- What is answered is the list that was handed in, or lies in new memory. -/
def RDropNew (w : World) (a0 : Option Addr) (L : List P7) (p : P7) (n : Int) (e : Ending) (w' : World) : Prop := ∃ a c, e = .returned (.tuple #[.slice a L.length c, p.val, .int .i64 n]) ∧ PGood w' a L.length c L ∧ (a = a0 ∨ ∀ x, a = some x → w.heap.size ≤ x.block) ∧ Below w.heap.size w w'
theorem RDropNew.end {w : World} {a0 : Option Addr} {L : List P7} {p : P7} {n : Int} {e : Ending} {w' : World} (h : RDropNew w a0 L p n e w') : RDropEnd w L p n e w' := by
  obtain ⟨a, c, h1, h2, _, h3⟩ := h
  exact ⟨a, c, h1, h2, h3⟩

/-- A payment is laid over another one, cell by cell. -/
def payChain (w : World) (g : Nat) (p : P7) : World := ((((((w.setCell ⟨g, 0, none⟩ (.int .i64 p.id)).setCell ⟨g, 1, none⟩ (.int .i64 p.fr)).setCell ⟨g, 2, none⟩ (.int .i64 p.to)).setCell ⟨g, 3, none⟩ (.int .i64 p.am)).setCell ⟨g, 4, none⟩ (.int .i64 p.cl)).setCell ⟨g, 5, none⟩ (.int .i64 p.st)).setCell ⟨g, 6, none⟩ (.int .i64 p.ti)
theorem payChain_eq {w : World} {g : Nat} {q : P7} (h : PBox w g q) (p : P7) : payChain w g p = w.setRow g #[.int .i64 p.id, .int .i64 p.fr, .int .i64 p.to, .int .i64 p.am, .int .i64 p.cl, .int .i64 p.st, .int .i64 p.ti] := by
  unfold payChain
  have step : ∀ (cs : Array Value) (i : Nat) (v : Value), (w.setRow g cs).setCell ⟨g, i, none⟩ v = w.setRow g (cs.setIfInBounds i v) := fun cs i v => by
    rw [setCell_eq_setRow _ _ _ _ _ _ _ (setRow_heap w g _ cs _ _ h), setRow_setRow]
  rw [setCell_eq_setRow _ _ _ _ _ _ _ h, step, step, step, step, step, step]
  rfl


end Go.Proofs.Ytmfmdicdbjghkaa
