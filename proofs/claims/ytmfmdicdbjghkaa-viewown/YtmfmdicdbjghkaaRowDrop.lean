/-
  row.Drop.
-/
import Derived.Test.YtmfmdicdbjghkaaRowPut
import Derived.Test.YtmfmdicdbjghkaaFactsTail
namespace Go.Proofs.Ytmfmdicdbjghkaa
open Go.RowKit
set_option linter.unusedVariables false
set_option linter.unusedSimpArgs false

/-- A payment that lies at g by itself. -/
def PBox (w : World) (g : Nat) (p : P7) : Prop := w.heap[g]? = some (.cells #[.int .i64 p.id, .int .i64 p.fr, .int .i64 p.to, .int .i64 p.am, .int .i64 p.cl, .int .i64 p.st, .int .i64 p.ti] 34 (0, 0))
theorem PBox.at7 {w : World} {g : Nat} {p : P7} (h : PBox w g p) : At7 w g 0 p :=
  ⟨cell_of_row w g 0 _ _ _ h, cell_of_row w g 1 _ _ _ h, cell_of_row w g 2 _ _ _ h, cell_of_row w g 3 _ _ _ h, cell_of_row w g 4 _ _ _ h, cell_of_row w g 5 _ _ _ h, cell_of_row w g 6 _ _ _ h⟩
theorem PBox.lt {w : World} {g : Nat} {p : P7} (h : PBox w g p) : g < w.heap.size := block_lt_of_cell h.at7.1
theorem PBox.below {w w' : World} {g : Nat} {p : P7} (h : PBox w g p) (hb : Below w.heap.size w w') : PBox w' g p := by
  unfold PBox; rw [hb.block g h.lt]; exact h
theorem PBox.new (w : World) (p : P7) : PBox (w.alloc (.cells #[.int .i64 p.id, .int .i64 p.fr, .int .i64 p.to, .int .i64 p.am, .int .i64 p.cl, .int .i64 p.st, .int .i64 p.ti] 34)) w.heap.size p := heap_alloc_new w _
theorem PBox.set {w : World} {g : Nat} {p : P7} (h : PBox w g p) (q : P7) : PBox (w.setRow g #[.int .i64 q.id, .int .i64 q.fr, .int .i64 q.to, .int .i64 q.am, .int .i64 q.cl, .int .i64 q.st, .int .i64 q.ti]) g q := setRow_heap w g _ _ _ _ h
theorem PBox.far {w : World} {g k : Nat} {p : P7} (h : PBox w g p) (hk : g ≠ k) (cs : Array Value) : PBox (w.setRow k cs) g p := by unfold PBox; rw [setRow_other _ _ _ _ hk]; exact h

/-- A payment is laid over another one. -/
theorem store_pay {ops : Array Oper} {rest : List Oper} {o : Oper} {a : Act} {w : World} {Q : Exit → Act → World → Prop} (hgd : o.guard = none) (x y : Operand) (ho : o.op = .store 34 x y)
    (g : Nat) (p : P7) (hx : a.eval x = .pointer (some ⟨g, 0, none⟩)) (hy : a.eval y = p.val)
    (p' : P7) (hg : PBox w g p')
    (h : wpList Try.prog ops Q rest (a.put o.dst undef) (w.setRow g #[.int .i64 p.id, .int .i64 p.fr, .int .i64 p.to, .int .i64 p.am, .int .i64 p.cl, .int .i64 p.st, .int .i64 p.ti])) : wpList Try.prog ops Q (o :: rest) a w :=
  wpList_store_row hgd 34 x y ho g _ hx hy _ _ hg sizePay (by simp) (by simp [Value.oneCell']) h

/-- What Drop leaves. -/
def DropEnd7 (w : World) (L : List P7) (p : P7) (n : Int) (e : Ending) (w' : World) : Prop := ∃ a c, e = .returned (.tuple #[.slice a L.length c, p.val, .int .i64 n]) ∧ PGood w' a L.length c L ∧ (∀ x, a = some x → w.heap.size ≤ x.block) ∧ Below w.heap.size w w'


end Go.Proofs.Ytmfmdicdbjghkaa
