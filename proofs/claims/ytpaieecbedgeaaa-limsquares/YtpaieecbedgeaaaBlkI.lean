/-
  A block of int64s that a call has made and writes: what its cells hold, and what stands there behind a store.
-/
import Derived.Test.YtpaieecbedgeaaaSl
import Derived.Laws.Rows
import Derived.OneCell
namespace Go.Proofs.Ytpaieecbedgeaaa
open Go.RowKit
set_option linter.unusedVariables false

/-- Block b holds just these numbers, and may be written. -/
def Blk (w : World) (b : Nat) (zs : List Int) : Prop := w.heap[b]? = some (.cells (zs.map (Value.int .i64)).toArray 2 (0, 0))

theorem Blk.lt {w : World} {b : Nat} {zs : List Int} (h : Blk w b zs) : b < w.heap.size := lt_of_block h
theorem Blk.cell {w : World} {b : Nat} {zs : List Int} (h : Blk w b zs) {i : Nat} (hi : i < zs.length) : w.cell? ⟨b, i, none⟩ = some (.int .i64 (zs.getD i 0)) := by
  rw [cell_of_row w b i _ _ _ h]
  simp [hi]
theorem Blk.free {w : World} {b : Nat} {zs : List Int} (h : Blk w b zs) (i : Nat) : w.frozen? ⟨b, i, none⟩ = false := frozen_of_row w b i _ _ h
theorem Blk.set {w : World} {b : Nat} {zs : List Int} (h : Blk w b zs) (i : Nat) (x : Int) : Blk (w.setCell ⟨b, i, none⟩ (.int .i64 x)) b (zs.set i x) := by
  unfold Blk
  rw [heap_setCell_same w b i _ _ _ h]
  simp [List.map_set]
theorem Blk.other {w : World} {b : Nat} {zs : List Int} (h : Blk w b zs) {a : Addr} (ha : b ≠ a.block) (v : Value) : Blk (w.setCell a v) b zs := by
  unfold Blk
  rw [heap_setCell_other w a b v ha]
  exact h
theorem Blk.drewN {w : World} {b : Nat} {zs : List Int} (h : Blk w b zs) (n : Nat) : Blk (w.drewN n) b zs := h
theorem Blk.drew {w : World} {b : Nat} {zs : List Int} (h : Blk w b zs) : Blk w.drew b zs := h
theorem Blk.alloc {w : World} {b : Nat} {zs : List Int} (h : Blk w b zs) (o : Obj) : Blk (w.alloc o) b zs := by
  unfold Blk
  rw [Below.heap_alloc w o b h.lt]
  exact h
theorem Blk.below {B : Nat} {w w' : World} {b : Nat} {zs : List Int} (h : Blk w b zs) (k : Below B w w') (hb : b < B) : Blk w' b zs := (k.block b hb).trans h
theorem Blk.made (w : World) (zs : List Int) : Blk (w.alloc (.cells (zs.map (Value.int .i64)).toArray 2)) w.heap.size zs := heap_alloc_new w _

end Go.Proofs.Ytpaieecbedgeaaa
