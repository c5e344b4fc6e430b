/-
  A block of int64s that a call has made and writes: what its cells hold, and what stands there behind a store; numbers by digits of 65536.
-/
import Derived.Test.YtbnhpehobadebaaRef
import Derived.Laws.Rows
import Derived.OneCell
namespace Go.Proofs.Ytbnhpehobadebaa
open Go.RowKit
set_option linter.unusedVariables false

/-- Block b holds just these numbers, and may be written. -/
def Blk (w : World) (b : Nat) (zs : List Int) : Prop := w.heap[b]? = some (.cells (zs.map (Value.int .i64)).toArray 2 (0, 0))

theorem Blk.lt {w : World} {b : Nat} {zs : List Int} (h : Blk w b zs) : b < w.heap.size := lt_of_block h
theorem Blk.cell {w : World} {b : Nat} {zs : List Int} (h : Blk w b zs) {i : Nat} (hi : i < zs.length) : w.cell? ⟨b, i, none⟩ = some (.int .i64 (zs.getD i 0)) := by
  rw [cell_of_row w b i _ _ _ h]
  simp [hi]
theorem Blk.free {w : World} {b : Nat} {zs : List Int} (h : Blk w b zs) (i : Nat) : w.frozen? ⟨b, i, none⟩ = false := frozen_of_row w b i _ _ h
theorem Blk.set {w : World} {b : Nat} {zs : List Int} (h : Blk w b zs) (i : Nat) (x : Int) : Blk (w.setCell ⟨b, i, none⟩ (.int .i64 x)) b (zs.set i x) := by
  unfold Blk
  rw [heap_setCell_same w b i _ _ _ h]
  simp [List.map_set]
theorem Blk.other {w : World} {b : Nat} {zs : List Int} (h : Blk w b zs) {a : Addr} (ha : b ≠ a.block) (v : Value) : Blk (w.setCell a v) b zs := by
  unfold Blk
  rw [heap_setCell_other w a b v ha]
  exact h
theorem Blk.drewN {w : World} {b : Nat} {zs : List Int} (h : Blk w b zs) (n : Nat) : Blk (w.drewN n) b zs := h
theorem Blk.drew {w : World} {b : Nat} {zs : List Int} (h : Blk w b zs) : Blk w.drew b zs := h
theorem Blk.alloc {w : World} {b : Nat} {zs : List Int} (h : Blk w b zs) (o : Obj) : Blk (w.alloc o) b zs := by
  unfold Blk
  rw [Below.heap_alloc w o b h.lt]
  exact h
theorem Blk.below {B : Nat} {w w' : World} {b : Nat} {zs : List Int} (h : Blk w b zs) (k : Below B w w') (hb : b < B) : Blk w' b zs := (k.block b hb).trans h
theorem Blk.made (w : World) (zs : List Int) : Blk (w.alloc (.cells (zs.map (Value.int .i64)).toArray 2)) w.heap.size zs := heap_alloc_new w _

/-- The number of digits of 65536, the lowest first. -/
def val : List Int → Int
  | [] => 0
  | x :: l => x + 65536 * val l

theorem getD_set_ne (l : List Int) (i j : Nat) (x : Int) (h : i ≠ j) : (l.set i x).getD j 0 = l.getD j 0 := by
  simp [List.getD_eq_getElem?_getD, List.getElem?_set_ne h]
theorem getD_set_self (l : List Int) (i : Nat) (x : Int) (h : i < l.length) : (l.set i x).getD i 0 = x := by
  simp [List.getD_eq_getElem?_getD, h]

theorem val_set (l : List Int) (i : Nat) (x : Int) (h : i < l.length) : val (l.set i x) = val l + (x - l.getD i 0) * 65536 ^ i := by
  induction l generalizing i with
  | nil => simp at h
  | cons y l ih =>
    cases i with
    | zero => simp [val]; omega
    | succ i =>
      simp only [List.set_cons_succ, val]
      rw [ih i (by simpa using h)]
      simp only [List.getD_cons_succ, Int.pow_succ]
      rw [Int.mul_add, ← Int.mul_assoc, Int.mul_comm 65536 (x - l.getD i 0), Int.mul_assoc (x - l.getD i 0), Int.mul_comm 65536 (65536 ^ i)]
      omega

/-- A carry from one digit to the next leaves the number. -/
theorem val_carry (l : List Int) (k : Nat) (h : k + 1 < l.length) :
    val ((l.set (k + 1) (l.getD (k + 1) 0 + l.getD k 0 / 65536)).set k (l.getD k 0 % 65536)) = val l := by
  rw [val_set _ k _ (by simp; omega), val_set l (k + 1) _ h, getD_set_ne l (k + 1) k _ (by omega)]
  have e : l.getD k 0 = 65536 * (l.getD k 0 / 65536) + l.getD k 0 % 65536 := by omega
  generalize l.getD k 0 / 65536 = q at *
  generalize l.getD k 0 % 65536 = r at *
  rw [e, Int.pow_succ]
  have e1 : l.getD (k + 1) 0 + q - l.getD (k + 1) 0 = q := by omega
  have e2 : r - (65536 * q + r) = -(q * 65536) := by omega
  rw [e1, e2, Int.neg_mul, Int.mul_comm (65536 ^ k) 65536, ← Int.mul_assoc]
  omega

end Go.Proofs.Ytbnhpehobadebaa
