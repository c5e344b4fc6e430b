/-
  The contracts of giroref1's product and Worth over this seat's program.
-/
import Derived.Test.YthpcpbjgihhjeaaBy
namespace Go.Proofs.Ythpcpbjgihhjeaa
open Go.RowKit
set_option linter.unusedVariables false

theorem val_take (l : List Int) (k : Nat) (h : k < l.length) : val (l.take (k + 1)) = val (l.take k) + l.getD k 0 * 65536 ^ k := by
  induction l generalizing k with
  | nil => simp at h
  | cons y l ih =>
    cases k with
    | zero => simp [val]
    | succ k =>
      simp only [List.take_succ_cons, val]
      rw [ih k (by simpa using h)]
      simp only [List.getD_cons_succ, Int.pow_succ]
      rw [Int.mul_add, Int.mul_comm 65536 (l.getD k 0 * 65536 ^ k), Int.mul_assoc]
      omega

/-- A number's four digits. -/
def four (a : Int) : List Int := [a % 65536, a / 65536 % 65536, a / 4294967296 % 65536, a / 281474976710656 % 65536]
theorem val_four (a : Int) (a0 : 0 ≤ a) (a1 : a ≤ 9223372036854775807) : val (four a) = a := by simp only [four, val]; omega
theorem four_get (a : Int) (j : Nat) : 0 ≤ (four a).getD j 0 ∧ (four a).getD j 0 < 65536 := by
  match j with
  | 0 => simp [four]; omega
  | 1 => simp [four]; omega
  | 2 => simp [four]; omega
  | 3 => simp [four]; omega
  | j + 4 => simp [four]

/-- What a round of product's inner loop does to the number. -/
theorem product_step (ys xs yd : List Int) (i k : Nat) (x y o : Int) (hi : i < xs.length) (hk : k < yd.length) (hl : i + k < ys.length)
    (hx : xs.getD i 0 = x) (hy : yd.getD k 0 = y) (ho : ys.getD (i + k) 0 = o)
    (hv : val ys = val (xs.take i) * val yd + x * 65536 ^ i * val (yd.take k)) :
    val (ys.set (i + k) (o + x * y)) = val (xs.take i) * val yd + x * 65536 ^ i * val (yd.take (k + 1)) := by
  rw [val_set _ _ _ hl, ho, hv, val_take yd k hk, hy]
  have e1 : o + x * y - o = x * y := by omega
  rw [e1, Int.mul_add, Int.pow_add]
  have e2 : x * y * (65536 ^ i * 65536 ^ k) = x * 65536 ^ i * (y * 65536 ^ k) := by
    rw [Int.mul_assoc x y, Int.mul_assoc x (65536 ^ i), Int.mul_left_comm y]
  rw [e2]
  omega

theorem Try.info2 : (Try.prog.info? 2).map (fun i => (i.zero, i.size, i.bytes)) = some (some (.int .i64 0), 1, 8) := by kernel_rfl

/-- make([]int64, 9). -/
theorem make9 (w : World) : (Instr.makeSlice 24 (.int .i64 9) (.int .i64 9)).run Try.prog w =
    .ok (.slice (some ⟨w.heap.size, 0, none⟩) 9 9) (w.alloc (.cells (([0, 0, 0, 0, 0, 0, 0, 0, 0] : List Int).map (Value.int .i64)).toArray 2)) := by
  obtain ⟨i, hi, hz0, hz1, hz2⟩ := info_parts Try.info2
  have h := run_make (P := Try.prog) w 24 2 i (.int .i64 0) Try.underlying24 hi hz0 .i64 .i64 9 9 (by decide) (by decide) (by rw [hz2]; decide) (by decide)
  have hc : madeCells #[Value.int .i64 0] 9 = (([0, 0, 0, 0, 0, 0, 0, 0, 0] : List Int).map (Value.int .i64)).toArray := by
    apply Array.toList_inj.mp
    rw [toList_madeCells_one]
    rfl
  rw [h, hz1, ← hc]
  rfl

/-! ### Worth -/
/-- The highest digit is no greater than the number allows. -/
theorem top_digit (ys : List Int) (hl : ys.length = 9) (hd : ∀ j, j < 8 → 0 ≤ ys.getD j 0 ∧ ys.getD j 0 < 65536) (h8 : 0 ≤ ys.getD 8 0) (hv : val ys < 22300745198530623141535718272648361505980416) : ∀ j, j < 9 → 0 ≤ ys.getD j 0 ∧ ys.getD j 0 < 65536 := by
  intro j hj
  by_cases e : j < 8
  · exact hd j e
  · obtain rfl : j = 8 := by omega
    refine ⟨h8, ?_⟩
    match ys, hl with
    | [y0, y1, y2, y3, y4, y5, y6, y7, y8], _ =>
      have d0 := hd 0 (by omega); have d1 := hd 1 (by omega); have d2 := hd 2 (by omega); have d3 := hd 3 (by omega); have d4 := hd 4 (by omega)
      have d5 := hd 5 (by omega); have d6 := hd 6 (by omega); have d7 := hd 7 (by omega)
      simp at d0 d1 d2 d3 d4 d5 d6 d7
      simp only [val] at hv
      simp
      omega

end Go.Proofs.Ythpcpbjgihhjeaa
