/-
  fits: what payments move, as 42 numbers; what one sends and gets in all.
-/
import Derived.Test.YtdikimddkhahdaaRowBase
import Derived.Deep.MidRow
import Derived.Deep.WholeRow
namespace Go.Proofs.Ytdikimddkhahdaa
open Go.RowKit
set_option linter.unusedVariables false
set_option linter.unusedSimpArgs false

/-- The cells of numbers. -/
def mvA (z : List Int) : Array Value := (z.map (Value.int .i64)).toArray
theorem mvA_at (z : List Int) (j : Nat) (hj : j < z.length) : (mvA z)[j]? = some (.int .i64 (z.getD j 0)) := by simp [mvA, hj]
theorem mvA_size (z : List Int) : (mvA z).size = z.length := by simp [mvA]
theorem mvA_one (z : List Int) : (mvA z).all (·.oneCell') = true := by
  rw [Array.all_eq_true_iff_forall_mem]
  intro v hv
  simp only [mvA, List.mem_toArray, List.mem_map] at hv
  obtain ⟨n, _, rfl⟩ := hv
  rfl
theorem infoMv : (Try.prog.info? 60).map (·.size) = some 42 := by kernel_rfl
theorem infoSix : (Try.prog.info? 57).map (·.size) = some 6 := by kernel_rfl
theorem infoSq : (Try.prog.info? 58).map (·.size) = some 36 := by kernel_rfl
/-- They lie at g. -/
def MvAt (w : World) (g : Nat) (z : List Int) : Prop := ∀ j, j < 42 → w.cell? ⟨g, j, none⟩ = some (.int .i64 (z.getD j 0))
theorem MvAt.new (w : World) (z : List Int) (hz : z.length = 42) (t : TypeId) (fr : Nat × Nat) : MvAt (w.alloc (.cells (mvA z) t fr)) w.heap.size z := fun j hj => by
  rw [cell_new, mvA_at z j (by omega)]
theorem MvAt.below {w w' : World} {g : Nat} {z : List Int} (h : MvAt w g z) (hb : Below w.heap.size w w') : MvAt w' g z := fun j hj => by
  have h0 := h j hj
  rw [hb.cell (p := ⟨g, j, none⟩) (block_lt_of_cell h0)]; exact h0
theorem MvAt.range {w : World} {g : Nat} {z : List Int} (h : MvAt w g z) (hz : z.length = 42) : w.rangeAt g 0 (z.map (Value.int .i64)) := fun j v hv => by
  have hj : j < 42 := by have := (List.getElem?_eq_some_iff.1 hv).1; simp at this; omega
  rw [Nat.zero_add, h j hj, ← hv]
  simp [hz, hj]
theorem index_six (cs : Array Value) (k : Nat) (hk : k < 6) (v : Value) (hv : cs[k]? = some v) (w : World) : (Instr.index 57 (.agg cs) (.int .i64 k)).run Try.prog w = .ok v w := by
  have h1 : (k : Int) < 6 := by omega
  have h2 : (Try.prog.info? 2).map (·.size) = some 1 := by kernel_rfl
  cases hq : Try.prog.info? 2 with
  | none => simp [hq] at h2
  | some i =>
    have h3 : i.size = 1 := by simpa [hq] using h2
    simp [Instr.index, asIntOf, part, isAgg, sizeOf, typeInfo, run_underlying Try.underlying57, run_underlying Try.underlying2, h1, hk, hq, h3, hv, go_sem]
/-- What one sends to all; what it gets of all. -/
def outZ (z : List Int) (i : Nat) : Int := z.getD (i * 6) 0 + z.getD (i * 6 + 1) 0 + z.getD (i * 6 + 2) 0 + z.getD (i * 6 + 3) 0 + z.getD (i * 6 + 4) 0 + z.getD (i * 6 + 5) 0
def colZ (z : List Int) (i : Nat) : Nat → Int
  | 0 => 0
  | k + 1 => colZ z i k + z.getD (k * 6 + i) 0
def inZ (z : List Int) (i : Nat) : Int := colZ z i 6
/-- They may be such. -/
structure MvOk (z : List Int) : Prop where
  len : z.length = 42
  le : ∀ j, 0 ≤ z.getD j 0 ∧ z.getD j 0 ≤ 70368744177664

set_option maxHeartbeats 2000000 in
theorem out_any (z : List Int) (i : Nat) (w : World) (h : MvOk z) (hi : i < 6) : Calls Try.prog 37 #[.agg (mvA z), .int .i64 i] w fun e w' => e = .returned (.int .i64 (outZ z i)) ∧ Below w.heap.size w w' := by
  have H := MvAt.new w z h.len 60 (0, 0)
  have b0 := h.le (i * 6)
  have b1 := h.le (i * 6 + 1)
  have b2 := h.le (i * 6 + 2)
  have b3 := h.le (i * 6 + 3)
  have b4 := h.le (i * 6 + 4)
  have b5 := h.le (i * 6 + 5)
  have c0 := H (i * 6) (by omega)
  have c1 := H (i * 6 + 1) (by omega)
  have c2 := H (i * 6 + 2) (by omega)
  have c3 := H (i * 6 + 3) (by omega)
  have c4 := H (i * 6 + 4) (by omega)
  have c5 := H (i * 6 + 5) (by omega)
  have i1 : (i : Int) < 6 := by omega
  unfold outZ
  generalize z.getD (i * 6) 0 = x0 at b0 c0 ⊢
  generalize z.getD (i * 6 + 1) 0 = x1 at b1 c1 ⊢
  generalize z.getD (i * 6 + 2) 0 = x2 at b2 c2 ⊢
  generalize z.getD (i * 6 + 3) 0 = x3 at b3 c3 ⊢
  generalize z.getD (i * 6 + 4) 0 = x4 at b4 c4 ⊢
  generalize z.getD (i * 6 + 5) 0 = x5 at b5 c5 ⊢
  generalize mvA z = A at c0 c1 c2 c3 c4 c5 ⊢
  obtain ⟨b00, b01⟩ := b0
  obtain ⟨b10, b11⟩ := b1
  obtain ⟨b20, b21⟩ := b2
  obtain ⟨b30, b31⟩ := b3
  obtain ⟨b40, b41⟩ := b4
  obtain ⟨b50, b51⟩ := b5
  have e0 : ∀ w, (Instr.index 57 (.agg #[.int .i64 x0, .int .i64 x1, .int .i64 x2, .int .i64 x3, .int .i64 x4, .int .i64 x5]) (.int .i64 0)).run Try.prog w = .ok (.int .i64 x0) w := index_six _ 0 (by omega) _ rfl
  have e1 : ∀ w, (Instr.index 57 (.agg #[.int .i64 x0, .int .i64 x1, .int .i64 x2, .int .i64 x3, .int .i64 x4, .int .i64 x5]) (.int .i64 1)).run Try.prog w = .ok (.int .i64 x1) w := index_six _ 1 (by omega) _ rfl
  have e2 : ∀ w, (Instr.index 57 (.agg #[.int .i64 x0, .int .i64 x1, .int .i64 x2, .int .i64 x3, .int .i64 x4, .int .i64 x5]) (.int .i64 2)).run Try.prog w = .ok (.int .i64 x2) w := index_six _ 2 (by omega) _ rfl
  have e3 : ∀ w, (Instr.index 57 (.agg #[.int .i64 x0, .int .i64 x1, .int .i64 x2, .int .i64 x3, .int .i64 x4, .int .i64 x5]) (.int .i64 3)).run Try.prog w = .ok (.int .i64 x3) w := index_six _ 3 (by omega) _ rfl
  have e4 : ∀ w, (Instr.index 57 (.agg #[.int .i64 x0, .int .i64 x1, .int .i64 x2, .int .i64 x3, .int .i64 x4, .int .i64 x5]) (.int .i64 4)).run Try.prog w = .ok (.int .i64 x4) w := index_six _ 4 (by omega) _ rfl
  have e5 : ∀ w, (Instr.index 57 (.agg #[.int .i64 x0, .int .i64 x1, .int .i64 x2, .int .i64 x3, .int .i64 x4, .int .i64 x5]) (.int .i64 5)).run Try.prog w = .ok (.int .i64 x5) w := index_six _ 5 (by omega) _ rfl
  clear H h
  go_enter Try.func37, Try.ntmps37
  go_wp2
  refine wp_loop_rounds 7 ?_
  rw [rounds_succ]
  go_wp2
  rw [rounds_succ]
  go_wp2
  rw [rounds_succ]
  go_wp2
  rw [rounds_succ]
  go_wp2
  rw [rounds_succ]
  go_wp2
  rw [rounds_succ]
  go_wp2
  rw [rounds_succ]
  go_wp2
  go_ret
  exact ⟨rfl, box_below _ _⟩

theorem colZ_range {z : List Int} (h : MvOk z) (i : Nat) : ∀ k, 0 ≤ colZ z i k ∧ colZ z i k ≤ k * 70368744177664 := by
  intro k
  induction k with
  | zero => simp [colZ]
  | succ k ih =>
    have := h.le (k * 6 + i)
    simp only [colZ]
    omega
theorem outZ_range {z : List Int} (h : MvOk z) (i : Nat) : 0 ≤ outZ z i ∧ outZ z i ≤ 422212465065984 := by
  have b0 := h.le (i * 6)
  have b1 := h.le (i * 6 + 1)
  have b2 := h.le (i * 6 + 2)
  have b3 := h.le (i * 6 + 3)
  have b4 := h.le (i * 6 + 4)
  have b5 := h.le (i * 6 + 5)
  unfold outZ
  omega
theorem inZ_range {z : List Int} (h : MvOk z) (i : Nat) : 0 ≤ inZ z i ∧ inZ z i ≤ 422212465065984 := by
  have := colZ_range h i 6
  unfold inZ
  omega
/-- The first n cells are read. -/
theorem MvAt.cells {w : World} {g : Nat} {z : List Int} (h : MvAt w g z) (hz : z.length = 42) (n : Nat) (hn : n ≤ 42) : (loadCellsFrom ⟨g, 0, none⟩ 0 n #[]).run Try.prog w = .ok (mvA (z.take n)) w := by
  have := run_loadCells_list (P := Try.prog) w ⟨g, 0, none⟩ ((z.take n).map (Value.int .i64)) (fun j v hv => by
    have hj : j < n := by have := (List.getElem?_eq_some_iff.1 hv).1; simp at this; omega
    rw [Addr.add_mid, h.range hz j v (by rw [← hv]; simp [List.getElem?_take_of_lt hj])])
  simpa [loadCells, mvA, hz, Nat.min_eq_left hn] using this
/-- As a walk meets it: all of it is read; its 36. -/
theorem load_mv {ops : Array Oper} {rest : List Oper} {o : Oper} {a : Act} {w : World} {Q : Exit → Act → World → Prop} (x : Operand) (ho : o.op = .load 60 x) (hw : Region.wanted o (yielded ops a.tmps) = true)
    (g : Nat) (hx : a.eval x = .pointer (some ⟨g, 0, none⟩)) (z : List Int) (hz : z.length = 42) (H : MvAt w g z)
    (h : wpList Try.prog ops Q rest (a.put o.dst (.agg (mvA z))) w) : wpList Try.prog ops Q (o :: rest) a w :=
  BigFrame.wpList_want hw fun K hK => wp_load_mid 60 x ho g 0 hx _ _ (H.range hz) Try.underlying60 rfl (by simp [infoMv, hz]) (hK _ _ h)
theorem load_sq {ops : Array Oper} {rest : List Oper} {o : Oper} {a : Act} {w : World} {Q : Exit → Act → World → Prop} (x : Operand) (ho : o.op = .load 58 x) (hw : Region.wanted o (yielded ops a.tmps) = true)
    (g : Nat) (hx : a.eval x = .pointer (some ⟨g, 0, none⟩)) (z : List Int) (hz : z.length = 42) (H : MvAt w g z)
    (h : wpList Try.prog ops Q rest (a.put o.dst (.agg (mvA (z.take 36)))) w) : wpList Try.prog ops Q (o :: rest) a w :=
  BigFrame.wpList_want hw fun K hK => wp_load_mid 58 x ho g 0 hx ((z.take 36).map (Value.int .i64)) _ (fun j v hv => H.range hz j v (by
      have hj : j < 36 := by have := (List.getElem?_eq_some_iff.1 hv).1; simp at this; omega
      rw [← hv]; simp [List.getElem?_take_of_lt hj])) Try.underlying58 rfl (by simp [infoSq, hz]) (hK _ _ h)
theorem exec_load_mv {o : Oper} {a : Act} {w : World} (x : Operand) (ho : o.op = .load 60 x) (g : Nat) (hx : a.eval x = .pointer (some ⟨g, 0, none⟩)) (z : List Int) (hz : z.length = 42) (H : MvAt w g z) :
    (execOp a.eval o).run Try.prog w = .ok (.value (.agg (mvA z))) w := by
  unfold execOp
  simp only [ho, hx, Instr.loadAt, Instr.sureAddr, Sem.run_bind, Sem.run_pure, Result.andThen_ok, run_loadVar_mid w g 0 60 _ _ (H.range hz) Try.underlying60 rfl (by simp [infoMv, hz])]
  rfl
theorem rowCells {z : List Int} (hz : z.length = 42) (k : Nat) (hk : k < 6) : (mvA (z.take 36)).extract (k * 6) (k * 6 + 6) = #[.int .i64 (z.getD (k * 6) 0), .int .i64 (z.getD (k * 6 + 1) 0), .int .i64 (z.getD (k * 6 + 2) 0), .int .i64 (z.getD (k * 6 + 3) 0), .int .i64 (z.getD (k * 6 + 4) 0), .int .i64 (z.getD (k * 6 + 5) 0)] := by
  apply Array.ext_getElem?
  intro j
  rw [Array.getElem?_extract, mvA_size]
  simp only [List.length_take, hz]
  by_cases hj : j < 6
  · rw [if_pos (by omega), mvA_at _ _ (by simp [hz]; omega)]
    have e : (z.take 36).getD (k * 6 + j) 0 = z.getD (k * 6 + j) 0 := by
      simp only [List.getD_eq_getElem?_getD]
      rw [List.getElem?_take_of_lt (by omega)]
    rw [e]
    rcases (by omega : j = 0 ∨ j = 1 ∨ j = 2 ∨ j = 3 ∨ j = 4 ∨ j = 5) with rfl | rfl | rfl | rfl | rfl | rfl <;> rfl
  · rw [if_neg (by omega)]
    symm
    rw [Array.getElem?_eq_none_iff]
    simp
    omega
theorem index_row {z : List Int} (hz : z.length = 42) (k : Nat) (hk : k < 6) (w : World) : (Instr.index 58 (.agg (mvA (z.take 36))) (.int .i64 k)).run Try.prog w = .ok (.agg #[.int .i64 (z.getD (k * 6) 0), .int .i64 (z.getD (k * 6 + 1) 0), .int .i64 (z.getD (k * 6 + 2) 0), .int .i64 (z.getD (k * 6 + 3) 0), .int .i64 (z.getD (k * 6 + 4) 0), .int .i64 (z.getD (k * 6 + 5) 0)]) w := by
  have h1 : (k : Int) < 6 := by omega
  have h2 := infoSix
  rw [← rowCells hz k hk]
  cases hq : Try.prog.info? 57 with
  | none => simp [hq] at h2
  | some i =>
    have h3 : i.size = 6 := by simpa [hq] using h2
    simp [Instr.index, asIntOf, part, isAgg, sizeOf, typeInfo, run_underlying Try.underlying58, run_underlying Try.underlying57, h1, hk, hq, h3, go_sem]

set_option maxHeartbeats 2000000 in
theorem in_any (z : List Int) (i : Nat) (w : World) (h : MvOk z) (hi : i < 6) : Calls Try.prog 54 #[.agg (mvA z), .int .i64 i] w fun e w' => e = .returned (.int .i64 (inZ z i)) ∧ Below w.heap.size w w' := by
  have HI : Hid (∀ k : Nat, k < 6 → ∀ w, (Instr.index 58 (.agg (mvA (z.take 36))) (.int .i64 k)).run Try.prog w = .ok (.agg #[.int .i64 (z.getD (k * 6) 0), .int .i64 (z.getD (k * 6 + 1) 0), .int .i64 (z.getD (k * 6 + 2) 0), .int .i64 (z.getD (k * 6 + 3) 0), .int .i64 (z.getD (k * 6 + 4) 0), .int .i64 (z.getD (k * 6 + 5) 0)]) w) := fun k hk w => index_row h.len k hk w
  have HC : Hid (∀ k : Nat, 0 ≤ colZ z i k ∧ colZ z i k ≤ k * 70368744177664) := colZ_range h i
  have HZ : Hid (∀ j, 0 ≤ z.getD j 0 ∧ z.getD j 0 ≤ 70368744177664) := h.le
  have i1 : (i : Int) < 6 := by omega
  have HM : Hid (MvAt (w.alloc (.cells (mvA z) 60)) w.heap.size z) := MvAt.new w z h.len 60 (0, 0)
  have HN : Hid (z.length = 42) := h.len
  clear h
  go_enter Try.func54, Try.ntmps54
  go_wp2_with (refine load_sq (.tmp 8) rfl rfl w.heap.size rfl z HN.out HM.out ?_)
  generalize mvA (z.take 36) = B at HI ⊢
  go_loopw [5, 10] (fun s t wr => ∃ k : Nat, k ≤ 6 ∧ t = .int .i64 k ∧ s = .int .i64 (colZ z i k) ∧ Below w.heap.size w wr) (fun _ t _ => 6 - (intOf t).toNat)
  case atStart => exact ⟨0, by omega, rfl, rfl, box_below _ _⟩
  case round =>
    obtain ⟨k, hk, rfl, rfl, hb⟩ := hrel
    have HB : Hid (Below w.heap.size w wr) := hb
    clear hb
    by_cases hlt : k < 6
    · have k1 : (k : Int) < 6 := by omega
      have e0 := HI.out k hlt
      have n1 := HC.out k
      have n2 := HZ.out (k * 6 + i)
      have HE : Hid (colZ z i (k + 1) = colZ z i k + z.getD (k * 6 + i) 0) := rfl
      obtain ⟨y, hy⟩ : ∃ y : Nat → Int, y = fun j => z.getD (k * 6 + j) 0 := ⟨_, rfl⟩
      have HY : Hid (∀ j, y j = z.getD (k * 6 + j) 0) := fun j => by rw [hy]
      rw [show z.getD (k * 6) 0 = y 0 from (HY.out 0).symm, show z.getD (k * 6 + 1) 0 = y 1 from (HY.out 1).symm, show z.getD (k * 6 + 2) 0 = y 2 from (HY.out 2).symm, show z.getD (k * 6 + 3) 0 = y 3 from (HY.out 3).symm, show z.getD (k * 6 + 4) 0 = y 4 from (HY.out 4).symm, show z.getD (k * 6 + 5) 0 = y 5 from (HY.out 5).symm] at e0
      have hv : [Value.int .i64 (y 0), Value.int .i64 (y 1), Value.int .i64 (y 2), Value.int .i64 (y 3), Value.int .i64 (y 4), Value.int .i64 (y 5)][i]'(by simpa using hi) = Value.int .i64 (z.getD (k * 6 + i) 0) := by
        rw [← HY.out i]
        rcases (by omega : i = 0 ∨ i = 1 ∨ i = 2 ∨ i = 3 ∨ i = 4 ∨ i = 5) with rfl | rfl | rfl | rfl | rfl | rfl <;> rfl
      clear hy
      generalize y 0 = y0 at e0 hv
      generalize y 1 = y1 at e0 hv
      generalize y 2 = y2 at e0 hv
      generalize y 3 = y3 at e0 hv
      generalize y 4 = y4 at e0 hv
      generalize y 5 = y5 at e0 hv
      generalize z.getD (k * 6 + i) 0 = v at hv n2 HE
      generalize colZ z i k = s at n1 HE ⊢
      obtain ⟨n10, n11⟩ := n1
      obtain ⟨n20, n21⟩ := n2
      clear HY y
      go_wp2
      go_round
      case rel => exact ⟨k + 1, by omega, by go_num, by rw [HE.out], HB.out.alloc HB.out.size _⟩
      case measure => simp [intOf]; omega
    · obtain rfl : k = 6 := by omega
      go_wp2
      go_ret
      exact ⟨rfl, HB.out⟩

end Go.Proofs.Ytdikimddkhahdaa
