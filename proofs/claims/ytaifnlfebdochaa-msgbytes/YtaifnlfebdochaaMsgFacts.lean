/-
  What the callees of the statements about messages leave, as facts of a slot.
-/
import Derived.Test.YtaifnlfebdochaaMsgEq
import Derived.Test.YtaifnlfebdochaaFacts3
namespace Go.Proofs.Ytaifnlfebdochaa
open Go.RowKit

theorem known_fact (w : World) : Calls Try.prog 15 #[] w fun e w' => ∃ v, e = .returned v ∧ Below w.heap.size w w' ∧ (Fact.is (.bool true)).1 w' v := by
  refine (known_any w).mono ?_
  rintro e w' ⟨rfl, bel⟩
  exact ⟨_, rfl, bel, rfl⟩
theorem bytes_fact {f : FuncId} {args : Array Value} {w : World} {bs : List Int} {n : Nat} (h : Calls Try.prog f args w (BytesEnd w bs)) (hn : bs.length = n) :
    Calls Try.prog f args w fun e w' => ∃ v, e = .returned v ∧ Below w.heap.size w w' ∧ (Fact.sl .u8 n bs).1 w' v := by
  refine h.mono ?_
  rintro e w' ⟨a, c, rfl, hS, h1, h2, bel⟩
  rw [hn] at hS h1 ⊢
  exact ⟨_, rfl, bel, _, _, rfl, hS, h1, h2⟩
theorem none_fact {f : FuncId} {args : Array Value} {w : World} (h : Calls Try.prog f args w fun e w' => e = .returned (.slice none 0 0) ∧ Below w.heap.size w w') :
    Calls Try.prog f args w fun e w' => ∃ v, e = .returned v ∧ Below w.heap.size w w' ∧ (Fact.is (.slice none 0 0)).1 w' v := by
  refine h.mono ?_
  rintro e w' ⟨rfl, bel⟩
  exact ⟨_, rfl, bel, rfl⟩
theorem bool_fact {f : FuncId} {args : Array Value} {w : World} {b : Bool} (h : Calls Try.prog f args w fun e w' => e = .returned (.bool b) ∧ Below w.heap.size w w') :
    Calls Try.prog f args w fun e w' => ∃ v, e = .returned v ∧ Below w.heap.size w w' ∧ (Fact.is (.bool b)).1 w' v := by
  refine h.mono ?_
  rintro e w' ⟨rfl, bel⟩
  exact ⟨_, rfl, bel, rfl⟩
theorem eq_str {x y : Operand} {s : ByteArray} : ∀ w, (do eqGuard .eql 9 x y (.string s) (.string s); binOp .eql 9 (.string s) (.string s) : Sem Value).run Try.prog w = .ok (.bool true) w := by
  intro w; simp [go_sem, eqGuard]
theorem eq_int {x y : Operand} {n : Int} : ∀ w, (do eqGuard .eql 32 x y (.int .i64 n) (.int .i64 n); binOp .eql 32 (.int .i64 n) (.int .i64 n) : Sem Value).run Try.prog w = .ok (.bool true) w := by
  intro w; simp [go_sem, eqGuard]
theorem eq_num {x y : Operand} {n : Int} : ∀ w, (do eqGuard .eql 3 x y (.int .i64 n) (.int .i64 n); binOp .eql 3 (.int .i64 n) (.int .i64 n) : Sem Value).run Try.prog w = .ok (.bool true) w := by
  intro w; simp [go_sem, eqGuard]

theorem At.seven {w : World} {g : Nat} {k f0 f1 f2 f3 f4 f5 : Int} (h : At w g [k, f0, f1, f2, f3, f4, f5]) :
    w.cell? ⟨g, 0, none⟩ = some (.int .i64 k) ∧ w.cell? ⟨g, 1, none⟩ = some (.int .i64 f0) ∧ w.cell? ⟨g, 2, none⟩ = some (.int .i64 f1) ∧ w.cell? ⟨g, 3, none⟩ = some (.int .i64 f2) ∧ w.cell? ⟨g, 4, none⟩ = some (.int .i64 f3) ∧ w.cell? ⟨g, 5, none⟩ = some (.int .i64 f4) ∧ w.cell? ⟨g, 6, none⟩ = some (.int .i64 f5) :=
  ⟨h 0 (by simp), h 1 (by simp), h 2 (by simp), h 3 (by simp), h 4 (by simp), h 5 (by simp), h 6 (by simp)⟩
theorem At.eight {w : World} {g : Nat} {x k f0 f1 f2 f3 f4 f5 : Int} (h : At w g [x, k, f0, f1, f2, f3, f4, f5]) :
    w.cell? ⟨g, 0, none⟩ = some (.int .i64 x) ∧ w.cell? ⟨g, 1, none⟩ = some (.int .i64 k) ∧ w.cell? ⟨g, 2, none⟩ = some (.int .i64 f0) ∧ w.cell? ⟨g, 3, none⟩ = some (.int .i64 f1) ∧ w.cell? ⟨g, 4, none⟩ = some (.int .i64 f2) ∧ w.cell? ⟨g, 5, none⟩ = some (.int .i64 f3) ∧ w.cell? ⟨g, 6, none⟩ = some (.int .i64 f4) ∧ w.cell? ⟨g, 7, none⟩ = some (.int .i64 f5) :=
  ⟨h 0 (by simp), h 1 (by simp), h 2 (by simp), h 3 (by simp), h 4 (by simp), h 5 (by simp), h 6 (by simp), h 7 (by simp)⟩

/-- Numbers as bytes, and back. -/
theorem getS_encs (l : List Int) (h : ∀ n ∈ l, IntKind.i64.wrap n = n) : getS (encs l) = (l, 0) := by
  unfold getS
  rw [encs_length, if_pos (by omega), show 8 * l.length / 8 = l.length by omega]
  have := decs_encs l [] h
  rw [List.append_nil] at this
  rw [this]

theorem readS_put (k : Int) (l : List Int) (h : ∀ n ∈ l, IntKind.i64.wrap n = n) : readS (k :: encs l) = if (l.length : Int) = manyS k then (k :: six l, 0) else ([0, 0, 0, 0, 0, 0, 0], 2) := by
  show (if (getS (encs l)).2 = 0 ∧ ((getS (encs l)).1.length : Int) = manyS k then (k :: six (getS (encs l)).1, (0 : Int)) else ([0, 0, 0, 0, 0, 0, 0], 2)) = _
  rw [getS_encs l h]
  simp

theorem six_take (l : List Int) (h : l.length ≤ 6) : (six l).take l.length = l := by
  unfold six
  rw [List.take_take, Nat.min_eq_left h, List.take_left]

theorem six_drop (l : List Int) : ∀ n ∈ (six l).drop l.length, n = 0 := by
  intro n hn
  unfold six at hn
  rw [List.drop_take, List.drop_left] at hn
  have := List.mem_of_mem_take hn
  simpa using this

theorem six_wf (l : List Int) (h : ∀ n ∈ l, IntKind.i64.wrap n = n) : ∀ n ∈ six l, IntKind.i64.wrap n = n := by
  intro n hn
  rcases List.mem_append.mp (List.mem_of_mem_take hn) with hn | hn
  · exact h n hn
  · have : n = 0 := by simpa using hn
    subst this
    rfl

theorem isS_six (k : Int) (l : List Int) (h : (l.length : Int) = manyS k) : isS k (six l) = true := by
  unfold isS
  rw [← h, Int.toNat_natCast, decide_eq_true (by omega), decide_eq_true (six_drop l)]
  rfl

theorem bytesS_six (k : Int) (l : List Int) (h : (l.length : Int) = manyS k) : bytesS k (six l) = k :: encs l := by
  have := (manyS_range k).2
  unfold bytesS
  rw [← h, Int.toNat_natCast, six_take l (by omega)]

end Go.Proofs.Ytaifnlfebdochaa
