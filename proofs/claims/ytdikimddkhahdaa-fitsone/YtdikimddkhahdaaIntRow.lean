/-
  Rows of ints that a call makes.
-/
import Derived.Test.YtdikimddkhahdaaRowBase
namespace Go.Proofs.Ytdikimddkhahdaa
open Go.RowKit
set_option linter.unusedVariables false
set_option linter.unusedSimpArgs false

/-- Numbers as ints; their cells. -/
def intsL (l : List Nat) : List Int := l.map fun i : Nat => (i : Int)
def intsV (l : List Nat) : List Value := (intsL l).map (Value.int .i64)
theorem intsL_len (l : List Nat) : (intsL l).length = l.length := by simp [intsL]
theorem intsL_at {l : List Nat} {i : Nat} (h : i < l.length) : (intsL l).getD i 0 = (l.getD i 0 : Nat) := by simp [intsL, h]
theorem intsL_wf {l : List Nat} (h : ∀ i ∈ l, i ≤ 1000000) : ∀ n ∈ intsL l, IntKind.i64.wrap n = n := by
  intro n hn
  simp only [intsL, List.mem_map] at hn
  obtain ⟨i, hi, rfl⟩ := hn
  have := h i hi
  exact i64_wf (by omega) (by omega)
/-- A row of ints in full. -/
structure IGood (w : World) (a : Option Addr) (n c : Nat) (l : List Nat) : Prop where
  sl : Sl .i64 w a n (intsL l)
  len : n = l.length
  cap : n ≤ c
  max : c ≤ 9223372036854775807
  nil0 : a = none → c = 0
theorem IGood.below {w w' : World} {a : Option Addr} {n c : Nat} {l : List Nat} (h : IGood w a n c l) (k : Below w.heap.size w w') : IGood w' a n c l := ⟨h.sl.below k, h.len, h.cap, h.max, h.nil0⟩
/-- What a call answers that makes such a row. -/
def IEnd (w : World) (l : List Nat) (e : Ending) (w' : World) : Prop := ∃ a c, e = .returned (.slice a l.length c) ∧ IGood w' a l.length c l ∧ Below w.heap.size w w'
theorem IGood.own {w : World} {B : Nat} {v : Value} {n : Nat} {l : List Nat} (h : w.ownsRow B 3 1 v n (intsV l)) (hl : ∀ i ∈ l, i ≤ 1000000) : ∃ a c, v = .slice a l.length c ∧ IGood w a l.length c l := by
  obtain ⟨a, c, hv, hs, hn⟩ := Sl.own h (intsL_wf hl)
  rw [intsL_len] at hv hs
  subst hv
  obtain ⟨h1, h2⟩ := own_cap h
  exact ⟨a, c, rfl, hs, rfl, h1, h2, hn⟩
theorem intsV_append (l m : List Nat) : intsV (l ++ m) = intsV l ++ intsV m := by simp [intsV, intsL]

/-- One more, behind a row of the call's own. -/
theorem append_one {w : World} {ops : Array Oper} {rest : List Oper} {o : Oper} {a : Act} {Q : Exit → Act → World → Prop} (hgd : o.guard = none) (s x : Operand)
    (ho : o.op = .call { callee := .builtin .append, args := #[s, x], argTypes := #[35, 35] })
    (base : Nat) (v : Value) (n : Nat) (l : List Nat) (hs : a.eval s = v) (hown : w.ownsRow base 3 1 v n (intsV l)) (k : Nat) (hk : k ≤ 1000000) (hn : n ≤ 1000000) (hb : base ≤ w.heap.size)
    (hx : a.eval x = .slice (some ⟨w.heap.size, 0, none⟩) 1 1)
    (h : ∀ v' w', w'.ownsRow base 3 1 v' (n + 1) (intsV (l ++ [k])) → (w.alloc (.cells #[.int .i64 k] 3)).grownBy w' v.ownBlock → wpList Try.prog ops Q rest (a.put o.dst v') w') :
    wpList Try.prog ops Q (o :: rest) a (w.alloc (.cells #[.int .i64 k] 3)) := by
  obtain ⟨i, hi, hz⟩ : ∃ i, Try.prog.info? 3 = some i ∧ (i.zero, i.size, i.bytes) = (some (Value.int .i64 0), 1, 8) := by
    have h2 : (Try.prog.info? 3).map (fun i => (i.zero, i.size, i.bytes)) = some (some (Value.int .i64 0), 1, 8) := by kernel_rfl
    cases hq : Try.prog.info? 3 with
    | none => simp [hq] at h2
    | some i => exact ⟨i, rfl, by simpa [hq] using h2⟩
  simp only [Prod.mk.injEq] at hz
  obtain ⟨hz0, hz1, hz2⟩ := hz
  have hS : Sl .i64 (w.alloc (.cells #[.int .i64 k] 3)) (some ⟨w.heap.size, 0, none⟩) 1 [(k : Int)] := by
    refine ⟨rfl, fun n hn => ?_, .inr ⟨_, _, rfl, fun i hi => ?_⟩⟩
    · obtain rfl := List.mem_singleton.1 hn
      exact i64_wf (by omega) (by omega)
    · have hi0 : i = 0 := by simp at hi; exact hi
      subst hi0
      rw [cell_new]; rfl
  refine wpList_append_sl hgd s x 35 ho base 3 i (.int .i64 0) 8 Try.underlying35 hi hz0 hz1 hz2 rfl v n (intsV l) hs (own_below hown (box_below _ _)) .i64 (some ⟨w.heap.size, 0, none⟩) 1 1 [(k : Int)] hx hS (fun h => by simp at h) (by unfold maxLen; omega) (by omega) (by rw [size_alloc]; omega) ?_
  intro v' w' h1 h2 _
  refine h v' w' ?_ h2
  rw [intsV_append]
  exact h1

end Go.Proofs.Ytdikimddkhahdaa
