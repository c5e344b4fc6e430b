/-
  Arguments that are structs and arrays of int64s, one in the other: their cells are int64s.
-/
import Derived.Test.YtmfmdicdbjghkaaRows
import Derived.WalkKit
import Derived.ProofKit
import Derived.OpenShut
import Derived.ChangeOld
import Derived.Below
namespace Go.Proofs.Ytmfmdicdbjghkaa
open Go.ChangeShapes Go.WideShapes Go.ChangeAt Go.RowKit

/-- All cells of a value of this type are int64s. -/
def plainI (P : Program) : Nat → TypeId → Bool
  | 0, _ => false
  | d + 1, t => match P.underlying t with
    | some (.int k) => k == .i64
    | some (.struct fs) => fs.toList.all (fun f => plainI P d f.type) && (List.range (P.cellsOf t)).all fun i => fs.toList.any fun f => decide (f.offset ≤ i) && decide (i < f.offset + P.cellsOf f.type)
    | some (.array n e) => plainI P d e && (List.range (P.cellsOf t)).all fun i => (List.range n).any fun j => decide (j * P.cellsOf e ≤ i) && decide (i < j * P.cellsOf e + P.cellsOf e)
    | _ => false

/-- A cell that is an int64. -/
def IsI64 (v : Value) : Prop := ∃ n, v = .int .i64 n ∧ (Lit.int .i64 n).wf = true

section
variable {H : Type} {enc : TypeId × Value → H} {P : Program} {w : World} {base : Nat} {spare : Nat → Bool} {held : Bool}

theorem trod_i64 {t : TypeId} {k : IntKind} {fuel : Nat} {cs : List Value} {x : DataW H × List MemPlace} (hk : P.underlying t = some (.int k)) (ht : DataW.trod enc P w base spare held fuel t cs = some x) : ∃ m, cs = [.int k m] ∧ x = (.lit (.int k m), []) ∧ (Lit.int k m).wf = true := by
  cases fuel with
  | zero => simp [DataW.trod] at ht
  | succ n =>
    unfold DataW.trod at ht
    rw [hk] at ht
    split at ht <;> simp_all

theorem open_plain : ∀ (d : Nat) (fuel : Nat) (t : TypeId) (cs : List Value) (x : DataW H × List MemPlace), plainI P d t = true → DataW.trod enc P w base spare held fuel t cs = some x → ∀ (i : Nat) (v : Value), cs[i]? = some v → IsI64 v
  | 0, _, _, _, _, h, _ => by simp [plainI] at h
  | d + 1, fuel, t, cs, x, h, ht => by
    unfold plainI at h
    split at h
    · rename_i k hk
      have hk' : k = .i64 := by simpa using h
      subst hk'
      obtain ⟨m, rfl, _, hw⟩ := trod_i64 hk ht
      intro i v hi
      cases i with
      | zero =>
        simp at hi
        subst hi
        exact ⟨m, rfl, hw⟩
      | succ i => simp at hi
    · rename_i fs hk
      rw [Bool.and_eq_true, List.all_eq_true, List.all_eq_true] at h
      obtain ⟨xs, n, _, _, hl, hx, hf⟩ := DataW.trod_struct hk ht
      intro i v hi
      have hil : i < cs.length := (List.getElem?_eq_some_iff.1 hi).1
      have hc := h.2 i (by rw [List.mem_range, ← hl]; exact hil)
      rw [List.any_eq_true] at hc
      obtain ⟨f, hfm, hr⟩ := hc
      rw [Bool.and_eq_true, decide_eq_true_iff, decide_eq_true_iff] at hr
      obtain ⟨j, hj, hjf⟩ := List.getElem_of_mem hfm
      have hff : fs[j]? = some f := by rw [← hjf]; simp
      have hxj : ∃ y, xs[j]? = some y := ⟨xs[j]'(by rw [hx]; simpa using hj), List.getElem?_eq_getElem _⟩
      obtain ⟨y, hy⟩ := hxj
      have := hf j f hff
      rw [hy] at this
      refine open_plain d n f.type _ y (h.1 f hfm) this (i - f.offset) v ?_
      rw [List.getElem?_take_of_lt (by omega), List.getElem?_drop, show f.offset + (i - f.offset) = i by omega]
      exact hi
    · rename_i m e hk
      rw [Bool.and_eq_true, List.all_eq_true] at h
      obtain ⟨xs, n, _, _, hl, hx, hf⟩ := DataW.trod_array hk ht
      intro i v hi
      have hil : i < cs.length := (List.getElem?_eq_some_iff.1 hi).1
      have hc := h.2 i (by rw [List.mem_range, ← hl]; exact hil)
      rw [List.any_eq_true] at hc
      obtain ⟨j, hjm, hr⟩ := hc
      rw [Bool.and_eq_true, decide_eq_true_iff, decide_eq_true_iff] at hr
      have hj := List.mem_range.1 hjm
      have hxj : ∃ y, xs[j]? = some y := ⟨xs[j]'(by rw [hx]; exact hj), List.getElem?_eq_getElem _⟩
      obtain ⟨y, hy⟩ := hxj
      have := hf j hj
      rw [hy] at this
      refine open_plain d n e _ y h.1 this (i - j * P.cellsOf e) v ?_
      rw [List.getElem?_take_of_lt (by omega), List.getElem?_drop, show j * P.cellsOf e + (i - j * P.cellsOf e) = i by omega]
      exact hi
    · simp at h

theorem okWide_agg {W : World} {r : Reach} {t : TypeId} {v : Value} {fs : Array Field} (ht : P.underlying t = some (.struct fs)) (h : Value.okWide P W r base t v) : ∃ cs, v = .agg cs ∧ cs.size = P.cellsOf t := by
  simp only [Value.okWide, ht] at h
  obtain ⟨cs, h1, h2, _⟩ := h
  exact ⟨cs, h1, h2⟩
end

theorem plain3 {cs : Array Value} (hc : ∀ (i : Nat) (v : Value), cs.toList[i]? = some v → IsI64 v) (hs : cs.size = 3) :
    ∃ x0 x1 x2, cs = #[.int .i64 x0, .int .i64 x1, .int .i64 x2] ∧ (Lit.int .i64 x0).wf = true ∧ (Lit.int .i64 x1).wf = true ∧ (Lit.int .i64 x2).wf = true := by
  obtain ⟨l⟩ := cs
  match l, hs with
  | [v0, v1, v2], _ =>
    obtain ⟨x0, rfl, w0⟩ := hc 0 v0 rfl
    obtain ⟨x1, rfl, w1⟩ := hc 1 v1 rfl
    obtain ⟨x2, rfl, w2⟩ := hc 2 v2 rfl
    exact ⟨x0, x1, x2, rfl, w0, w1, w2⟩

theorem plain7 {cs : Array Value} (hc : ∀ (i : Nat) (v : Value), cs.toList[i]? = some v → IsI64 v) (hs : cs.size = 7) :
    ∃ x0 x1 x2 x3 x4 x5 x6, cs = #[.int .i64 x0, .int .i64 x1, .int .i64 x2, .int .i64 x3, .int .i64 x4, .int .i64 x5, .int .i64 x6] ∧ (Lit.int .i64 x0).wf = true ∧ (Lit.int .i64 x1).wf = true ∧ (Lit.int .i64 x2).wf = true ∧ (Lit.int .i64 x3).wf = true ∧ (Lit.int .i64 x4).wf = true ∧ (Lit.int .i64 x5).wf = true ∧ (Lit.int .i64 x6).wf = true := by
  obtain ⟨l⟩ := cs
  match l, hs with
  | [v0, v1, v2, v3, v4, v5, v6], _ =>
    obtain ⟨x0, rfl, w0⟩ := hc 0 v0 rfl
    obtain ⟨x1, rfl, w1⟩ := hc 1 v1 rfl
    obtain ⟨x2, rfl, w2⟩ := hc 2 v2 rfl
    obtain ⟨x3, rfl, w3⟩ := hc 3 v3 rfl
    obtain ⟨x4, rfl, w4⟩ := hc 4 v4 rfl
    obtain ⟨x5, rfl, w5⟩ := hc 5 v5 rfl
    obtain ⟨x6, rfl, w6⟩ := hc 6 v6 rfl
    exact ⟨x0, x1, x2, x3, x4, x5, x6, rfl, w0, w1, w2, w3, w4, w5, w6⟩

theorem plain8 {cs : Array Value} (hc : ∀ (i : Nat) (v : Value), cs.toList[i]? = some v → IsI64 v) (hs : cs.size = 8) :
    ∃ x0 x1 x2 x3 x4 x5 x6 x7, cs = #[.int .i64 x0, .int .i64 x1, .int .i64 x2, .int .i64 x3, .int .i64 x4, .int .i64 x5, .int .i64 x6, .int .i64 x7] ∧ (Lit.int .i64 x0).wf = true ∧ (Lit.int .i64 x1).wf = true ∧ (Lit.int .i64 x2).wf = true ∧ (Lit.int .i64 x3).wf = true ∧ (Lit.int .i64 x4).wf = true ∧ (Lit.int .i64 x5).wf = true ∧ (Lit.int .i64 x6).wf = true ∧ (Lit.int .i64 x7).wf = true := by
  obtain ⟨l⟩ := cs
  match l, hs with
  | [v0, v1, v2, v3, v4, v5, v6, v7], _ =>
    obtain ⟨x0, rfl, w0⟩ := hc 0 v0 rfl
    obtain ⟨x1, rfl, w1⟩ := hc 1 v1 rfl
    obtain ⟨x2, rfl, w2⟩ := hc 2 v2 rfl
    obtain ⟨x3, rfl, w3⟩ := hc 3 v3 rfl
    obtain ⟨x4, rfl, w4⟩ := hc 4 v4 rfl
    obtain ⟨x5, rfl, w5⟩ := hc 5 v5 rfl
    obtain ⟨x6, rfl, w6⟩ := hc 6 v6 rfl
    obtain ⟨x7, rfl, w7⟩ := hc 7 v7 rfl
    exact ⟨x0, x1, x2, x3, x4, x5, x6, x7, rfl, w0, w1, w2, w3, w4, w5, w6, w7⟩

end Go.Proofs.Ytmfmdicdbjghkaa
