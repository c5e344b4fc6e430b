/-
  view: what may go, as plain lists.
-/
import Derived.Test.YtmfmdicdbjghkaaRowSpec
import Derived.Test.YtmfmdicdbjghkaaPayReady
namespace Go.Proofs.Ytmfmdicdbjghkaa
open Go.RowKit
set_option linter.unusedVariables false
set_option linter.unusedSimpArgs false

/-- All that a test lets through, which is told what stood ahead. -/
def selA (K : List P7 → P7 → Bool) : List P7 → List P7 → List P7
  | _, [] => []
  | A, p :: l => (if K A p then [p] else []) ++ selA K (A ++ [p]) l
def sel (K : List P7 → P7 → Bool) (L : List P7) : List P7 := selA K [] L
theorem selA_snoc (K : List P7 → P7 → Bool) (A l : List P7) (p : P7) : selA K A (l ++ [p]) = selA K A l ++ (if K (A ++ l) p then [p] else []) := by
  induction l generalizing A with
  | nil => simp [selA]
  | cons x l ih => simp only [List.cons_append, selA, ih]; simp
theorem sel_nil (K : List P7 → P7 → Bool) : sel K [] = [] := rfl
theorem sel_snoc (K : List P7 → P7 → Bool) (l : List P7) (p : P7) : sel K (l ++ [p]) = sel K l ++ (if K l p then [p] else []) := by
  have := selA_snoc K [] l p
  rw [List.nil_append] at this
  exact this
theorem take_snoc7 (L : List P7) {k : Nat} (h : k < L.length) : L.take (k + 1) = L.take k ++ [L.getD k p70] := take_snocA L p70 k h
theorem sel_take (K : List P7 → P7 → Bool) (L : List P7) {k : Nat} (h : k < L.length) : sel K (L.take (k + 1)) = sel K (L.take k) ++ (if K (L.take k) (L.getD k p70) then [L.getD k p70] else []) := by
  rw [take_snoc7 L h, sel_snoc]
theorem sel_yes {K : List P7 → P7 → Bool} {L : List P7} {k : Nat} {x : P7} (h : k < L.length) (hx : L.getD k p70 = x) (hK : K (L.take k) x = true) : sel K (L.take k) ++ [x] = sel K (L.take (k + 1)) := by
  rw [sel_take K L h, hx, hK]
  rfl
theorem sel_no {K : List P7 → P7 → Bool} {L : List P7} {k : Nat} {x : P7} (h : k < L.length) (hx : L.getD k p70 = x) (hK : K (L.take k) x = false) : sel K (L.take k) = sel K (L.take (k + 1)) := by
  rw [sel_take K L h, hx, hK]
  simp
theorem selA_len (K : List P7 → P7 → Bool) (A l : List P7) : (selA K A l).length ≤ l.length := by
  induction l generalizing A with
  | nil => simp [selA]
  | cons x l ih =>
    have := ih (A ++ [x])
    simp only [selA, List.length_append, List.length_cons]
    split <;> simp <;> omega
theorem sel_len (K : List P7 → P7 → Bool) (L : List P7) : (sel K L).length ≤ L.length := selA_len K [] L
theorem sel_all {K : List P7 → P7 → Bool} {L : List P7} {k : Nat} (h : k = L.length) : sel K (L.take k) = sel K L := by rw [h, List.take_length]
theorem selA_filter (q : P7 → Bool) (A l : List P7) : selA (fun _ p => q p) A l = l.filter q := by
  induction l generalizing A with
  | nil => rfl
  | cons x l ih => simp only [selA, ih, List.filter_cons]; split <;> simp
theorem sel_filter (q : P7 → Bool) (L : List P7) : sel (fun _ p => q p) L = L.filter q := selA_filter q [] L
theorem selA_mem {K : List P7 → P7 → Bool} {A l : List P7} {p : P7} (h : p ∈ selA K A l) : p ∈ l := by
  induction l generalizing A with
  | nil => simp [selA] at h
  | cons x l ih =>
    simp only [selA, List.mem_append] at h
    rcases h with h | h
    · split at h
      · simp at h; simp [h]
      · simp at h
    · exact List.mem_cons_of_mem _ (ih h)

/-- Numbers that an int holds. -/
def FrOk (L : List P7) : Prop := ∀ p ∈ L, IntKind.i64.wrap p.fr = p.fr
theorem FrOk.sel {L : List P7} (h : FrOk L) (K : List P7 → P7 → Bool) : FrOk (sel K L) := fun p hp => h p (selA_mem hp)
theorem FrOk.at {L : List P7} (h : FrOk L) {k : Nat} (hk : k < L.length) : IntKind.i64.wrap (L.getD k p70).fr = (L.getD k p70).fr := h _ (getD_in hk)

/-- What is ready. -/
def readyK (t : Int) (_ : List P7) (p : P7) : Bool := readyB p.st p.ti t
def vReady (L : List P7) (t : Int) : List P7 := sel (readyK t) L
/-- What one sends. -/
def ofK (f : Int) (_ : List P7) (p : P7) : Bool := p.fr == f
def vOf (L : List P7) (f : Int) : List P7 := sel (ofK f) L
theorem vReady_eq (L : List P7) (t : Int) : vReady L t = L.filter fun p => readyB p.st p.ti t := sel_filter _ L
theorem vOf_eq (L : List P7) (f : Int) : vOf L f = L.filter fun p => p.fr == f := sel_filter _ L
/-- How many one sends. -/
def cntF (A : List P7) (f : Int) : Nat := (vOf A f).length
theorem cntF_nil (f : Int) : cntF [] f = 0 := rfl
theorem cntF_snoc (A : List P7) (p : P7) (f : Int) : cntF (A ++ [p]) f = cntF A f + if p.fr = f then 1 else 0 := by
  unfold cntF vOf
  rw [sel_snoc]
  unfold ofK
  by_cases h : p.fr = f <;> simp [h]
theorem cntF_le (A : List P7) (f : Int) : cntF A f ≤ A.length := sel_len _ A
/-- How many of another class than Normal one sends. -/
def othF (A : List P7) (f : Int) : Nat := (A.filter fun p => p.fr == f && p.cl != 3).length
theorem othF_snoc (A : List P7) (p : P7) (f : Int) : othF (A ++ [p]) f = othF A f + if p.fr = f ∧ ¬ p.cl = 3 then 1 else 0 := by
  unfold othF
  rw [List.filter_append]
  by_cases h : p.fr = f <;> by_cases h2 : p.cl = 3 <;> simp [h, h2]
theorem othF_le (A : List P7) (f : Int) : othF A f ≤ A.length := List.length_filter_le _ _
/-- What may go, of what is ready. -/
def mayK (R A : List P7) (p : P7) : Bool := decide (cntF A p.fr = 0) || decide (othF R p.fr = 0)
def vMay (L : List P7) (t : Int) : List P7 := sel (mayK (vReady L t)) (vReady L t)
/-- The first ones of each. -/
def headK (M : List Int) (A : List P7) (p : P7) : Bool := decide (0 ≤ p.fr) && decide (p.fr < M.length) && decide ((cntF A p.fr : Int) < M.getD p.fr.toNat 0)
def vHeads (L : List P7) (M : List Int) : List P7 := sel (headK M) L

end Go.Proofs.Ytmfmdicdbjghkaa
