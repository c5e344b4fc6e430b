/-
  Records, one behind the other (encR); what Scan has of them, whole or cut; rows of bytes that came in.
-/
import Derived.Test.YtdecdjjknbbolaaRecRows
import Derived.Test.YtdecdjjknbbolaaArgs
import Derived.OneCell
namespace Go.Proofs.Ytdecdjjknbbolaa
open Go.RowKit
set_option linter.unusedVariables false
set_option linter.unusedSimpArgs false

def encR (R : List (List Int)) : List Int := R.flatMap recS
theorem encR_nil : encR [] = [] := rfl
theorem encR_cons (z : List Int) (R : List (List Int)) : encR (z :: R) = recS z ++ encR R := by simp [encR]
theorem encR_append (R S : List (List Int)) : encR (R ++ S) = encR R ++ encR S := by simp [encR]
theorem encR_one (R : List (List Int)) (z : List Int) : encR (R ++ [z]) = encR R ++ recS z := by simp [encR]

theorem recS_bs' {z : List Int} (h : Bs z) (hl : z.length ≤ 60000) : Bs (recS z) := by
  intro x hx
  simp only [recS, List.cons_append, List.nil_append, List.mem_cons] at hx
  rcases hx with rfl | rfl | hx
  · exact u8_wf (by omega) (by omega)
  · exact u8_wf (by omega) (by omega)
  · exact h x hx

theorem encR_bs {R : List (List Int)} (h : ∀ z ∈ R, Bs z ∧ z.length ≤ 60000) : Bs (encR R) := by
  intro x hx
  obtain ⟨z, hz, hx⟩ := List.mem_flatMap.1 hx
  exact recS_bs' (h z hz).1 (h z hz).2 x hx

theorem scanS_many (R : List (List Int)) (y : List Int) (h : ∀ z ∈ R, z.length ≤ 60000) : scanS (encR R ++ y) = (R ++ (scanS y).1, (scanS y).2) := by
  induction R with
  | nil => simp [encR_nil]
  | cons z R ih =>
    rw [encR_cons, List.append_assoc, scanS_rec z _ (h z (by simp)), ih (fun z hz => h z (by simp [hz]))]
    simp

theorem scanS_all (R : List (List Int)) (h : ∀ z ∈ R, z.length ≤ 60000) : scanS (encR R) = (R, 0) := by
  have := scanS_many R [] h
  rw [scanS_short [] (by simp)] at this
  simpa using this

/-- A record that is cut is none. -/
theorem scanS_cut (z y : List Int) (k : Nat) (h : z.length ≤ 60000) (hk : k < z.length + 2) : scanS ((recS z ++ y).take k) = ([], k) := by
  have e : ((((z.length / 256 : Nat) : Int)) * 256 + ((z.length % 256 : Nat) : Int)).toNat = z.length := by omega
  have h1 : recS z ++ y = ((z.length / 256 : Nat) : Int) :: ((z.length % 256 : Nat) : Int) :: (z ++ y) := by simp [recS]
  have hl : ((recS z ++ y).take k).length = k := by simp [recS]; omega
  by_cases h2 : k < 2
  · rw [scanS_short _ (by omega), hl]
  · obtain ⟨j, rfl⟩ : ∃ j, k = j + 2 := ⟨k - 2, by omega⟩
    rw [h1] at hl ⊢
    simp only [List.take_succ_cons, List.length_cons] at hl ⊢
    rw [scanS_stop _ _ _ (.inr (by rw [e]; omega))]
    simp at hl ⊢
    omega

/-- Of records that are cut anywhere: those that are whole. -/
theorem scanS_cutAt (R : List (List Int)) (n k : Nat) (h : ∀ z ∈ R, z.length ≤ 60000) (hn : n ≤ R.length) (h1 : (encR (R.take n)).length ≤ k) (hk : k ≤ (encR R).length) (h2 : n < R.length → k < (encR (R.take (n + 1))).length) :
    scanS ((encR R).take k) = (R.take n, k - (encR (R.take n)).length) := by
  have e : encR R = encR (R.take n) ++ encR (R.drop n) := by rw [← encR_append, List.take_append_drop]
  have e1 : (encR R).take k = encR (R.take n) ++ (encR (R.drop n)).take (k - (encR (R.take n)).length) := by
    rw [e, List.take_append, List.take_of_length_le h1]
  rw [e1, scanS_many _ _ (fun z hz => h z (List.mem_of_mem_take hz))]
  by_cases h3 : n < R.length
  · have h4 := h2 h3
    have e2 : R.drop n = R[n] :: R.drop (n + 1) := List.drop_eq_getElem_cons h3
    have e3 : R.take (n + 1) = R.take n ++ [R[n]] := by rw [List.take_succ_eq_append_getElem h3]
    rw [e3, encR_one, List.length_append, recS_length] at h4
    rw [e2, encR_cons, scanS_cut _ _ _ (h _ (List.getElem_mem h3)) (by omega)]
    simp
  · have : R.drop n = [] := List.drop_eq_nil_of_le (by omega)
    have hl : (encR R).length = (encR (R.take n)).length := by rw [e, this]; simp [encR_nil]
    rw [this, encR_nil, List.take_nil, scanS_short [] (by simp)]
    simp
    omega

/-- The first n of the rows Z. -/
def rowsOf (Z : Nat → List Int) (n : Nat) : List (List Int) := (List.range n).map Z
theorem rowsOf_zero (Z : Nat → List Int) : rowsOf Z 0 = [] := rfl
theorem rowsOf_succ (Z : Nat → List Int) (n : Nat) : rowsOf Z (n + 1) = rowsOf Z n ++ [Z n] := by simp [rowsOf, List.range_succ]
theorem rowsOf_length (Z : Nat → List Int) (n : Nat) : (rowsOf Z n).length = n := by simp [rowsOf]
theorem rowsOf_mem {Z : Nat → List Int} {n : Nat} {z : List Int} (h : z ∈ rowsOf Z n) : ∃ r, r < n ∧ z = Z r := by
  simp [rowsOf] at h
  obtain ⟨r, h1, h2⟩ := h
  exact ⟨r, h1, h2.symm⟩
theorem rowsOf_take (Z : Nat → List Int) (n k : Nat) (h : k ≤ n) : (rowsOf Z n).take k = rowsOf Z k := by
  simp only [rowsOf, ← List.map_take, List.take_range, Nat.min_eq_left h]
theorem rowsOf_getD (Z : Nat → List Int) (n r : Nat) (h : r < n) : (rowsOf Z n).getD r [] = Z r := by
  simp [rowsOf, List.getD_eq_getElem?_getD, h]

/-- How many bytes the first n records have. -/
def endR (Z : Nat → List Int) (n : Nat) : Nat := (encR (rowsOf Z n)).length
theorem endR_zero (Z : Nat → List Int) : endR Z 0 = 0 := rfl
theorem endR_succ (Z : Nat → List Int) (n : Nat) : endR Z (n + 1) = endR Z n + ((Z n).length + 2) := by
  simp [endR, rowsOf_succ, encR_one, recS_length]
theorem endR_le (Z : Nat → List Int) (n M : Nat) (h : ∀ r, r < n → (Z r).length ≤ M) : endR Z n ≤ n * (M + 2) := by
  induction n with
  | zero => simp [endR_zero]
  | succ n ih =>
    have := ih (fun r hr => h r (by omega))
    have := h n (by omega)
    rw [endR_succ, Nat.succ_mul]
    omega

namespace Walk
/-- A slice of slices of integers that came in. -/
def IsRows (k : IntKind) (w : World) (a : Option Addr) (len cap : Nat) (A : Nat → Option Addr) (L C : Nat → Nat) (Z : Nat → List Int) : Prop :=
  (a = none ∧ len = 0 ∧ cap = 0) ∨
  ∃ x, a = some x ∧ len ≤ cap ∧ cap ≤ maxLen ∧ ∀ r, r < cap → w.cell? (x.add r) = some (.slice (A r) (L r) (C r)) ∧ Sl k w (A r) (L r) (Z r) ∧ L r ≤ C r ∧ C r ≤ 9223372036854775807 ∧ (A r = none → C r = 0)

/-- What the reading of a slice of slices tells the walk. -/
theorem isRows_row {k : IntKind} {w : World} {A : Option Addr} {L C : Nat} {Z : List Int} (hk : ∀ n, (Lit.int k n).wf = true → k.wrap n = n) (h1 : L ≤ C) (h2 : C ≤ maxLen) (h3 : Z.length = C) (h4 : ∀ n ∈ Z, (Lit.int k n).wf = true) (h5 : A = none → C = 0)
    (h6 : ∀ a', A = some a' → ∀ c, c < C → w.cell? (a'.add c) = some (.int k (Z.getD c 0))) : Sl k w A L (Z.take L) ∧ L ≤ C ∧ C ≤ 9223372036854775807 ∧ (A = none → C = 0) := by
  have h : Sl k w A L (Z.take L) ∧ L ≤ C ∧ C ≤ 9223372036854775807 := by
    refine (IsRow.sl (k := k) (w := w) (a := A) (len := L) (cap := C) (zs := Z) ?_ hk)
    cases A with
    | none =>
      have h0 := h5 rfl
      subst h0
      exact .inl ⟨rfl, by omega, rfl, List.length_eq_zero_iff.mp h3⟩
    | some x => exact .inr ⟨x, rfl, h1, h2, h3, fun i hi => h6 x rfl i (by omega), h4⟩
  exact ⟨h.1, h.2.1, h.2.2, h5⟩
end Walk

/-- Rows of bytes that lie there, each wherever it lies. -/
def RowsAt (w : World) (a : Option Addr) (n : Nat) (A : Nat → Option Addr) (L C : Nat → Nat) (Z : Nat → List Int) : Prop :=
  n = 0 ∨ ∃ bb off, a = some ⟨bb, off, none⟩ ∧ bb < w.heap.size ∧ ∀ r, r < n → w.cell? ⟨bb, off + r, none⟩ = some (.slice (A r) (L r) (C r)) ∧ Sl .u8 w (A r) (L r) (Z r) ∧ L r ≤ C r ∧ C r ≤ 9223372036854775807 ∧ (A r = none → C r = 0)

theorem Walk.IsRows.rows {w : World} {a : Option Addr} {len cap : Nat} {A : Nat → Option Addr} {L C : Nat → Nat} {Z : Nat → List Int} (h : Walk.IsRows .u8 w a len cap A L C Z) : RowsAt w a len A L C Z ∧ len ≤ cap ∧ cap ≤ 9223372036854775807 ∧ (a = none → cap = 0) := by
  rcases h with ⟨rfl, rfl, rfl⟩ | ⟨x, rfl, hl, hm, h3⟩
  · exact ⟨.inl rfl, by omega, by omega, fun _ => rfl⟩
  · unfold maxLen at hm
    refine ⟨?_, hl, by omega, fun h => by simp at h⟩
    by_cases h0 : len = 0
    · exact .inl h0
    · obtain ⟨b, off, spot⟩ := x
      have hs := (h3 0 (by omega)).1
      have hspot : spot = none := by simpa [Addr.add] using World.cell?_spot hs
      subst hspot
      have hb : b < w.heap.size := by
        rw [Addr.add_flat] at hs
        exact block_lt_of_cell hs
      refine .inr ⟨b, off, rfl, hb, fun r hr => ?_⟩
      have := h3 r (by omega)
      rw [Addr.add_flat] at this
      exact this

theorem rowsAt_rowsIn {w : World} {a : Option Addr} {n : Nat} {A : Nat → Option Addr} {L C : Nat → Nat} {Z : Nat → List Int} (h : RowsAt w a n A L C Z) (k : Nat) (hk : k ≤ n) : RowsIn w a k (rowsOf Z k) := by
  have bs : ∀ z ∈ rowsOf Z k, Bs z := by
    intro z hz
    obtain ⟨r, hr, rfl⟩ := rowsOf_mem hz
    rcases h with h0 | ⟨bb, off, ha, hb, hc⟩
    · omega
    · exact (hc r (by omega)).2.1.2.1
  refine ⟨(rowsOf_length _ _).symm, bs, ?_⟩
  rcases h with h0 | ⟨bb, off, ha, hb, hc⟩
  · have : k = 0 := by omega
    subst this
    exact .inl rfl
  · refine .inr ⟨bb, off, ha, fun i hi => ?_⟩
    rw [rowsOf_length] at hi
    obtain ⟨h1, h2, _⟩ := hc i (by omega)
    rw [rowsOf_getD Z k i hi, ← h2.1]
    exact ⟨A i, C i, h1, h2⟩

theorem rowsAt_below {w w' : World} {a : Option Addr} {n : Nat} {A : Nat → Option Addr} {L C : Nat → Nat} {Z : Nat → List Int} (h : RowsAt w a n A L C Z) (k : Below w.heap.size w w') : RowsAt w' a n A L C Z := by
  rcases h with h0 | ⟨bb, off, ha, hb, hc⟩
  · exact .inl h0
  · refine .inr ⟨bb, off, ha, Nat.lt_of_lt_of_le hb k.size, fun r hr => ?_⟩
    obtain ⟨h1, h2, h3⟩ := hc r hr
    exact ⟨(k.cell (p := ⟨bb, off + r, none⟩) hb).trans h1, h2.below k, h3⟩

theorem getD_set_self {R : List (List Int)} {i : Nat} (hi : i < R.length) (z : List Int) : (R.set i z).getD i [] = z := by
  simp [List.getD_eq_getElem?_getD, hi]
theorem getD_set_ne {R : List (List Int)} {i j : Nat} (h : i ≠ j) (z : List Int) : (R.set i z).getD j [] = R.getD j [] := by
  simp [List.getD_eq_getElem?_getD, List.getElem?_set_ne h]

/-- A byte of a row that was made is turned: they are rows as before. -/
theorem made_poke {w : World} {B : Nat} {v : Value} {vs : List Value} {R : List (List Int)} (h : Made w B v vs R) (i : Nat) (hi : i < R.length) (g n c : Nat) (hv : vs.getD i undef = .slice (some ⟨g, 0, none⟩) n c) (y : Int) (hy : IntKind.u8.wrap y = y) :
    ∃ R', R'.length = R.length ∧ Made (w.setCell ⟨g, 0, none⟩ (.int .u8 y)) B v vs R' := by
  have hg : (vs.getD i undef).ownBlock = some g := by rw [hv]; rfl
  have hr := h.row i hi
  rw [hv] at hr
  obtain ⟨a', c', he⟩ := own_form hr
  simp at he
  obtain ⟨_, hn, _⟩ := he
  refine ⟨R.set i ((R.getD i []).set 0 y), by simp, ?_, ?_, ?_, ?_, ?_⟩
  · have hs := h.spine i hi
    rw [hg] at hs
    rw [List.length_set]
    exact ownsRow_setCell_other h.own (fun e => by rcases hs with hs | hs <;> simp [e] at hs) _
  · intro j hj
    rw [List.length_set] at hj
    by_cases hij : i = j
    · subst hij
      rw [getD_set_self hi, hv, List.length_set, List.map_set]
      rw [hn] at hr ⊢
      exact (hr.stored 0 (.int .u8 y)).1
    · rw [getD_set_ne hij]
      refine ownsRow_setCell_other (h.row j hj) (fun e => ?_) _
      have hs := h.rows j i hj hi (fun e => hij e.symm)
      rw [hg] at hs
      rcases hs with hs | hs
      · rw [hs] at e; simp at e
      · exact hs e
  · intro j hj
    rw [List.length_set] at hj
    exact h.spine j hj
  · intro j k hj hk
    rw [List.length_set] at hj hk
    exact h.rows j k hj hk
  · intro z hz
    rcases List.mem_or_eq_of_mem_set hz with hz | rfl
    · exact h.bs z hz
    · intro x hx
      rcases List.mem_or_eq_of_mem_set hx with hx | rfl
      · exact getD_bs h.bs i x hx
      · exact hy

end Go.Proofs.Ytdecdjjknbbolaa
