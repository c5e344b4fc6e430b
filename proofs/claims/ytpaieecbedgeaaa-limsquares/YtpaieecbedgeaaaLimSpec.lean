/-
  What books may be: plain facts of lists.
-/
import Derived.Test.YtpaieecbedgeaaaLimBooks
import Derived.Test.YtpaieecbedgeaaaLimSq
import Derived.Test.YtpaieecbedgeaaaAcctIs
namespace Go.Proofs.Ytpaieecbedgeaaa
open Go.RowKit
set_option linter.unusedVariables false
set_option linter.unusedSimpArgs false

/-- May it be a limit? -/
def limB (v : Int) : Bool := decide (-1 ≤ v ∧ v ≤ 2305843009213693952)
/-- A position? -/
def posB (v : Int) : Bool := decide (-72057594037927936 < v ∧ v < 72057594037927936)
theorem limB_rest {v : Int} (h : 0 ≤ v) : decide (v ≤ 2305843009213693952) = limB v := by unfold limB; simp only [decide_eq_decide]; omega
theorem limB_rest' {v : Int} (h : -1 ≤ v) : decide (v ≤ 2305843009213693952) = limB v := by unfold limB; simp only [decide_eq_decide]; omega
theorem limB_low {v : Int} (h : v < -1) : false = limB v := by unfold limB; symm; rw [decide_eq_false_iff_not]; omega
theorem posB_low {v : Int} (h : v ≤ -72057594037927936) : false = posB v := by unfold posB; symm; rw [decide_eq_false_iff_not]; omega
theorem posB_rest {v : Int} (h : -72057594037927936 < v) : decide (v < 72057594037927936) = posB v := by unfold posB; simp only [decide_eq_decide]; omega
theorem posB_yes {v : Int} (h : posB v = true) : -72057594037927936 < v ∧ v < 72057594037927936 := by unfold posB at h; exact of_decide_eq_true h
theorem posB_mk {v : Int} (h : -72057594037927936 < v) (k : v < 72057594037927936) : posB v = true := by unfold posB; exact decide_eq_true ⟨h, k⟩

/-- n rows of n. -/
def squareB (R : List (List Int)) (n : Nat) : Bool := decide (R.length = n) && R.all (fun z => decide (z.length = n))
/-- The number at i, k. -/
def at2 (R : List (List Int)) (i k : Nat) : Int := (R.getD i []).getD k 0
/-- Each is the one that it mirrors, turned round. -/
def turnB (R : List (List Int)) : Bool := (List.range R.length).all fun i => (List.range R.length).all fun k => decide (at2 R i k = -at2 R k i)
def cellB (b : Bks) (i k : Nat) : Bool := limB (at2 b.B i k) && (posB (at2 b.P i k) && decide (at2 b.P i k = -at2 b.P k i))
def acctAt (A : List A3) (i : Nat) : Bool := acctB (A.getD i a30).1 (A.getD i a30).2.1 (A.getD i a30).2.2
def rowB (b : Bks) (n i : Nat) : Bool := acctAt b.A i && (limB (b.M.getD i 0) && (List.range n).all (cellB b i))
/-- Are they books? -/
def booksB (b : Bks) : Bool := decide (1 ≤ b.A.length ∧ b.A.length ≤ 6) && (squareB b.B b.A.length && (squareB b.P b.A.length && (decide (b.M.length = b.A.length) && (List.range b.A.length).all (rowB b b.A.length))))

/-- What makes books. -/
structure Good (b : Bks) : Prop where
  n1 : 1 ≤ b.A.length
  n6 : b.A.length ≤ 6
  acc : ∀ i, i < b.A.length → acctAt b.A i = true
  bil : b.B.length = b.A.length
  bils : ∀ i, i < b.A.length → (b.B.getD i []).length = b.A.length
  lim : ∀ i k, i < b.A.length → k < b.A.length → limB (at2 b.B i k) = true
  mul : b.M.length = b.A.length
  muls : ∀ i, i < b.A.length → limB (b.M.getD i 0) = true
  pos : b.P.length = b.A.length
  poss : ∀ i, i < b.A.length → (b.P.getD i []).length = b.A.length
  may : ∀ i k, i < b.A.length → k < b.A.length → posB (at2 b.P i k) = true
  turn : ∀ i k, i < b.A.length → k < b.A.length → at2 b.P i k = -at2 b.P k i

theorem all_at {α : Type} {l : List α} {d : α} {p : α → Bool} : l.all p = true ↔ ∀ i, i < l.length → p (l.getD i d) = true := by
  rw [List.all_eq_true]
  constructor
  · intro h i hi
    exact h _ (by simp [List.getD_eq_getElem?_getD, hi])
  · intro h x hx
    obtain ⟨i, hi, rfl⟩ := List.getElem_of_mem hx
    have := h i hi
    simpa [List.getD_eq_getElem?_getD, hi] using this
theorem squareB_yes {R : List (List Int)} {n : Nat} : squareB R n = true ↔ R.length = n ∧ ∀ i, i < n → (R.getD i []).length = n := by
  unfold squareB
  rw [Bool.and_eq_true, decide_eq_true_iff, all_at (d := [])]
  constructor
  · rintro ⟨h1, h2⟩
    exact ⟨h1, fun i hi => of_decide_eq_true (h2 i (by omega))⟩
  · rintro ⟨h1, h2⟩
    exact ⟨h1, fun i hi => decide_eq_true (h2 i (by omega))⟩
theorem range_all {n : Nat} {p : Nat → Bool} : (List.range n).all p = true ↔ ∀ i, i < n → p i = true := by
  rw [List.all_eq_true]
  simp only [List.mem_range]
theorem booksB_yes {b : Bks} : booksB b = true ↔ Good b := by
  unfold booksB
  simp only [Bool.and_eq_true, decide_eq_true_iff, squareB_yes, range_all, rowB, cellB]
  constructor
  · rintro ⟨⟨h1, h2⟩, ⟨h3, h4⟩, ⟨h5, h6⟩, h7, h8⟩
    exact ⟨h1, h2, fun i hi => (h8 i hi).1, h3, h4, fun i k hi hk => ((h8 i hi).2.2 k hk).1, h7, fun i hi => (h8 i hi).2.1, h5, h6, fun i k hi hk => ((h8 i hi).2.2 k hk).2.1, fun i k hi hk => ((h8 i hi).2.2 k hk).2.2⟩
  · intro h
    exact ⟨⟨h.n1, h.n6⟩, ⟨h.bil, h.bils⟩, ⟨h.pos, h.poss⟩, h.mul, fun i hi => ⟨h.acc i hi, h.muls i hi, fun k hk => ⟨h.lim i k hi hk, h.may i k hi hk, h.turn i k hi hk⟩⟩⟩

/-- The same, as the program asks it. -/
def booksC (b : Bks) : Bool := decide (0 < (b.A.length : Int)) && (partB b.A.length && ((b.A.all fun x => acctB x.1 x.2.1 x.2.2) && (squareB b.B b.A.length && ((b.B.all fun z => z.all limB) && (decide (b.M.length = b.A.length) && (b.M.all limB && (squareB b.P b.A.length && ((b.P.all fun z => z.all posB) && turnB b.P))))))))
theorem booksC_eq (b : Bks) : booksC b = booksB b := by
  rw [Bool.eq_iff_iff, booksB_yes]
  unfold booksC
  simp only [Bool.and_eq_true, decide_eq_true_iff, squareB_yes]
  constructor
  · rintro ⟨h1, h2, h3, ⟨h4, h5⟩, h6, h7, h8, ⟨h9, h10⟩, h11, h12⟩
    have hn : 0 ≤ (b.A.length : Int) ∧ (b.A.length : Int) ≤ 6 := of_decide_eq_true h2
    rw [all_at (d := a30)] at h3
    rw [all_at (d := [])] at h6 h11
    rw [all_at (d := 0)] at h8
    refine ⟨by omega, by omega, h3, h4, h5, ?_, h7, fun i hi => h8 i (by omega), h9, h10, ?_, ?_⟩
    · intro i k hi hk
      have := h6 i (by omega)
      rw [all_at (d := 0)] at this
      exact this k (by rw [h5 i hi]; exact hk)
    · intro i k hi hk
      have := h11 i (by omega)
      rw [all_at (d := 0)] at this
      exact this k (by rw [h10 i hi]; exact hk)
    · intro i k hi hk
      unfold turnB at h12
      rw [range_all] at h12
      have := h12 i (by omega)
      rw [range_all] at this
      exact of_decide_eq_true (this k (by omega))
  · intro h
    have h1 := h.n1
    have h6 := h.n6
    refine ⟨by omega, decide_eq_true ⟨by omega, by omega⟩, ?_, ⟨h.bil, h.bils⟩, ?_, h.mul, ?_, ⟨h.pos, h.poss⟩, ?_, ?_⟩
    · rw [all_at (d := a30)]
      exact h.acc
    · rw [all_at (d := [])]
      intro i hi
      rw [all_at (d := 0)]
      intro k hk
      rw [h.bil] at hi
      rw [h.bils i hi] at hk
      exact h.lim i k hi hk
    · rw [all_at (d := 0)]
      intro i hi
      exact h.muls i (by rw [← h.mul]; exact hi)
    · rw [all_at (d := [])]
      intro i hi
      rw [all_at (d := 0)]
      intro k hk
      rw [h.pos] at hi
      rw [h.poss i hi] at hk
      exact h.may i k hi hk
    · unfold turnB
      rw [range_all]
      intro i hi
      rw [range_all]
      intro k hk
      rw [h.pos] at hi hk
      exact decide_eq_true (h.turn i k hi hk)

theorem all_snoc {α : Type} {l : List α} {d : α} {p : α → Bool} {k : Nat} (h : k < l.length) (ha : (l.take k).all p = true) (hp : p (l.getD k d) = true) : (l.take (k + 1)).all p = true := by
  rw [take_snocA l d k h, List.all_append, ha, List.all_cons, List.all_nil, hp]; rfl
theorem all_no {α : Type} {l : List α} {d : α} {p : α → Bool} {k : Nat} (h : k < l.length) (hp : p (l.getD k d) = false) : false = l.all p := by
  symm
  rw [Bool.eq_false_iff]
  intro ha
  rw [all_at (d := d)] at ha
  rw [ha k h] at hp
  exact Bool.noConfusion hp
theorem all_take {α : Type} {l : List α} {p : α → Bool} (h : (l.take l.length).all p = true) : true = l.all p := by rw [List.take_length] at h; exact h.symm

end Go.Proofs.Ytpaieecbedgeaaa
