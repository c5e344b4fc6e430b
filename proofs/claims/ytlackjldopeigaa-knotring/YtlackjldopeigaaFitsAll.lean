/-
  Texts of this seat in one: FitsSpec, FitsMv, FitsMay, FitsMoved, FitsLack, BkFlat, FitsOver, IntRow, FitsWho, FitsMoves, FitsAsk.
-/
import Derived.Test.YtlackjldopeigaaLimTwo
import Derived.Test.YtlackjldopeigaaLimOne
import Derived.Test.YtlackjldopeigaaRowBase
import Derived.Deep.MidRow
import Derived.Deep.WholeRow

/-
  fits: whether payments may be settled at once, as plain lists.
-/
namespace Go.Proofs.Ytlackjldopeigaa
open Go.RowKit
set_option linter.unusedVariables false
set_option linter.unusedSimpArgs false

/-- May there be such a payment among n parties? -/
def mayB (n : Nat) (p : P7) : Bool := decide (0 ≤ p.fr ∧ p.fr < n) && (decide (0 ≤ p.to ∧ p.to < n) && (p.fr != p.to && (decide (1 ≤ p.am ∧ p.am ≤ 1099511627776) && decide (1 ≤ p.cl ∧ p.cl ≤ 3))))
theorem mayB_yes {n : Nat} {p : P7} : mayB n p = true ↔ (0 ≤ p.fr ∧ p.fr < n) ∧ (0 ≤ p.to ∧ p.to < n) ∧ ¬ p.fr = p.to ∧ (1 ≤ p.am ∧ p.am ≤ 1099511627776) ∧ (1 ≤ p.cl ∧ p.cl ≤ 3) := by simp [mayB]
/-- A sum over payments. -/
def sumS (g : P7 → Int) : List P7 → Int
  | [] => 0
  | p :: l => g p + sumS g l
theorem sumS_append (g : P7 → Int) (A B : List P7) : sumS g (A ++ B) = sumS g A + sumS g B := by
  induction A with
  | nil => simp [sumS]
  | cons x l ih => simp only [List.cons_append, sumS, ih]; omega
theorem sumS_snoc (g : P7 → Int) (A : List P7) (p : P7) : sumS g (A ++ [p]) = sumS g A + g p := by rw [sumS_append]; simp [sumS]
theorem sumS_perm (g : P7 → Int) {A B : List P7} (h : A.Perm B) : sumS g A = sumS g B := by
  induction h with
  | nil => rfl
  | cons x _ ih => simp only [sumS, ih]
  | swap x y l => simp only [sumS]; omega
  | trans _ _ h1 h2 => exact h1.trans h2
theorem sumS_nonneg (g : P7 → Int) (A : List P7) (h : ∀ p ∈ A, 0 ≤ g p) : 0 ≤ sumS g A := by
  induction A with
  | nil => exact Int.le_refl _
  | cons x l ih =>
    have h1 := h x (by simp)
    have h2 := ih fun p hp => h p (by simp [hp])
    simp only [sumS]
    omega
theorem sumS_bound (g : P7 → Int) (A : List P7) (M : Int) (h : ∀ p ∈ A, 0 ≤ g p ∧ g p ≤ M) : 0 ≤ sumS g A ∧ sumS g A ≤ A.length * M := by
  induction A with
  | nil => simp [sumS]
  | cons x l ih =>
    have h1 := h x (by simp)
    have h2 := ih fun p hp => h p (by simp [hp])
    simp only [sumS, List.length_cons]
    have : ((l.length + 1 : Nat) : Int) * M = l.length * M + M := by rw [Int.natCast_add, Int.add_mul]; simp
    omega
theorem sumS_le (f g : P7 → Int) (A : List P7) (h : ∀ p ∈ A, f p ≤ g p) : sumS f A ≤ sumS g A := by
  induction A with
  | nil => exact Int.le_refl _
  | cons x l ih =>
    have h1 := h x (by simp)
    have h2 := ih fun p hp => h p (by simp [hp])
    simp only [sumS]
    omega
/-- What one sends to another; what it sends of Normal ones; of others. -/
def sentG (i k : Int) (p : P7) : Int := if p.fr = i ∧ p.to = k then p.am else 0
def sentS (l : List P7) (i k : Int) : Int := sumS (sentG i k) l
def plainG (i : Int) (p : P7) : Int := if p.fr = i ∧ p.cl = 3 then p.am else 0
def plainS (l : List P7) (i : Int) : Int := sumS (plainG i) l
def spentG (i : Int) (p : P7) : Int := if p.fr = i ∧ ¬ p.cl = 3 then p.am else 0
def spentS (l : List P7) (i : Int) : Int := sumS (spentG i) l
theorem sentG_bound {M : Int} {i k : Int} {p : P7} (h : 0 ≤ p.am ∧ p.am ≤ M) : 0 ≤ sentG i k p ∧ sentG i k p ≤ M := by unfold sentG; split <;> omega
theorem plainG_bound {M : Int} {i : Int} {p : P7} (h : 0 ≤ p.am ∧ p.am ≤ M) : 0 ≤ plainG i p ∧ plainG i p ≤ M := by unfold plainG; split <;> omega
theorem spentG_bound {M : Int} {i : Int} {p : P7} (h : 0 ≤ p.am ∧ p.am ≤ M) : 0 ≤ spentG i p ∧ spentG i p ≤ M := by unfold spentG; split <;> omega
/-- What it sends to another less what it gets; to the first k. -/
def netS (l : List P7) (i k : Int) : Int := sentS l i k - sentS l k i
def dTo (l : List P7) (i : Int) : Nat → Int
  | 0 => 0
  | k + 1 => dTo l i k + netS l i k
/-- Beyond its limit to k? -/
def overB (b : Bks) (l : List P7) (i k : Nat) : Bool := decide (0 < sentS l i k) && (decide (¬ at2 b.B i k = -1) && decide (at2 b.B i k < at2 b.P i k + netS l i k))
/-- Does it fall short? n: how many parties. -/
def lowB (b : Bks) (l : List P7) (n i : Nat) : Bool :=
  decide ((b.A.getD i a30).1 + (b.A.getD i a30).2.1 - dTo l i n < 0) || (decide (0 < plainS l i) && decide ((b.A.getD i a30).1 + (b.A.getD i a30).2.1 - dTo l i n < keptV (b.A.getD i a30).2.2 (spentS l i)))
def wideB (b : Bks) (l : List P7) (n i : Nat) : Bool := decide (¬ b.M.getD i 0 = -1) && decide (b.M.getD i 0 < netTo b.P i n + dTo l i n)
def shortB (b : Bks) (l : List P7) (n i : Nat) : Bool :=
  decide (¬ plainS l i + spentS l i = 0) && ((List.range n).any (overB b l i) || (lowB b l n i || wideB b l n i))
def shortL (b : Bks) (l : List P7) : List Nat := (List.range b.A.length).filter (shortB b l b.A.length)
/-- May all be, and are there no more than may be? -/
def allB (b : Bks) (l : List P7) : Bool := l.all (mayB b.A.length) && decide (l.length ≤ 64)
def fitsB (b : Bks) (l : List P7) : Bool := allB b l && decide ((shortL b l).length = 0)

/-- In which order they stand does not matter. -/
theorem sentS_perm {l m : List P7} (h : l.Perm m) (i k : Int) : sentS l i k = sentS m i k := sumS_perm _ h
theorem netS_perm {l m : List P7} (h : l.Perm m) (i k : Int) : netS l i k = netS m i k := by unfold netS; rw [sentS_perm h, sentS_perm h]
theorem dTo_perm {l m : List P7} (h : l.Perm m) (i : Int) (n : Nat) : dTo l i n = dTo m i n := by
  induction n with
  | zero => rfl
  | succ n ih => simp only [dTo, ih, netS_perm h]
theorem shortB_perm (b : Bks) {l m : List P7} (h : l.Perm m) (n i : Nat) : shortB b l n i = shortB b m n i := by
  have e : overB b l i = overB b m i := by funext k; unfold overB; rw [sentS_perm h, netS_perm h]
  unfold shortB lowB wideB
  rw [e, dTo_perm h]
  unfold plainS spentS
  rw [sumS_perm _ h, sumS_perm _ h]
theorem shortL_perm (b : Bks) {l m : List P7} (h : l.Perm m) : shortL b l = shortL b m := by
  unfold shortL
  rw [show shortB b l b.A.length = shortB b m b.A.length from funext fun i => shortB_perm b h _ i]

/-- Others send less. -/
structure Fewer (l m : List P7) (i : Int) : Prop where
  sent : ∀ k, sentS m i k = sentS l i k
  gets : ∀ k, sentS m k i ≤ sentS l k i
  plain : plainS m i = plainS l i
  spent : spentS m i = spentS l i
theorem Fewer.refl (l : List P7) (i : Int) : Fewer l l i := ⟨fun _ => rfl, fun _ => Int.le_refl _, rfl, rfl⟩
theorem Fewer.trans {l m o : List P7} {i : Int} (h : Fewer l m i) (k : Fewer m o i) : Fewer l o i :=
  ⟨fun x => (k.sent x).trans (h.sent x), fun x => Int.le_trans (k.gets x) (h.gets x), k.plain.trans h.plain, k.spent.trans h.spent⟩
theorem Fewer.net {l m : List P7} {i : Int} (h : Fewer l m i) (k : Int) : netS l i k ≤ netS m i k := by
  have h1 := h.sent k
  have h2 := h.gets k
  unfold netS
  omega
theorem Fewer.dTo {l m : List P7} {i : Int} (h : Fewer l m i) (n : Nat) : dTo l i n ≤ dTo m i n := by
  induction n with
  | zero => exact Int.le_refl _
  | succ n ih =>
    have := h.net (n : Int)
    simp only [Go.Proofs.Ytlackjldopeigaa.dTo]
    omega
/-- Who falls short stays so. -/
theorem Fewer.short {b : Bks} {l m : List P7} {n i : Nat} (h : Fewer l m (i : Int)) (hs : shortB b l n i = true) : shortB b m n i = true := by
  unfold shortB at hs ⊢
  rw [Bool.and_eq_true] at hs ⊢
  obtain ⟨h1, h2⟩ := hs
  refine ⟨by rw [h.plain, h.spent]; exact h1, ?_⟩
  have hd := h.dTo n
  rw [Bool.or_eq_true] at h2 ⊢
  rcases h2 with h2 | h2
  · left
    rw [List.any_eq_true] at h2 ⊢
    obtain ⟨k, hk, ho⟩ := h2
    refine ⟨k, hk, ?_⟩
    unfold overB at ho ⊢
    rw [Bool.and_eq_true, Bool.and_eq_true, decide_eq_true_eq, decide_eq_true_eq, decide_eq_true_eq] at ho ⊢
    have h3 := h.sent (k : Int)
    have h4 := h.net (k : Int)
    exact ⟨by omega, ho.2.1, by omega⟩
  · right
    rw [Bool.or_eq_true] at h2 ⊢
    rcases h2 with h2 | h2
    · left
      unfold lowB at h2 ⊢
      rw [Bool.or_eq_true, Bool.and_eq_true, decide_eq_true_eq, decide_eq_true_eq, decide_eq_true_eq] at h2 ⊢
      rw [h.plain, h.spent]
      rcases h2 with h2 | h2
      · left; omega
      · right; exact ⟨h2.1, by omega⟩
    · right
      unfold wideB at h2 ⊢
      rw [Bool.and_eq_true, decide_eq_true_eq, decide_eq_true_eq] at h2 ⊢
      exact ⟨h2.1, by omega⟩
/-- One that another sends is gone. -/
theorem fewer_rest {l : List P7} {j : Nat} {i : Int} (hj : j < l.length) (hf : ¬ (l.getD j p70).fr = i) (h0 : 0 ≤ (l.getD j p70).am) : Fewer l (qRest l j) i := by
  have e : l = l.take j ++ l.getD j p70 :: l.drop (j + 1) := by
    rw [getD_get hj, List.getElem_cons_drop, List.take_append_drop]
  have s : ∀ g : P7 → Int, sumS g l = sumS g (qRest l j) + g (l.getD j p70) := by
    intro g
    obtain ⟨x, hx⟩ : ∃ x, l.getD j p70 = x := ⟨_, rfl⟩
    rw [hx] at e ⊢
    have e2 : sumS g l = sumS g (l.take j ++ x :: l.drop (j + 1)) := congrArg (sumS g) e
    rw [e2]
    unfold qRest
    rw [sumS_append, sumS_append]
    simp only [sumS]
    omega
  refine ⟨fun k => ?_, fun k => ?_, ?_, ?_⟩
  · have := s (sentG i k)
    unfold sentS
    have z : sentG i k (l.getD j p70) = 0 := by unfold sentG; rw [if_neg (fun h => hf h.1)]
    omega
  · have := s (sentG k i)
    unfold sentS
    have z : 0 ≤ sentG k i (l.getD j p70) := by unfold sentG; split <;> omega
    omega
  · have := s (plainG i)
    unfold plainS
    have z : plainG i (l.getD j p70) = 0 := by unfold plainG; rw [if_neg (fun h => hf h.1)]
    omega
  · have := s (spentG i)
    unfold spentS
    have z : spentG i (l.getD j p70) = 0 := by unfold spentG; rw [if_neg (fun h => hf h.1)]
    omega

/-- The list begun at another place. -/
def turnL (l : List P7) (t : Nat) : List P7 := (List.range l.length).map fun i => l.getD ((i + t) % l.length) p70
theorem turnL_perm (l : List P7) (t : Nat) : (turnL l t).Perm l := by
  by_cases h0 : l.length = 0
  · have : l = [] := List.length_eq_zero_iff.1 h0
    subst this
    exact List.Perm.nil
  · have hs : t % l.length < l.length := Nat.mod_lt _ (by omega)
    have e : turnL l t = l.drop (t % l.length) ++ l.take (t % l.length) := by
      refine ext_getD (by simp [turnL]; omega) fun i hi => ?_
      have hi : i < l.length := by simpa [turnL] using hi
      have e1 : (turnL l t).getD i p70 = l.getD ((i + t) % l.length) p70 := by simp [turnL, List.getD_eq_getElem?_getD, hi]
      rw [e1]
      have hm : (i + t) % l.length = if i + t % l.length < l.length then i + t % l.length else i + t % l.length - l.length := by
        rw [Nat.add_mod, Nat.mod_eq_of_lt hi]
        split
        · rw [Nat.mod_eq_of_lt (by omega)]
        · rw [Nat.mod_eq_sub_mod (by omega), Nat.mod_eq_of_lt (by omega)]
      rw [hm]
      split
      · rename_i h
        rw [getD_left (by simp; omega), getD_drop, Nat.add_comm]
      · rename_i h
        rw [getD_right (by simp; omega), getD_take (by simp; omega)]
        congr 1
        simp
        omega
    rw [e]
    exact (List.perm_append_comm).trans (by rw [List.take_append_drop])

end Go.Proofs.Ytlackjldopeigaa

/-
  fits: what payments move, as 42 numbers; what one sends and gets in all.
-/
namespace Go.Proofs.Ytlackjldopeigaa
open Go.RowKit
set_option linter.unusedVariables false
set_option linter.unusedSimpArgs false

/-- The cells of numbers. -/
def mvA (z : List Int) : Array Value := (z.map (Value.int .i64)).toArray
theorem mvA_at (z : List Int) (j : Nat) (hj : j < z.length) : (mvA z)[j]? = some (.int .i64 (z.getD j 0)) := by simp [mvA, hj]
theorem mvA_size (z : List Int) : (mvA z).size = z.length := by simp [mvA]
theorem mvA_one (z : List Int) : (mvA z).all (·.oneCell') = true := by
  rw [Array.all_eq_true_iff_forall_mem]
  intro v hv
  simp only [mvA, List.mem_toArray, List.mem_map] at hv
  obtain ⟨n, _, rfl⟩ := hv
  rfl
theorem infoMv : (Try.prog.info? 92).map (·.size) = some 42 := by kernel_rfl
theorem infoSix : (Try.prog.info? 89).map (·.size) = some 6 := by kernel_rfl
theorem infoSq : (Try.prog.info? 90).map (·.size) = some 36 := by kernel_rfl
/-- They lie at g. -/
def MvAt (w : World) (g : Nat) (z : List Int) : Prop := ∀ j, j < 42 → w.cell? ⟨g, j, none⟩ = some (.int .i64 (z.getD j 0))
theorem MvAt.new (w : World) (z : List Int) (hz : z.length = 42) (t : TypeId) (fr : Nat × Nat) : MvAt (w.alloc (.cells (mvA z) t fr)) w.heap.size z := fun j hj => by
  rw [cell_new, mvA_at z j (by omega)]
theorem MvAt.below {w w' : World} {g : Nat} {z : List Int} (h : MvAt w g z) (hb : Below w.heap.size w w') : MvAt w' g z := fun j hj => by
  have h0 := h j hj
  rw [hb.cell (p := ⟨g, j, none⟩) (block_lt_of_cell h0)]; exact h0
theorem MvAt.range {w : World} {g : Nat} {z : List Int} (h : MvAt w g z) (hz : z.length = 42) : w.rangeAt g 0 (z.map (Value.int .i64)) := fun j v hv => by
  have hj : j < 42 := by have := (List.getElem?_eq_some_iff.1 hv).1; simp at this; omega
  rw [Nat.zero_add, h j hj, ← hv]
  simp [hz, hj]
theorem index_six (cs : Array Value) (k : Nat) (hk : k < 6) (v : Value) (hv : cs[k]? = some v) (w : World) : (Instr.index 89 (.agg cs) (.int .i64 k)).run Try.prog w = .ok v w := by
  have h1 : (k : Int) < 6 := by omega
  have h2 : (Try.prog.info? 2).map (·.size) = some 1 := by kernel_rfl
  cases hq : Try.prog.info? 2 with
  | none => simp [hq] at h2
  | some i =>
    have h3 : i.size = 1 := by simpa [hq] using h2
    simp [Instr.index, asIntOf, part, isAgg, sizeOf, typeInfo, run_underlying Try.underlying89, run_underlying Try.underlying2, h1, hk, hq, h3, hv, go_sem]
/-- What one sends to all; what it gets of all. -/
def outZ (z : List Int) (i : Nat) : Int := z.getD (i * 6) 0 + z.getD (i * 6 + 1) 0 + z.getD (i * 6 + 2) 0 + z.getD (i * 6 + 3) 0 + z.getD (i * 6 + 4) 0 + z.getD (i * 6 + 5) 0
def colZ (z : List Int) (i : Nat) : Nat → Int
  | 0 => 0
  | k + 1 => colZ z i k + z.getD (k * 6 + i) 0
def inZ (z : List Int) (i : Nat) : Int := colZ z i 6
/-- They may be such. -/
structure MvOk (z : List Int) : Prop where
  len : z.length = 42
  le : ∀ j, 0 ≤ z.getD j 0 ∧ z.getD j 0 ≤ 70368744177664

set_option maxHeartbeats 2000000 in
theorem out_any (z : List Int) (i : Nat) (w : World) (h : MvOk z) (hi : i < 6) : Calls Try.prog 72 #[.agg (mvA z), .int .i64 i] w fun e w' => e = .returned (.int .i64 (outZ z i)) ∧ Below w.heap.size w w' := by
  have H := MvAt.new w z h.len 92 (0, 0)
  have b0 := h.le (i * 6)
  have b1 := h.le (i * 6 + 1)
  have b2 := h.le (i * 6 + 2)
  have b3 := h.le (i * 6 + 3)
  have b4 := h.le (i * 6 + 4)
  have b5 := h.le (i * 6 + 5)
  have c0 := H (i * 6) (by omega)
  have c1 := H (i * 6 + 1) (by omega)
  have c2 := H (i * 6 + 2) (by omega)
  have c3 := H (i * 6 + 3) (by omega)
  have c4 := H (i * 6 + 4) (by omega)
  have c5 := H (i * 6 + 5) (by omega)
  have i1 : (i : Int) < 6 := by omega
  unfold outZ
  generalize z.getD (i * 6) 0 = x0 at b0 c0 ⊢
  generalize z.getD (i * 6 + 1) 0 = x1 at b1 c1 ⊢
  generalize z.getD (i * 6 + 2) 0 = x2 at b2 c2 ⊢
  generalize z.getD (i * 6 + 3) 0 = x3 at b3 c3 ⊢
  generalize z.getD (i * 6 + 4) 0 = x4 at b4 c4 ⊢
  generalize z.getD (i * 6 + 5) 0 = x5 at b5 c5 ⊢
  generalize mvA z = A at c0 c1 c2 c3 c4 c5 ⊢
  obtain ⟨b00, b01⟩ := b0
  obtain ⟨b10, b11⟩ := b1
  obtain ⟨b20, b21⟩ := b2
  obtain ⟨b30, b31⟩ := b3
  obtain ⟨b40, b41⟩ := b4
  obtain ⟨b50, b51⟩ := b5
  have e0 : ∀ w, (Instr.index 89 (.agg #[.int .i64 x0, .int .i64 x1, .int .i64 x2, .int .i64 x3, .int .i64 x4, .int .i64 x5]) (.int .i64 0)).run Try.prog w = .ok (.int .i64 x0) w := index_six _ 0 (by omega) _ rfl
  have e1 : ∀ w, (Instr.index 89 (.agg #[.int .i64 x0, .int .i64 x1, .int .i64 x2, .int .i64 x3, .int .i64 x4, .int .i64 x5]) (.int .i64 1)).run Try.prog w = .ok (.int .i64 x1) w := index_six _ 1 (by omega) _ rfl
  have e2 : ∀ w, (Instr.index 89 (.agg #[.int .i64 x0, .int .i64 x1, .int .i64 x2, .int .i64 x3, .int .i64 x4, .int .i64 x5]) (.int .i64 2)).run Try.prog w = .ok (.int .i64 x2) w := index_six _ 2 (by omega) _ rfl
  have e3 : ∀ w, (Instr.index 89 (.agg #[.int .i64 x0, .int .i64 x1, .int .i64 x2, .int .i64 x3, .int .i64 x4, .int .i64 x5]) (.int .i64 3)).run Try.prog w = .ok (.int .i64 x3) w := index_six _ 3 (by omega) _ rfl
  have e4 : ∀ w, (Instr.index 89 (.agg #[.int .i64 x0, .int .i64 x1, .int .i64 x2, .int .i64 x3, .int .i64 x4, .int .i64 x5]) (.int .i64 4)).run Try.prog w = .ok (.int .i64 x4) w := index_six _ 4 (by omega) _ rfl
  have e5 : ∀ w, (Instr.index 89 (.agg #[.int .i64 x0, .int .i64 x1, .int .i64 x2, .int .i64 x3, .int .i64 x4, .int .i64 x5]) (.int .i64 5)).run Try.prog w = .ok (.int .i64 x5) w := index_six _ 5 (by omega) _ rfl
  clear H h
  go_enter Try.func72, Try.ntmps72
  go_wp2
  refine wp_loop_rounds 7 ?_
  rw [rounds_succ]
  go_wp2
  rw [rounds_succ]
  go_wp2
  rw [rounds_succ]
  go_wp2
  rw [rounds_succ]
  go_wp2
  rw [rounds_succ]
  go_wp2
  rw [rounds_succ]
  go_wp2
  rw [rounds_succ]
  go_wp2
  go_ret
  exact ⟨rfl, box_below _ _⟩

theorem colZ_range {z : List Int} (h : MvOk z) (i : Nat) : ∀ k, 0 ≤ colZ z i k ∧ colZ z i k ≤ k * 70368744177664 := by
  intro k
  induction k with
  | zero => simp [colZ]
  | succ k ih =>
    have := h.le (k * 6 + i)
    simp only [colZ]
    omega
theorem outZ_range {z : List Int} (h : MvOk z) (i : Nat) : 0 ≤ outZ z i ∧ outZ z i ≤ 422212465065984 := by
  have b0 := h.le (i * 6)
  have b1 := h.le (i * 6 + 1)
  have b2 := h.le (i * 6 + 2)
  have b3 := h.le (i * 6 + 3)
  have b4 := h.le (i * 6 + 4)
  have b5 := h.le (i * 6 + 5)
  unfold outZ
  omega
theorem inZ_range {z : List Int} (h : MvOk z) (i : Nat) : 0 ≤ inZ z i ∧ inZ z i ≤ 422212465065984 := by
  have := colZ_range h i 6
  unfold inZ
  omega
/-- The first n cells are read. -/
theorem MvAt.cells {w : World} {g : Nat} {z : List Int} (h : MvAt w g z) (hz : z.length = 42) (n : Nat) (hn : n ≤ 42) : (loadCellsFrom ⟨g, 0, none⟩ 0 n #[]).run Try.prog w = .ok (mvA (z.take n)) w := by
  have := run_loadCells_list (P := Try.prog) w ⟨g, 0, none⟩ ((z.take n).map (Value.int .i64)) (fun j v hv => by
    have hj : j < n := by have := (List.getElem?_eq_some_iff.1 hv).1; simp at this; omega
    rw [Addr.add_mid, h.range hz j v (by rw [← hv]; simp [List.getElem?_take_of_lt hj])])
  simpa [loadCells, mvA, hz, Nat.min_eq_left hn] using this
/-- As a walk meets it: all of it is read; its 36. -/
theorem load_mv {ops : Array Oper} {rest : List Oper} {o : Oper} {a : Act} {w : World} {Q : Exit → Act → World → Prop} (x : Operand) (ho : o.op = .load 92 x) (hw : Region.wanted o (yielded ops a.tmps) = true)
    (g : Nat) (hx : a.eval x = .pointer (some ⟨g, 0, none⟩)) (z : List Int) (hz : z.length = 42) (H : MvAt w g z)
    (h : wpList Try.prog ops Q rest (a.put o.dst (.agg (mvA z))) w) : wpList Try.prog ops Q (o :: rest) a w :=
  BigFrame.wpList_want hw fun K hK => wp_load_mid 92 x ho g 0 hx _ _ (H.range hz) Try.underlying92 rfl (by simp [infoMv, hz]) (hK _ _ h)
theorem load_sq {ops : Array Oper} {rest : List Oper} {o : Oper} {a : Act} {w : World} {Q : Exit → Act → World → Prop} (x : Operand) (ho : o.op = .load 90 x) (hw : Region.wanted o (yielded ops a.tmps) = true)
    (g : Nat) (hx : a.eval x = .pointer (some ⟨g, 0, none⟩)) (z : List Int) (hz : z.length = 42) (H : MvAt w g z)
    (h : wpList Try.prog ops Q rest (a.put o.dst (.agg (mvA (z.take 36)))) w) : wpList Try.prog ops Q (o :: rest) a w :=
  BigFrame.wpList_want hw fun K hK => wp_load_mid 90 x ho g 0 hx ((z.take 36).map (Value.int .i64)) _ (fun j v hv => H.range hz j v (by
      have hj : j < 36 := by have := (List.getElem?_eq_some_iff.1 hv).1; simp at this; omega
      rw [← hv]; simp [List.getElem?_take_of_lt hj])) Try.underlying90 rfl (by simp [infoSq, hz]) (hK _ _ h)
theorem exec_load_mv {o : Oper} {a : Act} {w : World} (x : Operand) (ho : o.op = .load 92 x) (g : Nat) (hx : a.eval x = .pointer (some ⟨g, 0, none⟩)) (z : List Int) (hz : z.length = 42) (H : MvAt w g z) :
    (execOp a.eval o).run Try.prog w = .ok (.value (.agg (mvA z))) w := by
  unfold execOp
  simp only [ho, hx, Instr.loadAt, Instr.sureAddr, Sem.run_bind, Sem.run_pure, Result.andThen_ok, run_loadVar_mid w g 0 92 _ _ (H.range hz) Try.underlying92 rfl (by simp [infoMv, hz])]
  rfl
theorem rowCells {z : List Int} (hz : z.length = 42) (k : Nat) (hk : k < 6) : (mvA (z.take 36)).extract (k * 6) (k * 6 + 6) = #[.int .i64 (z.getD (k * 6) 0), .int .i64 (z.getD (k * 6 + 1) 0), .int .i64 (z.getD (k * 6 + 2) 0), .int .i64 (z.getD (k * 6 + 3) 0), .int .i64 (z.getD (k * 6 + 4) 0), .int .i64 (z.getD (k * 6 + 5) 0)] := by
  apply Array.ext_getElem?
  intro j
  rw [Array.getElem?_extract, mvA_size]
  simp only [List.length_take, hz]
  by_cases hj : j < 6
  · rw [if_pos (by omega), mvA_at _ _ (by simp [hz]; omega)]
    have e : (z.take 36).getD (k * 6 + j) 0 = z.getD (k * 6 + j) 0 := by
      simp only [List.getD_eq_getElem?_getD]
      rw [List.getElem?_take_of_lt (by omega)]
    rw [e]
    rcases (by omega : j = 0 ∨ j = 1 ∨ j = 2 ∨ j = 3 ∨ j = 4 ∨ j = 5) with rfl | rfl | rfl | rfl | rfl | rfl <;> rfl
  · rw [if_neg (by omega)]
    symm
    rw [Array.getElem?_eq_none_iff]
    simp
    omega
theorem index_row {z : List Int} (hz : z.length = 42) (k : Nat) (hk : k < 6) (w : World) : (Instr.index 90 (.agg (mvA (z.take 36))) (.int .i64 k)).run Try.prog w = .ok (.agg #[.int .i64 (z.getD (k * 6) 0), .int .i64 (z.getD (k * 6 + 1) 0), .int .i64 (z.getD (k * 6 + 2) 0), .int .i64 (z.getD (k * 6 + 3) 0), .int .i64 (z.getD (k * 6 + 4) 0), .int .i64 (z.getD (k * 6 + 5) 0)]) w := by
  have h1 : (k : Int) < 6 := by omega
  have h2 := infoSix
  rw [← rowCells hz k hk]
  cases hq : Try.prog.info? 89 with
  | none => simp [hq] at h2
  | some i =>
    have h3 : i.size = 6 := by simpa [hq] using h2
    simp [Instr.index, asIntOf, part, isAgg, sizeOf, typeInfo, run_underlying Try.underlying90, run_underlying Try.underlying89, h1, hk, hq, h3, go_sem]

set_option maxHeartbeats 2000000 in
theorem in_any (z : List Int) (i : Nat) (w : World) (h : MvOk z) (hi : i < 6) : Calls Try.prog 93 #[.agg (mvA z), .int .i64 i] w fun e w' => e = .returned (.int .i64 (inZ z i)) ∧ Below w.heap.size w w' := by
  have HI : Hid (∀ k : Nat, k < 6 → ∀ w, (Instr.index 90 (.agg (mvA (z.take 36))) (.int .i64 k)).run Try.prog w = .ok (.agg #[.int .i64 (z.getD (k * 6) 0), .int .i64 (z.getD (k * 6 + 1) 0), .int .i64 (z.getD (k * 6 + 2) 0), .int .i64 (z.getD (k * 6 + 3) 0), .int .i64 (z.getD (k * 6 + 4) 0), .int .i64 (z.getD (k * 6 + 5) 0)]) w) := fun k hk w => index_row h.len k hk w
  have HC : Hid (∀ k : Nat, 0 ≤ colZ z i k ∧ colZ z i k ≤ k * 70368744177664) := colZ_range h i
  have HZ : Hid (∀ j, 0 ≤ z.getD j 0 ∧ z.getD j 0 ≤ 70368744177664) := h.le
  have i1 : (i : Int) < 6 := by omega
  have HM : Hid (MvAt (w.alloc (.cells (mvA z) 92)) w.heap.size z) := MvAt.new w z h.len 92 (0, 0)
  have HN : Hid (z.length = 42) := h.len
  clear h
  go_enter Try.func93, Try.ntmps93
  go_wp2_with (refine load_sq (.tmp 8) rfl rfl w.heap.size rfl z HN.out HM.out ?_)
  generalize mvA (z.take 36) = B at HI ⊢
  go_loopw [5, 10] (fun s t wr => ∃ k : Nat, k ≤ 6 ∧ t = .int .i64 k ∧ s = .int .i64 (colZ z i k) ∧ Below w.heap.size w wr) (fun _ t _ => 6 - (intOf t).toNat)
  case atStart => exact ⟨0, by omega, rfl, rfl, box_below _ _⟩
  case round =>
    obtain ⟨k, hk, rfl, rfl, hb⟩ := hrel
    have HB : Hid (Below w.heap.size w wr) := hb
    clear hb
    by_cases hlt : k < 6
    · have k1 : (k : Int) < 6 := by omega
      have e0 := HI.out k hlt
      have n1 := HC.out k
      have n2 := HZ.out (k * 6 + i)
      have HE : Hid (colZ z i (k + 1) = colZ z i k + z.getD (k * 6 + i) 0) := rfl
      obtain ⟨y, hy⟩ : ∃ y : Nat → Int, y = fun j => z.getD (k * 6 + j) 0 := ⟨_, rfl⟩
      have HY : Hid (∀ j, y j = z.getD (k * 6 + j) 0) := fun j => by rw [hy]
      rw [show z.getD (k * 6) 0 = y 0 from (HY.out 0).symm, show z.getD (k * 6 + 1) 0 = y 1 from (HY.out 1).symm, show z.getD (k * 6 + 2) 0 = y 2 from (HY.out 2).symm, show z.getD (k * 6 + 3) 0 = y 3 from (HY.out 3).symm, show z.getD (k * 6 + 4) 0 = y 4 from (HY.out 4).symm, show z.getD (k * 6 + 5) 0 = y 5 from (HY.out 5).symm] at e0
      have hv : [Value.int .i64 (y 0), Value.int .i64 (y 1), Value.int .i64 (y 2), Value.int .i64 (y 3), Value.int .i64 (y 4), Value.int .i64 (y 5)][i]'(by simpa using hi) = Value.int .i64 (z.getD (k * 6 + i) 0) := by
        rw [← HY.out i]
        rcases (by omega : i = 0 ∨ i = 1 ∨ i = 2 ∨ i = 3 ∨ i = 4 ∨ i = 5) with rfl | rfl | rfl | rfl | rfl | rfl <;> rfl
      clear hy
      generalize y 0 = y0 at e0 hv
      generalize y 1 = y1 at e0 hv
      generalize y 2 = y2 at e0 hv
      generalize y 3 = y3 at e0 hv
      generalize y 4 = y4 at e0 hv
      generalize y 5 = y5 at e0 hv
      generalize z.getD (k * 6 + i) 0 = v at hv n2 HE
      generalize colZ z i k = s at n1 HE ⊢
      obtain ⟨n10, n11⟩ := n1
      obtain ⟨n20, n21⟩ := n2
      clear HY y
      go_wp2
      go_round
      case rel => exact ⟨k + 1, by omega, by go_num, by rw [HE.out], HB.out.alloc HB.out.size _⟩
      case measure => simp [intOf]; omega
    · obtain rfl : k = 6 := by omega
      go_wp2
      go_ret
      exact ⟨rfl, HB.out⟩

end Go.Proofs.Ytlackjldopeigaa

/-
  fits: may a payment be? the program's answer and the document's.
-/
namespace Go.Proofs.Ytlackjldopeigaa
open Go.RowKit
set_option linter.unusedVariables false
set_option linter.unusedSimpArgs false

def hasB (n : Nat) (i : Int) : Bool := decide (0 ≤ i ∧ i < n)
theorem hasB_no {n : Nat} {i : Int} (h : i < 0) : false = hasB n i := by unfold hasB; symm; rw [decide_eq_false_iff_not]; omega
theorem hasB_rest {n : Nat} {i : Int} (h : 0 ≤ i) : decide (i < (n : Int)) = hasB n i := by simp [hasB, h]
def classB (c : Int) : Bool := decide (1 ≤ c ∧ c ≤ 3)
theorem classB_rest {c : Int} (h1 : ¬ c = 1) (h2 : ¬ c = 2) : (c == 3) = classB c := by unfold classB; rw [Bool.eq_iff_iff]; simp; omega
theorem classB_low {c : Int} (h : c < 1) : false = classB c := by unfold classB; symm; rw [decide_eq_false_iff_not]; omega
theorem classB_high {c : Int} (h : 1 ≤ c) : decide (c ≤ 3) = classB c := by simp [classB, h]
def sumB (m : Int) : Bool := decide (1 ≤ m ∧ m ≤ 1099511627776)
theorem sumB_no {m : Int} (h : m < 1) : false = sumB m := by unfold sumB; symm; rw [decide_eq_false_iff_not]; omega
theorem sumB_rest {m : Int} (h : 1 ≤ m) : decide (m ≤ 1099511627776) = sumB m := by simp [sumB, h]
theorem mayB_parts (n : Nat) (p : P7) : mayB n p = (hasB n p.fr && (hasB n p.to && (p.fr != p.to && (sumB p.am && classB p.cl)))) := rfl

theorem hasAccount_any (x : BA) (i : Int) (w : World) : Calls Try.prog 102 #[x.val, .int .i64 i] w fun e w' => e = .returned (.bool (hasB x.nA i)) ∧ Below w.heap.size w w' := by
  obtain ⟨aA, nA, cA, aB, nB, cB, aM, nM, cM, aP, nP, cP⟩ := x
  rcases Int.lt_or_le i 0 with h | h
  · go_enter Try.func102, Try.ntmps102
    go_wp2
    go_ret
    exact ⟨rt_bool (hasB_no h), box_below _ _⟩
  · go_enter Try.func102, Try.ntmps102
    go_wp2
    go_ret
    exact ⟨rt_bool (hasB_rest h), box_below _ _⟩

set_option maxHeartbeats 1000000 in
theorem fitsTwo_any (x : BA) (f o : Int) (w : World) : Calls Try.prog 91 #[x.val, .int .i64 f, .int .i64 o] w fun e w' => e = .returned (.bool (hasB x.nA f && (hasB x.nA o && f != o))) ∧ Below w.heap.size w w' := by
  have P1 := hasAccount_any x f
  have P2 := hasAccount_any x o
  generalize hasB x.nA f = q1 at P1 ⊢
  generalize hasB x.nA o = q2 at P2 ⊢
  obtain ⟨aA, nA, cA, aB, nB, cB, aM, nM, cM, aP, nP, cP⟩ := x
  have R0 : Hid (Box4 (w.alloc (.cells #[.slice aA nA cA, .slice aB nB cB, .slice aM nM cM, .slice aP nP cP] 27)) w.heap.size ⟨aA, nA, cA, aB, nB, cB, aM, nM, cM, aP, nP, cP⟩) := Box4.new w ⟨aA, nA, cA, aB, nB, cB, aM, nM, cM, aP, nP, cP⟩ _ _
  go_enter Try.func91, Try.ntmps91
  go_wp2_with fail
  go_at_call 102
  refine (P1 _).mono ?_
  rintro e w1 ⟨rfl, hb⟩
  have B1 : Hid (Below w.heap.size w w1) := (box_below _ _).trans (hb.mono (box_below _ _).size)
  obtain ⟨p0, p1, p2, p3⟩ := R0.out.below hb
  clear hb P1 R0
  cases q1
  · go_wp2
    go_ret
    exact ⟨rfl, B1.out⟩
  go_wp2_with fail
  go_at_call 102
  refine (P2 _).mono ?_
  rintro e w2 ⟨rfl, hb⟩
  have B2 : Hid (Below w.heap.size w w2) := B1.out.trans (hb.mono B1.out.size)
  clear hb P2 p0 p1 p2 p3
  cases q2
  · go_wp2
    go_ret
    exact ⟨rfl, B2.out⟩
  go_wp2
  go_ret
  exact ⟨rt_bool (by simp), B2.out⟩

theorem fitsClass_any (c : Int) (w : World) : Calls Try.prog 92 #[.int .i64 c] w fun e w' => e = .returned (.bool (classB c)) ∧ w' = w := by
  by_cases h1 : c = 1
  · subst h1
    go_enter Try.func92, Try.ntmps92
    go_wp2
    go_ret
    exact ⟨rt_bool rfl, rfl⟩
  by_cases h2 : c = 2
  · subst h2
    go_enter Try.func92, Try.ntmps92
    go_wp2
    go_ret
    exact ⟨rt_bool rfl, rfl⟩
  have HR : Hid ((c == 3) = classB c) := classB_rest h1 h2
  have k1 : (c == 1) = false := by simpa using h1
  have k2 : (c == 2) = false := by simpa using h2
  clear h1 h2
  go_enter Try.func92, Try.ntmps92
  go_wp2
  go_ret
  exact ⟨rt_bool HR.out, rfl⟩

set_option maxHeartbeats 2000000 in
theorem fitsMay_any (x : BA) (p : P7) (w : World) : Calls Try.prog 71 #[x.val, p.val] w fun e w' => e = .returned (.bool (mayB x.nA p)) ∧ Below w.heap.size w w' := by
  rw [mayB_parts]
  have P1 := fitsTwo_any x p.fr p.to
  have P2 := fitsClass_any p.cl
  have HQ : Hid (∃ q, (hasB x.nA p.fr && (hasB x.nA p.to && p.fr != p.to)) = q ∧ (hasB x.nA p.fr && (hasB x.nA p.to && (p.fr != p.to && (sumB p.am && classB p.cl)))) = (q && (sumB p.am && classB p.cl))) := ⟨_, rfl, by rw [Bool.and_assoc, Bool.and_assoc]⟩
  obtain ⟨q1, h1, h2⟩ := HQ.out
  rw [h1] at P1
  rw [h2]
  clear HQ h1 h2
  generalize classB p.cl = q2 at P2 ⊢
  obtain ⟨aA, nA, cA, aB, nB, cB, aM, nM, cM, aP, nP, cP⟩ := x
  obtain ⟨z0, z1, z2, z3, z4, z5, z6⟩ := p
  obtain ⟨w2, hw2⟩ : ∃ w2, w2 = (w.alloc (.cells #[.slice aA nA cA, .slice aB nB cB, .slice aM nM cM, .slice aP nP cP] 27)).alloc (.cells #[.int .i64 z0, .int .i64 z1, .int .i64 z2, .int .i64 z3, .int .i64 z4, .int .i64 z5, .int .i64 z6] 51) := ⟨_, rfl⟩
  have B2 : Hid (Below w.heap.size w w2) := by rw [hw2]; exact (box_below _ _).alloc (box_below _ _).size _
  have Y2 : Hid (At7 w2 (w.heap.size + 1) 0 (z0, z1, z2, z3, z4, z5, z6)) := by
    rw [hw2, ← size_alloc w (.cells #[.slice aA nA cA, .slice aB nB cB, .slice aM nM cM, .slice aP nP cP] 27)]
    exact At7.new _ (z0, z1, z2, z3, z4, z5, z6) _ _
  have P1 := fun q => P1 q
  show Calls Try.prog 71 #[.agg #[.slice aA nA cA, .slice aB nB cB, .slice aM nM cM, .slice aP nP cP], .agg #[.int .i64 z0, .int .i64 z1, .int .i64 z2, .int .i64 z3, .int .i64 z4, .int .i64 z5, .int .i64 z6]] w fun e w' => e = .returned (.bool (q1 && (sumB z3 && q2))) ∧ Below w.heap.size w w'
  go_enter Try.func71, Try.ntmps71
  go_wp2_with fail
  go_at_call 91
  refine (P1 _).mono ?_
  rintro e w3 ⟨rfl, hb⟩
  rw [← hw2] at hb
  have B3 : Hid (Below w.heap.size w w3) := B2.out.trans (hb.mono B2.out.size)
  obtain ⟨_, _, _, c3, c4, _, _⟩ := Y2.out.below hb
  replace c3 : w3.cell? ⟨w.heap.size + 1, 3, none⟩ = some (.int .i64 z3) := c3
  replace c4 : w3.cell? ⟨w.heap.size + 1, 4, none⟩ = some (.int .i64 z4) := c4
  clear hb P1 hw2 Y2 B2
  cases q1
  · go_wp2
    go_ret
    exact ⟨rfl, B3.out⟩
  rcases Int.lt_or_le z3 1 with h | h
  · have HS : Hid (false = sumB z3) := sumB_no h
    go_wp2
    go_ret
    exact ⟨rt_bool (by rw [← HS.out]; simp), B3.out⟩
  · have HS : Hid (decide (z3 ≤ 1099511627776) = sumB z3) := sumB_rest h
    rcases Int.lt_or_le 1099511627776 z3 with h2 | h2
    · have HS : Hid (false = sumB z3) := by show false = sumB z3; rw [← HS.out]; symm; rw [decide_eq_false_iff_not]; omega
      go_wp2
      go_ret
      exact ⟨rt_bool (by rw [← HS.out]; simp), B3.out⟩
    · have HS : Hid (true = sumB z3) := by show true = sumB z3; rw [← HS.out]; symm; rw [decide_eq_true_iff]; omega
      go_wp2_with fail
      go_at_call 92
      refine (P2 _).mono ?_
      rintro e w4 ⟨rfl, hw⟩
      obtain rfl := hw.symm
      go_wp2
      go_ret
      exact ⟨rt_bool (by rw [← HS.out]; simp), B3.out⟩

set_option maxHeartbeats 4000000 in
theorem refFMay_any (x : BA) (p : P7) (w : World) : Calls Try.prog 43 #[x.val, p.val] w fun e w' => e = .returned (.bool (mayB x.nA p)) ∧ Below w.heap.size w w' := by
  rw [mayB_parts]
  obtain ⟨aA, nA, cA, aB, nB, cB, aM, nM, cM, aP, nP, cP⟩ := x
  obtain ⟨z0, z1, z2, z3, z4, z5, z6⟩ := p
  have HB : Hid (Below w.heap.size w ((w.alloc (.cells #[.slice aA nA cA, .slice aB nB cB, .slice aM nM cM, .slice aP nP cP] 27)).alloc (.cells #[.int .i64 z0, .int .i64 z1, .int .i64 z2, .int .i64 z3, .int .i64 z4, .int .i64 z5, .int .i64 z6] 51))) := (box_below _ _).alloc (box_below _ _).size _
  show Calls Try.prog 43 #[.agg #[.slice aA nA cA, .slice aB nB cB, .slice aM nM cM, .slice aP nP cP], .agg #[.int .i64 z0, .int .i64 z1, .int .i64 z2, .int .i64 z3, .int .i64 z4, .int .i64 z5, .int .i64 z6]] w fun e w' => e = .returned (.bool (hasB nA z1 && (hasB nA z2 && (z1 != z2 && (sumB z3 && classB z4))))) ∧ Below w.heap.size w w'
  unfold hasB sumB classB
  rcases Int.lt_or_le z1 0 with h1 | h1
  · go_enter Try.func43, Try.ntmps43
    go_wp2
    go_ret
    exact ⟨rt_bool (by simp; omega), HB.out⟩
  rcases Int.lt_or_le z1 nA with h2 | h2
  case inr =>
    go_enter Try.func43, Try.ntmps43
    go_wp2
    go_ret
    exact ⟨rt_bool (by simp; omega), HB.out⟩
  rcases Int.lt_or_le z2 0 with h3 | h3
  · go_enter Try.func43, Try.ntmps43
    go_wp2
    go_ret
    exact ⟨rt_bool (by simp; omega), HB.out⟩
  rcases Int.lt_or_le z2 nA with h4 | h4
  case inr =>
    go_enter Try.func43, Try.ntmps43
    go_wp2
    go_ret
    exact ⟨rt_bool (by simp; omega), HB.out⟩
  by_cases h5 : z1 = z2
  · subst h5
    go_enter Try.func43, Try.ntmps43
    go_wp2
    go_ret
    exact ⟨rt_bool (by simp), HB.out⟩
  have h5' : (z1 == z2) = false := by simpa using h5
  have H5 : Hid ((z1 != z2) = true) := by show (z1 != z2) = true; simpa using h5
  rw [H5.out]
  have H12 : Hid (decide (0 ≤ z1 ∧ z1 < (nA : Int)) = true ∧ decide (0 ≤ z2 ∧ z2 < (nA : Int)) = true) := ⟨decide_eq_true ⟨h1, h2⟩, decide_eq_true ⟨h3, h4⟩⟩
  rw [H12.out.1, H12.out.2]
  rcases Int.lt_or_le z3 1 with h6 | h6
  · go_enter Try.func43, Try.ntmps43
    go_wp2
    go_ret
    exact ⟨rt_bool (by simp; omega), HB.out⟩
  rcases Int.lt_or_le 1099511627776 z3 with h7 | h7
  · go_enter Try.func43, Try.ntmps43
    go_wp2
    go_ret
    exact ⟨rt_bool (by simp; omega), HB.out⟩
  have H3 : Hid (decide (1 ≤ z3 ∧ z3 ≤ 1099511627776) = true) := decide_eq_true ⟨h6, h7⟩
  rw [H3.out]
  rcases Int.lt_or_le z4 1 with h8 | h8
  · go_enter Try.func43, Try.ntmps43
    go_wp2
    go_ret
    exact ⟨rt_bool (by simp; omega), HB.out⟩
  · go_enter Try.func43, Try.ntmps43
    go_wp2
    go_ret
    exact ⟨rt_bool (by rw [Bool.eq_iff_iff]; simp; omega), HB.out⟩

end Go.Proofs.Ytlackjldopeigaa

/-
  fits: what payments move, as 42 numbers: how they come of the payments.
-/
namespace Go.Proofs.Ytlackjldopeigaa
open Go.RowKit
set_option linter.unusedVariables false
set_option linter.unusedSimpArgs false

def mvL (L : List P7) : List Int := (List.range 42).map fun j => if j < 36 then sentS L ((j / 6 : Nat) : Int) ((j % 6 : Nat) : Int) else spentS L ((j - 36 : Nat) : Int)
theorem mvL_len (L : List P7) : (mvL L).length = 42 := by simp [mvL]
theorem mvL_at (L : List P7) (j : Nat) (hj : j < 42) : (mvL L).getD j 0 = if j < 36 then sentS L ((j / 6 : Nat) : Int) ((j % 6 : Nat) : Int) else spentS L ((j - 36 : Nat) : Int) := by
  simp only [mvL, List.getD_eq_getElem?_getD, List.getElem?_map, List.getElem?_range hj, Option.map_some, Option.getD_some]
theorem mvL_sent (L : List P7) (i k : Nat) (hi : i < 6) (hk : k < 6) : (mvL L).getD (i * 6 + k) 0 = sentS L i k := by
  rw [mvL_at L _ (by omega), if_pos (by omega), show (i * 6 + k) / 6 = i by omega, show (i * 6 + k) % 6 = k by omega]
theorem mvL_spent (L : List P7) (i : Nat) (hi : i < 6) : (mvL L).getD (36 + i) 0 = spentS L i := by
  rw [mvL_at L _ (by omega), if_neg (by omega), show 36 + i - 36 = i by omega]
theorem mvL_out (L : List P7) (j : Nat) (hj : ¬ j < 42) : (mvL L).getD j 0 = 0 := by
  rw [List.getD_eq_getElem?_getD, List.getElem?_eq_none (by rw [mvL_len]; omega)]; rfl
theorem mvA_nil : mvA (mvL []) = #[.int .i64 0, .int .i64 0, .int .i64 0, .int .i64 0, .int .i64 0, .int .i64 0, .int .i64 0, .int .i64 0, .int .i64 0, .int .i64 0, .int .i64 0, .int .i64 0, .int .i64 0, .int .i64 0, .int .i64 0, .int .i64 0, .int .i64 0, .int .i64 0, .int .i64 0, .int .i64 0, .int .i64 0, .int .i64 0, .int .i64 0, .int .i64 0, .int .i64 0, .int .i64 0, .int .i64 0, .int .i64 0, .int .i64 0, .int .i64 0, .int .i64 0, .int .i64 0, .int .i64 0, .int .i64 0, .int .i64 0, .int .i64 0, .int .i64 0, .int .i64 0, .int .i64 0, .int .i64 0, .int .i64 0, .int .i64 0] := by rfl
/-- Payments whose numbers may be looked up. -/
structure MvPays (L : List P7) : Prop where
  fr : ∀ p ∈ L, 0 ≤ p.fr ∧ p.fr < 6
  to : ∀ p ∈ L, 0 ≤ p.to ∧ p.to < 6
  am : ∀ p ∈ L, 1 ≤ p.am ∧ p.am ≤ 1099511627776
theorem sumS_bnd (f : P7 → Int) (L : List P7) (h : ∀ p ∈ L, 0 ≤ f p ∧ f p ≤ 1099511627776) (hl : L.length ≤ 64) : 0 ≤ sumS f L ∧ sumS f L ≤ 70368744177664 := by
  have := sumS_bound f L 1099511627776 h
  have h2 : (L.length : Int) ≤ 64 := by omega
  have h3 : (L.length : Int) * 1099511627776 ≤ 64 * 1099511627776 := by omega
  omega
theorem MvPays.sent {L : List P7} (h : MvPays L) (hl : L.length ≤ 64) (i k : Int) : 0 ≤ sentS L i k ∧ sentS L i k ≤ 70368744177664 := sumS_bnd _ L (fun p hp => sentG_bound (by have := h.am p hp; omega)) hl
theorem MvPays.spent {L : List P7} (h : MvPays L) (hl : L.length ≤ 64) (i : Int) : 0 ≤ spentS L i ∧ spentS L i ≤ 70368744177664 := sumS_bnd _ L (fun p hp => spentG_bound (by have := h.am p hp; omega)) hl
theorem MvPays.plain {L : List P7} (h : MvPays L) (hl : L.length ≤ 64) (i : Int) : 0 ≤ plainS L i ∧ plainS L i ≤ 70368744177664 := sumS_bnd _ L (fun p hp => plainG_bound (by have := h.am p hp; omega)) hl
theorem MvPays.ok {L : List P7} (h : MvPays L) (hl : L.length ≤ 64) : MvOk (mvL L) := by
  refine ⟨mvL_len L, fun j => ?_⟩
  by_cases hj : j < 42
  · rw [mvL_at L j hj]
    split
    · exact h.sent hl _ _
    · exact h.spent hl _
  · rw [mvL_out L j hj]; omega
theorem MvPays.take {L : List P7} (h : MvPays L) (k : Nat) : MvPays (L.take k) := ⟨fun p hp => h.fr p (List.mem_of_mem_take hp), fun p hp => h.to p (List.mem_of_mem_take hp), fun p hp => h.am p (List.mem_of_mem_take hp)⟩

theorem mvA_set (z : List Int) (j : Nat) (v : Int) : (mvA z).setIfInBounds j (.int .i64 v) = mvA (z.set j v) := by
  unfold mvA
  rw [List.setIfInBounds_toArray, List.map_set]
theorem set_at (z : List Int) (j i : Nat) (v : Int) (h : j < z.length) : (z.set j v).getD i 0 = if i = j then v else z.getD i 0 := by
  simp only [List.getD_eq_getElem?_getD, List.getElem?_set]
  by_cases e : j = i
  · subst e; simp [h]
  · rw [if_neg e, if_neg (fun x => e x.symm)]
theorem mv_ext {y z : List Int} (hy : y.length = 42) (hz : z.length = 42) (h : ∀ j, j < 42 → y.getD j 0 = z.getD j 0) : y = z := by
  refine List.ext_getElem (by omega) fun i h1 h2 => ?_
  have := h i (by omega)
  simpa [h1, h2] using this
/-- One payment more. -/
theorem mvL_plain {L : List P7} {p : P7} {f o : Nat} (hf : p.fr = f) (ho : p.to = o) (h6 : f < 6) (o6 : o < 6) (hc : p.cl = 3) : mvL (L ++ [p]) = (mvL L).set (f * 6 + o) (sentS L f o + p.am) := by
  refine mv_ext (mvL_len _) (by rw [List.length_set]; exact mvL_len _) fun j hj => ?_
  rw [set_at _ _ _ _ (by rw [mvL_len]; omega), mvL_at _ j hj, mvL_at L j hj]
  by_cases h36 : j < 36
  · rw [if_pos h36, if_pos h36]
    unfold sentS
    rw [sumS_snoc]
    unfold sentG
    rw [hf, ho]
    by_cases e : j = f * 6 + o
    · subst e
      rw [show (f * 6 + o) / 6 = f by omega, show (f * 6 + o) % 6 = o by omega]
      simp
    · rw [if_neg e]
      have : ¬ ((f : Int) = ((j / 6 : Nat) : Int) ∧ (o : Int) = ((j % 6 : Nat) : Int)) := by omega
      simp only [this, if_false, Int.add_zero]
  · rw [if_neg h36, if_neg h36, if_neg (by omega)]
    unfold spentS
    rw [sumS_snoc]
    simp [spentG, hc]
theorem mvL_spend {L : List P7} {p : P7} {f o : Nat} (hf : p.fr = f) (ho : p.to = o) (h6 : f < 6) (o6 : o < 6) (hc : ¬ p.cl = 3) : mvL (L ++ [p]) = ((mvL L).set (f * 6 + o) (sentS L f o + p.am)).set (36 + f) (spentS L f + p.am) := by
  refine mv_ext (mvL_len _) (by rw [List.length_set, List.length_set]; exact mvL_len _) fun j hj => ?_
  rw [set_at _ _ _ _ (by rw [List.length_set, mvL_len]; omega), set_at _ _ _ _ (by rw [mvL_len]; omega), mvL_at _ j hj, mvL_at L j hj]
  by_cases h36 : j < 36
  · rw [if_pos h36, if_pos h36, if_neg (by omega)]
    unfold sentS
    rw [sumS_snoc]
    unfold sentG
    rw [hf, ho]
    by_cases e : j = f * 6 + o
    · subst e
      rw [show (f * 6 + o) / 6 = f by omega, show (f * 6 + o) % 6 = o by omega]
      simp
    · rw [if_neg e]
      have : ¬ ((f : Int) = ((j / 6 : Nat) : Int) ∧ (o : Int) = ((j % 6 : Nat) : Int)) := by omega
      simp only [this, if_false, Int.add_zero]
  · rw [if_neg h36, if_neg h36]
    unfold spentS
    rw [sumS_snoc]
    unfold spentG
    rw [hf]
    by_cases e : j = 36 + f
    · subst e
      rw [show 36 + f - 36 = f by omega]
      simp [hc]
    · rw [if_neg e, if_neg (show ¬ j = f * 6 + o by omega)]
      have : ¬ ((f : Int) = ((j - 36 : Nat) : Int) ∧ ¬ p.cl = 3) := by omega
      simp only [this, if_false, Int.add_zero]

end Go.Proofs.Ytlackjldopeigaa

/-
  fits: what is left on an account; is it above a limit?
-/
namespace Go.Proofs.Ytlackjldopeigaa
open Go.RowKit
set_option linter.unusedVariables false
set_option linter.unusedSimpArgs false

/-- Is too little left? -/
def lackZ (b c r : Int) (z : List Int) (i : Nat) : Bool :=
  if z.getD (36 + i) 0 < outZ z i then decide (b + c + inZ z i - outZ z i < keptV r (z.getD (36 + i) 0)) else decide (b + c + inZ z i - outZ z i < 0)
def aboveB (p m : Int) : Bool := decide (¬ m = -1) && decide (m < p)

theorem isAbove_any (p m : Int) (w : World) : Calls Try.prog 94 #[.int .i64 p, .int .i64 m] w fun e w' => e = .returned (.bool (aboveB p m)) ∧ w' = w := by
  unfold aboveB
  by_cases h : m = -1
  · subst h
    go_enter Try.func94, Try.ntmps94
    go_wp2
    go_ret
    exact ⟨rt_bool (by simp), rfl⟩
  · have h2 : (m == -1) = false := by simpa using h
    have H : Hid (¬ m = -1) := h
    clear h
    go_enter Try.func94, Try.ntmps94
    go_wp2
    go_ret
    exact ⟨rt_bool (by simp [H.out]), rfl⟩

set_option maxHeartbeats 4000000 in
set_option maxRecDepth 100000 in
theorem lacks_any (b c r : Int) (z : List Int) (i : Nat) (w : World) (hA : acctB b c r = true) (h : MvOk z) (hi : i < 6) :
    Calls Try.prog 73 #[.agg #[.int .i64 b, .int .i64 c, .int .i64 r], .agg (mvA z), .int .i64 i] w fun e w' => e = .returned (.bool (lackZ b c r z i)) ∧ Below w.heap.size w w' := by
  obtain ⟨b0, b1, c0, c1, r0, r1⟩ := acctB_yes.1 hA
  have IN := fun u => in_any z i u h hi
  have OUT := fun u => out_any z i u h hi
  have HO := outZ_range h i
  have HI := inZ_range h i
  have HS := h.le (36 + i)
  have HZ : Hid (z.length = 42) := h.len
  obtain ⟨w2, hw2⟩ : ∃ w2, w2 = (w.alloc (.cells #[.int .i64 b, .int .i64 c, .int .i64 r] 53)).alloc (.cells (mvA z) 92) := ⟨_, rfl⟩
  have B2 : Hid (Below w.heap.size w w2) := by rw [hw2]; exact (box_below _ _).alloc (box_below _ _).size _
  have X2 : Hid (At3 w2 w.heap.size b c r) := by rw [hw2]; exact (At3.new w b c r _ _).below (box_below _ _)
  have M2 : Hid (MvAt w2 (w.heap.size + 1) z) := by
    rw [hw2, ← size_alloc w (.cells #[.int .i64 b, .int .i64 c, .int .i64 r] 53)]
    exact MvAt.new _ z h.len _ _
  have K := fun u => kept_any b c r (z.getD (36 + i) 0) (by omega) (by omega) (by omega) (by omega) u
  unfold lackZ
  have MS := fun (u : World) (H : MvAt u (w.heap.size + 1) z) => H (36 + i) (by omega)
  generalize z.getD (36 + i) 0 = sp at HS MS K ⊢
  generalize outZ z i = O at HO OUT ⊢
  generalize inZ z i = I at HI IN ⊢
  generalize keptV r sp = V at K ⊢
  obtain ⟨x, hx⟩ : ∃ x, b + c = x := ⟨_, rfl⟩
  obtain ⟨y, hy⟩ : ∃ y, x + I = y := ⟨_, rfl⟩
  obtain ⟨l, hl⟩ : ∃ l, y - O = l := ⟨_, rfl⟩
  have W1 : Hid (IntKind.i64.wrap (b + c) = x) := by show _ = _; rw [hx]; exact i64_wf (by omega) (by omega)
  have W2 : Hid (IntKind.i64.wrap (x + I) = y) := by show _ = _; rw [hy]; exact i64_wf (by omega) (by omega)
  have W3 : Hid (IntKind.i64.wrap (y - O) = l) := by show _ = _; rw [hl]; exact i64_wf (by omega) (by omega)
  rw [hx, hy, hl]
  have i1 : (i : Int) < 6 := by omega
  have HM : Hid (∀ u, MvAt u (w.heap.size + 1) z → u.cell? ⟨w.heap.size + 1, 36 + i, none⟩ = some (.int .i64 sp)) := MS
  clear hA h hx hy hl b0 b1 c0 c1 r0 r1 HO HI HS MS
  rcases Int.lt_or_le sp O with hc | hc
  · rw [if_pos hc]
    obtain ⟨R, hR⟩ : ∃ R, decide (l < V) = R := ⟨_, rfl⟩
    have HR : Hid (decide (l < V) = R) := hR
    rw [hR]
    have HC : Hid (decide (sp < O) = true) := decide_eq_true hc
    clear hR hc
    go_enter Try.func73, Try.ntmps73
    go_wp2_with fail
    rw [← hw2]
    clear hw2
    refine region_owes (L := [Fact.is (.pointer (some ⟨w.heap.size, 0, none⟩)),
      Fact.is (.int .i64 b),
      Fact.is (.pointer (some ⟨w.heap.size, 1, none⟩)),
      Fact.is (.int .i64 c),
      Fact.is (.int .i64 x),
      Fact.is (.agg (mvA z)),
      Fact.is (.int .i64 i),
      Fact.is (.int .i64 I),
      Fact.is (.int .i64 y),
      Fact.is (.agg (mvA z)),
      Fact.is (.int .i64 i),
      Fact.is (.int .i64 O),
      Fact.is (.int .i64 l),
      Fact.is (.int .i64 l)])
      (T := [8, 9, 10, 11, 12, 13, 14, 15, 16, 17, 18, 19, 20, 7]) (by kernel_rfl) (by kernel_rfl) rfl ?owes ?_
    case owes =>
      refine .cons (owes_value fun q u lh => ⟨wants_free rfl, .pointer (some ⟨w.heap.size, 0, none⟩), by have e3 : q.tmps.getD 3 undef = .pointer (some ⟨w.heap.size, 0, none⟩) := lh.old 3 rfl; simp [execOp, Act.eval, e3, go_sem], rfl⟩) ?_
      refine .cons (owes_value fun q u lh => ⟨wants_free rfl, .int .i64 b, by have e8 : q.tmps.getD 8 undef = .pointer (some ⟨w.heap.size, 0, none⟩) := lh.dep 0 rfl; obtain ⟨p0, p1, p2⟩ := X2.out.below lh.below; simp [execOp, Act.eval, e8, p0, go_sem], rfl⟩) ?_
      refine .cons (owes_value fun q u lh => ⟨wants_free rfl, .pointer (some ⟨w.heap.size, 1, none⟩), by have e3 : q.tmps.getD 3 undef = .pointer (some ⟨w.heap.size, 0, none⟩) := lh.old 3 rfl; simp [execOp, Act.eval, e3, go_sem], rfl⟩) ?_
      refine .cons (owes_value fun q u lh => ⟨wants_free rfl, .int .i64 c, by have e10 : q.tmps.getD 10 undef = .pointer (some ⟨w.heap.size, 1, none⟩) := lh.dep 2 rfl; obtain ⟨p0, p1, p2⟩ := X2.out.below lh.below; simp [execOp, Act.eval, e10, p1, go_sem], rfl⟩) ?_
      refine .cons (owes_value fun q u lh => ⟨wants_free rfl, .int .i64 x, by have e9 : q.tmps.getD 9 undef = .int .i64 b := lh.dep 1 rfl; have e11 : q.tmps.getD 11 undef = .int .i64 c := lh.dep 3 rfl; simp [execOp, Act.eval, e9, e11, W1.out, go_sem], rfl⟩) ?_
      refine .cons (owes_value fun q u lh => ⟨wants_free rfl, .agg (mvA z), exec_load_mv (.tmp 4) rfl (w.heap.size + 1) (lh.old 4 rfl) z HZ.out (M2.out.below lh.below), rfl⟩) ?_
      refine .cons (owes_move (.tmp 2) (.inl rfl) fun q u lh => ⟨wants_free rfl, lh.old 2 rfl⟩) ?_
      refine .cons (owes_call 93 Try.func93 (by kernel_rfl) (by kernel_rfl) [.tmp 13, .tmp 14] #[92, 3] rfl fun q u lh => ⟨wants_free rfl, by have e13 : q.tmps.getD 13 undef = .agg (mvA z) := lh.dep 5 rfl; have e14 : q.tmps.getD 14 undef = .int .i64 i := lh.dep 6 rfl; show Calls Try.prog 93 #[q.tmps.getD 13 undef, q.tmps.getD 14 undef] u _; rw [e13, e14]; exact int_fact (IN u)⟩) ?_
      refine .cons (owes_value fun q u lh => ⟨wants_free rfl, .int .i64 y, by have e12 : q.tmps.getD 12 undef = .int .i64 x := lh.dep 4 rfl; have e15 : q.tmps.getD 15 undef = .int .i64 I := lh.dep 7 rfl; simp [execOp, Act.eval, e12, e15, W2.out, go_sem], rfl⟩) ?_
      refine .cons (owes_value fun q u lh => ⟨wants_free rfl, .agg (mvA z), exec_load_mv (.tmp 4) rfl (w.heap.size + 1) (lh.old 4 rfl) z HZ.out (M2.out.below lh.below), rfl⟩) ?_
      refine .cons (owes_move (.tmp 2) (.inl rfl) fun q u lh => ⟨wants_free rfl, lh.old 2 rfl⟩) ?_
      refine .cons (owes_call 72 Try.func72 (by kernel_rfl) (by kernel_rfl) [.tmp 17, .tmp 18] #[92, 3] rfl fun q u lh => ⟨wants_free rfl, by have e17 : q.tmps.getD 17 undef = .agg (mvA z) := lh.dep 9 rfl; have e18 : q.tmps.getD 18 undef = .int .i64 i := lh.dep 10 rfl; show Calls Try.prog 72 #[q.tmps.getD 17 undef, q.tmps.getD 18 undef] u _; rw [e17, e18]; exact int_fact (OUT u)⟩) ?_
      refine .cons (owes_value fun q u lh => ⟨wants_free rfl, .int .i64 l, by have e16 : q.tmps.getD 16 undef = .int .i64 y := lh.dep 8 rfl; have e19 : q.tmps.getD 19 undef = .int .i64 O := lh.dep 11 rfl; simp [execOp, Act.eval, e16, e19, W3.out, go_sem], rfl⟩) ?_
      refine .cons (owes_move (.tmp 20) (.inr rfl) fun q u lh => ⟨wants_free rfl, lh.dep 12 rfl⟩) ?_
      exact .nil _
    intro q u hb hsz hdf hold hfact
    have B3 : Hid (Below w.heap.size w u) := B2.out.trans (hb.mono B2.out.size)
    have X3 : Hid (At3 u w.heap.size b c r) := X2.out.below hb
    have M3 : Hid (MvAt u (w.heap.size + 1) z) := M2.out.below hb
    obtain ⟨u1, rfl⟩ : ∃ z, z = u := ⟨u, rfl⟩
    obtain rfl := frame_puts hsz hdf [8, 9, 10, 11, 12, 13, 14, 15, 16, 17, 18, 19, 20, 7] hold [(8, Value.pointer (some ⟨w.heap.size, 0, none⟩)), (9, Value.int .i64 b), (10, Value.pointer (some ⟨w.heap.size, 1, none⟩)), (11, Value.int .i64 c), (12, Value.int .i64 x), (13, Value.agg (mvA z)), (14, Value.int .i64 i), (15, Value.int .i64 I), (16, Value.int .i64 y), (17, Value.agg (mvA z)), (18, Value.int .i64 i), (19, Value.int .i64 O), (20, Value.int .i64 l), (7, Value.int .i64 l)] ⟨hfact 0 (by decide), hfact 1 (by decide), hfact 2 (by decide), hfact 3 (by decide), hfact 4 (by decide), hfact 5 (by decide), hfact 6 (by decide), hfact 7 (by decide), hfact 8 (by decide), hfact 9 (by decide), hfact 10 (by decide), hfact 11 (by decide), hfact 12 (by decide), hfact 13 (by decide), trivial⟩ rfl
    clear hsz hdf hold hfact
    clear hb X2 M2
    simp only [puts, Act.put, List.setIfInBounds_toArray, List.set_cons_zero, List.set_cons_succ]
    go_wp2_with fail
    refine region_owes (L := [Fact.is (.agg (mvA z)),
      Fact.is (.int .i64 i),
      Fact.is (.int .i64 O),
      Fact.is (.int .i64 i),
      Fact.is (.pointer (some ⟨w.heap.size + 1, 36, none⟩)),
      Fact.is (.pointer (some ⟨w.heap.size + 1, 36 + i, none⟩)),
      Fact.is (.int .i64 sp),
      Fact.is (.bool true)])
      (T := [21, 22, 23, 24, 25, 26, 27, 28]) (by kernel_rfl) (by kernel_rfl) rfl ?owes ?_
    case owes =>
      refine .cons (owes_value fun q u lh => ⟨wants_free rfl, .agg (mvA z), exec_load_mv (.tmp 4) rfl (w.heap.size + 1) (lh.old 4 rfl) z HZ.out (M3.out.below lh.below), rfl⟩) ?_
      refine .cons (owes_move (.tmp 2) (.inl rfl) fun q u lh => ⟨wants_free rfl, lh.old 2 rfl⟩) ?_
      refine .cons (owes_call 72 Try.func72 (by kernel_rfl) (by kernel_rfl) [.tmp 21, .tmp 22] #[92, 3] rfl fun q u lh => ⟨wants_free rfl, by have e21 : q.tmps.getD 21 undef = .agg (mvA z) := lh.dep 0 rfl; have e22 : q.tmps.getD 22 undef = .int .i64 i := lh.dep 1 rfl; show Calls Try.prog 72 #[q.tmps.getD 21 undef, q.tmps.getD 22 undef] u _; rw [e21, e22]; exact int_fact (OUT u)⟩) ?_
      refine .cons (owes_move (.tmp 2) (.inl rfl) fun q u lh => ⟨wants_free rfl, lh.old 2 rfl⟩) ?_
      refine .cons (owes_value fun q u lh => ⟨wants_free rfl, .pointer (some ⟨w.heap.size + 1, 36, none⟩), by have e4 : q.tmps.getD 4 undef = .pointer (some ⟨w.heap.size + 1, 0, none⟩) := lh.old 4 rfl; simp [execOp, Act.eval, e4, go_sem], rfl⟩) ?_
      refine .cons (owes_value fun q u lh => ⟨wants_free rfl, .pointer (some ⟨w.heap.size + 1, 36 + i, none⟩), by have e24 : q.tmps.getD 24 undef = .int .i64 i := lh.dep 3 rfl; have e25 : q.tmps.getD 25 undef = .pointer (some ⟨w.heap.size + 1, 36, none⟩) := lh.dep 4 rfl; simp [execOp, Act.eval, e24, e25, i1, go_sem], rfl⟩) ?_
      refine .cons (owes_value fun q u lh => ⟨wants_free rfl, .int .i64 sp, by have e26 : q.tmps.getD 26 undef = .pointer (some ⟨w.heap.size + 1, 36 + i, none⟩) := lh.dep 5 rfl; have z1 := HM.out u (M3.out.below lh.below); simp [execOp, Act.eval, e26, z1, go_sem], rfl⟩) ?_
      refine .cons (owes_value fun q u lh => ⟨wants_free rfl, .bool true, by have e23 : q.tmps.getD 23 undef = .int .i64 O := lh.dep 2 rfl; have e27 : q.tmps.getD 27 undef = .int .i64 sp := lh.dep 6 rfl; simp [execOp, Act.eval, e23, e27, HC.out, go_sem], rfl⟩) ?_
      exact .nil _
    intro q u hb hsz hdf hold hfact
    have B4 : Hid (Below w.heap.size w u) := B3.out.trans (hb.mono B3.out.size)
    have X4 : Hid (At3 u w.heap.size b c r) := X3.out.below hb
    have M4 : Hid (MvAt u (w.heap.size + 1) z) := M3.out.below hb
    obtain ⟨u2, rfl⟩ : ∃ z, z = u := ⟨u, rfl⟩
    obtain rfl := frame_puts hsz hdf [21, 22, 23, 24, 25, 26, 27, 28] hold [(21, Value.agg (mvA z)), (22, Value.int .i64 i), (23, Value.int .i64 O), (24, Value.int .i64 i), (25, Value.pointer (some ⟨w.heap.size + 1, 36, none⟩)), (26, Value.pointer (some ⟨w.heap.size + 1, 36 + i, none⟩)), (27, Value.int .i64 sp), (28, Value.bool true)] ⟨hfact 0 (by decide), hfact 1 (by decide), hfact 2 (by decide), hfact 3 (by decide), hfact 4 (by decide), hfact 5 (by decide), hfact 6 (by decide), hfact 7 (by decide), trivial⟩ rfl
    clear hsz hdf hold hfact
    clear hb X3 M3
    simp only [puts, Act.put, List.setIfInBounds_toArray, List.set_cons_zero, List.set_cons_succ]
    go_wp2_with fail
    refine region_owes (L := [Fact.is (.int .i64 l),
      Fact.is (.agg #[.int .i64 b, .int .i64 c, .int .i64 r]),
      Fact.is (.int .i64 i),
      Fact.is (.pointer (some ⟨w.heap.size + 1, 36, none⟩)),
      Fact.is (.pointer (some ⟨w.heap.size + 1, 36 + i, none⟩)),
      Fact.is (.int .i64 sp),
      Fact.is (.int .i64 V),
      Fact.is (.bool R),
      Fact.is (.bool R)])
      (T := [29, 30, 31, 32, 33, 34, 35, 36, 6]) (by kernel_rfl) (by kernel_rfl) rfl ?owes ?_
    case owes =>
      refine .cons (owes_move (.tmp 7) (.inl rfl) fun q u lh => ⟨wants_free rfl, lh.old 7 rfl⟩) ?_
      refine .cons (owes_value fun q u lh => ⟨wants_free rfl, .agg #[.int .i64 b, .int .i64 c, .int .i64 r], by have e3 : q.tmps.getD 3 undef = .pointer (some ⟨w.heap.size, 0, none⟩) := lh.old 3 rfl; obtain ⟨p0, p1, p2⟩ := X4.out.below lh.below; simp [execOp, Act.eval, e3, p0, p1, p2, go_sem], rfl⟩) ?_
      refine .cons (owes_move (.tmp 2) (.inl rfl) fun q u lh => ⟨wants_free rfl, lh.old 2 rfl⟩) ?_
      refine .cons (owes_value fun q u lh => ⟨wants_free rfl, .pointer (some ⟨w.heap.size + 1, 36, none⟩), by have e4 : q.tmps.getD 4 undef = .pointer (some ⟨w.heap.size + 1, 0, none⟩) := lh.old 4 rfl; simp [execOp, Act.eval, e4, go_sem], rfl⟩) ?_
      refine .cons (owes_value fun q u lh => ⟨wants_free rfl, .pointer (some ⟨w.heap.size + 1, 36 + i, none⟩), by have e31 : q.tmps.getD 31 undef = .int .i64 i := lh.dep 2 rfl; have e32 : q.tmps.getD 32 undef = .pointer (some ⟨w.heap.size + 1, 36, none⟩) := lh.dep 3 rfl; simp [execOp, Act.eval, e31, e32, i1, go_sem], rfl⟩) ?_
      refine .cons (owes_value fun q u lh => ⟨wants_free rfl, .int .i64 sp, by have e33 : q.tmps.getD 33 undef = .pointer (some ⟨w.heap.size + 1, 36 + i, none⟩) := lh.dep 4 rfl; have z1 := HM.out u (M4.out.below lh.below); simp [execOp, Act.eval, e33, z1, go_sem], rfl⟩) ?_
      refine .cons (owes_call 79 Try.func79 (by kernel_rfl) (by kernel_rfl) [.tmp 30, .tmp 34] #[53, 2] rfl fun q u lh => ⟨wants_free rfl, by have e30 : q.tmps.getD 30 undef = .agg #[.int .i64 b, .int .i64 c, .int .i64 r] := lh.dep 1 rfl; have e34 : q.tmps.getD 34 undef = .int .i64 sp := lh.dep 5 rfl; show Calls Try.prog 79 #[q.tmps.getD 30 undef, q.tmps.getD 34 undef] u _; rw [e30, e34]; exact int_fact (K u)⟩) ?_
      refine .cons (owes_value fun q u lh => ⟨wants_free rfl, .bool R, by have e29 : q.tmps.getD 29 undef = .int .i64 l := lh.dep 0 rfl; have e35 : q.tmps.getD 35 undef = .int .i64 V := lh.dep 6 rfl; simp [execOp, Act.eval, e29, e35, HR.out, go_sem], rfl⟩) ?_
      refine .cons (owes_move (.tmp 36) (.inr rfl) fun q u lh => ⟨wants_free rfl, lh.dep 7 rfl⟩) ?_
      exact .nil _
    intro q u hb hsz hdf hold hfact
    have B5 : Hid (Below w.heap.size w u) := B4.out.trans (hb.mono B4.out.size)
    obtain ⟨u3, rfl⟩ : ∃ z, z = u := ⟨u, rfl⟩
    obtain rfl := frame_puts hsz hdf [29, 30, 31, 32, 33, 34, 35, 36, 6] hold [(29, Value.int .i64 l), (30, Value.agg #[.int .i64 b, .int .i64 c, .int .i64 r]), (31, Value.int .i64 i), (32, Value.pointer (some ⟨w.heap.size + 1, 36, none⟩)), (33, Value.pointer (some ⟨w.heap.size + 1, 36 + i, none⟩)), (34, Value.int .i64 sp), (35, Value.int .i64 V), (36, Value.bool R), (6, Value.bool R)] ⟨hfact 0 (by decide), hfact 1 (by decide), hfact 2 (by decide), hfact 3 (by decide), hfact 4 (by decide), hfact 5 (by decide), hfact 6 (by decide), hfact 7 (by decide), hfact 8 (by decide), trivial⟩ rfl
    clear hsz hdf hold hfact
    clear hb X4 M4
    simp only [puts, Act.put, List.setIfInBounds_toArray, List.set_cons_zero, List.set_cons_succ]
    go_wp2
    go_ret
    exact ⟨rfl, B5.out⟩
  · rw [if_neg (by omega)]
    have HC : Hid (decide (sp < O) = false) := decide_eq_false (by omega)
    clear hc K
    go_enter Try.func73, Try.ntmps73
    go_wp2_with fail
    rw [← hw2]
    clear hw2
    refine region_owes (L := [Fact.is (.pointer (some ⟨w.heap.size, 0, none⟩)),
      Fact.is (.int .i64 b),
      Fact.is (.pointer (some ⟨w.heap.size, 1, none⟩)),
      Fact.is (.int .i64 c),
      Fact.is (.int .i64 x),
      Fact.is (.agg (mvA z)),
      Fact.is (.int .i64 i),
      Fact.is (.int .i64 I),
      Fact.is (.int .i64 y),
      Fact.is (.agg (mvA z)),
      Fact.is (.int .i64 i),
      Fact.is (.int .i64 O),
      Fact.is (.int .i64 l),
      Fact.is (.int .i64 l)])
      (T := [8, 9, 10, 11, 12, 13, 14, 15, 16, 17, 18, 19, 20, 7]) (by kernel_rfl) (by kernel_rfl) rfl ?owes ?_
    case owes =>
      refine .cons (owes_value fun q u lh => ⟨wants_free rfl, .pointer (some ⟨w.heap.size, 0, none⟩), by have e3 : q.tmps.getD 3 undef = .pointer (some ⟨w.heap.size, 0, none⟩) := lh.old 3 rfl; simp [execOp, Act.eval, e3, go_sem], rfl⟩) ?_
      refine .cons (owes_value fun q u lh => ⟨wants_free rfl, .int .i64 b, by have e8 : q.tmps.getD 8 undef = .pointer (some ⟨w.heap.size, 0, none⟩) := lh.dep 0 rfl; obtain ⟨p0, p1, p2⟩ := X2.out.below lh.below; simp [execOp, Act.eval, e8, p0, go_sem], rfl⟩) ?_
      refine .cons (owes_value fun q u lh => ⟨wants_free rfl, .pointer (some ⟨w.heap.size, 1, none⟩), by have e3 : q.tmps.getD 3 undef = .pointer (some ⟨w.heap.size, 0, none⟩) := lh.old 3 rfl; simp [execOp, Act.eval, e3, go_sem], rfl⟩) ?_
      refine .cons (owes_value fun q u lh => ⟨wants_free rfl, .int .i64 c, by have e10 : q.tmps.getD 10 undef = .pointer (some ⟨w.heap.size, 1, none⟩) := lh.dep 2 rfl; obtain ⟨p0, p1, p2⟩ := X2.out.below lh.below; simp [execOp, Act.eval, e10, p1, go_sem], rfl⟩) ?_
      refine .cons (owes_value fun q u lh => ⟨wants_free rfl, .int .i64 x, by have e9 : q.tmps.getD 9 undef = .int .i64 b := lh.dep 1 rfl; have e11 : q.tmps.getD 11 undef = .int .i64 c := lh.dep 3 rfl; simp [execOp, Act.eval, e9, e11, W1.out, go_sem], rfl⟩) ?_
      refine .cons (owes_value fun q u lh => ⟨wants_free rfl, .agg (mvA z), exec_load_mv (.tmp 4) rfl (w.heap.size + 1) (lh.old 4 rfl) z HZ.out (M2.out.below lh.below), rfl⟩) ?_
      refine .cons (owes_move (.tmp 2) (.inl rfl) fun q u lh => ⟨wants_free rfl, lh.old 2 rfl⟩) ?_
      refine .cons (owes_call 93 Try.func93 (by kernel_rfl) (by kernel_rfl) [.tmp 13, .tmp 14] #[92, 3] rfl fun q u lh => ⟨wants_free rfl, by have e13 : q.tmps.getD 13 undef = .agg (mvA z) := lh.dep 5 rfl; have e14 : q.tmps.getD 14 undef = .int .i64 i := lh.dep 6 rfl; show Calls Try.prog 93 #[q.tmps.getD 13 undef, q.tmps.getD 14 undef] u _; rw [e13, e14]; exact int_fact (IN u)⟩) ?_
      refine .cons (owes_value fun q u lh => ⟨wants_free rfl, .int .i64 y, by have e12 : q.tmps.getD 12 undef = .int .i64 x := lh.dep 4 rfl; have e15 : q.tmps.getD 15 undef = .int .i64 I := lh.dep 7 rfl; simp [execOp, Act.eval, e12, e15, W2.out, go_sem], rfl⟩) ?_
      refine .cons (owes_value fun q u lh => ⟨wants_free rfl, .agg (mvA z), exec_load_mv (.tmp 4) rfl (w.heap.size + 1) (lh.old 4 rfl) z HZ.out (M2.out.below lh.below), rfl⟩) ?_
      refine .cons (owes_move (.tmp 2) (.inl rfl) fun q u lh => ⟨wants_free rfl, lh.old 2 rfl⟩) ?_
      refine .cons (owes_call 72 Try.func72 (by kernel_rfl) (by kernel_rfl) [.tmp 17, .tmp 18] #[92, 3] rfl fun q u lh => ⟨wants_free rfl, by have e17 : q.tmps.getD 17 undef = .agg (mvA z) := lh.dep 9 rfl; have e18 : q.tmps.getD 18 undef = .int .i64 i := lh.dep 10 rfl; show Calls Try.prog 72 #[q.tmps.getD 17 undef, q.tmps.getD 18 undef] u _; rw [e17, e18]; exact int_fact (OUT u)⟩) ?_
      refine .cons (owes_value fun q u lh => ⟨wants_free rfl, .int .i64 l, by have e16 : q.tmps.getD 16 undef = .int .i64 y := lh.dep 8 rfl; have e19 : q.tmps.getD 19 undef = .int .i64 O := lh.dep 11 rfl; simp [execOp, Act.eval, e16, e19, W3.out, go_sem], rfl⟩) ?_
      refine .cons (owes_move (.tmp 20) (.inr rfl) fun q u lh => ⟨wants_free rfl, lh.dep 12 rfl⟩) ?_
      exact .nil _
    intro q u hb hsz hdf hold hfact
    have B3 : Hid (Below w.heap.size w u) := B2.out.trans (hb.mono B2.out.size)
    have M3 : Hid (MvAt u (w.heap.size + 1) z) := M2.out.below hb
    obtain ⟨u1, rfl⟩ : ∃ z, z = u := ⟨u, rfl⟩
    obtain rfl := frame_puts hsz hdf [8, 9, 10, 11, 12, 13, 14, 15, 16, 17, 18, 19, 20, 7] hold [(8, Value.pointer (some ⟨w.heap.size, 0, none⟩)), (9, Value.int .i64 b), (10, Value.pointer (some ⟨w.heap.size, 1, none⟩)), (11, Value.int .i64 c), (12, Value.int .i64 x), (13, Value.agg (mvA z)), (14, Value.int .i64 i), (15, Value.int .i64 I), (16, Value.int .i64 y), (17, Value.agg (mvA z)), (18, Value.int .i64 i), (19, Value.int .i64 O), (20, Value.int .i64 l), (7, Value.int .i64 l)] ⟨hfact 0 (by decide), hfact 1 (by decide), hfact 2 (by decide), hfact 3 (by decide), hfact 4 (by decide), hfact 5 (by decide), hfact 6 (by decide), hfact 7 (by decide), hfact 8 (by decide), hfact 9 (by decide), hfact 10 (by decide), hfact 11 (by decide), hfact 12 (by decide), hfact 13 (by decide), trivial⟩ rfl
    clear hsz hdf hold hfact
    clear hb X2 M2
    simp only [puts, Act.put, List.setIfInBounds_toArray, List.set_cons_zero, List.set_cons_succ]
    go_wp2_with fail
    refine region_owes (L := [Fact.is (.agg (mvA z)),
      Fact.is (.int .i64 i),
      Fact.is (.int .i64 O),
      Fact.is (.int .i64 i),
      Fact.is (.pointer (some ⟨w.heap.size + 1, 36, none⟩)),
      Fact.is (.pointer (some ⟨w.heap.size + 1, 36 + i, none⟩)),
      Fact.is (.int .i64 sp),
      Fact.is (.bool false)])
      (T := [21, 22, 23, 24, 25, 26, 27, 28]) (by kernel_rfl) (by kernel_rfl) rfl ?owes ?_
    case owes =>
      refine .cons (owes_value fun q u lh => ⟨wants_free rfl, .agg (mvA z), exec_load_mv (.tmp 4) rfl (w.heap.size + 1) (lh.old 4 rfl) z HZ.out (M3.out.below lh.below), rfl⟩) ?_
      refine .cons (owes_move (.tmp 2) (.inl rfl) fun q u lh => ⟨wants_free rfl, lh.old 2 rfl⟩) ?_
      refine .cons (owes_call 72 Try.func72 (by kernel_rfl) (by kernel_rfl) [.tmp 21, .tmp 22] #[92, 3] rfl fun q u lh => ⟨wants_free rfl, by have e21 : q.tmps.getD 21 undef = .agg (mvA z) := lh.dep 0 rfl; have e22 : q.tmps.getD 22 undef = .int .i64 i := lh.dep 1 rfl; show Calls Try.prog 72 #[q.tmps.getD 21 undef, q.tmps.getD 22 undef] u _; rw [e21, e22]; exact int_fact (OUT u)⟩) ?_
      refine .cons (owes_move (.tmp 2) (.inl rfl) fun q u lh => ⟨wants_free rfl, lh.old 2 rfl⟩) ?_
      refine .cons (owes_value fun q u lh => ⟨wants_free rfl, .pointer (some ⟨w.heap.size + 1, 36, none⟩), by have e4 : q.tmps.getD 4 undef = .pointer (some ⟨w.heap.size + 1, 0, none⟩) := lh.old 4 rfl; simp [execOp, Act.eval, e4, go_sem], rfl⟩) ?_
      refine .cons (owes_value fun q u lh => ⟨wants_free rfl, .pointer (some ⟨w.heap.size + 1, 36 + i, none⟩), by have e24 : q.tmps.getD 24 undef = .int .i64 i := lh.dep 3 rfl; have e25 : q.tmps.getD 25 undef = .pointer (some ⟨w.heap.size + 1, 36, none⟩) := lh.dep 4 rfl; simp [execOp, Act.eval, e24, e25, i1, go_sem], rfl⟩) ?_
      refine .cons (owes_value fun q u lh => ⟨wants_free rfl, .int .i64 sp, by have e26 : q.tmps.getD 26 undef = .pointer (some ⟨w.heap.size + 1, 36 + i, none⟩) := lh.dep 5 rfl; have z1 := HM.out u (M3.out.below lh.below); simp [execOp, Act.eval, e26, z1, go_sem], rfl⟩) ?_
      refine .cons (owes_value fun q u lh => ⟨wants_free rfl, .bool false, by have e23 : q.tmps.getD 23 undef = .int .i64 O := lh.dep 2 rfl; have e27 : q.tmps.getD 27 undef = .int .i64 sp := lh.dep 6 rfl; simp [execOp, Act.eval, e23, e27, HC.out, go_sem], rfl⟩) ?_
      exact .nil _
    intro q u hb hsz hdf hold hfact
    have B4 : Hid (Below w.heap.size w u) := B3.out.trans (hb.mono B3.out.size)
    obtain ⟨u2, rfl⟩ : ∃ z, z = u := ⟨u, rfl⟩
    obtain rfl := frame_puts hsz hdf [21, 22, 23, 24, 25, 26, 27, 28] hold [(21, Value.agg (mvA z)), (22, Value.int .i64 i), (23, Value.int .i64 O), (24, Value.int .i64 i), (25, Value.pointer (some ⟨w.heap.size + 1, 36, none⟩)), (26, Value.pointer (some ⟨w.heap.size + 1, 36 + i, none⟩)), (27, Value.int .i64 sp), (28, Value.bool false)] ⟨hfact 0 (by decide), hfact 1 (by decide), hfact 2 (by decide), hfact 3 (by decide), hfact 4 (by decide), hfact 5 (by decide), hfact 6 (by decide), hfact 7 (by decide), trivial⟩ rfl
    clear hsz hdf hold hfact
    clear hb M3
    simp only [puts, Act.put, List.setIfInBounds_toArray, List.set_cons_zero, List.set_cons_succ]
    go_wp2
    go_ret
    exact ⟨rfl, B4.out⟩

end Go.Proofs.Ytlackjldopeigaa

/-
  Books that are such, cell by cell.
-/
namespace Go.Proofs.Ytlackjldopeigaa
open Go.RowKit
set_option linter.unusedVariables false
set_option linter.unusedSimpArgs false

structure Flat (w : World) (b : Bks) (n bA oA bB oB bM oM bP oP : Nat) : Prop where
  acc : ∀ i, i < n → w.cell? ⟨bA, oA + i * 3, none⟩ = some (.int .i64 (b.A.getD i a30).1) ∧ w.cell? ⟨bA, oA + i * 3 + 1, none⟩ = some (.int .i64 (b.A.getD i a30).2.1) ∧ w.cell? ⟨bA, oA + i * 3 + 2, none⟩ = some (.int .i64 (b.A.getD i a30).2.2)
  bil : Sq w bB oB n b.B
  mul : ∀ i, i < n → w.cell? ⟨bM, oM + i, none⟩ = some (.int .i64 (b.M.getD i 0))
  pos : Sq w bP oP n b.P
theorem Flat.below {w w' : World} {b : Bks} {n bA oA bB oB bM oM bP oP : Nat} (h : Flat w b n bA oA bB oB bM oM bP oP) (k : Below w.heap.size w w') : Flat w' b n bA oA bB oB bM oM bP oP := by
  refine ⟨fun i hi => ?_, h.bil.below k, fun i hi => ?_, h.pos.below k⟩
  · obtain ⟨c0, c1, c2⟩ := h.acc i hi
    have hl := block_lt_of_cell c0
    exact ⟨(k.cell (p := ⟨bA, oA + i * 3, none⟩) hl).trans c0, (k.cell (p := ⟨bA, oA + i * 3 + 1, none⟩) hl).trans c1, (k.cell (p := ⟨bA, oA + i * 3 + 2, none⟩) hl).trans c2⟩
  · have c := h.mul i hi
    exact (k.cell (p := ⟨bM, oM + i, none⟩) (block_lt_of_cell c)).trans c
theorem Bk.flat {w : World} {x : BA} {b : Bks} (h : Bk w x b) (g : Good b) : ∃ n cA cB cM cP bA oA bB oB bM oM bP oP : Nat,
    x = ⟨some ⟨bA, oA, none⟩, n, cA, some ⟨bB, oB, none⟩, n, cB, some ⟨bM, oM, none⟩, n, cM, some ⟨bP, oP, none⟩, n, cP⟩ ∧ n = b.A.length ∧ Flat w b n bA oA bB oB bM oM bP oP := by
  obtain ⟨aA, nA, cA, aB, nB, cB, aM, nM, cM, aP, nP, cP⟩ := x
  have n1 := g.n1
  obtain ⟨bB, oB, hB, eB, SB⟩ := RowsI.sq h.bil (by omega : 0 < b.A.length) (squareB_yes.2 ⟨g.bil, g.bils⟩)
  obtain ⟨bP, oP, hP, eP, SP⟩ := RowsI.sq h.pos (by omega : 0 < b.A.length) (squareB_yes.2 ⟨g.pos, g.poss⟩)
  have hB : aB = some ⟨bB, oB, none⟩ := hB
  have eB : nB = b.A.length := eB
  have hP : aP = some ⟨bP, oP, none⟩ := hP
  have eP : nP = b.A.length := eP
  have eA : nA = b.A.length := h.acc.1
  have eM : nM = b.M.length := h.mul.1
  have gm := g.mul
  obtain ⟨bA, oA, hA, CA⟩ : ∃ bA oA, aA = some ⟨bA, oA, none⟩ ∧ ∀ i, i < b.A.length → w.cell? ⟨bA, oA + i * 3, none⟩ = some (.int .i64 (b.A.getD i a30).1) ∧ w.cell? ⟨bA, oA + i * 3 + 1, none⟩ = some (.int .i64 (b.A.getD i a30).2.1) ∧ w.cell? ⟨bA, oA + i * 3 + 2, none⟩ = some (.int .i64 (b.A.getD i a30).2.2) := by
    rcases h.acc.2 with h1 | ⟨b1, o1, h1, h2⟩
    · rw [h1] at n1; simp at n1
    · exact ⟨b1, o1, h1, h2⟩
  obtain ⟨bM, oM, hM, CM⟩ : ∃ bM oM, aM = some ⟨bM, oM, none⟩ ∧ ∀ i, i < b.M.length → w.cell? ⟨bM, oM + i, none⟩ = some (.int .i64 (b.M.getD i 0)) := by
    rcases h.mul.2.2 with h1 | ⟨b1, o1, h1, h2⟩
    · rw [h1] at gm; simp at gm; omega
    · exact ⟨b1, o1, h1, h2⟩
  refine ⟨b.A.length, cA, cB, cM, cP, bA, oA, bB, oB, bM, oM, bP, oP, ?_, rfl, ⟨CA, SB, fun i hi => CM i (by omega), SP⟩⟩
  rw [hA, hB, hM, hP, eA, eB, eM, eP, gm]

end Go.Proofs.Ytlackjldopeigaa

/-
  fits: is a limit passed?
-/
namespace Go.Proofs.Ytlackjldopeigaa
open Go.RowKit
set_option linter.unusedVariables false
set_option linter.unusedSimpArgs false

/-- Is its limit to j passed? that to all? n: how many parties. -/
def passZ (b : Bks) (z : List Int) (i j : Nat) : Bool := decide (0 < z.getD (i * 6 + j) 0) && aboveB (at2 b.P i j + z.getD (i * 6 + j) 0 - z.getD (j * 6 + i) 0) (at2 b.B i j)
def overZ (b : Bks) (z : List Int) (n i : Nat) : Bool := (List.range 6).any (passZ b z i) || aboveB (netTo b.P i n + outZ z i - inZ z i) (b.M.getD i 0)
theorem overZ_yes {b : Bks} {z : List Int} {n i j : Nat} (hj : j < 6) (h : passZ b z i j = true) : true = overZ b z n i := by
  unfold overZ
  rw [show (List.range 6).any (passZ b z i) = true from List.any_eq_true.2 ⟨j, List.mem_range.2 hj, h⟩]
  rfl
theorem overZ_no {b : Bks} {z : List Int} {n i : Nat} (h : ∀ j, j < 6 → passZ b z i j = false) : aboveB (netTo b.P i n + outZ z i - inZ z i) (b.M.getD i 0) = overZ b z n i := by
  unfold overZ
  rw [show (List.range 6).any (passZ b z i) = false from by
    rw [Bool.eq_false_iff]
    intro ha
    obtain ⟨j, hj, hp⟩ := List.any_eq_true.1 ha
    rw [h j (List.mem_range.1 hj)] at hp
    exact Bool.noConfusion hp]
  rfl

set_option maxHeartbeats 8000000 in
set_option maxRecDepth 100000 in
theorem exceeds_any (x : BA) (b : Bks) (z : List Int) (i : Nat) (w : World) (hk : Bk w x b) (g : Good b) (h : MvOk z) (hi : i < b.A.length) (h0 : ∀ j, b.A.length ≤ j → j < 6 → z.getD (i * 6 + j) 0 = 0) :
    Calls Try.prog 74 #[x.val, .agg (mvA z), .int .i64 i] w fun e w' => e = .returned (.bool (overZ b z b.A.length i)) ∧ Below w.heap.size w w' := by
  have HK : Hid (Bk w x b) := hk
  have HX : Hid (x = x) := rfl
  obtain ⟨n, cA, cB, cM, cP, bA, oA, bB, oB, bM, oM, bP, oP, hx, hn, FL⟩ := hk.flat g
  have NET := fun u (hu : Below w.heap.size w u) => limNet_any x b i b.A.length u (HK.out.below hu) g.n6 (squareB_yes.2 ⟨g.pos, g.poss⟩) hi (fun k hk => g.may i k hi hk)
  have nb := netTo_bound (R := b.P) (m := b.A.length) (i := i) (fun k hk => g.may i k hi hk) b.A.length (Nat.le_refl _)
  have n6 := g.n6
  have HG : Hid (∀ k, k < n → posB (at2 b.P i k) = true) := fun k hk => g.may i k hi (by omega)
  have H0 : Hid (∀ j, n ≤ j → j < 6 → z.getD (i * 6 + j) 0 = 0) := fun j h1 h2 => h0 j (by omega) h2
  rw [← hn] at NET nb hi n6 ⊢
  subst hx
  have HH : Hid (n ≤ 6) := n6
  have OUT := fun u => out_any z i u h (by omega)
  have IN := fun u => in_any z i u h (by omega)
  have ob := outZ_range h i
  have ib := inZ_range h i
  have HZ : Hid (z.length = 42) := h.len
  have HZR : Hid (∀ j, 0 ≤ z.getD j 0 ∧ z.getD j 0 ≤ 70368744177664) := h.le
  obtain ⟨w2, hw2⟩ : ∃ w2, w2 = (w.alloc (.cells #[.slice (some ⟨bA, oA, none⟩) n cA, .slice (some ⟨bB, oB, none⟩) n cB, .slice (some ⟨bM, oM, none⟩) n cM, .slice (some ⟨bP, oP, none⟩) n cP] 27)).alloc (.cells (mvA z) 92) := ⟨_, rfl⟩
  have B2 : Hid (Below w.heap.size w w2) := by rw [hw2]; exact (box_below _ _).alloc (box_below _ _).size _
  have X2 : Hid (Box4 w2 w.heap.size ⟨some ⟨bA, oA, none⟩, n, cA, some ⟨bB, oB, none⟩, n, cB, some ⟨bM, oM, none⟩, n, cM, some ⟨bP, oP, none⟩, n, cP⟩) := by rw [hw2]; exact (Box4.new w ⟨some ⟨bA, oA, none⟩, n, cA, some ⟨bB, oB, none⟩, n, cB, some ⟨bM, oM, none⟩, n, cM, some ⟨bP, oP, none⟩, n, cP⟩ _ _).below (box_below _ _)
  have M2 : Hid (MvAt w2 (w.heap.size + 1) z) := by
    rw [hw2, ← size_alloc w (.cells #[.slice (some ⟨bA, oA, none⟩) n cA, .slice (some ⟨bB, oB, none⟩) n cB, .slice (some ⟨bM, oM, none⟩) n cM, .slice (some ⟨bP, oP, none⟩) n cP] 27)]
    exact MvAt.new _ z h.len _ _
  have FW : Hid (Flat w2 b n bA oA bB oB bM oM bP oP) := FL.below B2.out
  have i1 : (i : Int) < (n : Int) := by omega
  have i6 : (i : Int) < 6 := by omega
  have x0 := M2.out (i * 6) (by omega)
  have x1 := M2.out (i * 6 + 1) (by omega)
  have x2 := M2.out (i * 6 + 2) (by omega)
  have x3 := M2.out (i * 6 + 3) (by omega)
  have x4 := M2.out (i * 6 + 4) (by omega)
  have x5 := M2.out (i * 6 + 5) (by omega)
  have HI : Hid (∀ j : Nat, j < 6 → ∀ w, (Instr.index 89 (.agg #[.int .i64 (z.getD (i * 6) 0), .int .i64 (z.getD (i * 6 + 1) 0), .int .i64 (z.getD (i * 6 + 2) 0), .int .i64 (z.getD (i * 6 + 3) 0), .int .i64 (z.getD (i * 6 + 4) 0), .int .i64 (z.getD (i * 6 + 5) 0)]) (.int .i64 j)).run Try.prog w = .ok (.int .i64 (z.getD (i * 6 + j) 0)) w) := fun j hj w => index_six _ j hj _ (by
    rcases (by omega : j = 0 ∨ j = 1 ∨ j = 2 ∨ j = 3 ∨ j = 4 ∨ j = 5) with rfl | rfl | rfl | rfl | rfl | rfl <;> rfl) w
  generalize z.getD (i * 6) 0 = y0 at x0 HI
  generalize z.getD (i * 6 + 1) 0 = y1 at x1 HI
  generalize z.getD (i * 6 + 2) 0 = y2 at x2 HI
  generalize z.getD (i * 6 + 3) 0 = y3 at x3 HI
  generalize z.getD (i * 6 + 4) 0 = y4 at x4 HI
  generalize z.getD (i * 6 + 5) 0 = y5 at x5 HI
  have HN : Hid (-432345564227567616 ≤ netTo b.P i n ∧ netTo b.P i n ≤ 432345564227567616) := by show _ ∧ _; omega
  have HOB : Hid (0 ≤ outZ z i ∧ outZ z i ≤ 422212465065984) := ob
  have HIB : Hid (0 ≤ inZ z i ∧ inZ z i ≤ 422212465065984) := ib
  have HIN : Hid (i < n) := hi
  clear hn FL nb h h0 g hk ob ib n6 hi
  go_enter Try.func74, Try.ntmps74
  go_upto_region 1 with fail
  rw [← hw2]
  clear hw2
  go_wp2_with fail
  clear x0 x1 x2 x3 x4 x5
  go_loopw [7, 8, 13] (fun tj tn t wr => ∃ k : Nat, k ≤ 6 ∧ t = .int .i64 k ∧ (∀ j, j < k → passZ b z i j = false) ∧ Below w2.heap.size w2 wr) (fun _ _ t _ => 6 - (intOf t).toNat)
  case atStart => exact ⟨0, by omega, rfl, fun j hj => by omega, Below.refl _ _⟩
  case round =>
    obtain ⟨j, hj, rfl, hno, hb⟩ := hrel
    have HNO : Hid (∀ k, k < j → passZ b z i k = false) := hno
    have B3 : Hid (Below w2.heap.size w2 wr) := hb
    have BW : Hid (Below w.heap.size w wr) := B2.out.trans (hb.mono B2.out.size)
    have X3 : Hid (Box4 wr w.heap.size ⟨some ⟨bA, oA, none⟩, n, cA, some ⟨bB, oB, none⟩, n, cB, some ⟨bM, oM, none⟩, n, cM, some ⟨bP, oP, none⟩, n, cP⟩) := X2.out.below hb
    have M3 : Hid (MvAt wr (w.heap.size + 1) z) := M2.out.below hb
    have F3 : Hid (Flat wr b n bA oA bB oB bM oM bP oP) := FW.out.below hb
    clear hno hb
    by_cases hlt : j < 6
    · have j6 : (j : Int) < 6 := by omega
      have e0 := HI.out j hlt
      have HP : Hid (passZ b z i j = (decide (0 < z.getD (i * 6 + j) 0) && aboveB (at2 b.P i j + z.getD (i * 6 + j) 0 - z.getD (j * 6 + i) 0) (at2 b.B i j))) := rfl
      have c1 := HZR.out (i * 6 + j)
      have c2 := HZR.out (j * 6 + i)
      have hz := fun hj => H0.out j hj hlt
      have M4 : Hid (∀ u, MvAt u (w.heap.size + 1) z → u.cell? ⟨w.heap.size + 1, j * 6 + i, none⟩ = some (.int .i64 (z.getD (j * 6 + i) 0))) := fun u H => H (j * 6 + i) (by have := HH.out; have := HIN.out; omega)
      generalize z.getD (i * 6 + j) 0 = v at e0 HP c1 hz
      generalize z.getD (j * 6 + i) 0 = y at HP c2 M4
      rcases Int.lt_or_le 0 v with hv | hv
      · have hjn : j < n := by
          rcases Nat.lt_or_ge j n with h | h
          · exact h
          · have := hz h; omega
        have j1 : (j : Int) < (n : Int) := by omega
        have hp := posB_yes (HG.out j hjn)
        obtain ⟨g1, o1, d1, b0, b1⟩ := F3.out.bil i HIN.out
        have bc := b1 j hjn
        obtain ⟨g2, o2, d2, r0, r1⟩ := F3.out.pos i HIN.out
        have pc := r1 j hjn
        generalize at2 b.P i j = p at HP hp pc
        generalize at2 b.B i j = l at HP bc
        obtain ⟨s1, hs1⟩ : ∃ s1, p + v = s1 := ⟨_, rfl⟩
        obtain ⟨s2, hs2⟩ : ∃ s2, s1 - y = s2 := ⟨_, rfl⟩
        have W1 : Hid (IntKind.i64.wrap (p + v) = s1) := by show _ = _; rw [hs1]; exact i64_wf (by omega) (by omega)
        have W2 : Hid (IntKind.i64.wrap (s1 - y) = s2) := by show _ = _; rw [hs2]; exact i64_wf (by omega) (by omega)
        have HV : Hid (decide (0 < v) = true) := decide_eq_true hv
        rw [hs1, hs2, HV.out, Bool.true_and] at HP
        have A := fun u => isAbove_any s2 l u
        generalize aboveB s2 l = R at A HP
        clear hs1 hs2 hv hz hp c1 c2 b1 r1
        have R0 : Hid (wr.cell? ⟨bP, oP + i, none⟩ = some (.slice (some ⟨g2, o2, none⟩) n d2)) := r0
        have R1 : Hid (wr.cell? ⟨g2, o2 + j, none⟩ = some (.int .i64 p)) := pc
        have Q0 : Hid (wr.cell? ⟨bB, oB + i, none⟩ = some (.slice (some ⟨g1, o1, none⟩) n d1)) := b0
        have Q1 : Hid (wr.cell? ⟨g1, o1 + j, none⟩ = some (.int .i64 l)) := bc
        clear r0 pc b0 bc
        go_wp2_with fail
        refine region_owes (L := [Fact.is (.int .i64 v),
          Fact.is (.bool true),
          Fact.is (.bool true),
          Fact.is (.pointer (some ⟨w.heap.size, 3, none⟩)),
          Fact.is (.slice (some ⟨bP, oP, none⟩) n cP),
          Fact.is (.int .i64 i),
          Fact.is (.pointer (some ⟨bP, oP + i, none⟩)),
          Fact.is (.slice (some ⟨g2, o2, none⟩) n d2),
          Fact.is (.int .i64 j),
          Fact.is (.pointer (some ⟨g2, o2 + j, none⟩)),
          Fact.is (.int .i64 p),
          Fact.is (.int .i64 v),
          Fact.is (.int .i64 s1),
          Fact.is (.int .i64 j),
          Fact.is (.int .i64 i),
          Fact.is (.pointer (some ⟨w.heap.size + 1, 0, none⟩)),
          Fact.is (.pointer (some ⟨w.heap.size + 1, j * 6, none⟩)),
          Fact.is (.pointer (some ⟨w.heap.size + 1, j * 6 + i, none⟩)),
          Fact.is (.int .i64 y),
          Fact.is (.int .i64 s2),
          Fact.is (.pointer (some ⟨w.heap.size, 1, none⟩)),
          Fact.is (.slice (some ⟨bB, oB, none⟩) n cB),
          Fact.is (.int .i64 i),
          Fact.is (.pointer (some ⟨bB, oB + i, none⟩)),
          Fact.is (.slice (some ⟨g1, o1, none⟩) n d1),
          Fact.is (.int .i64 j),
          Fact.is (.pointer (some ⟨g1, o1 + j, none⟩)),
          Fact.is (.int .i64 l),
          Fact.is (.bool R),
          Fact.is (.bool R)])
          (T := [17, 18, 19, 20, 21, 22, 23, 24, 25, 26, 27, 28, 29, 30, 31, 32, 33, 34, 35, 36, 37, 38, 39, 40, 41, 42, 43, 44, 45, 46]) (by kernel_rfl) (by kernel_rfl) rfl ?owes ?_
        case owes =>
          refine .cons (owes_move (.tmp 8) (.inl rfl) fun q u lh => ⟨wants_free rfl, lh.old 8 rfl⟩) ?_
          refine .cons (owes_value fun q u lh => ⟨wants_free rfl, .bool true, by have e17 : q.tmps.getD 17 undef = .int .i64 v := lh.dep 0 rfl; simp [execOp, Act.eval, e17, HV.out, go_sem], rfl⟩) ?_
          refine .cons (owes_move (.tmp 18) (.inl rfl) fun q u lh => ⟨wants_free rfl, lh.dep 1 rfl⟩) ?_
          refine .cons (owes_value fun q u lh => ⟨lh.wants1 2 true rfl rfl rfl, .pointer (some ⟨w.heap.size, 3, none⟩), by have e3 : q.tmps.getD 3 undef = .pointer (some ⟨w.heap.size, 0, none⟩) := lh.old 3 rfl; simp [execOp, Act.eval, e3, go_sem], rfl⟩) ?_
          refine .cons (owes_value fun q u lh => ⟨lh.wants1 2 true rfl rfl rfl, .slice (some ⟨bP, oP, none⟩) n cP, by have e20 : q.tmps.getD 20 undef = .pointer (some ⟨w.heap.size, 3, none⟩) := lh.dep 3 rfl; obtain ⟨p0, p1, p2, p3⟩ := X3.out.below lh.below; simp [execOp, Act.eval, e20, p3, go_sem], rfl⟩) ?_
          refine .cons (owes_move (.tmp 2) (.inl rfl) fun q u lh => ⟨lh.wants1 2 true rfl rfl rfl, lh.old 2 rfl⟩) ?_
          refine .cons (owes_value fun q u lh => ⟨lh.wants1 2 true rfl rfl rfl, .pointer (some ⟨bP, oP + i, none⟩), by have e21 : q.tmps.getD 21 undef = .slice (some ⟨bP, oP, none⟩) n cP := lh.dep 4 rfl; have e22 : q.tmps.getD 22 undef = .int .i64 i := lh.dep 5 rfl; simp [execOp, Act.eval, e21, e22, i1, go_sem], rfl⟩) ?_
          refine .cons (owes_value fun q u lh => ⟨lh.wants1 2 true rfl rfl rfl, .slice (some ⟨g2, o2, none⟩) n d2, by have e23 : q.tmps.getD 23 undef = .pointer (some ⟨bP, oP + i, none⟩) := lh.dep 6 rfl; have z1 := (lh.below.cell (p := ⟨bP, oP + i, none⟩) (block_lt_of_cell R0.out)).trans R0.out; simp [execOp, Act.eval, e23, z1, go_sem], rfl⟩) ?_
          refine .cons (owes_move (.tmp 7) (.inl rfl) fun q u lh => ⟨lh.wants1 2 true rfl rfl rfl, lh.old 7 rfl⟩) ?_
          refine .cons (owes_value fun q u lh => ⟨lh.wants1 2 true rfl rfl rfl, .pointer (some ⟨g2, o2 + j, none⟩), by have e24 : q.tmps.getD 24 undef = .slice (some ⟨g2, o2, none⟩) n d2 := lh.dep 7 rfl; have e25 : q.tmps.getD 25 undef = .int .i64 j := lh.dep 8 rfl; simp [execOp, Act.eval, e24, e25, j1, go_sem], rfl⟩) ?_
          refine .cons (owes_value fun q u lh => ⟨lh.wants1 2 true rfl rfl rfl, .int .i64 p, by have e26 : q.tmps.getD 26 undef = .pointer (some ⟨g2, o2 + j, none⟩) := lh.dep 9 rfl; have z1 := (lh.below.cell (p := ⟨g2, o2 + j, none⟩) (block_lt_of_cell R1.out)).trans R1.out; simp [execOp, Act.eval, e26, z1, go_sem], rfl⟩) ?_
          refine .cons (owes_move (.tmp 8) (.inl rfl) fun q u lh => ⟨lh.wants1 2 true rfl rfl rfl, lh.old 8 rfl⟩) ?_
          refine .cons (owes_value fun q u lh => ⟨lh.wants1 2 true rfl rfl rfl, .int .i64 s1, by have e27 : q.tmps.getD 27 undef = .int .i64 p := lh.dep 10 rfl; have e28 : q.tmps.getD 28 undef = .int .i64 v := lh.dep 11 rfl; simp [execOp, Act.eval, e27, e28, W1.out, go_sem], rfl⟩) ?_
          refine .cons (owes_move (.tmp 7) (.inl rfl) fun q u lh => ⟨lh.wants1 2 true rfl rfl rfl, lh.old 7 rfl⟩) ?_
          refine .cons (owes_move (.tmp 2) (.inl rfl) fun q u lh => ⟨lh.wants1 2 true rfl rfl rfl, lh.old 2 rfl⟩) ?_
          refine .cons (owes_value fun q u lh => ⟨lh.wants1 2 true rfl rfl rfl, .pointer (some ⟨w.heap.size + 1, 0, none⟩), by have e4 : q.tmps.getD 4 undef = .pointer (some ⟨w.heap.size + 1, 0, none⟩) := lh.old 4 rfl; simp [execOp, Act.eval, e4, go_sem], rfl⟩) ?_
          refine .cons (owes_value fun q u lh => ⟨lh.wants1 2 true rfl rfl rfl, .pointer (some ⟨w.heap.size + 1, j * 6, none⟩), by have e30 : q.tmps.getD 30 undef = .int .i64 j := lh.dep 13 rfl; have e32 : q.tmps.getD 32 undef = .pointer (some ⟨w.heap.size + 1, 0, none⟩) := lh.dep 15 rfl; simp [execOp, Act.eval, e30, e32, j6, go_sem], rfl⟩) ?_
          refine .cons (owes_value fun q u lh => ⟨lh.wants1 2 true rfl rfl rfl, .pointer (some ⟨w.heap.size + 1, j * 6 + i, none⟩), by have e31 : q.tmps.getD 31 undef = .int .i64 i := lh.dep 14 rfl; have e33 : q.tmps.getD 33 undef = .pointer (some ⟨w.heap.size + 1, j * 6, none⟩) := lh.dep 16 rfl; simp [execOp, Act.eval, e31, e33, i6, go_sem], rfl⟩) ?_
          refine .cons (owes_value fun q u lh => ⟨lh.wants1 2 true rfl rfl rfl, .int .i64 y, by have e34 : q.tmps.getD 34 undef = .pointer (some ⟨w.heap.size + 1, j * 6 + i, none⟩) := lh.dep 17 rfl; have z1 := M4.out u (M3.out.below lh.below); simp [execOp, Act.eval, e34, z1, go_sem], rfl⟩) ?_
          refine .cons (owes_value fun q u lh => ⟨lh.wants1 2 true rfl rfl rfl, .int .i64 s2, by have e29 : q.tmps.getD 29 undef = .int .i64 s1 := lh.dep 12 rfl; have e35 : q.tmps.getD 35 undef = .int .i64 y := lh.dep 18 rfl; simp [execOp, Act.eval, e29, e35, W2.out, go_sem], rfl⟩) ?_
          refine .cons (owes_value fun q u lh => ⟨lh.wants1 2 true rfl rfl rfl, .pointer (some ⟨w.heap.size, 1, none⟩), by have e3 : q.tmps.getD 3 undef = .pointer (some ⟨w.heap.size, 0, none⟩) := lh.old 3 rfl; simp [execOp, Act.eval, e3, go_sem], rfl⟩) ?_
          refine .cons (owes_value fun q u lh => ⟨lh.wants1 2 true rfl rfl rfl, .slice (some ⟨bB, oB, none⟩) n cB, by have e37 : q.tmps.getD 37 undef = .pointer (some ⟨w.heap.size, 1, none⟩) := lh.dep 20 rfl; obtain ⟨p0, p1, p2, p3⟩ := X3.out.below lh.below; simp [execOp, Act.eval, e37, p1, go_sem], rfl⟩) ?_
          refine .cons (owes_move (.tmp 2) (.inl rfl) fun q u lh => ⟨lh.wants1 2 true rfl rfl rfl, lh.old 2 rfl⟩) ?_
          refine .cons (owes_value fun q u lh => ⟨lh.wants1 2 true rfl rfl rfl, .pointer (some ⟨bB, oB + i, none⟩), by have e38 : q.tmps.getD 38 undef = .slice (some ⟨bB, oB, none⟩) n cB := lh.dep 21 rfl; have e39 : q.tmps.getD 39 undef = .int .i64 i := lh.dep 22 rfl; simp [execOp, Act.eval, e38, e39, i1, go_sem], rfl⟩) ?_
          refine .cons (owes_value fun q u lh => ⟨lh.wants1 2 true rfl rfl rfl, .slice (some ⟨g1, o1, none⟩) n d1, by have e40 : q.tmps.getD 40 undef = .pointer (some ⟨bB, oB + i, none⟩) := lh.dep 23 rfl; have z1 := (lh.below.cell (p := ⟨bB, oB + i, none⟩) (block_lt_of_cell Q0.out)).trans Q0.out; simp [execOp, Act.eval, e40, z1, go_sem], rfl⟩) ?_
          refine .cons (owes_move (.tmp 7) (.inl rfl) fun q u lh => ⟨lh.wants1 2 true rfl rfl rfl, lh.old 7 rfl⟩) ?_
          refine .cons (owes_value fun q u lh => ⟨lh.wants1 2 true rfl rfl rfl, .pointer (some ⟨g1, o1 + j, none⟩), by have e41 : q.tmps.getD 41 undef = .slice (some ⟨g1, o1, none⟩) n d1 := lh.dep 24 rfl; have e42 : q.tmps.getD 42 undef = .int .i64 j := lh.dep 25 rfl; simp [execOp, Act.eval, e41, e42, j1, go_sem], rfl⟩) ?_
          refine .cons (owes_value fun q u lh => ⟨lh.wants1 2 true rfl rfl rfl, .int .i64 l, by have e43 : q.tmps.getD 43 undef = .pointer (some ⟨g1, o1 + j, none⟩) := lh.dep 26 rfl; have z1 := (lh.below.cell (p := ⟨g1, o1 + j, none⟩) (block_lt_of_cell Q1.out)).trans Q1.out; simp [execOp, Act.eval, e43, z1, go_sem], rfl⟩) ?_
          refine .cons (owes_call 94 Try.func94 (by kernel_rfl) (by kernel_rfl) [.tmp 36, .tmp 44] #[2, 2] rfl fun q u lh => ⟨lh.wants1 2 true rfl rfl rfl, by have e36 : q.tmps.getD 36 undef = .int .i64 s2 := lh.dep 19 rfl; have e44 : q.tmps.getD 44 undef = .int .i64 l := lh.dep 27 rfl; show Calls Try.prog 94 #[q.tmps.getD 36 undef, q.tmps.getD 44 undef] u _; rw [e36, e44]; exact bool_fact ((A u).mono fun e w' h => ⟨h.1, h.2 ▸ Below.refl _ _⟩)⟩) ?_
          refine .cons (owes_pick (.tmp 19) (.tmp 45) (.const (.bool false)) rfl fun q u lh => ⟨wants_free rfl, true, lh.dep 2 rfl, lh.dep 28 rfl⟩) ?_
          exact .nil _
        intro q u hb hsz hdf hold hfact
        have B5 : Hid (Below w2.heap.size w2 u) := B3.out.trans (hb.mono B3.out.size)
        have B6 : Hid (Below w.heap.size w u) := BW.out.trans (hb.mono BW.out.size)
        obtain ⟨u4, rfl⟩ : ∃ z, z = u := ⟨u, rfl⟩
        obtain rfl := frame_puts hsz hdf [17, 18, 19, 20, 21, 22, 23, 24, 25, 26, 27, 28, 29, 30, 31, 32, 33, 34, 35, 36, 37, 38, 39, 40, 41, 42, 43, 44, 45, 46] hold [(17, Value.int .i64 v), (18, Value.bool true), (19, Value.bool true), (20, Value.pointer (some ⟨w.heap.size, 3, none⟩)), (21, Value.slice (some ⟨bP, oP, none⟩) n cP), (22, Value.int .i64 i), (23, Value.pointer (some ⟨bP, oP + i, none⟩)), (24, Value.slice (some ⟨g2, o2, none⟩) n d2), (25, Value.int .i64 j), (26, Value.pointer (some ⟨g2, o2 + j, none⟩)), (27, Value.int .i64 p), (28, Value.int .i64 v), (29, Value.int .i64 s1), (30, Value.int .i64 j), (31, Value.int .i64 i), (32, Value.pointer (some ⟨w.heap.size + 1, 0, none⟩)), (33, Value.pointer (some ⟨w.heap.size + 1, j * 6, none⟩)), (34, Value.pointer (some ⟨w.heap.size + 1, j * 6 + i, none⟩)), (35, Value.int .i64 y), (36, Value.int .i64 s2), (37, Value.pointer (some ⟨w.heap.size, 1, none⟩)), (38, Value.slice (some ⟨bB, oB, none⟩) n cB), (39, Value.int .i64 i), (40, Value.pointer (some ⟨bB, oB + i, none⟩)), (41, Value.slice (some ⟨g1, o1, none⟩) n d1), (42, Value.int .i64 j), (43, Value.pointer (some ⟨g1, o1 + j, none⟩)), (44, Value.int .i64 l), (45, Value.bool R), (46, Value.bool R)] ⟨hfact 0 (by decide), hfact 1 (by decide), hfact 2 (by decide), hfact 3 (by decide), hfact 4 (by decide), hfact 5 (by decide), hfact 6 (by decide), hfact 7 (by decide), hfact 8 (by decide), hfact 9 (by decide), hfact 10 (by decide), hfact 11 (by decide), hfact 12 (by decide), hfact 13 (by decide), hfact 14 (by decide), hfact 15 (by decide), hfact 16 (by decide), hfact 17 (by decide), hfact 18 (by decide), hfact 19 (by decide), hfact 20 (by decide), hfact 21 (by decide), hfact 22 (by decide), hfact 23 (by decide), hfact 24 (by decide), hfact 25 (by decide), hfact 26 (by decide), hfact 27 (by decide), hfact 28 (by decide), hfact 29 (by decide), trivial⟩ rfl
        clear hsz hdf hold hfact
        clear hb X3 M3 F3 B3 BW R0 R1 Q0 Q1
        simp only [puts, Act.put, List.setIfInBounds_toArray, List.set_cons_zero, List.set_cons_succ]
        cases R with
        | true =>
          have HY : Hid (true = overZ b z n i) := overZ_yes hlt HP.out
          go_wp2
          go_ret
          exact ⟨rt_bool HY.out, B6.out⟩
        | false =>
          go_wp2
          go_roundw
          case rel =>
            refine ⟨j + 1, by omega, by go_num, fun k hk => ?_, B5.out⟩
            rcases Nat.lt_or_ge k j with h | h
            · exact HNO.out k h
            · obtain rfl : k = j := by omega
              exact HP.out
          case measure => simp [intOf]; omega
      · have HV : Hid (decide (0 < v) = false) := decide_eq_false (by omega)
        rw [HV.out, Bool.false_and] at HP
        have hv2 := HV.out
        clear c1 c2 hz M4 hv
        go_wp2_with fail
        go_quiet (fail)
        go_wp2
        go_roundw
        case rel =>
          refine ⟨j + 1, by omega, by go_num, fun k hk => ?_, ?_⟩
          · rcases Nat.lt_or_ge k j with h | h
            · exact HNO.out k h
            · obtain rfl : k = j := by omega
              exact HP.out
          · exact B3.out.trans ((drawn_below _ _).mono B3.out.size)
        case measure => simp [intOf]; omega
    · obtain rfl : j = 6 := by omega
      obtain ⟨R, hR⟩ : ∃ R, aboveB (netTo b.P i n + outZ z i - inZ z i) (b.M.getD i 0) = R := ⟨_, rfl⟩
      have HR : Hid (R = overZ b z n i) := by show _ = _; rw [← hR]; exact overZ_no HNO.out
      have m0 := F3.out.mul i HIN.out
      generalize b.M.getD i 0 = mu at hR m0
      have nb := HN.out
      have ob := HOB.out
      have ib := HIB.out
      generalize netTo b.P i n = N at NET nb hR
      generalize outZ z i = O at OUT ob hR
      generalize inZ z i = I at IN ib hR
      obtain ⟨s1, hs1⟩ : ∃ s1, N + O = s1 := ⟨_, rfl⟩
      obtain ⟨s2, hs2⟩ : ∃ s2, s1 - I = s2 := ⟨_, rfl⟩
      have W1 : Hid (IntKind.i64.wrap (N + O) = s1) := by show _ = _; rw [hs1]; exact i64_wf (by omega) (by omega)
      have W2 : Hid (IntKind.i64.wrap (s1 - I) = s2) := by show _ = _; rw [hs2]; exact i64_wf (by omega) (by omega)
      rw [hs1, hs2] at hR
      have A := fun u => isAbove_any s2 mu u
      rw [hR] at A
      have M0 : Hid (wr.cell? ⟨bM, oM + i, none⟩ = some (.int .i64 mu)) := m0
      clear hs1 hs2 hR nb ob ib m0
      go_wp2_with fail
      refine region_owes (L := [Fact.is (.agg #[.slice (some ⟨bA, oA, none⟩) n cA, .slice (some ⟨bB, oB, none⟩) n cB, .slice (some ⟨bM, oM, none⟩) n cM, .slice (some ⟨bP, oP, none⟩) n cP]),
        Fact.is (.int .i64 i),
        Fact.is (.int .i64 N),
        Fact.is (.agg (mvA z)),
        Fact.is (.int .i64 i),
        Fact.is (.int .i64 O),
        Fact.is (.int .i64 s1),
        Fact.is (.agg (mvA z)),
        Fact.is (.int .i64 i),
        Fact.is (.int .i64 I),
        Fact.is (.int .i64 s2),
        Fact.is (.pointer (some ⟨w.heap.size, 2, none⟩)),
        Fact.is (.slice (some ⟨bM, oM, none⟩) n cM),
        Fact.is (.int .i64 i),
        Fact.is (.pointer (some ⟨bM, oM + i, none⟩)),
        Fact.is (.int .i64 mu),
        Fact.is (.bool R),
        Fact.is (.bool R)])
        (T := [48, 49, 50, 51, 52, 53, 54, 55, 56, 57, 58, 59, 60, 61, 62, 63, 64, 6]) (by kernel_rfl) (by kernel_rfl) rfl ?owes ?_
      case owes =>
        refine .cons (owes_value fun q u lh => ⟨wants_free rfl, .agg #[.slice (some ⟨bA, oA, none⟩) n cA, .slice (some ⟨bB, oB, none⟩) n cB, .slice (some ⟨bM, oM, none⟩) n cM, .slice (some ⟨bP, oP, none⟩) n cP], by have e3 : q.tmps.getD 3 undef = .pointer (some ⟨w.heap.size, 0, none⟩) := lh.old 3 rfl; obtain ⟨p0, p1, p2, p3⟩ := X3.out.below lh.below; simp [execOp, Act.eval, e3, p0, p1, p2, p3, go_sem], rfl⟩) ?_
        refine .cons (owes_move (.tmp 2) (.inl rfl) fun q u lh => ⟨wants_free rfl, lh.old 2 rfl⟩) ?_
        refine .cons (owes_call 95 Try.func95 (by kernel_rfl) (by kernel_rfl) [.tmp 48, .tmp 49] #[27, 3] rfl fun q u lh => ⟨wants_free rfl, by have e48 : q.tmps.getD 48 undef = .agg #[.slice (some ⟨bA, oA, none⟩) n cA, .slice (some ⟨bB, oB, none⟩) n cB, .slice (some ⟨bM, oM, none⟩) n cM, .slice (some ⟨bP, oP, none⟩) n cP] := lh.dep 0 rfl; have e49 : q.tmps.getD 49 undef = .int .i64 i := lh.dep 1 rfl; show Calls Try.prog 95 #[q.tmps.getD 48 undef, q.tmps.getD 49 undef] u _; rw [e48, e49]; exact int_fact (NET u (BW.out.trans (lh.below.mono BW.out.size)))⟩) ?_
        refine .cons (owes_value fun q u lh => ⟨wants_free rfl, .agg (mvA z), exec_load_mv (.tmp 4) rfl (w.heap.size + 1) (lh.old 4 rfl) z HZ.out (M3.out.below lh.below), rfl⟩) ?_
        refine .cons (owes_move (.tmp 2) (.inl rfl) fun q u lh => ⟨wants_free rfl, lh.old 2 rfl⟩) ?_
        refine .cons (owes_call 72 Try.func72 (by kernel_rfl) (by kernel_rfl) [.tmp 51, .tmp 52] #[92, 3] rfl fun q u lh => ⟨wants_free rfl, by have e51 : q.tmps.getD 51 undef = .agg (mvA z) := lh.dep 3 rfl; have e52 : q.tmps.getD 52 undef = .int .i64 i := lh.dep 4 rfl; show Calls Try.prog 72 #[q.tmps.getD 51 undef, q.tmps.getD 52 undef] u _; rw [e51, e52]; exact int_fact (OUT u)⟩) ?_
        refine .cons (owes_value fun q u lh => ⟨wants_free rfl, .int .i64 s1, by have e50 : q.tmps.getD 50 undef = .int .i64 N := lh.dep 2 rfl; have e53 : q.tmps.getD 53 undef = .int .i64 O := lh.dep 5 rfl; simp [execOp, Act.eval, e50, e53, W1.out, go_sem], rfl⟩) ?_
        refine .cons (owes_value fun q u lh => ⟨wants_free rfl, .agg (mvA z), exec_load_mv (.tmp 4) rfl (w.heap.size + 1) (lh.old 4 rfl) z HZ.out (M3.out.below lh.below), rfl⟩) ?_
        refine .cons (owes_move (.tmp 2) (.inl rfl) fun q u lh => ⟨wants_free rfl, lh.old 2 rfl⟩) ?_
        refine .cons (owes_call 93 Try.func93 (by kernel_rfl) (by kernel_rfl) [.tmp 55, .tmp 56] #[92, 3] rfl fun q u lh => ⟨wants_free rfl, by have e55 : q.tmps.getD 55 undef = .agg (mvA z) := lh.dep 7 rfl; have e56 : q.tmps.getD 56 undef = .int .i64 i := lh.dep 8 rfl; show Calls Try.prog 93 #[q.tmps.getD 55 undef, q.tmps.getD 56 undef] u _; rw [e55, e56]; exact int_fact (IN u)⟩) ?_
        refine .cons (owes_value fun q u lh => ⟨wants_free rfl, .int .i64 s2, by have e54 : q.tmps.getD 54 undef = .int .i64 s1 := lh.dep 6 rfl; have e57 : q.tmps.getD 57 undef = .int .i64 I := lh.dep 9 rfl; simp [execOp, Act.eval, e54, e57, W2.out, go_sem], rfl⟩) ?_
        refine .cons (owes_value fun q u lh => ⟨wants_free rfl, .pointer (some ⟨w.heap.size, 2, none⟩), by have e3 : q.tmps.getD 3 undef = .pointer (some ⟨w.heap.size, 0, none⟩) := lh.old 3 rfl; simp [execOp, Act.eval, e3, go_sem], rfl⟩) ?_
        refine .cons (owes_value fun q u lh => ⟨wants_free rfl, .slice (some ⟨bM, oM, none⟩) n cM, by have e59 : q.tmps.getD 59 undef = .pointer (some ⟨w.heap.size, 2, none⟩) := lh.dep 11 rfl; obtain ⟨p0, p1, p2, p3⟩ := X3.out.below lh.below; simp [execOp, Act.eval, e59, p2, go_sem], rfl⟩) ?_
        refine .cons (owes_move (.tmp 2) (.inl rfl) fun q u lh => ⟨wants_free rfl, lh.old 2 rfl⟩) ?_
        refine .cons (owes_value fun q u lh => ⟨wants_free rfl, .pointer (some ⟨bM, oM + i, none⟩), by have e60 : q.tmps.getD 60 undef = .slice (some ⟨bM, oM, none⟩) n cM := lh.dep 12 rfl; have e61 : q.tmps.getD 61 undef = .int .i64 i := lh.dep 13 rfl; simp [execOp, Act.eval, e60, e61, i1, go_sem], rfl⟩) ?_
        refine .cons (owes_value fun q u lh => ⟨wants_free rfl, .int .i64 mu, by have e62 : q.tmps.getD 62 undef = .pointer (some ⟨bM, oM + i, none⟩) := lh.dep 14 rfl; have z1 := (lh.below.cell (p := ⟨bM, oM + i, none⟩) (block_lt_of_cell M0.out)).trans M0.out; simp [execOp, Act.eval, e62, z1, go_sem], rfl⟩) ?_
        refine .cons (owes_call 94 Try.func94 (by kernel_rfl) (by kernel_rfl) [.tmp 58, .tmp 63] #[2, 2] rfl fun q u lh => ⟨wants_free rfl, by have e58 : q.tmps.getD 58 undef = .int .i64 s2 := lh.dep 10 rfl; have e63 : q.tmps.getD 63 undef = .int .i64 mu := lh.dep 15 rfl; show Calls Try.prog 94 #[q.tmps.getD 58 undef, q.tmps.getD 63 undef] u _; rw [e58, e63]; exact bool_fact ((A u).mono fun e w' h => ⟨h.1, h.2 ▸ Below.refl _ _⟩)⟩) ?_
        refine .cons (owes_move (.tmp 64) (.inr rfl) fun q u lh => ⟨wants_free rfl, lh.dep 16 rfl⟩) ?_
        exact .nil _
      intro q u hb hsz hdf hold hfact
      have B6 : Hid (Below w.heap.size w u) := BW.out.trans (hb.mono BW.out.size)
      obtain ⟨u4, rfl⟩ : ∃ z, z = u := ⟨u, rfl⟩
      obtain rfl := frame_puts hsz hdf [48, 49, 50, 51, 52, 53, 54, 55, 56, 57, 58, 59, 60, 61, 62, 63, 64, 6] hold [(48, Value.agg #[.slice (some ⟨bA, oA, none⟩) n cA, .slice (some ⟨bB, oB, none⟩) n cB, .slice (some ⟨bM, oM, none⟩) n cM, .slice (some ⟨bP, oP, none⟩) n cP]), (49, Value.int .i64 i), (50, Value.int .i64 N), (51, Value.agg (mvA z)), (52, Value.int .i64 i), (53, Value.int .i64 O), (54, Value.int .i64 s1), (55, Value.agg (mvA z)), (56, Value.int .i64 i), (57, Value.int .i64 I), (58, Value.int .i64 s2), (59, Value.pointer (some ⟨w.heap.size, 2, none⟩)), (60, Value.slice (some ⟨bM, oM, none⟩) n cM), (61, Value.int .i64 i), (62, Value.pointer (some ⟨bM, oM + i, none⟩)), (63, Value.int .i64 mu), (64, Value.bool R), (6, Value.bool R)] ⟨hfact 0 (by decide), hfact 1 (by decide), hfact 2 (by decide), hfact 3 (by decide), hfact 4 (by decide), hfact 5 (by decide), hfact 6 (by decide), hfact 7 (by decide), hfact 8 (by decide), hfact 9 (by decide), hfact 10 (by decide), hfact 11 (by decide), hfact 12 (by decide), hfact 13 (by decide), hfact 14 (by decide), hfact 15 (by decide), hfact 16 (by decide), hfact 17 (by decide), trivial⟩ rfl
      clear hsz hdf hold hfact
      clear hb X3 M3 F3 B3 BW M0
      simp only [puts, Act.put, List.setIfInBounds_toArray, List.set_cons_zero, List.set_cons_succ]
      go_wp2
      go_ret
      exact ⟨rt_bool HR.out, B6.out⟩

end Go.Proofs.Ytlackjldopeigaa

/-
  Rows of ints that a call makes.
-/
namespace Go.Proofs.Ytlackjldopeigaa
open Go.RowKit
set_option linter.unusedVariables false
set_option linter.unusedSimpArgs false

/-- Numbers as ints; their cells. -/
def intsL (l : List Nat) : List Int := l.map fun i : Nat => (i : Int)
def intsV (l : List Nat) : List Value := (intsL l).map (Value.int .i64)
theorem intsL_len (l : List Nat) : (intsL l).length = l.length := by simp [intsL]
theorem intsL_at {l : List Nat} {i : Nat} (h : i < l.length) : (intsL l).getD i 0 = (l.getD i 0 : Nat) := by simp [intsL, h]
theorem intsL_wf {l : List Nat} (h : ∀ i ∈ l, i ≤ 1000000) : ∀ n ∈ intsL l, IntKind.i64.wrap n = n := by
  intro n hn
  simp only [intsL, List.mem_map] at hn
  obtain ⟨i, hi, rfl⟩ := hn
  have := h i hi
  exact i64_wf (by omega) (by omega)
/-- A row of ints in full. -/
structure IGood (w : World) (a : Option Addr) (n c : Nat) (l : List Nat) : Prop where
  sl : Sl .i64 w a n (intsL l)
  len : n = l.length
  cap : n ≤ c
  max : c ≤ 9223372036854775807
  nil0 : a = none → c = 0
theorem IGood.below {w w' : World} {a : Option Addr} {n c : Nat} {l : List Nat} (h : IGood w a n c l) (k : Below w.heap.size w w') : IGood w' a n c l := ⟨h.sl.below k, h.len, h.cap, h.max, h.nil0⟩
/-- What a call answers that makes such a row. -/
def IEnd (w : World) (l : List Nat) (e : Ending) (w' : World) : Prop := ∃ a c, e = .returned (.slice a l.length c) ∧ IGood w' a l.length c l ∧ Below w.heap.size w w'
theorem IGood.own {w : World} {B : Nat} {v : Value} {n : Nat} {l : List Nat} (h : w.ownsRow B 3 1 v n (intsV l)) (hl : ∀ i ∈ l, i ≤ 1000000) : ∃ a c, v = .slice a l.length c ∧ IGood w a l.length c l := by
  obtain ⟨a, c, hv, hs, hn⟩ := Sl.own h (intsL_wf hl)
  rw [intsL_len] at hv hs
  subst hv
  obtain ⟨h1, h2⟩ := own_cap h
  exact ⟨a, c, rfl, hs, rfl, h1, h2, hn⟩
/-- The same, in new memory. -/
def IEndN (w : World) (l : List Nat) (e : Ending) (w' : World) : Prop := ∃ a c, e = .returned (.slice a l.length c) ∧ IGood w' a l.length c l ∧ (∀ x, a = some x → w.heap.size ≤ x.block) ∧ Below w.heap.size w w'
theorem IEndN.end {w : World} {l : List Nat} {e : Ending} {w' : World} (h : IEndN w l e w') : IEnd w l e w' := by
  obtain ⟨a, c, h1, h2, _, h4⟩ := h
  exact ⟨a, c, h1, h2, h4⟩
theorem IGood.ownN {w : World} {B : Nat} {v : Value} {n : Nat} {l : List Nat} (h : w.ownsRow B 3 1 v n (intsV l)) (hl : ∀ i ∈ l, i ≤ 1000000) : ∃ a c, v = .slice a l.length c ∧ IGood w a l.length c l ∧ ∀ x, a = some x → B ≤ x.block := by
  obtain ⟨a, c, hv, hg⟩ := IGood.own h hl
  refine ⟨a, c, hv, hg, fun x hx => ?_⟩
  subst hx
  rcases h.2 with ⟨h0, _⟩ | ⟨g, cap, cur, h0, hb, _⟩
  · rw [hv] at h0; simp at h0
  · rw [hv] at h0
    simp at h0
    rw [h0.1]
    exact hb
theorem intsV_append (l m : List Nat) : intsV (l ++ m) = intsV l ++ intsV m := by simp [intsV, intsL]

/-- One more, behind a row of the call's own. -/
theorem append_one {w : World} {ops : Array Oper} {rest : List Oper} {o : Oper} {a : Act} {Q : Exit → Act → World → Prop} (hgd : o.guard = none) (s x : Operand)
    (ho : o.op = .call { callee := .builtin .append, args := #[s, x], argTypes := #[30, 30] })
    (base : Nat) (v : Value) (n : Nat) (l : List Nat) (hs : a.eval s = v) (hown : w.ownsRow base 3 1 v n (intsV l)) (k : Nat) (hk : k ≤ 1000000) (hn : n ≤ 1000000) (hb : base ≤ w.heap.size)
    (hx : a.eval x = .slice (some ⟨w.heap.size, 0, none⟩) 1 1)
    (h : ∀ v' w', w'.ownsRow base 3 1 v' (n + 1) (intsV (l ++ [k])) → (w.alloc (.cells #[.int .i64 k] 3)).grownBy w' v.ownBlock → wpList Try.prog ops Q rest (a.put o.dst v') w') :
    wpList Try.prog ops Q (o :: rest) a (w.alloc (.cells #[.int .i64 k] 3)) := by
  obtain ⟨i, hi, hz⟩ : ∃ i, Try.prog.info? 3 = some i ∧ (i.zero, i.size, i.bytes) = (some (Value.int .i64 0), 1, 8) := by
    have h2 : (Try.prog.info? 3).map (fun i => (i.zero, i.size, i.bytes)) = some (some (Value.int .i64 0), 1, 8) := by kernel_rfl
    cases hq : Try.prog.info? 3 with
    | none => simp [hq] at h2
    | some i => exact ⟨i, rfl, by simpa [hq] using h2⟩
  simp only [Prod.mk.injEq] at hz
  obtain ⟨hz0, hz1, hz2⟩ := hz
  have hS : Sl .i64 (w.alloc (.cells #[.int .i64 k] 3)) (some ⟨w.heap.size, 0, none⟩) 1 [(k : Int)] := by
    refine ⟨rfl, fun n hn => ?_, .inr ⟨_, _, rfl, fun i hi => ?_⟩⟩
    · obtain rfl := List.mem_singleton.1 hn
      exact i64_wf (by omega) (by omega)
    · have hi0 : i = 0 := by simp at hi; exact hi
      subst hi0
      rw [cell_new]; rfl
  refine wpList_append_sl hgd s x 30 ho base 3 i (.int .i64 0) 8 Try.underlying30 hi hz0 hz1 hz2 rfl v n (intsV l) hs (own_below hown (box_below _ _)) .i64 (some ⟨w.heap.size, 0, none⟩) 1 1 [(k : Int)] hx hS (fun h => by simp at h) (by unfold maxLen; omega) (by omega) (by rw [size_alloc]; omega) ?_
  intro v' w' h1 h2 _
  refine h v' w' ?_ h2
  rw [intsV_append]
  exact h1

end Go.Proofs.Ytlackjldopeigaa

/-
  fits: who falls short.
-/
namespace Go.Proofs.Ytlackjldopeigaa
open Go.RowKit
set_option linter.unusedVariables false
set_option linter.unusedSimpArgs false

def shortZ (b : Bks) (z : List Int) (n i : Nat) : Bool := decide (0 < outZ z i) && (lackZ (b.A.getD i a30).1 (b.A.getD i a30).2.1 (b.A.getD i a30).2.2 z i || overZ b z n i)
def whoZ (b : Bks) (z : List Int) (n k : Nat) : List Nat := (List.range k).filter (shortZ b z n)
theorem whoZ_zero (b : Bks) (z : List Int) (n : Nat) : whoZ b z n 0 = [] := rfl
theorem whoZ_yes {b : Bks} {z : List Int} {n k : Nat} (h : shortZ b z n k = true) : whoZ b z n (k + 1) = whoZ b z n k ++ [k] := by
  unfold whoZ
  rw [List.range_succ, List.filter_append]
  simp [h]
theorem whoZ_no {b : Bks} {z : List Int} {n k : Nat} (h : shortZ b z n k = false) : whoZ b z n (k + 1) = whoZ b z n k := by
  unfold whoZ
  rw [List.range_succ, List.filter_append]
  simp [h]
theorem whoZ_len (b : Bks) (z : List Int) (n k : Nat) : (whoZ b z n k).length ≤ k := by
  have := List.length_filter_le (shortZ b z n) (List.range k)
  simpa [whoZ] using this
theorem whoZ_lt {b : Bks} {z : List Int} {n k : Nat} : ∀ i ∈ whoZ b z n k, i < k := by
  intro i hi
  simp [whoZ] at hi
  exact hi.1

set_option maxHeartbeats 8000000 in
set_option maxRecDepth 100000 in
theorem whoIsShort_new (x : BA) (b : Bks) (z : List Int) (w : World) (hk : Bk w x b) (g : Good b) (h : MvOk z) (h0 : ∀ i j, i < b.A.length → b.A.length ≤ j → j < 6 → z.getD (i * 6 + j) 0 = 0) :
    Calls Try.prog 57 #[x.val, .agg (mvA z)] w (IEndN w (whoZ b z b.A.length b.A.length)) := by
  have HK : Hid (Bk w x b) := hk
  obtain ⟨n, cA, cB, cM, cP, bA, oA, bB, oB, bM, oM, bP, oP, hx, hn, FL⟩ := hk.flat g
  have EX := fun (i : Nat) (hi : i < n) u (hu : Below w.heap.size w u) => exceeds_any x b z i u (HK.out.below hu) g h (by omega) (fun j h1 h2 => h0 i j (by omega) h1 h2)
  have n6 := g.n6
  have HA : Hid (∀ i, i < n → acctB (b.A.getD i a30).1 (b.A.getD i a30).2.1 (b.A.getD i a30).2.2 = true) := fun i hi => g.acc i (by omega)
  rw [← hn] at EX n6 ⊢
  subst hx
  have HEX : Hid (∀ (i : Nat), i < n → ∀ u, Below w.heap.size w u → Calls Try.prog 74 #[.agg #[.slice (some ⟨bA, oA, none⟩) n cA, .slice (some ⟨bB, oB, none⟩) n cB, .slice (some ⟨bM, oM, none⟩) n cM, .slice (some ⟨bP, oP, none⟩) n cP], .agg (mvA z), .int .i64 i] u fun e w' => e = .returned (.bool (overZ b z n i)) ∧ Below u.heap.size u w') := EX
  have HLA : Hid (∀ (b0 c0 r0 : Int) (i : Nat) (u : World), acctB b0 c0 r0 = true → i < 6 → Calls Try.prog 73 #[.agg #[.int .i64 b0, .int .i64 c0, .int .i64 r0], .agg (mvA z), .int .i64 i] u fun e w' => e = .returned (.bool (lackZ b0 c0 r0 z i)) ∧ Below u.heap.size u w') := fun b0 c0 r0 i u ha hi => lacks_any b0 c0 r0 z i u ha h hi
  have HOU : Hid (∀ (i : Nat) (u : World), i < 6 → Calls Try.prog 72 #[.agg (mvA z), .int .i64 i] u fun e w' => e = .returned (.int .i64 (outZ z i)) ∧ Below u.heap.size u w') := fun i u hi => out_any z i u h hi
  have HZ : Hid (z.length = 42) := h.len
  obtain ⟨w2, hw2⟩ : ∃ w2, w2 = (w.alloc (.cells #[.slice (some ⟨bA, oA, none⟩) n cA, .slice (some ⟨bB, oB, none⟩) n cB, .slice (some ⟨bM, oM, none⟩) n cM, .slice (some ⟨bP, oP, none⟩) n cP] 27)).alloc (.cells (mvA z) 92) := ⟨_, rfl⟩
  have B2 : Hid (Below w.heap.size w w2) := by rw [hw2]; exact (box_below _ _).alloc (box_below _ _).size _
  have X2 : Hid (Box4 w2 w.heap.size ⟨some ⟨bA, oA, none⟩, n, cA, some ⟨bB, oB, none⟩, n, cB, some ⟨bM, oM, none⟩, n, cM, some ⟨bP, oP, none⟩, n, cP⟩) := by rw [hw2]; exact (Box4.new w ⟨some ⟨bA, oA, none⟩, n, cA, some ⟨bB, oB, none⟩, n, cB, some ⟨bM, oM, none⟩, n, cM, some ⟨bP, oP, none⟩, n, cP⟩ _ _).below (box_below _ _)
  have M2 : Hid (MvAt w2 (w.heap.size + 1) z) := by
    rw [hw2, ← size_alloc w (.cells #[.slice (some ⟨bA, oA, none⟩) n cA, .slice (some ⟨bB, oB, none⟩) n cB, .slice (some ⟨bM, oM, none⟩) n cM, .slice (some ⟨bP, oP, none⟩) n cP] 27)]
    exact MvAt.new _ z h.len _ _
  have FW : Hid (Flat w2 b n bA oA bB oB bM oM bP oP) := FL.below B2.out
  have HN6 : Hid (n ≤ 6) := n6
  clear hn FL h h0 g hk EX HK
  go_enter Try.func57, Try.ntmps57
  go_upto_region 1 with fail
  rw [← hw2]
  clear hw2
  obtain ⟨p0, _, _, _⟩ := X2.out
  replace p0 : w2.cell? ⟨w.heap.size, 0, none⟩ = some (.slice (some ⟨bA, oA, none⟩) n cA) := p0
  go_wp2
  clear p0
  go_loopw [5, 6, 7, 11] (fun sv _ _ t wr => ∃ (k m : Nat) (v : Value), k ≤ n ∧ t = .int .i64 k ∧ v = sv ∧ m ≤ k ∧ Hid (wr.ownsRow w2.heap.size 3 1 v m (intsV (whoZ b z n k))) ∧ Hid (Below w2.heap.size w2 wr)) (fun _ _ _ t _ => n - (intOf t).toNat)
  case atStart => exact ⟨0, 0, _, by omega, rfl, rfl, by omega, World.ownsRow_nil _ _ _ _, Below.refl _ _⟩
  case round =>
    obtain ⟨k, m, v, hk, rfl, rfl, hm, HO, HB⟩ := hrel
    by_cases hlt : k < n
    · have k1 : (k : Int) < (n : Int) := by omega
      have k6 : k < 6 := by omega
      have L := fun u => HLA.out _ _ _ k u (HA.out k hlt) k6
      have E := HEX.out k hlt
      have O := fun u => HOU.out k u k6
      obtain ⟨c0, c1, c2⟩ := (FW.out.below HB.out).acc k hlt
      have HS : Hid (shortZ b z n k = (decide (0 < outZ z k) && (lackZ (b.A.getD k a30).1 (b.A.getD k a30).2.1 (b.A.getD k a30).2.2 z k || overZ b z n k))) := rfl
      generalize lackZ (b.A.getD k a30).1 (b.A.getD k a30).2.1 (b.A.getD k a30).2.2 z k = q1 at L HS
      generalize overZ b z n k = q2 at E HS
      generalize outZ z k = ou at O HS
      generalize (b.A.getD k a30).1 = a0 at c0 L
      generalize (b.A.getD k a30).2.1 = a1 at c1 L
      generalize (b.A.getD k a30).2.2 = a2 at c2 L
      have B4 : Hid (Below w2.heap.size w2 (wr.alloc (.cells #[.int .i64 a0, .int .i64 a1, .int .i64 a2] 53))) := HB.out.alloc HB.out.size _
      have R4 : Hid (At3 (wr.alloc (.cells #[.int .i64 a0, .int .i64 a1, .int .i64 a2] 53)) wr.heap.size a0 a1 a2) := At3.new _ _ _ _ _ _
      have O4 : Hid ((wr.alloc (.cells #[.int .i64 a0, .int .i64 a1, .int .i64 a2] 53)).ownsRow w2.heap.size 3 1 v m (intsV (whoZ b z n k))) := own_below HO.out (box_below _ _)
      clear HO HB
      go_wp2_with (refine load_mv (.tmp 3) rfl rfl (w.heap.size + 1) rfl z HZ.out (M2.out.below B4.out) ?_)
      go_at_call 72
      refine (O _).mono ?_
      rintro e w5 ⟨rfl, hb⟩
      have B5 : Hid (Below w2.heap.size w2 w5) := B4.out.trans (hb.mono B4.out.size)
      have O5 : Hid (w5.ownsRow w2.heap.size 3 1 v m (intsV (whoZ b z n k))) := own_below O4.out hb
      obtain ⟨r0, r1, r2⟩ := R4.out.below hb
      clear hb O B4 R4 O4 c0 c1 c2
      rcases Int.lt_or_le 0 ou with ho | ho
      case inr =>
        have HF : Hid (whoZ b z n (k + 1) = whoZ b z n k) := whoZ_no (by rw [HS.out, decide_eq_false (by omega)]; rfl)
        have hd : decide (0 < ou) = false := decide_eq_false (by omega)
        clear HS L E ho r0 r1 r2
        go_wp2
        go_roundw
        case rel => exact ⟨k + 1, m, v, by omega, by go_num, rfl, by omega, by rw [HF.out]; exact O5.out, B5⟩
        case measure => simp [intOf]; omega
      have HS : Hid (shortZ b z n k = (q1 || q2)) := by
        show _ = _
        rw [HS.out, decide_eq_true ho]; rfl
      go_wp2_with (refine load_mv (.tmp 3) rfl rfl (w.heap.size + 1) rfl z HZ.out (M2.out.below B5.out) ?_)
      go_at_call 73
      refine (L _).mono ?_
      rintro e w6 ⟨rfl, hb⟩
      have B6 : Hid (Below w2.heap.size w2 w6) := B5.out.trans (hb.mono B5.out.size)
      have O6 : Hid (w6.ownsRow w2.heap.size 3 1 v m (intsV (whoZ b z n k))) := own_below O5.out hb
      clear hb L B5 O5 r0 r1 r2
      cases q1 with
      | true =>
        have HF : Hid (whoZ b z n (k + 1) = whoZ b z n k ++ [k]) := whoZ_yes (by rw [HS.out]; rfl)
        clear E HS
        go_wp2_with (at_builtin; refine append_one rfl _ _ rfl w2.heap.size v m (whoZ b z n k) rfl O6.out k (by omega) (by omega) B6.out.size rfl ?_)
        intro v8 w8 h8 g8
        have O8 : Hid (w8.ownsRow w2.heap.size 3 1 v8 (m + 1) (intsV (whoZ b z n (k + 1)))) := by rw [HF.out]; exact h8
        have B8 : Hid (Below w2.heap.size w2 w8) := (B6.out.alloc B6.out.size _).grown g8 (by rw [size_alloc]; have := B6.out.size; omega) (fun j hj => (O6.out.lt j hj).1)
        clear h8 g8
        go_wp2
        go_roundw
        case rel => exact ⟨k + 1, m + 1, v8, by omega, by go_num, rfl, by omega, O8, B8⟩
        case measure => simp [intOf]; omega
      | false =>
        obtain ⟨s0, s1, s2, s3⟩ := X2.out.below B6.out
        replace s0 : w6.cell? ⟨w.heap.size, 0, none⟩ = some (.slice (some ⟨bA, oA, none⟩) n cA) := s0
        replace s1 : w6.cell? ⟨w.heap.size, 1, none⟩ = some (.slice (some ⟨bB, oB, none⟩) n cB) := s1
        replace s2 : w6.cell? ⟨w.heap.size, 2, none⟩ = some (.slice (some ⟨bM, oM, none⟩) n cM) := s2
        replace s3 : w6.cell? ⟨w.heap.size, 3, none⟩ = some (.slice (some ⟨bP, oP, none⟩) n cP) := s3
        go_wp2_with (refine load_mv (.tmp 3) rfl rfl (w.heap.size + 1) rfl z HZ.out (M2.out.below B6.out) ?_)
        go_at_call 74
        refine (E _ (B2.out.trans (B6.out.mono B2.out.size))).mono ?_
        rintro e w7 ⟨rfl, hb⟩
        have B7 : Hid (Below w2.heap.size w2 w7) := B6.out.trans (hb.mono B6.out.size)
        have O7 : Hid (w7.ownsRow w2.heap.size 3 1 v m (intsV (whoZ b z n k))) := own_below O6.out hb
        clear hb E B6 O6 s0 s1 s2 s3
        cases q2 with
        | true =>
          have HF : Hid (whoZ b z n (k + 1) = whoZ b z n k ++ [k]) := whoZ_yes (by rw [HS.out]; rfl)
          clear HS
          go_wp2_with (at_builtin; refine append_one rfl _ _ rfl w2.heap.size v m (whoZ b z n k) rfl O7.out k (by omega) (by omega) B7.out.size rfl ?_)
          intro v8 w8 h8 g8
          have O8 : Hid (w8.ownsRow w2.heap.size 3 1 v8 (m + 1) (intsV (whoZ b z n (k + 1)))) := by rw [HF.out]; exact h8
          have B8 : Hid (Below w2.heap.size w2 w8) := (B7.out.alloc B7.out.size _).grown g8 (by rw [size_alloc]; have := B7.out.size; omega) (fun j hj => (O7.out.lt j hj).1)
          clear h8 g8
          go_wp2
          go_roundw
          case rel => exact ⟨k + 1, m + 1, v8, by omega, by go_num, rfl, by omega, O8, B8⟩
          case measure => simp [intOf]; omega
        | false =>
          have HF : Hid (whoZ b z n (k + 1) = whoZ b z n k) := whoZ_no (by rw [HS.out]; rfl)
          clear HS
          go_wp2
          go_roundw
          case rel => exact ⟨k + 1, m, v, by omega, by go_num, rfl, by omega, by rw [HF.out]; exact O7.out, B7⟩
          case measure => simp [intOf]; omega
    · obtain rfl : k = n := by omega
      have BW : Hid (Below w.heap.size w wr) := B2.out.trans (HB.out.mono B2.out.size)
      obtain ⟨a, c, rfl, hg, hnw⟩ := IGood.ownN HO.out (fun i hi => by have := whoZ_lt i hi; have := HN6.out; omega)
      have HG : Hid (IGood wr a (whoZ b z k k).length c (whoZ b z k k)) := hg
      have HNW : Hid (∀ x, a = some x → w.heap.size ≤ x.block) := fun x hx => Nat.le_trans B2.out.size (hnw x hx)
      clear hg HO HB hnw
      go_wp2
      go_ret
      exact ⟨a, c, rfl, HG.out, HNW.out, BW.out⟩
theorem whoIsShort_any (x : BA) (b : Bks) (z : List Int) (w : World) (hk : Bk w x b) (g : Good b) (h : MvOk z) (h0 : ∀ i j, i < b.A.length → b.A.length ≤ j → j < 6 → z.getD (i * 6 + j) 0 = 0) :
    Calls Try.prog 57 #[x.val, .agg (mvA z)] w (IEnd w (whoZ b z b.A.length b.A.length)) := (whoIsShort_new x b z w hk g h h0).mono fun _ _ h => h.end

end Go.Proofs.Ytlackjldopeigaa

/-
  fits: what payments move: the program's answer.
-/
namespace Go.Proofs.Ytlackjldopeigaa
open Go.RowKit
set_option linter.unusedVariables false
set_option linter.unusedSimpArgs false

/-- 42 numbers that lie by themselves. -/
def MvBlk (w : World) (g : Nat) (z : List Int) : Prop := w.heap[g]? = some (.cells (mvA z) 92 (0, 0))
theorem MvBlk.below {w w' : World} {g : Nat} {z : List Int} (h : MvBlk w g z) (hb : Below w.heap.size w w') : MvBlk w' g z := by
  unfold MvBlk; rw [hb.block g (Array.getElem?_eq_some_iff.1 h).1]; exact h
theorem MvBlk.cell {w : World} {g : Nat} {z : List Int} (h : MvBlk w g z) {j : Nat} (hj : j < z.length) : w.cell? ⟨g, j, none⟩ = some (.int .i64 (z.getD j 0)) := by
  rw [cell_of_row w g j _ _ _ h, mvA_at z j hj]
theorem MvBlk.at {w : World} {g : Nat} {z : List Int} (h : MvBlk w g z) (hz : z.length = 42) : MvAt w g z := fun j hj => h.cell (by omega)
theorem MvBlk.set {w : World} {g : Nat} {z : List Int} (h : MvBlk w g z) (y : List Int) : MvBlk (w.setRow g (mvA y)) g y := setRow_heap w g _ _ _ _ h
theorem MvBlk.far {w : World} {g k : Nat} {z : List Int} (h : MvBlk w g z) (hk : g ≠ k) (cs : Array Value) : MvBlk (w.setRow k cs) g z := by unfold MvBlk; rw [setRow_other _ _ _ _ hk]; exact h

set_option maxHeartbeats 8000000 in
set_option maxRecDepth 100000 in
theorem movesOf_any (a : Option Addr) (n c : Nat) (L : List P7) (w : World) (h : PGood w a n c L) (hn : n ≤ 64) (hp : MvPays L) :
    Calls Try.prog 58 #[.slice a n c] w fun e w' => e = .returned (.agg (mvA (mvL L))) ∧ Below w.heap.size w w' := by
  have HL : Hid (n = L.length) := h.len
  have HG : Hid (PGood w a n c L) := h
  have HP : Hid (MvPays L) := hp
  obtain ⟨w2, hw2⟩ : ∃ w2, w2 = (w.alloc (.cells #[.int .i64 0, .int .i64 0, .int .i64 0, .int .i64 0, .int .i64 0, .int .i64 0, .int .i64 0, .int .i64 0, .int .i64 0, .int .i64 0, .int .i64 0, .int .i64 0, .int .i64 0, .int .i64 0, .int .i64 0, .int .i64 0, .int .i64 0, .int .i64 0, .int .i64 0, .int .i64 0, .int .i64 0, .int .i64 0, .int .i64 0, .int .i64 0, .int .i64 0, .int .i64 0, .int .i64 0, .int .i64 0, .int .i64 0, .int .i64 0, .int .i64 0, .int .i64 0, .int .i64 0, .int .i64 0, .int .i64 0, .int .i64 0, .int .i64 0, .int .i64 0, .int .i64 0, .int .i64 0, .int .i64 0, .int .i64 0] 92)).alloc (.cells #[.int .i64 0, .int .i64 0, .int .i64 0, .int .i64 0, .int .i64 0, .int .i64 0, .int .i64 0, .int .i64 0, .int .i64 0, .int .i64 0, .int .i64 0, .int .i64 0, .int .i64 0, .int .i64 0, .int .i64 0, .int .i64 0, .int .i64 0, .int .i64 0, .int .i64 0, .int .i64 0, .int .i64 0, .int .i64 0, .int .i64 0, .int .i64 0, .int .i64 0, .int .i64 0, .int .i64 0, .int .i64 0, .int .i64 0, .int .i64 0, .int .i64 0, .int .i64 0, .int .i64 0, .int .i64 0, .int .i64 0, .int .i64 0, .int .i64 0, .int .i64 0, .int .i64 0, .int .i64 0, .int .i64 0, .int .i64 0] 92) := ⟨_, rfl⟩
  have B2 : Hid (Below w.heap.size w w2) := by rw [hw2]; exact (box_below _ _).alloc (box_below _ _).size _
  have G2 : Hid (MvBlk w2 w.heap.size (mvL [])) := by rw [hw2, ← mvA_nil]; exact MvBlk.below (heap_alloc_new w _) (box_below _ _)
  have M2 : Hid (MvBlk w2 (w.heap.size + 1) (mvL [])) := by
    rw [hw2, ← size_alloc w (.cells #[.int .i64 0, .int .i64 0, .int .i64 0, .int .i64 0, .int .i64 0, .int .i64 0, .int .i64 0, .int .i64 0, .int .i64 0, .int .i64 0, .int .i64 0, .int .i64 0, .int .i64 0, .int .i64 0, .int .i64 0, .int .i64 0, .int .i64 0, .int .i64 0, .int .i64 0, .int .i64 0, .int .i64 0, .int .i64 0, .int .i64 0, .int .i64 0, .int .i64 0, .int .i64 0, .int .i64 0, .int .i64 0, .int .i64 0, .int .i64 0, .int .i64 0, .int .i64 0, .int .i64 0, .int .i64 0, .int .i64 0, .int .i64 0, .int .i64 0, .int .i64 0, .int .i64 0, .int .i64 0, .int .i64 0, .int .i64 0] 92), ← mvA_nil]
    exact heap_alloc_new _ _
  clear h hp
  go_enter Try.func58, Try.ntmps58
  go_upto_region 2 with fail
  rw [← hw2]
  clear hw2
  go_wp2
  go_loopw [5, 8] (fun _ t wr => ∃ k : Nat, k ≤ n ∧ t = .int .i64 k ∧ Hid (MvBlk wr w.heap.size (mvL [])) ∧ Hid (MvBlk wr (w.heap.size + 1) (mvL (L.take k))) ∧ Hid (Below w.heap.size w wr)) (fun _ t _ => n - (intOf t).toNat)
  case atStart => exact ⟨0, by omega, rfl, G2, M2, B2⟩
  case round =>
    obtain ⟨k, hk, rfl, HG2, HM, HB⟩ := hrel
    by_cases hlt : k < n
    · have k1 : (k : Int) < (n : Int) := by omega
      obtain ⟨b, off, rfl, HC⟩ := HG.out.at hlt
      have hkl : k < L.length := by have := HL.out; omega
      have C0 := (HC k hlt).below HB.out
      have hmem : L.getD k p70 ∈ L := by rw [getD_get hkl]; exact List.getElem_mem _
      have hfr := HP.out.fr _ hmem
      have hto := HP.out.to _ hmem
      have ham := HP.out.am _ hmem
      have HT : Hid (L.take (k + 1) = L.take k ++ [L.getD k p70]) := take_snocA L p70 k hkl
      have HV := MvPays.ok (HP.out.take k) (by rw [List.length_take]; have := HL.out; omega)
      generalize L.getD k p70 = x at C0 hfr hto ham HT
      obtain ⟨f, hf⟩ : ∃ f : Nat, x.fr = f := ⟨x.fr.toNat, by omega⟩
      obtain ⟨o, ho⟩ : ∃ o : Nat, x.to = o := ⟨x.to.toNat, by omega⟩
      have f6 : (f : Int) < 6 := by omega
      have o6 : (o : Int) < 6 := by omega
      have vs := HV.le (f * 6 + o)
      have vp := HV.le (36 + f)
      have ms := HM.out.cell (j := f * 6 + o) (by rw [HV.len]; omega)
      rw [mvL_sent _ f o (by omega) (by omega)] at vs ms
      rw [mvL_spent _ f (by omega)] at vp
      have HS1 : x.cl = 3 → mvL (L.take (k + 1)) = (mvL (L.take k)).set (f * 6 + o) (sentS (L.take k) f o + x.am) := fun h => by rw [HT.out]; exact mvL_plain hf ho (by omega) (by omega) h
      have HS2 : ¬ x.cl = 3 → mvL (L.take (k + 1)) = ((mvL (L.take k)).set (f * 6 + o) (sentS (L.take k) f o + x.am)).set (36 + f) (spentS (L.take k) f + x.am) := fun h => by rw [HT.out]; exact mvL_spend hf ho (by omega) (by omega) h
      have HSP : Hid ((mvL (L.take k)).getD (36 + f) 0 = spentS (L.take k) f) := mvL_spent _ f (by omega)
      generalize sentS (L.take k) f o = s at vs ms HS1 HS2
      generalize spentS (L.take k) f = sp at vp HS2 HSP
      obtain ⟨y, hy⟩ : ∃ y, mvL (L.take k) = y := ⟨_, rfl⟩
      rw [hy] at HM HS1 HS2 HSP HV
      have HYL : Hid (y.length = 42) := HV.len
      obtain ⟨x0, x1, x2, x3, x4, x5, x6⟩ := x
      obtain ⟨p0, p1, p2, p3, p4, p5, p6⟩ := C0
      simp only [P7.id, P7.fr, P7.to, P7.am, P7.cl, P7.st, P7.ti] at p0 p1 p2 p3 p4 p5 p6 hf ho ham HS1 HS2
      subst hf ho
      obtain ⟨t1, ht1⟩ : ∃ t1, s + x3 = t1 := ⟨_, rfl⟩
      obtain ⟨t2, ht2⟩ : ∃ t2, sp + x3 = t2 := ⟨_, rfl⟩
      have W1 : Hid (IntKind.i64.wrap (s + x3) = t1) := by show _ = _; rw [ht1]; exact i64_wf (by omega) (by omega)
      have W2 : Hid (IntKind.i64.wrap (sp + x3) = t2) := by show _ = _; rw [ht2]; exact i64_wf (by omega) (by omega)
      rw [ht1] at HS1 HS2
      rw [ht2] at HS2
      have HH1 : Hid (x4 = 3 → mvL (L.take (k + 1)) = y.set (f * 6 + o) t1) := HS1
      have HH2 : Hid (¬ x4 = 3 → mvL (L.take (k + 1)) = (y.set (f * 6 + o) t1).set (36 + f) t2) := HS2
      obtain ⟨w3, hw3⟩ : ∃ w3, w3 = wr.alloc (.cells #[.int .i64 x0, .int .i64 f, .int .i64 o, .int .i64 x3, .int .i64 x4, .int .i64 x5, .int .i64 x6] 51) := ⟨_, rfl⟩
      have X3 : Hid (At7 w3 wr.heap.size 0 (x0, (f : Int), (o : Int), x3, x4, x5, x6)) := by rw [hw3]; exact At7.new _ (x0, (f : Int), (o : Int), x3, x4, x5, x6) _ _
      have B3 : Hid (Below w.heap.size w w3) := by rw [hw3]; exact HB.out.alloc HB.out.size _
      have G3 : Hid (MvBlk w3 w.heap.size (mvL [])) := by rw [hw3]; exact HG2.out.below (box_below _ _)
      have M3 : Hid (MvBlk w3 (w.heap.size + 1) y) := by rw [hw3]; exact HM.out.below (box_below _ _)
      have MS : Hid (∀ u, Below w3.heap.size w3 u → u.cell? ⟨w.heap.size + 1, f * 6 + o, none⟩ = some (.int .i64 s)) := fun u hu => by
        have c0 := (M3.out.below hu).cell (j := f * 6 + o) (by rw [HYL.out]; omega)
        have c1 : wr.cell? ⟨w.heap.size + 1, f * 6 + o, none⟩ = some (.int .i64 (y.getD (f * 6 + o) 0)) := HM.out.cell (j := f * 6 + o) (by rw [HYL.out]; omega)
        rw [c0, ← c1]; exact ms
      have HSZ : Hid (w.heap.size + 1 < wr.heap.size) := (Array.getElem?_eq_some_iff.1 HM.out).1
      clear HC hmem hfr hto HT HV hy vs vp ms HS1 HS2 ht1 ht2 ham HG2 HM HB
      go_upto_region 5 with fail
      rw [← hw3]
      clear hw3 p0 p1 p2 p3 p4 p5 p6
      refine region_owes_endN 14 (L := [Fact.is (.pointer (some ⟨wr.heap.size, 1, none⟩)),
        Fact.is (.int .i64 f),
        Fact.is (.pointer (some ⟨wr.heap.size, 2, none⟩)),
        Fact.is (.int .i64 o),
        Fact.is (.pointer (some ⟨w.heap.size + 1, 0, none⟩)),
        Fact.is (.pointer (some ⟨w.heap.size + 1, f * 6, none⟩)),
        Fact.is (.pointer (some ⟨w.heap.size + 1, f * 6 + o, none⟩)),
        Fact.is (.int .i64 s),
        Fact.is (.pointer (some ⟨wr.heap.size, 3, none⟩)),
        Fact.is (.int .i64 x3),
        Fact.is (.int .i64 t1),
        Fact.is (.pointer (some ⟨w.heap.size + 1, 0, none⟩)),
        Fact.is (.pointer (some ⟨w.heap.size + 1, f * 6, none⟩)),
        Fact.is (.pointer (some ⟨w.heap.size + 1, f * 6 + o, none⟩))])
        (T := [12, 13, 14, 15, 16, 17, 18, 19, 20, 21, 22, 23, 24, 25]) (by kernel_rfl) rfl rfl (by kernel_rfl) (by kernel_rfl) rfl ?owes ?_
      case owes =>
        simp only [List.take_succ_cons, List.take_zero]
        refine .cons (owes_value fun q u lh => ⟨wants_free rfl, .pointer (some ⟨wr.heap.size, 1, none⟩), by have e5 : q.tmps.getD 5 undef = .pointer (some ⟨wr.heap.size, 0, none⟩) := lh.old 5 rfl; simp [execOp, Act.eval, e5, go_sem], rfl⟩) ?_
        refine .cons (owes_value fun q u lh => ⟨wants_free rfl, .int .i64 f, by have e12 : q.tmps.getD 12 undef = .pointer (some ⟨wr.heap.size, 1, none⟩) := lh.dep 0 rfl; obtain ⟨z0, z1, z2, z3, z4, z5, z6⟩ := X3.out.below lh.below; simp [execOp, Act.eval, e12, z1, go_sem], rfl⟩) ?_
        refine .cons (owes_value fun q u lh => ⟨wants_free rfl, .pointer (some ⟨wr.heap.size, 2, none⟩), by have e5 : q.tmps.getD 5 undef = .pointer (some ⟨wr.heap.size, 0, none⟩) := lh.old 5 rfl; simp [execOp, Act.eval, e5, go_sem], rfl⟩) ?_
        refine .cons (owes_value fun q u lh => ⟨wants_free rfl, .int .i64 o, by have e14 : q.tmps.getD 14 undef = .pointer (some ⟨wr.heap.size, 2, none⟩) := lh.dep 2 rfl; obtain ⟨z0, z1, z2, z3, z4, z5, z6⟩ := X3.out.below lh.below; simp [execOp, Act.eval, e14, z2, go_sem], rfl⟩) ?_
        refine .cons (owes_value fun q u lh => ⟨wants_free rfl, .pointer (some ⟨w.heap.size + 1, 0, none⟩), by have e3 : q.tmps.getD 3 undef = .pointer (some ⟨w.heap.size + 1, 0, none⟩) := lh.old 3 rfl; simp [execOp, Act.eval, e3, go_sem], rfl⟩) ?_
        refine .cons (owes_value fun q u lh => ⟨wants_free rfl, .pointer (some ⟨w.heap.size + 1, f * 6, none⟩), by have e13 : q.tmps.getD 13 undef = .int .i64 f := lh.dep 1 rfl; have e16 : q.tmps.getD 16 undef = .pointer (some ⟨w.heap.size + 1, 0, none⟩) := lh.dep 4 rfl; simp [execOp, Act.eval, e13, e16, f6, go_sem], rfl⟩) ?_
        refine .cons (owes_value fun q u lh => ⟨wants_free rfl, .pointer (some ⟨w.heap.size + 1, f * 6 + o, none⟩), by have e15 : q.tmps.getD 15 undef = .int .i64 o := lh.dep 3 rfl; have e17 : q.tmps.getD 17 undef = .pointer (some ⟨w.heap.size + 1, f * 6, none⟩) := lh.dep 5 rfl; simp [execOp, Act.eval, e15, e17, o6, go_sem], rfl⟩) ?_
        refine .cons (owes_value fun q u lh => ⟨wants_free rfl, .int .i64 s, by have e18 : q.tmps.getD 18 undef = .pointer (some ⟨w.heap.size + 1, f * 6 + o, none⟩) := lh.dep 6 rfl; have z1 := MS.out u lh.below; simp [execOp, Act.eval, e18, z1, go_sem], rfl⟩) ?_
        refine .cons (owes_value fun q u lh => ⟨wants_free rfl, .pointer (some ⟨wr.heap.size, 3, none⟩), by have e5 : q.tmps.getD 5 undef = .pointer (some ⟨wr.heap.size, 0, none⟩) := lh.old 5 rfl; simp [execOp, Act.eval, e5, go_sem], rfl⟩) ?_
        refine .cons (owes_value fun q u lh => ⟨wants_free rfl, .int .i64 x3, by have e20 : q.tmps.getD 20 undef = .pointer (some ⟨wr.heap.size, 3, none⟩) := lh.dep 8 rfl; obtain ⟨z0, z1, z2, z3, z4, z5, z6⟩ := X3.out.below lh.below; simp [execOp, Act.eval, e20, z3, go_sem], rfl⟩) ?_
        refine .cons (owes_value fun q u lh => ⟨wants_free rfl, .int .i64 t1, by have e19 : q.tmps.getD 19 undef = .int .i64 s := lh.dep 7 rfl; have e21 : q.tmps.getD 21 undef = .int .i64 x3 := lh.dep 9 rfl; simp [execOp, Act.eval, e19, e21, W1.out, go_sem], rfl⟩) ?_
        refine .cons (owes_value fun q u lh => ⟨wants_free rfl, .pointer (some ⟨w.heap.size + 1, 0, none⟩), by have e3 : q.tmps.getD 3 undef = .pointer (some ⟨w.heap.size + 1, 0, none⟩) := lh.old 3 rfl; simp [execOp, Act.eval, e3, go_sem], rfl⟩) ?_
        refine .cons (owes_value fun q u lh => ⟨wants_free rfl, .pointer (some ⟨w.heap.size + 1, f * 6, none⟩), by have e13 : q.tmps.getD 13 undef = .int .i64 f := lh.dep 1 rfl; have e23 : q.tmps.getD 23 undef = .pointer (some ⟨w.heap.size + 1, 0, none⟩) := lh.dep 11 rfl; simp [execOp, Act.eval, e13, e23, f6, go_sem], rfl⟩) ?_
        refine .cons (owes_value fun q u lh => ⟨wants_free rfl, .pointer (some ⟨w.heap.size + 1, f * 6 + o, none⟩), by have e15 : q.tmps.getD 15 undef = .int .i64 o := lh.dep 3 rfl; have e24 : q.tmps.getD 24 undef = .pointer (some ⟨w.heap.size + 1, f * 6, none⟩) := lh.dep 12 rfl; simp [execOp, Act.eval, e15, e24, o6, go_sem], rfl⟩) ?_
        exact .nil _
      intro q u hb hsz hdf hold hfact
      have hg : u.heap[w.heap.size + 1]? = some (.cells (mvA y) 92 (0, 0)) := M3.out.below hb
      have c0 := MS.out u hb
      have f0 := frozen_of_row u (w.heap.size + 1) (f * 6 + o) _ _ hg
      obtain ⟨w5, hw5⟩ : ∃ w5, w5 = u.setCell ⟨w.heap.size + 1, f * 6 + o, none⟩ (.int .i64 t1) := ⟨_, rfl⟩
      have E5 : w5 = u.setRow (w.heap.size + 1) (mvA (y.set (f * 6 + o) t1)) := by rw [hw5, setCell_eq_setRow _ _ _ _ _ _ _ hg, mvA_set]
      have B5 : Hid (Below w.heap.size w w5) := by rw [E5]; exact Below.setRow (B3.out.trans (hb.mono B3.out.size)) (by omega) _
      have M5 : Hid (MvBlk w5 (w.heap.size + 1) (y.set (f * 6 + o) t1)) := by rw [E5]; exact MvBlk.set hg _
      have G5 : Hid (MvBlk w5 w.heap.size (mvL [])) := by rw [E5]; exact (G3.out.below hb).far (by omega) _
      have X5 : Hid (At7 w5 wr.heap.size 0 (x0, (f : Int), (o : Int), x3, x4, x5, x6)) := by
        have h0 := X3.out.below hb
        rw [E5]
        refine At7.of fun j hj => ?_
        rw [cell_setRow_other _ _ _ _ (by show wr.heap.size ≠ w.heap.size + 1; have := HSZ.out; omega)]
        exact h0.nth j hj
      clear E5 hg hb
      obtain ⟨u5, rfl⟩ : ∃ z, z = u := ⟨u, rfl⟩
      obtain rfl := frame_puts hsz hdf [12, 13, 14, 15, 16, 17, 18, 19, 20, 21, 22, 23, 24, 25] hold [(12, Value.pointer (some ⟨wr.heap.size, 1, none⟩)), (13, Value.int .i64 f), (14, Value.pointer (some ⟨wr.heap.size, 2, none⟩)), (15, Value.int .i64 o), (16, Value.pointer (some ⟨w.heap.size + 1, 0, none⟩)), (17, Value.pointer (some ⟨w.heap.size + 1, f * 6, none⟩)), (18, Value.pointer (some ⟨w.heap.size + 1, f * 6 + o, none⟩)), (19, Value.int .i64 s), (20, Value.pointer (some ⟨wr.heap.size, 3, none⟩)), (21, Value.int .i64 x3), (22, Value.int .i64 t1), (23, Value.pointer (some ⟨w.heap.size + 1, 0, none⟩)), (24, Value.pointer (some ⟨w.heap.size + 1, f * 6, none⟩)), (25, Value.pointer (some ⟨w.heap.size + 1, f * 6 + o, none⟩))] ⟨hfact 0 (by decide), hfact 1 (by decide), hfact 2 (by decide), hfact 3 (by decide), hfact 4 (by decide), hfact 5 (by decide), hfact 6 (by decide), hfact 7 (by decide), hfact 8 (by decide), hfact 9 (by decide), hfact 10 (by decide), hfact 11 (by decide), hfact 12 (by decide), hfact 13 (by decide), trivial⟩ rfl
      clear hsz hdf hold hfact
      clear MS G3 M3 X3 B3
      simp only [puts, Act.put, List.setIfInBounds_toArray, List.set_cons_zero, List.set_cons_succ]
      go_upto_region 6 with fail
      rw [← hw5]
      clear hw5 c0 f0
      obtain ⟨_, z1, _, z3, z4, _, _⟩ := X5.out
      replace z1 : w5.cell? ⟨wr.heap.size, 1, none⟩ = some (.int .i64 f) := z1
      replace z3 : w5.cell? ⟨wr.heap.size, 3, none⟩ = some (.int .i64 x3) := z3
      replace z4 : w5.cell? ⟨wr.heap.size, 4, none⟩ = some (.int .i64 x4) := z4
      by_cases hc : x4 = 3
      · subst hc
        have HE : Hid (mvL (L.take (k + 1)) = y.set (f * 6 + o) t1) := HH1.out rfl
        clear HH1 HH2 z1 z3
        go_wp2
        go_roundw
        case rel => exact ⟨k + 1, by omega, by go_num, G5, by rw [HE.out]; exact M5, B5⟩
        case measure => simp [intOf]; omega
      · have HE : Hid (mvL (L.take (k + 1)) = (y.set (f * 6 + o) t1).set (36 + f) t2) := HH2.out hc
        have hc' : (x4 == 3) = false := by simpa using hc
        have MS : Hid (∀ u, Below w5.heap.size w5 u → u.cell? ⟨w.heap.size + 1, 36 + f, none⟩ = some (.int .i64 sp)) := fun u hu => by
          have c0 := (M5.out.below hu).cell (j := 36 + f) (by rw [List.length_set, HYL.out]; omega)
          rw [c0, set_at _ _ _ _ (by rw [HYL.out]; omega), if_neg (by omega), HSP.out]
        clear HH1 HH2 hc z1 z3
        go_wp2_with fail
        refine region_owes_endN 10 (L := [Fact.is (.pointer (some ⟨wr.heap.size, 1, none⟩)),
          Fact.is (.int .i64 f),
          Fact.is (.pointer (some ⟨w.heap.size + 1, 36, none⟩)),
          Fact.is (.pointer (some ⟨w.heap.size + 1, 36 + f, none⟩)),
          Fact.is (.int .i64 sp),
          Fact.is (.pointer (some ⟨wr.heap.size, 3, none⟩)),
          Fact.is (.int .i64 x3),
          Fact.is (.int .i64 t2),
          Fact.is (.pointer (some ⟨w.heap.size + 1, 36, none⟩)),
          Fact.is (.pointer (some ⟨w.heap.size + 1, 36 + f, none⟩))])
          (T := [29, 30, 31, 32, 33, 34, 35, 36, 37, 38]) (by kernel_rfl) rfl rfl (by kernel_rfl) (by kernel_rfl) rfl ?owes ?_
        case owes =>
          simp only [List.take_succ_cons, List.take_zero]
          refine .cons (owes_value fun q u lh => ⟨wants_free rfl, .pointer (some ⟨wr.heap.size, 1, none⟩), by have e5 : q.tmps.getD 5 undef = .pointer (some ⟨wr.heap.size, 0, none⟩) := lh.old 5 rfl; simp [execOp, Act.eval, e5, go_sem], rfl⟩) ?_
          refine .cons (owes_value fun q u lh => ⟨wants_free rfl, .int .i64 f, by have e29 : q.tmps.getD 29 undef = .pointer (some ⟨wr.heap.size, 1, none⟩) := lh.dep 0 rfl; obtain ⟨z0, z1, z2, z3, z4, z5, z6⟩ := X5.out.below lh.below; simp [execOp, Act.eval, e29, z1, go_sem], rfl⟩) ?_
          refine .cons (owes_value fun q u lh => ⟨wants_free rfl, .pointer (some ⟨w.heap.size + 1, 36, none⟩), by have e3 : q.tmps.getD 3 undef = .pointer (some ⟨w.heap.size + 1, 0, none⟩) := lh.old 3 rfl; simp [execOp, Act.eval, e3, go_sem], rfl⟩) ?_
          refine .cons (owes_value fun q u lh => ⟨wants_free rfl, .pointer (some ⟨w.heap.size + 1, 36 + f, none⟩), by have e30 : q.tmps.getD 30 undef = .int .i64 f := lh.dep 1 rfl; have e31 : q.tmps.getD 31 undef = .pointer (some ⟨w.heap.size + 1, 36, none⟩) := lh.dep 2 rfl; simp [execOp, Act.eval, e30, e31, f6, go_sem], rfl⟩) ?_
          refine .cons (owes_value fun q u lh => ⟨wants_free rfl, .int .i64 sp, by have e32 : q.tmps.getD 32 undef = .pointer (some ⟨w.heap.size + 1, 36 + f, none⟩) := lh.dep 3 rfl; have z1 := MS.out u lh.below; simp [execOp, Act.eval, e32, z1, go_sem], rfl⟩) ?_
          refine .cons (owes_value fun q u lh => ⟨wants_free rfl, .pointer (some ⟨wr.heap.size, 3, none⟩), by have e5 : q.tmps.getD 5 undef = .pointer (some ⟨wr.heap.size, 0, none⟩) := lh.old 5 rfl; simp [execOp, Act.eval, e5, go_sem], rfl⟩) ?_
          refine .cons (owes_value fun q u lh => ⟨wants_free rfl, .int .i64 x3, by have e34 : q.tmps.getD 34 undef = .pointer (some ⟨wr.heap.size, 3, none⟩) := lh.dep 5 rfl; obtain ⟨z0, z1, z2, z3, z4, z5, z6⟩ := X5.out.below lh.below; simp [execOp, Act.eval, e34, z3, go_sem], rfl⟩) ?_
          refine .cons (owes_value fun q u lh => ⟨wants_free rfl, .int .i64 t2, by have e33 : q.tmps.getD 33 undef = .int .i64 sp := lh.dep 4 rfl; have e35 : q.tmps.getD 35 undef = .int .i64 x3 := lh.dep 6 rfl; simp [execOp, Act.eval, e33, e35, W2.out, go_sem], rfl⟩) ?_
          refine .cons (owes_value fun q u lh => ⟨wants_free rfl, .pointer (some ⟨w.heap.size + 1, 36, none⟩), by have e3 : q.tmps.getD 3 undef = .pointer (some ⟨w.heap.size + 1, 0, none⟩) := lh.old 3 rfl; simp [execOp, Act.eval, e3, go_sem], rfl⟩) ?_
          refine .cons (owes_value fun q u lh => ⟨wants_free rfl, .pointer (some ⟨w.heap.size + 1, 36 + f, none⟩), by have e30 : q.tmps.getD 30 undef = .int .i64 f := lh.dep 1 rfl; have e37 : q.tmps.getD 37 undef = .pointer (some ⟨w.heap.size + 1, 36, none⟩) := lh.dep 8 rfl; simp [execOp, Act.eval, e30, e37, f6, go_sem], rfl⟩) ?_
          exact .nil _
        intro q u hb hsz hdf hold hfact
        have hg : u.heap[w.heap.size + 1]? = some (.cells (mvA (y.set (f * 6 + o) t1)) 92 (0, 0)) := M5.out.below hb
        have c0 := MS.out u hb
        have f0 := frozen_of_row u (w.heap.size + 1) (36 + f) _ _ hg
        obtain ⟨w7, hw7⟩ : ∃ w7, w7 = u.setCell ⟨w.heap.size + 1, 36 + f, none⟩ (.int .i64 t2) := ⟨_, rfl⟩
        have E7 : w7 = u.setRow (w.heap.size + 1) (mvA ((y.set (f * 6 + o) t1).set (36 + f) t2)) := by rw [hw7, setCell_eq_setRow _ _ _ _ _ _ _ hg, mvA_set]
        have B7 : Hid (Below w.heap.size w w7) := by rw [E7]; exact Below.setRow (B5.out.trans (hb.mono B5.out.size)) (by omega) _
        have M7 : Hid (MvBlk w7 (w.heap.size + 1) ((y.set (f * 6 + o) t1).set (36 + f) t2)) := by rw [E7]; exact MvBlk.set hg _
        have G7 : Hid (MvBlk w7 w.heap.size (mvL [])) := by rw [E7]; exact (G5.out.below hb).far (by omega) _
        clear E7 hg hb
        obtain ⟨u7, rfl⟩ : ∃ z, z = u := ⟨u, rfl⟩
        obtain rfl := frame_puts hsz hdf [29, 30, 31, 32, 33, 34, 35, 36, 37, 38] hold [(29, Value.pointer (some ⟨wr.heap.size, 1, none⟩)), (30, Value.int .i64 f), (31, Value.pointer (some ⟨w.heap.size + 1, 36, none⟩)), (32, Value.pointer (some ⟨w.heap.size + 1, 36 + f, none⟩)), (33, Value.int .i64 sp), (34, Value.pointer (some ⟨wr.heap.size, 3, none⟩)), (35, Value.int .i64 x3), (36, Value.int .i64 t2), (37, Value.pointer (some ⟨w.heap.size + 1, 36, none⟩)), (38, Value.pointer (some ⟨w.heap.size + 1, 36 + f, none⟩))] ⟨hfact 0 (by decide), hfact 1 (by decide), hfact 2 (by decide), hfact 3 (by decide), hfact 4 (by decide), hfact 5 (by decide), hfact 6 (by decide), hfact 7 (by decide), hfact 8 (by decide), hfact 9 (by decide), trivial⟩ rfl
        clear hsz hdf hold hfact
        clear MS G5 M5 X5 B5 z4
        simp only [puts, Act.put, List.setIfInBounds_toArray, List.set_cons_zero, List.set_cons_succ]
        go_upto_region 8 with fail
        rw [← hw7]
        clear hw7 c0 f0
        go_wp2
        go_roundw
        case rel => exact ⟨k + 1, by omega, by go_num, G7, by rw [HE.out]; exact M7, B7⟩
        case measure => simp [intOf]; omega
    · obtain rfl : k = n := by omega
      have HT : Hid (L.take k = L) := by show _ = _; rw [HL.out, List.take_length]
      rw [HT.out] at HM
      have HZ : Hid ((mvL L).length = 42) := mvL_len L
      have B8 : Hid (Below w.heap.size w (wr.setRow w.heap.size (mvA (mvL L)))) := Below.setRow HB.out (Nat.le_refl _) _
      have hr : (wr.setRow w.heap.size (mvA (mvL L))).heap[w.heap.size]? = some (.cells (mvA (mvL L)) 92 (0, 0)) := MvBlk.set HG2.out _
      have HR : Hid ((wr.setRow w.heap.size (mvA (mvL L))).heap[w.heap.size]? = some (.cells (mvA (mvL L)) 92 (0, 0))) := hr
      clear hr
      go_wp2_with (first
        | (refine load_mv (.tmp 3) rfl rfl (w.heap.size + 1) rfl (mvL L) HZ.out (HM.out.at HZ.out) ?_)
        | (refine wpList_store_row rfl 92 (.tmp 2) (.tmp 40) rfl w.heap.size (mvA (mvL L)) rfl rfl _ _ HG2.out (by rw [infoMv, mvA_size, HZ.out]) (by rw [mvA_size, mvA_size, HZ.out, mvL_len]) (mvA_one _) ?_))
      refine bodyPost_ret (v := .agg (mvA (mvL L))) (results_cell_row rfl _ _ w.heap.size _ _ _ _ rfl HR.out Try.underlying92 rfl (by rw [infoMv, mvA_size, HZ.out])) rfl ?_
      exact ⟨rfl, B8.out⟩

end Go.Proofs.Ytlackjldopeigaa

/-
  fits: Short, Fits: the program's answer.
-/
namespace Go.Proofs.Ytlackjldopeigaa
open Go.RowKit
set_option linter.unusedVariables false
set_option linter.unusedSimpArgs false

theorem allB_mv {b : Bks} (g : Good b) {L : List P7} (h : allB b L = true) : L.length ≤ 64 ∧ MvPays L ∧ ∀ p ∈ L, mayB b.A.length p = true := by
  unfold allB at h
  rw [Bool.and_eq_true, decide_eq_true_eq, List.all_eq_true] at h
  have n6 := g.n6
  refine ⟨h.2, ⟨fun p hp => ?_, fun p hp => ?_, fun p hp => ?_⟩, h.1⟩
  · have := (mayB_yes.1 (h.1 p hp)).1; omega
  · have := (mayB_yes.1 (h.1 p hp)).2.1; omega
  · exact (mayB_yes.1 (h.1 p hp)).2.2.2.1
/-- A sum over the first k. -/
def sumN (f : Nat → Int) : Nat → Int
  | 0 => 0
  | k + 1 => sumN f k + f k
theorem sumN_add (f g : Nat → Int) (k : Nat) : sumN (fun j => f j + g j) k = sumN f k + sumN g k := by
  induction k with
  | zero => rfl
  | succ k ih => simp only [sumN, ih]; omega
theorem sumN_zero {f : Nat → Int} {n : Nat} (h : ∀ j, n ≤ j → f j = 0) : ∀ k, sumN f (n + k) = sumN f n := by
  intro k
  induction k with
  | zero => rfl
  | succ k ih => rw [← Nat.add_assoc]; simp only [sumN, ih, h (n + k) (by omega)]; omega
theorem sumN_one (f : Nat → Int) (v : Int) (o : Nat) (h : ∀ j, f j = if j = o then v else 0) : ∀ k, sumN f k = if o < k then v else 0 := by
  intro k
  induction k with
  | zero => simp [sumN]
  | succ k ih =>
    simp only [sumN, ih, h k]
    by_cases e : k = o
    · subst e; rw [if_neg (by omega), if_pos rfl, if_pos (by omega)]; omega
    · rw [if_neg e]
      by_cases e2 : o < k
      · rw [if_pos e2, if_pos (by omega)]; omega
      · rw [if_neg e2, if_neg (by omega)]; omega
/-- What one sends to all is what it sends of Normal ones and of others. -/
theorem sent_sum {L : List P7} (h : MvPays L) (i : Int) : sumN (fun j => sentS L i (j : Nat)) 6 = plainS L i + spentS L i := by
  induction L with
  | nil => rfl
  | cons p L ih =>
    have ih := ih ⟨fun q hq => h.fr q (by simp [hq]), fun q hq => h.to q (by simp [hq]), fun q hq => h.am q (by simp [hq])⟩
    have ht := h.to p (by simp)
    unfold sentS plainS spentS at ih ⊢
    simp only [sumS]
    rw [sumN_add, ih]
    have e : sumN (fun j => sentG i (j : Nat) p) 6 = if p.fr = i then p.am else 0 := by
      rw [sumN_one _ (if p.fr = i then p.am else 0) p.to.toNat (fun j => ?_)]
      · rw [if_pos (by omega)]
      · unfold sentG
        by_cases e1 : p.fr = i
        · by_cases e2 : j = p.to.toNat
          · rw [if_pos ⟨e1, by omega⟩, if_pos e2, if_pos e1]
          · rw [if_neg (by omega), if_neg e2]
        · rw [if_neg (fun x => e1 x.1), if_neg e1]
          split <;> rfl
    rw [e]
    unfold plainG spentG
    by_cases e1 : p.fr = i
    · by_cases e2 : p.cl = 3
      · rw [if_pos e1, if_pos ⟨e1, e2⟩, if_neg (fun x => x.2 e2)]; omega
      · rw [if_pos e1, if_neg (fun x => e2 x.2), if_pos ⟨e1, e2⟩]; omega
    · rw [if_neg e1, if_neg (fun x => e1 x.1), if_neg (fun x => e1 x.1)]; omega
theorem outZ_mv {L : List P7} (h : MvPays L) {i : Nat} (hi : i < 6) : outZ (mvL L) i = plainS L i + spentS L i := by
  rw [← sent_sum h i]
  unfold outZ
  have e0 := mvL_sent L i 0 hi (by omega)
  rw [Nat.add_zero] at e0
  rw [e0, mvL_sent L i 1 hi (by omega), mvL_sent L i 2 hi (by omega), mvL_sent L i 3 hi (by omega), mvL_sent L i 4 hi (by omega), mvL_sent L i 5 hi (by omega)]
  simp only [sumN]
  omega
theorem colZ_mv (L : List P7) (i : Nat) (hi : i < 6) : ∀ k, k ≤ 6 → colZ (mvL L) i k = sumN (fun j => sentS L (j : Nat) i) k := by
  intro k
  induction k with
  | zero => intro _; rfl
  | succ k ih => intro hk; simp only [colZ, sumN, ih (by omega), mvL_sent L k i (by omega) hi]
theorem sentS_none {L : List P7} {i k : Int} (h : ∀ p ∈ L, ¬ (p.fr = i ∧ p.to = k)) : sentS L i k = 0 := by
  unfold sentS
  induction L with
  | nil => rfl
  | cons p L ih =>
    simp only [sumS]
    rw [ih fun q hq => h q (by simp [hq])]
    unfold sentG
    rw [if_neg (h p (by simp))]
    omega
theorem sub_inside (a b c d : Int) : a + b - (c + d) = (a - c) + (b - d) := by omega
theorem dTo_eq (L : List P7) (i : Int) (n : Nat) : dTo L i n = sumN (fun j => sentS L i (j : Nat)) n - sumN (fun j => sentS L (j : Nat) i) n := by
  induction n with
  | zero => rfl
  | succ n ih => simp only [dTo, sumN, ih, netS]; omega
theorem sumN_to {b : Bks} {L : List P7} (h : ∀ p ∈ L, mayB b.A.length p = true) (i : Int) (hn : b.A.length ≤ 6) : sumN (fun j => sentS L i (j : Nat)) 6 = sumN (fun j => sentS L i (j : Nat)) b.A.length := by
  have := sumN_zero (f := fun j => sentS L i (j : Nat)) (n := b.A.length) (fun j hj => sentS_none fun p hp hh => by have := (mayB_yes.1 (h p hp)).2.1; omega) (6 - b.A.length)
  rwa [show b.A.length + (6 - b.A.length) = 6 by omega] at this
theorem sumN_fr {b : Bks} {L : List P7} (h : ∀ p ∈ L, mayB b.A.length p = true) (i : Int) (hn : b.A.length ≤ 6) : sumN (fun j => sentS L (j : Nat) i) 6 = sumN (fun j => sentS L (j : Nat) i) b.A.length := by
  have := sumN_zero (f := fun j => sentS L (j : Nat) i) (n := b.A.length) (fun j hj => sentS_none fun p hp hh => by have := (mayB_yes.1 (h p hp)).1; omega) (6 - b.A.length)
  rwa [show b.A.length + (6 - b.A.length) = 6 by omega] at this
/-- The program's answer is the document's. -/
theorem short_eq {b : Bks} (g : Good b) {L : List P7} (hL : allB b L = true) {i : Nat} (hi : i < b.A.length) : shortZ b (mvL L) b.A.length i = shortB b L b.A.length i := by
  obtain ⟨h64, hm, hmay⟩ := allB_mv g hL
  have n6 := g.n6
  have i6 : i < 6 := by omega
  have eo := outZ_mv hm i6
  have e6 := sumN_to hmay i g.n6
  have f6 := sumN_fr hmay i g.n6
  have ss := sent_sum hm i
  have ei : inZ (mvL L) i = sumN (fun j => sentS L (j : Nat) i) b.A.length := by
    unfold inZ
    rw [colZ_mv L i i6 6 (by omega), f6]
  have ed := dTo_eq L i b.A.length
  have hp := hm.plain h64 i
  have hs := hm.spent h64 i
  have ha : acctB (b.A.getD i a30).1 (b.A.getD i a30).2.1 (b.A.getD i a30).2.2 = true := g.acc i hi
  obtain ⟨_, _, _, _, r0, _⟩ := acctB_yes.1 ha
  have hk := keptV_range (r := (b.A.getD i a30).2.2) r0 hs.1
  unfold shortZ shortB
  have E1 : decide (0 < outZ (mvL L) i) = decide (¬ plainS L i + spentS L i = 0) := by rw [eo, decide_eq_decide]; omega
  have E2 : lackZ (b.A.getD i a30).1 (b.A.getD i a30).2.1 (b.A.getD i a30).2.2 (mvL L) i = lowB b L b.A.length i := by
    unfold lackZ lowB
    rw [mvL_spent L i i6, eo, ei]
    by_cases h : spentS L i < plainS L i + spentS L i
    · rw [if_pos h, Bool.eq_iff_iff]
      simp only [Bool.or_eq_true, Bool.and_eq_true, decide_eq_true_eq]
      omega
    · rw [if_neg h, Bool.eq_iff_iff]
      simp only [Bool.or_eq_true, Bool.and_eq_true, decide_eq_true_eq]
      omega
  have E3 : overZ b (mvL L) b.A.length i = ((List.range b.A.length).any (overB b L i) || wideB b L b.A.length i) := by
    unfold overZ
    congr 1
    · rw [Bool.eq_iff_iff, List.any_eq_true, List.any_eq_true]
      have key : ∀ j, j < 6 → passZ b (mvL L) i j = overB b L i j := by
        intro j hj
        unfold passZ overB aboveB netS
        rw [mvL_sent L i j i6 hj, mvL_sent L j i hj i6]
        rw [Int.add_sub_assoc]
      constructor
      · rintro ⟨j, hj, hp⟩
        have hj := List.mem_range.1 hj
        rw [key j hj] at hp
        refine ⟨j, List.mem_range.2 ?_, hp⟩
        rcases Nat.lt_or_ge j b.A.length with h | h
        · exact h
        · unfold overB at hp
          rw [Bool.and_eq_true, decide_eq_true_eq] at hp
          have : sentS L i j = 0 := sentS_none fun p hp hh => by have := (mayB_yes.1 (hmay p hp)).2.1; omega
          omega
      · rintro ⟨j, hj, hp⟩
        have hj := List.mem_range.1 hj
        exact ⟨j, List.mem_range.2 (by omega), by rw [key j (by omega)]; exact hp⟩
    · unfold aboveB wideB
      rw [eo, ei, ed, ← e6, ss, Int.add_sub_assoc]
  rw [E1, E2, E3]
  cases lowB b L b.A.length i <;> simp
theorem who_eq {b : Bks} (g : Good b) {L : List P7} (hL : allB b L = true) : whoZ b (mvL L) b.A.length b.A.length = shortL b L := by
  unfold whoZ shortL
  refine List.filter_congr fun i hi => ?_
  exact short_eq g hL (List.mem_range.1 hi)

/-- A fact: such a row of ints. -/
def Fact.ints (l : List Nat) : Fact := ⟨fun w v => ∃ a c, v = .slice a l.length c ∧ IGood w a l.length c l, fun w w' v hb ⟨a, c, h1, h2⟩ => ⟨a, c, h1, h2.below hb⟩⟩
theorem ints_fact {f : FuncId} {args : Array Value} {w : World} {l : List Nat} (h : Calls Try.prog f args w (IEnd w l)) :
    Calls Try.prog f args w fun e w' => ∃ v, e = .returned v ∧ Below w.heap.size w w' ∧ (Fact.ints l).1 w' v :=
  h.mono fun e w' ⟨a, c, h1, h2, h3⟩ => ⟨_, h1, h3, a, c, rfl, h2⟩
def Fact.intsN (B : Nat) (l : List Nat) : Fact := ⟨fun w v => ∃ a c, v = .slice a l.length c ∧ IGood w a l.length c l ∧ ∀ x, a = some x → B ≤ x.block, fun w w' v hb ⟨a, c, h1, h2, h3⟩ => ⟨a, c, h1, h2.below hb, h3⟩⟩
theorem intsN_fact {B : Nat} {f : FuncId} {args : Array Value} {w : World} {l : List Nat} (hB : B ≤ w.heap.size) (h : Calls Try.prog f args w (IEndN w l)) :
    Calls Try.prog f args w fun e w' => ∃ v, e = .returned v ∧ Below w.heap.size w w' ∧ (Fact.intsN B l).1 w' v :=
  h.mono fun e w' ⟨a, c, h1, h2, h3, h4⟩ => ⟨_, h1, h4, a, c, rfl, h2, fun x hx => Nat.le_trans hB (h3 x hx)⟩

set_option maxHeartbeats 4000000 in
set_option maxRecDepth 100000 in
theorem areAsked_any (x : BA) (b : Bks) (a : Option Addr) (n c : Nat) (L : List P7) (w : World) (hk : Bk w x b) (g : Good b) (h : PGood w a n c L) :
    Calls Try.prog 56 #[x.val, .slice a n c] w fun e w' => e = .returned (.bool (allB b L)) ∧ Below w.heap.size w w' := by
  have HL : Hid (n = L.length) := h.len
  have HG : Hid (PGood w a n c L) := h
  have IS := fun u (hu : Below w.heap.size w u) => limIs_any x b u (hk.below hu)
  rw [booksB_yes.2 g] at IS
  have MY := fun (p : P7) u => fitsMay_any x p u
  have hx : x.nA = b.A.length := hk.acc.1
  rw [hx] at MY
  obtain ⟨aA, nA, cA, aB, nB, cB, aM, nM, cM, aP, nP, cP⟩ := x
  obtain ⟨w2, hw2⟩ : ∃ w2, w2 = w.alloc (.cells #[.slice aA nA cA, .slice aB nB cB, .slice aM nM cM, .slice aP nP cP] 27) := ⟨_, rfl⟩
  have B2 : Hid (Below w.heap.size w w2) := by rw [hw2]; exact box_below _ _
  have X2 : Hid (Box4 w2 w.heap.size ⟨aA, nA, cA, aB, nB, cB, aM, nM, cM, aP, nP, cP⟩) := by rw [hw2]; exact Box4.new w ⟨aA, nA, cA, aB, nB, cB, aM, nM, cM, aP, nP, cP⟩ _ _
  have HM : Hid (∀ (z0 z1 z2 z3 z4 z5 z6 : Int) (u : World), Calls Try.prog 71 #[.agg #[.slice aA nA cA, .slice aB nB cB, .slice aM nM cM, .slice aP nP cP], .agg #[.int .i64 z0, .int .i64 z1, .int .i64 z2, .int .i64 z3, .int .i64 z4, .int .i64 z5, .int .i64 z6]] u fun e w' => e = .returned (.bool (mayB b.A.length (z0, z1, z2, z3, z4, z5, z6))) ∧ Below u.heap.size u w') := fun z0 z1 z2 z3 z4 z5 z6 u => MY (z0, z1, z2, z3, z4, z5, z6) u
  clear MY hx hk h
  have HNM : Hid (n ≤ 9223372036854775807) := by have := HG.out.cap; have := HG.out.max; show n ≤ _; omega
  obtain ⟨p0, p1, p2, p3⟩ := X2.out
  replace p0 : w2.cell? ⟨w.heap.size, 0, none⟩ = some (.slice aA nA cA) := p0
  replace p1 : w2.cell? ⟨w.heap.size, 1, none⟩ = some (.slice aB nB cB) := p1
  replace p2 : w2.cell? ⟨w.heap.size, 2, none⟩ = some (.slice aM nM cM) := p2
  replace p3 : w2.cell? ⟨w.heap.size, 3, none⟩ = some (.slice aP nP cP) := p3
  rcases Nat.lt_or_ge 64 n with h64 | h64
  · have HE : Hid (false = allB b L) := by
      show false = _
      unfold allB
      rw [decide_eq_false (by have := HL.out; omega), Bool.and_false]
    have h1 : (64 : Int) < (n : Int) := by omega
    go_enter Try.func56, Try.ntmps56
    go_upto_region 1 with fail
    rw [← hw2]
    clear hw2
    go_wp2
    go_ret
    exact ⟨rt_bool HE.out, B2.out⟩
  have h1 : (n : Int) ≤ 64 := by omega
  have h2 : decide ((64 : Int) < (n : Int)) = false := decide_eq_false (by omega)
  have I := IS w2 B2.out
  clear IS
  go_enter Try.func56, Try.ntmps56
  go_upto_region 1 with fail
  rw [← hw2]
  clear hw2
  go_wp2_with fail
  go_at_call 65
  refine I.mono ?_
  rintro e w3 ⟨rfl, hb⟩
  have B3 : Hid (Below w.heap.size w w3) := B2.out.trans (hb.mono B2.out.size)
  have X3 : Hid (Box4 w3 w.heap.size ⟨aA, nA, cA, aB, nB, cB, aM, nM, cM, aP, nP, cP⟩) := X2.out.below hb
  clear hb I X2 B2 p0 p1 p2 p3
  go_wp2
  go_loopw [6, 17] (fun _ t wr => ∃ k : Nat, k ≤ n ∧ t = .int .i64 k ∧ Hid ((L.take k).all (mayB b.A.length) = true) ∧ Hid (Below w3.heap.size w3 wr)) (fun _ t _ => n - (intOf t).toNat)
  case atStart => exact ⟨0, by omega, rfl, rfl, Below.refl _ _⟩
  case round =>
    obtain ⟨k, hk, rfl, HA, HB⟩ := hrel
    have BW : Hid (Below w.heap.size w wr) := B3.out.trans (HB.out.mono B3.out.size)
    by_cases hlt : k < n
    · have k1 : (k : Int) < (n : Int) := by omega
      obtain ⟨ba, off, rfl, HC⟩ := HG.out.at hlt
      have C0 := (HC k hlt).below BW.out
      have HT : Hid (L.take (k + 1) = L.take k ++ [L.getD k p70]) := take_snocA L p70 k (by have := HL.out; omega)
      have HIN : Hid (L.getD k p70 ∈ L) := by show _ ∈ _; rw [getD_get (by have := HL.out; omega)]; exact List.getElem_mem _
      generalize L.getD k p70 = y at C0 HT HIN
      obtain ⟨x0, x1, x2, x3, x4, x5, x6⟩ := y
      have M := fun u => HM.out x0 x1 x2 x3 x4 x5 x6 u
      obtain ⟨q, hq⟩ : ∃ q, mayB b.A.length (x0, x1, x2, x3, x4, x5, x6) = q := ⟨_, rfl⟩
      rw [hq] at M
      have HQ : Hid (mayB b.A.length (x0, x1, x2, x3, x4, x5, x6) = q) := hq
      obtain ⟨r0, r1, r2, r3, r4, r5, r6⟩ := C0
      simp only [P7.id, P7.fr, P7.to, P7.am, P7.cl, P7.st, P7.ti] at r0 r1 r2 r3 r4 r5 r6
      obtain ⟨w4, hw4⟩ : ∃ w4, w4 = wr.alloc (.cells #[.int .i64 x0, .int .i64 x1, .int .i64 x2, .int .i64 x3, .int .i64 x4, .int .i64 x5, .int .i64 x6] 51) := ⟨_, rfl⟩
      have B4 : Hid (Below w3.heap.size w3 w4) := by rw [hw4]; exact HB.out.alloc HB.out.size _
      have C4 : Hid (At7 w4 wr.heap.size 0 (x0, x1, x2, x3, x4, x5, x6)) := by rw [hw4]; exact At7.new _ (x0, x1, x2, x3, x4, x5, x6) _ _
      clear hq HC
      go_upto_region 6 with fail
      rw [← hw4]
      clear hw4 r0 r1 r2 r3 r4 r5 r6
      obtain ⟨r0, r1, r2, r3, r4, r5, r6⟩ := C4.out
      simp only [P7.id, P7.fr, P7.to, P7.am, P7.cl, P7.st, P7.ti, Nat.zero_add] at r0 r1 r2 r3 r4 r5 r6
      obtain ⟨p0, p1, p2, p3⟩ := X3.out.below B4.out
      replace p0 : w4.cell? ⟨w.heap.size, 0, none⟩ = some (.slice aA nA cA) := p0
      replace p1 : w4.cell? ⟨w.heap.size, 1, none⟩ = some (.slice aB nB cB) := p1
      replace p2 : w4.cell? ⟨w.heap.size, 2, none⟩ = some (.slice aM nM cM) := p2
      replace p3 : w4.cell? ⟨w.heap.size, 3, none⟩ = some (.slice aP nP cP) := p3
      go_wp2_with fail
      go_at_call 71
      refine (M _).mono ?_
      rintro e w5 ⟨rfl, hb⟩
      have B5 : Hid (Below w3.heap.size w3 w5) := B4.out.trans (hb.mono B4.out.size)
      have BW5 : Hid (Below w.heap.size w w5) := B3.out.trans (B5.out.mono B3.out.size)
      clear hb M B4 C4 p0 p1 p2 p3 r0 r1 r2 r3 r4 r5 r6
      cases q with
      | false =>
        have HE : Hid (false = allB b L) := by
          show false = _
          unfold allB
          have : L.all (mayB b.A.length) = false := by
            rw [Bool.eq_false_iff]
            intro ha
            rw [List.all_eq_true] at ha
            have := ha _ HIN.out
            rw [HQ.out] at this
            exact Bool.noConfusion this
          rw [this, Bool.false_and]
        go_wp2
        go_ret
        exact ⟨rt_bool HE.out, BW5.out⟩
      | true =>
        have HA2 : Hid ((L.take (k + 1)).all (mayB b.A.length) = true) := by
          show _ = true
          rw [HT.out, List.all_append, HA.out, List.all_cons, HQ.out]; rfl
        go_wp2
        go_roundw
        case rel => exact ⟨k + 1, by omega, by go_num, HA2, B5⟩
        case measure => simp [intOf]; omega
    · obtain rfl : k = n := by omega
      have HE : Hid (true = allB b L) := by
        show true = _
        have := HA.out
        rw [HL.out, List.take_length] at this
        unfold allB
        rw [this, decide_eq_true (by have := HL.out; omega)]; rfl
      go_wp2
      go_ret
      exact ⟨rt_bool HE.out, BW.out⟩

theorem whoShort_factN (x : BA) (b : Bks) (L : List P7) (w : World) (hk : Bk w x b) (g : Good b) (hL : allB b L = true) : Calls Try.prog 57 #[x.val, .agg (mvA (mvL L))] w (IEndN w (shortL b L)) := by
  obtain ⟨h64, hm, hmay⟩ := allB_mv g hL
  have n6 := g.n6
  have := whoIsShort_new x b (mvL L) w hk g (hm.ok h64) (fun i j hi h1 h2 => by
    rw [mvL_sent L i j (by omega) h2]
    exact sentS_none fun p hp hh => by have := (mayB_yes.1 (hmay p hp)).2.1; omega)
  rwa [who_eq g hL] at this
theorem whoShort_fact (x : BA) (b : Bks) (L : List P7) (w : World) (hk : Bk w x b) (g : Good b) (hL : allB b L = true) : Calls Try.prog 57 #[x.val, .agg (mvA (mvL L))] w (IEnd w (shortL b L)) := (whoShort_factN x b L w hk g hL).mono fun _ _ h => h.end

set_option maxHeartbeats 4000000 in
set_option maxRecDepth 100000 in
theorem fitsShort_new (x : BA) (b : Bks) (a : Option Addr) (n c : Nat) (L : List P7) (w : World) (hk : Bk w x b) (g : Good b) (h : PGood w a n c L) :
    Calls Try.prog 31 #[x.val, .slice a n c] w (IEndN w (if allB b L then shortL b L else [])) := by
  have A := areAsked_any x b a n c L
  have A2 := fun u (hu : Below w.heap.size w u) => A u (hk.below hu) g (h.below hu)
  have HMV : Hid (allB b L = true → ∀ u, Below w.heap.size w u → Calls Try.prog 58 #[.slice a n c] u fun e w' => e = .returned (.agg (mvA (mvL L))) ∧ Below u.heap.size u w') := fun hL u hu => movesOf_any a n c L u (h.below hu) (by have := (allB_mv g hL).1; have := h.len; omega) (allB_mv g hL).2.1
  obtain ⟨S, hS⟩ : ∃ S, (if allB b L then shortL b L else []) = S := ⟨_, rfl⟩
  rw [hS]
  have HWH : Hid (allB b L = true → ∀ u, Below w.heap.size w u → Calls Try.prog 57 #[x.val, .agg (mvA (mvL L))] u (IEndN u S)) := fun hL u hu => by
    rw [← hS, if_pos hL]
    exact whoShort_factN x b L u (hk.below hu) g hL
  have HNO : Hid (allB b L = false → S = []) := fun hL => by rw [← hS, hL]; rfl
  obtain ⟨aA, nA, cA, aB, nB, cB, aM, nM, cM, aP, nP, cP⟩ := x
  obtain ⟨w2, hw2⟩ : ∃ w2, w2 = w.alloc (.cells #[.slice aA nA cA, .slice aB nB cB, .slice aM nM cM, .slice aP nP cP] 27) := ⟨_, rfl⟩
  have B2 : Hid (Below w.heap.size w w2) := by rw [hw2]; exact box_below _ _
  have X2 : Hid (Box4 w2 w.heap.size ⟨aA, nA, cA, aB, nB, cB, aM, nM, cM, aP, nP, cP⟩) := by rw [hw2]; exact Box4.new w ⟨aA, nA, cA, aB, nB, cB, aM, nM, cM, aP, nP, cP⟩ _ _
  have I := A2 w2 B2.out
  obtain ⟨p0, p1, p2, p3⟩ := X2.out
  replace p0 : w2.cell? ⟨w.heap.size, 0, none⟩ = some (.slice aA nA cA) := p0
  replace p1 : w2.cell? ⟨w.heap.size, 1, none⟩ = some (.slice aB nB cB) := p1
  replace p2 : w2.cell? ⟨w.heap.size, 2, none⟩ = some (.slice aM nM cM) := p2
  replace p3 : w2.cell? ⟨w.heap.size, 3, none⟩ = some (.slice aP nP cP) := p3
  clear A A2 hk h
  obtain ⟨q, hq⟩ : ∃ q, allB b L = q := ⟨_, rfl⟩
  rw [hq] at I HMV HWH HNO
  clear hq hS
  go_enter Try.func31, Try.ntmps31
  go_upto_region 1 with fail
  rw [← hw2]
  clear hw2
  go_wp2_with fail
  go_at_call 56
  refine I.mono ?_
  rintro e w3 ⟨rfl, hb⟩
  have B3 : Hid (Below w.heap.size w w3) := B2.out.trans (hb.mono B2.out.size)
  have X3 : Hid (Box4 w3 w.heap.size ⟨aA, nA, cA, aB, nB, cB, aM, nM, cM, aP, nP, cP⟩) := X2.out.below hb
  clear hb I X2 B2 p0 p1 p2 p3
  cases q with
  | false =>
    have HE : Hid (S = []) := HNO.out rfl
    clear HNO HMV HWH
    go_wp2
    go_ret
    rw [HE.out]
    exact ⟨none, 0, rfl, ⟨Sl.nil _ _ _, rfl, Nat.le_refl _, by omega, fun _ => rfl⟩, fun x hx => (by cases hx), B3.out⟩
  | true =>
    have MV : Hid (∀ u, Below w3.heap.size w3 u → Calls Try.prog 58 #[.slice a n c] u fun e w' => e = .returned (.agg (mvA (mvL L))) ∧ Below u.heap.size u w') := fun u hu => HMV.out rfl u (B3.out.trans (hu.mono B3.out.size))
    have WH : Hid (∀ u, Below w3.heap.size w3 u → Calls Try.prog 57 #[.agg #[.slice aA nA cA, .slice aB nB cB, .slice aM nM cM, .slice aP nP cP], .agg (mvA (mvL L))] u (IEndN u S)) := fun u hu => HWH.out rfl u (B3.out.trans (hu.mono B3.out.size))
    clear HMV HWH HNO
    go_wp2_with fail
    refine region_owes (L := [Fact.is (.agg #[.slice aA nA cA, .slice aB nB cB, .slice aM nM cM, .slice aP nP cP]),
      Fact.is (.slice a n c),
      Fact.is (.agg (mvA (mvL L))),
      Fact.intsN w.heap.size S,
      Fact.intsN w.heap.size S])
      (T := [9, 10, 11, 12, 4]) (by kernel_rfl) (by kernel_rfl) rfl ?owes ?_
    case owes =>
      refine .cons (owes_value fun q u lh => ⟨wants_free rfl, .agg #[.slice aA nA cA, .slice aB nB cB, .slice aM nM cM, .slice aP nP cP], by have e2 : q.tmps.getD 2 undef = .pointer (some ⟨w.heap.size, 0, none⟩) := lh.old 2 rfl; obtain ⟨p0, p1, p2, p3⟩ := X3.out.below lh.below; simp [execOp, Act.eval, e2, p0, p1, p2, p3, go_sem], rfl⟩) ?_
      refine .cons (owes_move (.tmp 1) (.inl rfl) fun q u lh => ⟨wants_free rfl, lh.old 1 rfl⟩) ?_
      refine .cons (owes_call 58 Try.func58 (by kernel_rfl) (by kernel_rfl) [.tmp 10] #[23] rfl fun q u lh => ⟨wants_free rfl, by have e10 : q.tmps.getD 10 undef = .slice a n c := lh.dep 1 rfl; show Calls Try.prog 58 #[q.tmps.getD 10 undef] u _; rw [e10]; exact is_fact (MV.out u lh.below)⟩) ?_
      refine .cons (owes_call 57 Try.func57 (by kernel_rfl) (by kernel_rfl) [.tmp 9, .tmp 11] #[27, 92] rfl fun q u lh => ⟨wants_free rfl, by have e9 : q.tmps.getD 9 undef = .agg #[.slice aA nA cA, .slice aB nB cB, .slice aM nM cM, .slice aP nP cP] := lh.dep 0 rfl; have e11 : q.tmps.getD 11 undef = .agg (mvA (mvL L)) := lh.dep 2 rfl; show Calls Try.prog 57 #[q.tmps.getD 9 undef, q.tmps.getD 11 undef] u _; rw [e9, e11]; exact intsN_fact (Nat.le_trans B3.out.size lh.below.size) (WH.out u lh.below)⟩) ?_
      refine .cons (owes_move (.tmp 12) (.inr rfl) fun q u lh => ⟨wants_free rfl, lh.dep 3 rfl⟩) ?_
      exact .nil _
    intro q u hb hsz hdf hold hfact
    obtain ⟨a1, c1, e12, g1, -⟩ : (Fact.intsN w.heap.size S).1 u (q.tmps.getD 12 undef) := hfact 3 (by decide)
    obtain ⟨a4, c4, e4, g4, n4⟩ : (Fact.intsN w.heap.size S).1 u (q.tmps.getD 4 undef) := hfact 4 (by decide)
    have B4 : Hid (Below w.heap.size w u) := B3.out.trans (hb.mono B3.out.size)
    have G4 : Hid (IGood u a4 S.length c4 S ∧ ∀ x, a4 = some x → w.heap.size ≤ x.block) := ⟨g4, n4⟩
    obtain rfl := frame_puts hsz hdf [9, 10, 11, 12, 4] hold [(9, Value.agg #[.slice aA nA cA, .slice aB nB cB, .slice aM nM cM, .slice aP nP cP]), (10, Value.slice a n c), (11, Value.agg (mvA (mvL L))), (12, Value.slice a1 S.length c1), (4, Value.slice a4 S.length c4)] ⟨hfact 0 (by decide), hfact 1 (by decide), hfact 2 (by decide), e12, e4, trivial⟩ rfl
    clear hsz hdf hold hfact
    clear hb g1 g4 n4
    simp only [puts, Act.put, List.setIfInBounds_toArray, List.set_cons_zero, List.set_cons_succ]
    obtain ⟨sl, hsl⟩ : ∃ sl, S.length = sl := ⟨_, rfl⟩
    go_wp2
    go_ret
    exact ⟨a4, c4, rfl, G4.out.1, G4.out.2, B4.out⟩
theorem fitsShort_any (x : BA) (b : Bks) (a : Option Addr) (n c : Nat) (L : List P7) (w : World) (hk : Bk w x b) (g : Good b) (h : PGood w a n c L) :
    Calls Try.prog 31 #[x.val, .slice a n c] w (IEnd w (if allB b L then shortL b L else [])) := (fitsShort_new x b a n c L w hk g h).mono fun _ _ h => h.end


end Go.Proofs.Ytlackjldopeigaa
