/-
  knot: as many as may be at once, as plain lists.
-/
import Derived.Test.YtlackjldopeigaaViewAll
import Derived.Test.YtlackjldopeigaaPostAll
import Derived.Test.YtlackjldopeigaaFitsAll
namespace Go.Proofs.Ytlackjldopeigaa
open Go.RowKit
set_option linter.unusedVariables false
set_option linter.unusedSimpArgs false

/-- How many each sends; one less of one; of some; the first ones of each. -/
def cnts (b : Bks) (R : List P7) : List Nat := (List.range b.A.length).map fun i : Nat => cntF R (i : Int)
def lessAt (m : List Nat) (i : Nat) : List Nat := m.set i (m.getD i 0 - 1)
def lessAll (m : List Nat) (s : List Nat) : List Nat := s.foldl lessAt m
def headsN (R : List P7) (m : List Nat) : List P7 := vHeads R (intsL m)
/-- At most so many sweeps. -/
def sweepA (b : Bks) (R : List P7) : Nat → List Nat → Nat → List Nat × Nat
  | 0, m, n => (m, n)
  | k + 1, m, n => if shortL b (headsN R m) = [] then (m, n) else sweepA b R k (lessAll m (shortL b (headsN R m))) (n + 1)
def mostK (b : Bks) (R : List P7) : List Nat × Nat := sweepA b R ((cnts b R).sum + 1) (cnts b R) 1
/-- All of them are dropped. -/
def dropAll (l : List P7) (m : List P7) : List P7 := m.foldl (fun l p => qDrop l p.id) l
/-- What goes at once; Run. -/
def knotM (b : Bks) (l : List P7) (t : Int) : List P7 := headsN (vReady l t) (mostK b (vReady l t)).1
def knotR (b : Bks) (l : List P7) (t : Int) : Bks × List P7 × List P7 := if postE b (knotM b l t) = 0 then (postR b (knotM b l t), dropAll l (knotM b l t), knotM b l t) else (b, l, [])

theorem cnts_len (b : Bks) (R : List P7) : (cnts b R).length = b.A.length := by simp [cnts]
theorem cnts_at (b : Bks) (R : List P7) {i : Nat} (h : i < b.A.length) : (cnts b R).getD i 0 = cntF R (i : Int) := by simp [cnts, h]
theorem lessAt_len (m : List Nat) (i : Nat) : (lessAt m i).length = m.length := by simp [lessAt]
theorem lessAll_len (m s : List Nat) : (lessAll m s).length = m.length := by
  unfold lessAll
  induction s generalizing m with
  | nil => rfl
  | cons x s ih => rw [List.foldl_cons, ih, lessAt_len]
theorem lessAt_other {m : List Nat} {i j : Nat} (h : ¬ i = j) : (lessAt m i).getD j 0 = m.getD j 0 := by
  unfold lessAt
  rw [List.getD_eq_getElem?_getD, List.getElem?_set_ne h, ← List.getD_eq_getElem?_getD]
theorem lessAt_same {m : List Nat} {i : Nat} : (lessAt m i).getD i 0 = m.getD i 0 - 1 := by
  unfold lessAt
  by_cases h : i < m.length
  · rw [List.getD_eq_getElem?_getD, List.getElem?_set_self h]
    rfl
  · rw [List.getD_eq_getElem?_getD, List.getElem?_eq_none (by simp; omega)]
    have : m.getD i 0 = 0 := by rw [List.getD_eq_getElem?_getD, List.getElem?_eq_none (by omega)]; rfl
    rw [this]
    rfl
theorem lessAll_other : ∀ {s : List Nat} {m : List Nat} {j : Nat}, j ∉ s → (lessAll m s).getD j 0 = m.getD j 0 := by
  intro s
  induction s with
  | nil => intro m j _; rfl
  | cons x s ih =>
    intro m j h
    rw [List.mem_cons, not_or] at h
    show (lessAll (lessAt m x) s).getD j 0 = _
    rw [ih h.2, lessAt_other (fun e => h.1 e.symm)]
theorem lessAll_same : ∀ {s : List Nat} {m : List Nat} {j : Nat}, s.Nodup → j ∈ s → (lessAll m s).getD j 0 = m.getD j 0 - 1 := by
  intro s
  induction s with
  | nil => intro m j _ h; simp at h
  | cons x s ih =>
    intro m j hd h
    rw [List.nodup_cons] at hd
    show (lessAll (lessAt m x) s).getD j 0 = _
    by_cases e : j = x
    · subst e
      rw [lessAll_other hd.1, lessAt_same]
    · rw [List.mem_cons] at h
      rcases h with h | h
      · exact absurd h e
      · rw [ih hd.2 h, lessAt_other (fun h => e h.symm)]
theorem lessAll_le (m s : List Nat) (j : Nat) : (lessAll m s).getD j 0 ≤ m.getD j 0 := by
  unfold lessAll
  induction s generalizing m with
  | nil => exact Nat.le_refl _
  | cons x s ih =>
    rw [List.foldl_cons]
    refine Nat.le_trans (ih _) ?_
    by_cases e : x = j
    · subst e
      rw [lessAt_same]
      omega
    · rw [lessAt_other e]
      exact Nat.le_refl _
theorem lessAll_snoc (m s : List Nat) (i : Nat) : lessAll m (s ++ [i]) = lessAt (lessAll m s) i := by
  unfold lessAll
  rw [List.foldl_append]
  rfl
theorem lessAt_sum {m : List Nat} {i : Nat} (hi : i < m.length) (h : 1 ≤ m.getD i 0) : (lessAt m i).sum + 1 = m.sum := by
  induction m generalizing i with
  | nil => simp at hi
  | cons x m ih =>
    cases i with
    | zero =>
      unfold lessAt
      simp only [List.getD_cons_zero] at h ⊢
      rw [List.set_cons_zero, List.sum_cons, List.sum_cons]
      omega
    | succ i =>
      have := ih (i := i) (by simp at hi; omega) (by simpa using h)
      unfold lessAt at this ⊢
      simp only [List.getD_cons_succ] at this ⊢
      rw [List.set_cons_succ, List.sum_cons, List.sum_cons]
      omega
theorem lessAll_sum : ∀ {s : List Nat} {m : List Nat}, s.Nodup → (∀ i ∈ s, i < m.length ∧ 1 ≤ m.getD i 0) → (lessAll m s).sum + s.length = m.sum := by
  intro s
  induction s with
  | nil => intro m _ _; rfl
  | cons x s ih =>
    intro m hd h
    rw [List.nodup_cons] at hd
    have h1 := h x (by simp)
    have h2 := ih (m := lessAt m x) hd.2 fun i hi => by
      have := h i (by simp [hi])
      rw [lessAt_len, lessAt_other (fun e => hd.1 (by rw [e]; exact hi))]
      exact this
    have h3 := lessAt_sum h1.1 h1.2
    show (lessAll (lessAt m x) s).sum + (s.length + 1) = _
    omega

/-- What is let through is let through behind something. -/
theorem selA_sat {K : List P7 → P7 → Bool} {A l : List P7} {p : P7} (h : p ∈ selA K A l) : ∃ B, K B p = true := by
  induction l generalizing A with
  | nil => simp [selA] at h
  | cons x l ih =>
    simp only [selA, List.mem_append] at h
    rcases h with h | h
    · split at h
      · rename_i hk; simp at h; subst h; exact ⟨A, hk⟩
      · simp at h
    · exact ih h
theorem head_pos {R : List P7} {m : List Nat} {p : P7} (h : p ∈ headsN R m) : ∃ i : Nat, p.fr = i ∧ i < m.length ∧ 1 ≤ m.getD i 0 := by
  obtain ⟨B, hB⟩ := selA_sat h
  unfold headK at hB
  rw [Bool.and_eq_true, Bool.and_eq_true, decide_eq_true_eq, decide_eq_true_eq, decide_eq_true_eq, intsL_len] at hB
  obtain ⟨⟨h0, h1⟩, h2⟩ := hB
  obtain ⟨i, hi⟩ : ∃ i : Nat, p.fr = i := ⟨p.fr.toNat, by omega⟩
  rw [hi] at h1 h2
  have hl : i < m.length := by omega
  rw [Int.toNat_natCast, intsL_at hl] at h2
  exact ⟨i, hi, hl, by omega⟩
theorem sumS_zero {g : P7 → Int} {l : List P7} (h : ∀ p ∈ l, g p = 0) : sumS g l = 0 := by
  induction l with
  | nil => rfl
  | cons x l ih =>
    simp only [sumS]
    rw [h x (by simp), ih fun p hp => h p (by simp [hp])]
    rfl
theorem short_lt {b : Bks} {l : List P7} {i : Nat} (h : i ∈ shortL b l) : i < b.A.length ∧ shortB b l b.A.length i = true := by
  have := List.mem_filter.1 h
  exact ⟨List.mem_range.1 this.1, this.2⟩
theorem short_nodup (b : Bks) (l : List P7) : (shortL b l).Nodup := List.Nodup.sublist List.filter_sublist List.nodup_range
/-- Who falls short sends something. -/
theorem short_sends {b : Bks} {l : List P7} {i : Nat} (h : i ∈ shortL b l) : ∃ p ∈ l, p.fr = i := by
  have h1 := (short_lt h).2
  unfold shortB at h1
  rw [Bool.and_eq_true, decide_eq_true_eq] at h1
  refine Classical.byContradiction fun hn => h1.1 ?_
  have hz : ∀ p ∈ l, ¬ p.fr = i := fun p hp e => hn ⟨p, hp, e⟩
  unfold plainS spentS
  rw [sumS_zero fun p hp => ?_, sumS_zero fun p hp => ?_]
  · rfl
  · unfold spentG; rw [if_neg fun e => hz p hp e.1]
  · unfold plainG; rw [if_neg fun e => hz p hp e.1]
theorem short_one {b : Bks} {R : List P7} {m : List Nat} {i : Nat} (h : i ∈ shortL b (headsN R m)) : i < m.length ∧ 1 ≤ m.getD i 0 := by
  obtain ⟨p, hp, e⟩ := short_sends h
  obtain ⟨j, e2, h1, h2⟩ := head_pos hp
  have : j = i := by omega
  subst this
  exact ⟨h1, h2⟩
/-- Each sweep leaves fewer. -/
theorem sweep_less {b : Bks} {R : List P7} {m : List Nat} (h : ¬ shortL b (headsN R m) = []) : (lessAll m (shortL b (headsN R m))).sum < m.sum := by
  have h1 := lessAll_sum (short_nodup b (headsN R m)) fun i hi => short_one hi
  have h2 : 0 < (shortL b (headsN R m)).length := List.length_pos_iff.2 h
  omega

/-- What one sends of the first ones hangs on how many of its own there are. -/
theorem heads_sum_snoc (M : List Int) (g : P7 → Int) (l : List P7) (p : P7) : sumS g (vHeads (l ++ [p]) M) = sumS g (vHeads l M) + (if headK M l p then g p else 0) := by
  unfold vHeads
  rw [sel_snoc, sumS_append]
  split <;> simp [sumS]
theorem snoc_induct {P : List P7 → Prop} (h0 : P []) (h1 : ∀ l p, P l → P (l ++ [p])) (l : List P7) : P l := by
  have : ∀ n (l : List P7), l.length = n → P l := by
    intro n
    induction n with
    | zero => intro l hl; rw [List.length_eq_zero_iff.1 hl]; exact h0
    | succ n ih =>
      intro l hl
      have hne : l ≠ [] := by intro e; rw [e] at hl; simp at hl
      rw [← List.dropLast_concat_getLast hne]
      exact h1 _ _ (ih _ (by rw [List.length_dropLast]; omega))
  exact this _ l rfl
theorem heads_same {M N : List Int} (hl : M.length = N.length) {i : Int} (hi : M.getD i.toNat 0 = N.getD i.toNat 0) {g : P7 → Int} (hg : ∀ p, ¬ p.fr = i → g p = 0) (R : List P7) : sumS g (vHeads R M) = sumS g (vHeads R N) := by
  refine snoc_induct (P := fun R => sumS g (vHeads R M) = sumS g (vHeads R N)) rfl (fun l p ih => ?_) R
  rw [heads_sum_snoc, heads_sum_snoc, ih]
  by_cases h : p.fr = i
  · have : headK M l p = headK N l p := by unfold headK; rw [hl, h, hi]
    rw [this]
  · rw [hg p h]
    simp
theorem heads_mono {M N : List Int} (hl : M.length = N.length) {i : Int} (hi : M.getD i.toNat 0 ≤ N.getD i.toNat 0) {g : P7 → Int} (hg : ∀ p, ¬ p.fr = i → g p = 0) (R : List P7) (h0 : ∀ p ∈ R, 0 ≤ g p) : sumS g (vHeads R M) ≤ sumS g (vHeads R N) := by
  refine snoc_induct (P := fun R => (∀ p ∈ R, 0 ≤ g p) → sumS g (vHeads R M) ≤ sumS g (vHeads R N)) (fun _ => Int.le_refl _) (fun l p ih h0 => ?_) R h0
  have ih := ih fun q hq => h0 q (by simp [hq])
  have hp := h0 p (by simp)
  rw [heads_sum_snoc, heads_sum_snoc]
  by_cases h : p.fr = i
  · have : headK M l p = true → headK N l p = true := by
      unfold headK
      rw [hl, h]
      simp only [Bool.and_eq_true, decide_eq_true_eq]
      intro ⟨h1, h2⟩
      exact ⟨h1, by omega⟩
    cases h1 : headK M l p
    · simp only [Bool.false_eq_true, if_false]
      split <;> omega
    · rw [this h1]
      simp only [if_true]
      omega
  · rw [hg p h]
    simp
    exact ih
/-- Of a choice that is no more anywhere, one that has as many sends what it sent and gets no more. -/
theorem heads_fewer {R : List P7} {m c : List Nat} {i : Nat} (hl : c.length = m.length) (hi : c.getD i 0 = m.getD i 0) (hc : ∀ k, c.getD k 0 ≤ m.getD k 0) (h0 : ∀ p ∈ R, 0 ≤ p.am) : Fewer (headsN R m) (headsN R c) (i : Int) := by
  have eq : ∀ {x : List Nat} {k : Nat}, (intsL x).getD k 0 = (x.getD k 0 : Nat) := fun {x k} => by
    by_cases h : k < x.length
    · exact intsL_at h
    · rw [List.getD_eq_getElem?_getD, List.getD_eq_getElem?_getD, List.getElem?_eq_none (by rw [intsL_len]; omega), List.getElem?_eq_none (by omega)]
      rfl
  have hL : (intsL c).length = (intsL m).length := by rw [intsL_len, intsL_len, hl]
  have hI : (intsL c).getD (i : Int).toNat 0 = (intsL m).getD (i : Int).toNat 0 := by rw [Int.toNat_natCast, eq, eq, hi]
  refine ⟨fun k => heads_same hL hI (fun p hp => ?_) R, fun k => heads_mono (i := k) hL ?_ (fun p hp => ?_) R fun p hp => ?_, heads_same hL hI (fun p hp => ?_) R, heads_same hL hI (fun p hp => ?_) R⟩
  · unfold sentG; rw [if_neg fun e => hp e.1]
  · rw [eq, eq]; have := hc k.toNat; omega
  · unfold sentG; rw [if_neg fun e => hp e.1]
  · have := h0 p hp; unfold sentG; split <;> omega
  · unfold plainG; rw [if_neg fun e => hp e.1]
  · unfold spentG; rw [if_neg fun e => hp e.1]
/-- A choice that holds stays within what a sweep leaves. -/
theorem sweep_holds {b : Bks} {R : List P7} {m c : List Nat} (hl : c.length = m.length) (hc : ∀ k, c.getD k 0 ≤ m.getD k 0) (h0 : ∀ p ∈ R, 0 ≤ p.am) (hf : shortL b (headsN R c) = []) (k : Nat) : c.getD k 0 ≤ (lessAll m (shortL b (headsN R m))).getD k 0 := by
  by_cases hk : k ∈ shortL b (headsN R m)
  · rw [lessAll_same (short_nodup _ _) hk]
    have h1 := hc k
    have h2 := short_one hk
    by_cases he : c.getD k 0 = m.getD k 0
    · exfalso
      have h3 := (heads_fewer hl he hc h0).short (short_lt hk).2
      have h4 : k ∈ shortL b (headsN R c) := List.mem_filter.2 ⟨List.mem_range.2 (short_lt hk).1, h3⟩
      rw [hf] at h4
      simp at h4
    · omega
  · rw [lessAll_other hk]
    exact hc k
theorem sweepA_len {b : Bks} {R : List P7} : ∀ (f : Nat) (m : List Nat) (n : Nat), (sweepA b R f m n).1.length = m.length := by
  intro f
  induction f with
  | zero => intro m n; rfl
  | succ f ih =>
    intro m n
    unfold sweepA
    split
    · rfl
    · rw [ih, lessAll_len]
/-- At its end nobody falls short; no choice that holds has more of anybody; so many sweeps. -/
theorem sweepA_end {b : Bks} {R : List P7} (h0 : ∀ p ∈ R, 0 ≤ p.am) : ∀ (f : Nat) (m : List Nat) (n : Nat), m.sum < f → shortL b (headsN R (sweepA b R f m n).1) = [] ∧
    (∀ c : List Nat, c.length = m.length → (∀ k, c.getD k 0 ≤ m.getD k 0) → shortL b (headsN R c) = [] → ∀ k, c.getD k 0 ≤ (sweepA b R f m n).1.getD k 0) ∧ n ≤ (sweepA b R f m n).2 ∧ (sweepA b R f m n).2 ≤ n + m.sum ∧ (∀ k, (sweepA b R f m n).1.getD k 0 ≤ m.getD k 0) := by
  intro f
  induction f with
  | zero => intro m n h; omega
  | succ f ih =>
    intro m n h
    unfold sweepA
    split
    · rename_i hs
      exact ⟨hs, fun c _ hc _ => hc, Nat.le_refl _, by omega, fun k => Nat.le_refl _⟩
    · rename_i hs
      have h1 := sweep_less hs
      obtain ⟨e1, e2, e3, e4, e5⟩ := ih (lessAll m (shortL b (headsN R m))) (n + 1) (by omega)
      refine ⟨e1, fun c hl hc hf => e2 c (by rw [lessAll_len]; exact hl) (sweep_holds hl hc h0 hf) hf, by omega, by omega, fun k => Nat.le_trans (e5 k) (lessAll_le _ _ _)⟩
theorem mostK_len (b : Bks) (R : List P7) : (mostK b R).1.length = b.A.length := by
  unfold mostK
  rw [sweepA_len, cnts_len]
theorem headsN_mem {R : List P7} {m : List Nat} {p : P7} (h : p ∈ headsN R m) : p ∈ R := selA_mem h
theorem headsN_len (R : List P7) (m : List Nat) : (headsN R m).length ≤ R.length := sel_len _ _
theorem headsN_all {b : Bks} {R : List P7} (m : List Nat) (h : allB b R = true) : allB b (headsN R m) = true := by
  unfold allB at h ⊢
  rw [Bool.and_eq_true, List.all_eq_true, decide_eq_true_eq] at h ⊢
  exact ⟨fun p hp => h.1 p (headsN_mem hp), Nat.le_trans (headsN_len R m) h.2⟩

/-- Together they are no more than there are. -/
theorem sum_point (f : Nat → Nat) (x : Int) : ∀ n : Nat, ((List.range n).map fun i : Nat => f i + if x = (i : Int) then 1 else 0).sum = ((List.range n).map f).sum + if 0 ≤ x ∧ x < n then 1 else 0 := by
  intro n
  induction n with
  | zero => simp
  | succ n ih =>
    rw [List.range_succ, List.map_append, List.map_append, List.sum_append, List.sum_append, ih]
    simp only [List.map_cons, List.map_nil, List.sum_cons, List.sum_nil]
    by_cases h : x = (n : Int)
    · rw [if_pos h, if_neg (by omega), if_pos (by omega)]
      omega
    · rw [if_neg h]
      by_cases h2 : 0 ≤ x ∧ x < n
      · rw [if_pos h2, if_pos (by omega)]; omega
      · rw [if_neg h2, if_neg (by omega)]; omega
theorem cnts_sum (b : Bks) (R : List P7) : (cnts b R).sum ≤ R.length := by
  refine snoc_induct (P := fun R => (cnts b R).sum ≤ R.length) ?_ (fun l p ih => ?_) R
  · have : cnts b [] = (List.range b.A.length).map fun _ => 0 := rfl
    rw [this]
    have : ∀ n : Nat, ((List.range n).map fun _ : Nat => 0).sum = 0 := fun n => by
      induction n with
      | zero => rfl
      | succ n ih => rw [List.range_succ, List.map_append, List.sum_append, ih]; rfl
    rw [this]
    exact Nat.zero_le _
  · have e : cnts b (l ++ [p]) = (List.range b.A.length).map fun i : Nat => cntF l (i : Int) + if p.fr = (i : Int) then 1 else 0 := by
      unfold cnts
      exact List.map_congr_left fun i _ => cntF_snoc l p i
    rw [e, sum_point (fun i : Nat => cntF l (i : Int)) p.fr]
    have : ((List.range b.A.length).map fun i : Nat => cntF l (i : Int)).sum ≤ l.length := ih
    rw [List.length_append]
    split <;> simp <;> omega
theorem intsV_set (l : List Nat) (i x : Nat) : (intsV l).set i (.int .i64 (x : Nat)) = intsV (l.set i x) := by simp [intsV, intsL, List.map_set]
theorem intsV_at {l : List Nat} {i : Nat} (h : i < l.length) : (intsV l)[i]? = some (.int .i64 (l.getD i 0 : Nat)) := by simp [intsV, intsL, h]
theorem intsV_len (l : List Nat) : (intsV l).length = l.length := by simp [intsV, intsL]

end Go.Proofs.Ytlackjldopeigaa
