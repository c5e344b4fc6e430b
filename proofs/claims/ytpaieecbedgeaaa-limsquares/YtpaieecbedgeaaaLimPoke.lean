/-
  Books that a call made, one number of which is written.
-/
import Derived.Test.YtpaieecbedgeaaaSomeSpec
namespace Go.Proofs.Ytpaieecbedgeaaa
open Go.RowKit
set_option linter.unusedVariables false
set_option linter.unusedSimpArgs false

/-- An int64 is written somewhere: a row of int64s is still one. -/
theorem own_poke {w : World} {B : Nat} {v : Value} {zs : List Int} {n : Nat} (h : w.ownsRow B 2 1 v n (zs.map (Value.int .i64))) (g i : Nat) (y : Int) :
    (w.setCell ⟨g, i, none⟩ (.int .i64 y)).ownsRow B 2 1 v n ((if v.ownBlock = some g then zs.set i y else zs).map (Value.int .i64)) := by
  rcases h.2 with ⟨rfl, h0⟩ | ⟨g', cap, cur, rfl, hb, hg, h1, h2, h3, h4⟩
  · simp only [Value.ownBlock]
    exact ⟨h.1, .inl ⟨rfl, h0⟩⟩
  · simp only [Value.ownBlock, Option.some.injEq]
    by_cases hgg : g' = g
    · subst hgg
      rw [if_pos rfl]
      refine ⟨by have := h.1; simp at this ⊢; exact this, .inr ⟨g', cap, cur.setIfInBounds i (.int .i64 y), rfl, hb, heap_setCell_same w g' i _ _ _ hg, h1, h2, by simp [h3], ?_⟩⟩
      rw [Array.toList_setIfInBounds, List.take_set, h4, List.map_set]
    · rw [if_neg hgg]
      exact ⟨h.1, .inr ⟨g', cap, cur, rfl, hb, (heap_setCell_other w ⟨g, i, none⟩ g' _ hgg).trans hg, h1, h2, h3, h4⟩⟩
theorem w64_set {zs : List Int} (h : W64 zs) {y : Int} (hy : IntKind.i64.wrap y = y) (i : Nat) : W64 (zs.set i y) := fun n hn => by
  rcases List.mem_or_eq_of_mem_set hn with h1 | rfl
  · exact h n h1
  · exact hy
/-- A row of another type lies elsewhere. -/
theorem own_else {w : World} {B s : Nat} {T : TypeId} {v : Value} {n g i : Nat} {xs : List Value} {cur : Array Value} (h : w.ownsRow B T s v n xs) (hg : w.heap[g]? = some (.cells cur 2 (0, 0))) (ht : T ≠ 2) (u : Value) : (w.setCell ⟨g, i, none⟩ u).ownsRow B T s v n xs := by
  refine ⟨h.1, ?_⟩
  rcases h.2 with h0 | ⟨g', cap, cur', hv, hb, hg', rest⟩
  · exact .inl h0
  · refine .inr ⟨g', cap, cur', hv, hb, (heap_setCell_other w ⟨g, i, none⟩ g' _ (fun e => ?_)).trans hg', rest⟩
    have e : g' = g := e
    subst e
    rw [hg'] at hg
    simp at hg
    exact ht hg.2

theorem MadeI.poke {w : World} {B g i : Nat} {v : Value} {vs : List Value} {R : List (List Int)} {cur : Array Value} (h : MadeI w B v vs R) (hg : w.heap[g]? = some (.cells cur 2 (0, 0))) {y : Int} (hy : IntKind.i64.wrap y = y) :
    ∃ R', MadeI (w.setCell ⟨g, i, none⟩ (.int .i64 y)) B v vs R' ∧ R'.length = R.length ∧ ∀ j, (R'.getD j []).length = (R.getD j []).length := by
  obtain ⟨f, hf⟩ : ∃ f : Nat → List Int, f = fun j => if (vs.getD j undef).ownBlock = some g then (R.getD j []).set i y else R.getD j [] := ⟨_, rfl⟩
  have lf : ∀ j, (f j).length = (R.getD j []).length := fun j => by rw [hf]; simp only; split <;> simp
  have gd : ∀ j, j < R.length → ((List.range R.length).map f).getD j [] = f j := fun j hj => by simp [List.getD_eq_getElem?_getD, hj]
  refine ⟨(List.range R.length).map f, ⟨?_, ?_, ?_, ?_, ?_⟩, by simp, ?_⟩
  · have := own_else h.own hg (by decide) (.int .i64 y) (i := i)
    simpa using this
  · intro j hj
    have hj : j < R.length := by simpa using hj
    rw [gd j hj, lf]
    have := own_poke (h.row j hj) g i y
    rw [hf]
    exact this
  · intro j hj
    exact h.spine j (by simpa using hj)
  · intro j k hj hk
    exact h.rows j k (by simpa using hj) (by simpa using hk)
  · intro z hz
    obtain ⟨j, hj, rfl⟩ := List.mem_map.1 hz
    rw [hf]
    simp only
    split
    · exact w64_set (getD_w64 h.bs j) hy i
    · exact getD_w64 h.bs j
  · intro j
    by_cases hj : j < R.length
    · rw [gd j hj, lf]
    · simp [List.getD_eq_getElem?_getD, hj]

theorem cell_far {w : World} {p q : Addr} {v : Value} (h : q.block ≠ p.block) : (w.setCell p v).cell? q = w.cell? q := by
  unfold World.cell?
  rw [heap_setCell_other w p q.block v h]
theorem types_apart {w : World} {g g' : Nat} {cs cs' : Array Value} {t t' : TypeId} {fr fr' : Nat × Nat} (h : w.heap[g]? = some (.cells cs t fr)) (h' : w.heap[g']? = some (.cells cs' t' fr')) (ht : t ≠ t') : g ≠ g' := fun e => by
  subst e
  rw [h] at h'
  simp at h'
  exact ht h'.2.1

/-- Three rows of three. -/
structure Sh3 (k : Bks) : Prop where
  a : k.A.length = 3
  b : k.B.length = 3
  bs : ∀ i, i < 3 → (k.B.getD i []).length = 3
  m : k.M.length = 3
  p : k.P.length = 3
  ps : ∀ i, i < 3 → (k.P.getD i []).length = 3
theorem sh3_some (zs : List Int) (z1 z2 z4 : Bool) : Sh3 (someK zs z1 z2 z4) := by
  refine ⟨rfl, rfl, ?_, rfl, rfl, ?_⟩
  all_goals
    intro i hi
    rcases (show i = 0 ∨ i = 1 ∨ i = 2 by omega) with rfl | rfl | rfl <;> rfl

theorem NewBk.poke {w : World} {B g i : Nat} {x : BA} {k : Bks} {cur : Array Value} (h : NewBk w B x k) (s : Sh3 k) (hg : w.heap[g]? = some (.cells cur 2 (0, 0))) {y : Int} (hy : IntKind.i64.wrap y = y) :
    ∃ k', NewBk (w.setCell ⟨g, i, none⟩ (.int .i64 y)) B x k' ∧ k'.A = k.A ∧ Sh3 k' := by
  obtain ⟨vb, hb⟩ := h.bil
  obtain ⟨vp, hp⟩ := h.pos
  obtain ⟨RB, hb', lb, sb⟩ := hb.poke hg hy (i := i)
  obtain ⟨RP, hp', lp, sp⟩ := hp.poke hg hy (i := i)
  have hm := own_poke h.mul g i y
  refine ⟨⟨k.A, RB, (if (Value.slice x.aM x.nM x.cM).ownBlock = some g then k.M.set i y else k.M), RP⟩, ⟨own_else h.acc hg (by decide) _, ⟨vb, hb'⟩, ?_, ⟨vp, hp'⟩, ?_⟩, rfl, ⟨s.a, lb.trans s.b, fun j hj => (sb j).trans (s.bs j hj), ?_, lp.trans s.p, fun j hj => (sp j).trans (s.ps j hj)⟩⟩
  · have e : (if (Value.slice x.aM x.nM x.cM).ownBlock = some g then k.M.set i y else k.M).length = k.M.length := by split <;> simp
    show World.ownsRow _ _ _ _ _ (List.length _) _
    rw [e]
    exact hm
  · show W64 _
    split
    · exact w64_set h.wf hy i
    · exact h.wf
  · show List.length _ = 3
    split
    · rw [List.length_set]; exact s.m
    · exact s.m

/-- A row of three that is one's own: its cells. -/
theorem own_three {w : World} {B : Nat} {v : Value} {zs : List Int} (h : w.ownsRow B 2 1 v zs.length (zs.map (Value.int .i64))) (hl : zs.length = 3) (wf : W64 zs) : ∃ g c cur, v = .slice (some ⟨g, 0, none⟩) 3 c ∧ B ≤ g ∧ w.heap[g]? = some (.cells cur 2 (0, 0)) ∧ (∀ j, w.frozen? ⟨g, j, none⟩ = false) ∧ ∀ j, j < 3 → ∃ y, w.cell? ⟨g, j, none⟩ = some (.int .i64 y) ∧ -9223372036854775808 ≤ y ∧ y ≤ 9223372036854775807 := by
  rcases h.2 with ⟨_, h0⟩ | ⟨g, c, cur, hv, hb, hg, _⟩
  · omega
  · rw [hl] at hv
    refine ⟨g, c, cur, hv, hb, hg, fun j => frozen_of_row w g j _ _ hg, fun j hj => ?_⟩
    subst hv
    have h' := h
    rw [hl] at h'
    have hc := (own_row_block h').2.2 j (by omega)
    have e : (zs.map (Value.int .i64))[j]? = some (.int .i64 (zs.getD j 0)) := by simp [List.getD_eq_getElem?_getD, show j < zs.length by omega]
    exact ⟨_, hc.trans e, wf_i64 (wf _ (getD_mem (by omega)))⟩
theorem MadeI.three {w : World} {B n c : Nat} {a : Option Addr} {vs : List Value} {R : List (List Int)} (h : MadeI w B (.slice a n c) vs R) (hl : R.length = 3) (hs : ∀ i, i < 3 → (R.getD i []).length = 3) : ∃ b, a = some ⟨b, 0, none⟩ ∧ n = 3 ∧ (∃ cs, w.heap[b]? = some (.cells cs 24 (0, 0))) ∧ ∀ i, i < 3 →
    ∃ g c cur, w.cell? ⟨b, i, none⟩ = some (.slice (some ⟨g, 0, none⟩) 3 c) ∧ B ≤ g ∧ w.heap[g]? = some (.cells cur 2 (0, 0)) ∧ (∀ j, w.frozen? ⟨g, j, none⟩ = false) ∧ ∀ j, j < 3 → ∃ y, w.cell? ⟨g, j, none⟩ = some (.int .i64 y) ∧ -9223372036854775808 ≤ y ∧ y ≤ 9223372036854775807 := by
  have ho := h.own
  rw [hl] at ho
  rcases ho.2 with ⟨_, h0⟩ | ⟨b, c', cur, hv, hbs⟩
  · omega
  · simp at hv
    obtain ⟨⟨rfl, rfl, rfl⟩, _, hcs, _⟩ := (⟨hv, hbs⟩ : _ ∧ _)
    refine ⟨b, rfl, rfl, ⟨_, hcs⟩, fun i hi => ?_⟩
    obtain ⟨g, cc, cur', e, hb, hg, hf, hc⟩ := own_three (h.row i (by omega)) (hs i hi) (getD_w64 h.bs i)
    refine ⟨g, cc, cur', ?_, hb, hg, hf, hc⟩
    have hlv : vs.length = 3 := by have := ho.1; omega
    rw [(own_row_block ho).2.2 i (by omega), ← e]
    simp [List.getD_eq_getElem?_getD, show i < vs.length by omega]

/-- The first balance is written. -/
theorem NewBk.first {w : World} {B : Nat} {x : BA} {k : Bks} {b0 c0 r0 : Int} {A' : List A3} (h : NewBk w B x k) (s : Sh3 k) (ha : k.A = (b0, c0, r0) :: A') : ∃ g, x.aA = some ⟨g, 0, none⟩ ∧ x.nA = 3 ∧ B ≤ g ∧ w.frozen? ⟨g, 0, none⟩ = false ∧ w.cell? ⟨g, 0, none⟩ = some (.int .i64 b0) ∧ (∃ cs, w.heap[g]? = some (.cells cs 34 (0, 0))) ∧
    ∀ y, NewBk (w.setCell ⟨g, 0, none⟩ (.int .i64 y)) B x ⟨(y, c0, r0) :: A', k.B, k.M, k.P⟩ := by
  have ho := h.acc
  rw [s.a] at ho
  rcases ho.2 with ⟨_, h0⟩ | ⟨g, c, cur, hv, hb, hg, _⟩
  · omega
  · simp at hv
    have e1 : x.aA = some ⟨g, 0, none⟩ := hv.1
    have e2 : x.nA = 3 := hv.2.1
    rw [e1, e2] at ho
    obtain ⟨q1, q2, q3⟩ := own_row_block ho
    have el : accL k.A = .int .i64 b0 :: .int .i64 c0 :: .int .i64 r0 :: accL A' := by rw [ha]; rfl
    refine ⟨g, e1, e2, hb, q2 0, by rw [q3 0 (by decide), el]; rfl, ⟨_, hg⟩, fun y => ?_⟩
    have other : ∀ {t : TypeId} {B' s' n' : Nat} {v' : Value} {xs' : List Value}, w.ownsRow B' t s' v' n' xs' → t ≠ 34 → (w.setCell ⟨g, 0, none⟩ (.int .i64 y)).ownsRow B' t s' v' n' xs' := fun ho' ht => by
      refine ⟨ho'.1, ?_⟩
      rcases ho'.2 with h0 | ⟨g', cap', cur', hv', hb', hg', rest⟩
      · exact .inl h0
      · refine .inr ⟨g', cap', cur', hv', hb', (heap_setCell_other w ⟨g, 0, none⟩ g' _ (fun e => ?_)).trans hg', rest⟩
        have e : g' = g := e
        subst e
        rw [hg] at hg'
        simp at hg'
        exact ht hg'.2.symm
    have mk : ∀ {v : Value} {vs : List Value} {R : List (List Int)}, MadeI w B v vs R → MadeI (w.setCell ⟨g, 0, none⟩ (.int .i64 y)) B v vs R := fun hm =>
      ⟨other hm.own (by decide), fun i hi => other (hm.row i hi) (by decide), hm.spine, hm.rows, hm.bs⟩
    refine ⟨?_, h.bil.imp fun _ hm => mk hm, other h.mul (by decide), h.pos.imp fun _ hm => mk hm, h.wf⟩
    have hs := own_set ho (i := 0) (by decide) (.int .i64 y)
    have hlen : ((y, c0, r0) :: A' : List A3).length = 3 := by have := s.a; rw [ha] at this; simpa using this
    show World.ownsRow _ _ _ _ _ (List.length ((y, c0, r0) :: A')) _
    rw [hlen, e1, e2]
    rw [el] at hs
    exact hs

end Go.Proofs.Ytpaieecbedgeaaa
