/-
  A region that draws its order (Facts) whose last operation, a store, stands behind all others.
-/
import Derived.Test.YtmfmdicdbjghkaaFacts3
namespace Go.Proofs.Ytmfmdicdbjghkaa
open Go.RowKit
set_option linter.unusedVariables false

/-- Each operation is waited for by one that stands behind it, or by the last one; the last one waits for these alone, has no guard and no slot. -/
def sinks (pre : List Oper) (st : Oper) : Bool :=
  st.dst.isNone && st.guard.isNone && st.after.all (fun e => !Region.binds .any e || decide (e.on < pre.length)) &&
  (List.range pre.length).all fun i => (st.after.toList.any fun e => e.on == i && Region.binds .any e) || (List.range pre.length).any fun j => decide (i < j) && waits pre j i

/-- The frame is a0 but for the slots of the operations; the slot of each that has come up holds its fact. -/
structure FitsE (ops : List Oper) (F : Nat → World → Value → Prop) (a0 : Act) (w0 : World) (done : Nat → Prop) (a : Act) (w : World) : Prop where
  below : Below w0.heap.size w0 w
  size : a.tmps.size = a0.tmps.size
  defers : a.defers = a0.defers
  old : ∀ s, apart ops s = true → a.tmps.getD s undef = a0.tmps.getD s undef
  fact : ∀ i, i < ops.length → done i → F i w (a.tmps.getD (dstOf ops i) undef)

section
variable {P : Program} {pre : List Oper} {st : Oper} {Q : Exit → Act → World → Prop} {F : Nat → World → Value → Prop} {a0 : Act} {w0 : World}

theorem end_at {i : Nat} (hi : i < pre.length) : (pre ++ [st])[i]? = pre[i]? := List.getElem?_append_left hi
theorem end_last : (pre ++ [st])[pre.length]? = some st := by simp

/-- Where the last one may come up, all others have. -/
theorem end_all (hk : sinks pre st = true) (listed : Array Bool) (hcl : Closed (pre ++ [st]) listed) (hd : ∀ e ∈ st.after, Region.binds .any e = true → listed.getD e.on false = true) : ∀ i, i < pre.length → listed.getD i false = true := by
  unfold sinks at hk
  simp only [Bool.and_eq_true] at hk
  obtain ⟨_, hk⟩ := hk
  rw [List.all_eq_true] at hk
  have key : ∀ d i, i + d = pre.length → i < pre.length → listed.getD i false = true := by
    intro d
    induction d using Nat.strongRecOn with
    | _ d ih =>
      intro i hid hi
      have h := hk i (List.mem_range.2 hi)
      rw [Bool.or_eq_true] at h
      rcases h with h | h
      · obtain ⟨e, he, hej⟩ := List.any_eq_true.1 h
        simp only [Bool.and_eq_true, beq_iff_eq] at hej
        rw [← hej.1]
        exact hd e (by simpa using he) hej.2
      · obtain ⟨j, hj, hji⟩ := List.any_eq_true.1 h
        rw [List.mem_range] at hj
        simp only [Bool.and_eq_true, decide_eq_true_eq] at hji
        have hl := ih (pre.length - j) (by omega) j (by omega) hj
        have hw := hji.2
        unfold waits at hw
        rw [List.getElem?_eq_getElem hj] at hw
        simp only [Option.map_some, Option.getD_some, List.any_eq_true, Bool.and_eq_true, beq_iff_eq] at hw
        obtain ⟨e, he, hei, hb⟩ := hw
        have := hcl j pre[j] (by rw [end_at hj]; exact List.getElem?_eq_getElem hj) hl e (by simpa using he) hb
        rw [← hei]
        exact this
  intro i hi
  exact key (pre.length - i) i (by omega) hi

theorem facts_end (hs : shapely a0.tmps.size pre 0 [] = true) (hk : sinks pre st = true) (mono : ∀ i w w' v, Below w.heap.size w w' → F i w v → F i w' v)
    (owes : ∀ i o, pre[i]? = some o → ∀ a w, Below w0.heap.size w0 w → (∀ s, apart pre s = true → a.tmps.getD s undef = a0.tmps.getD s undef) → (∀ e ∈ o.after, Region.binds .any e = true → F e.on w (a.tmps.getD (dstOf pre e.on) undef)) →
      wpOp P (pre ++ [st]).toArray Q i (fun a' w' => Below w.heap.size w w' ∧ ∃ v, a' = a.put o.dst v ∧ F i w' v) a w)
    (fin : ∀ a w, FitsE pre F a0 w0 (fun _ => True) a w → st.wp P a w (fun a' w' => Q .normal a' w') Q) :
    ∀ (fuel : Nat) (listed : Array Bool) (a : Act) (w : World), listed.size = (pre ++ [st]).length → cnt listed.toList ≤ fuel → Closed (pre ++ [st]) listed → listed.getD pre.length false = false → FitsE pre F a0 w0 (fun i => listed.getD i false = true) a w → wpAny P .any (pre ++ [st]).toArray Q fuel listed a w := by
  have hk' := hk
  unfold sinks at hk'
  simp only [Bool.and_eq_true] at hk'
  obtain ⟨⟨⟨hk1, hk2⟩, hk3⟩, _⟩ := hk'
  have hdst : st.dst = none := by simpa using hk1
  have hgd : st.guard = none := by simpa using hk2
  intro fuel
  induction fuel with
  | zero =>
    intro listed a w hl hc hcl hn hf
    have := cnt_zero listed.toList pre.length (by omega)
    rw [getD_listed] at hn
    have h1 : pre.length < listed.toList.length := by simp [hl]
    rw [List.getElem?_eq_getElem h1] at this hn
    simp at this hn
    rw [hn] at this
    simp at this
  | succ fuel ih =>
    intro listed a w hl hc hcl hn hf
    refine ⟨?_, ?_⟩
    · intro hr
      exfalso
      have hall : ∀ i, i < pre.length → listed.getD i false = true := by
        intro i
        induction i using Nat.strongRecOn with
        | _ i ih' =>
          intro hi
          cases hc' : listed.getD i true with
          | true =>
            have h1 : i < listed.size := by simp at hl; omega
            simp only [Array.getD, h1, dif_pos] at hc' ⊢
            exact hc'
          | false =>
            have hm : i ∈ Region.ready .any (pre ++ [st]).toArray listed := by
              refine mem_ready.2 ⟨by simp; omega, hc', pre[i], by rw [end_at hi]; exact List.getElem?_eq_getElem hi, ?_⟩
              intro e he hb
              obtain ⟨d, _, _, _, h4, _⟩ := shapely_spec pre 0 [] hs i pre[i] (List.getElem?_eq_getElem hi)
              have := h4 e he hb
              exact ih' e.on (by omega) (by omega)
            rw [hr] at hm
            simp at hm
      have hm : pre.length ∈ Region.ready .any (pre ++ [st]).toArray listed := by
        refine mem_ready.2 ⟨by simp, ?_, st, end_last, ?_⟩
        · have h1 : pre.length < listed.size := by simp at hl; omega
          simp only [Array.getD, h1, dif_pos] at hn ⊢
          exact hn
        · intro e he hb
          rw [Array.all_eq_true_iff_forall_mem] at hk3
          have := hk3 e he
          rw [hb] at this
          simp at this
          exact hall e.on this
      rw [hr] at hm
      simp at hm
    · intro i hi
      obtain ⟨h1, h2, o, ho, h3⟩ := mem_ready.1 hi
      have hli : listed.toList[i]? = some false := by
        rw [getD_listed] at h2
        have h4 : i < listed.toList.length := by simp [hl]; simp at h1; omega
        rw [List.getElem?_eq_getElem h4] at h2 ⊢
        simpa using h2
      have hkeep : ∀ j, listed.getD j false = true → (listed.setIfInBounds i true).getD j false = true := by
        intro j hj
        rw [getD_listed] at hj ⊢
        rw [Array.toList_setIfInBounds]
        by_cases hji : i = j
        · subst hji; rw [hli] at hj; simp at hj
        · rw [List.getElem?_set_ne hji]; exact hj
      have hback : ∀ j, j ≠ i → (listed.setIfInBounds i true).getD j false = true → listed.getD j false = true := by
        intro j hji hj
        rw [getD_listed] at hj ⊢
        rw [Array.toList_setIfInBounds, List.getElem?_set_ne (Ne.symm hji)] at hj
        exact hj
      by_cases hip : i < pre.length
      · have ho' : pre[i]? = some o := by rw [← end_at (st := st) hip]; exact ho
        obtain ⟨d, k1, k2, _, k4, k5, _⟩ := shapely_spec pre 0 [] hs i o ho'
        have hdi : dstOf pre i = d := by simp [dstOf, ho', k1]
        refine wpOp_mono ?_ (owes i o ho' a w hf.below hf.old (fun e he hb => hf.fact e.on (by have := k4 e he hb; omega) (h3 e he hb)))
        rintro a' w' ⟨hb, v, rfl, hv⟩
        rw [k1]
        refine ih _ _ w' (by simpa using hl) ?_ ?_ ?_ ?_
        · have := cnt_set listed.toList i hli
          rw [Array.toList_setIfInBounds]
          omega
        · intro j oj hoj hj e he hb
          by_cases hji : j = i
          · subst hji
            rw [ho] at hoj
            simp at hoj
            subst hoj
            exact hkeep _ (h3 e he hb)
          · exact hkeep _ (hcl j oj hoj (hback j hji hj) e he hb)
        · cases hq : (listed.setIfInBounds i true).getD pre.length false with
          | false => rfl
          | true =>
            have := hback pre.length (by omega) hq
            rw [hn] at this
            exact this.symm
        · refine ⟨hf.below.trans (hb.mono hf.below.size), by rw [size_put]; exact hf.size, by rw [defers_put]; exact hf.defers, ?_, ?_⟩
          · intro s hsl
            have hne : d ≠ s := by
              intro h
              subst h
              have := List.all_eq_true.1 hsl o (List.mem_of_getElem? ho')
              rw [k1] at this
              simp at this
            rw [getD_put_ne a d s v hne]
            exact hf.old s hsl
          · intro j hj hdone
            by_cases hji : j = i
            · subst hji
              rw [hdi, getD_put_same a d v (by rw [hf.size]; exact k2)]
              exact hv
            · have hdone' : listed.getD j false = true := hback j hji hdone
              obtain ⟨d', l1, l2, _, _, l5, _⟩ := shapely_spec pre 0 [] hs j pre[j] (List.getElem?_eq_getElem hj)
              have hdj : dstOf pre j = d' := by simp [dstOf, l1, hj]
              have hne : d ≠ d' := by
                intro h
                subst h
                rcases Nat.lt_or_gt_of_ne hji with h | h
                · exact k5 j pre[j] h (List.getElem?_eq_getElem hj) l1
                · exact l5 i o h ho' k1
              have hfj := hf.fact j hj hdone'
              rw [hdj] at hfj ⊢
              rw [getD_put_ne a d d' v hne]
              exact mono j w w' _ hb hfj
      · obtain rfl : i = pre.length := by simp at h1; omega
        have hos : o = st := by rw [end_last] at ho; simpa using ho.symm
        subst hos
        have hall := end_all hk listed hcl h3
        have hq := fin a w ⟨hf.below, hf.size, hf.defers, hf.old, fun j hj _ => hf.fact j hj (hall j hj)⟩
        unfold wpOp
        simp only [List.getElem?_toArray, end_last]
        rw [if_pos (by simp [Region.wanted, hgd])]
        refine .inl (Oper.wp_mono ?_ hq)
        intro a' w' hq'
        have hnone : Region.ready .any (pre ++ [o]).toArray (listed.setIfInBounds pre.length true) = [] := by
          apply List.eq_nil_iff_forall_not_mem.2
          intro j hj
          obtain ⟨g1, g2, _⟩ := mem_ready.1 hj
          have hlt : (listed.setIfInBounds pre.length true).getD j false = true := by
            by_cases hjp : j < pre.length
            · exact hkeep j (hall j hjp)
            · obtain rfl : j = pre.length := by simp at g1; omega
              rw [getD_listed, Array.toList_setIfInBounds]
              have h4 : pre.length < listed.toList.length := by simp [hl]
              rw [List.getElem?_set_self h4]
              rfl
          rw [getD_listed] at hlt g2
          cases h : (listed.setIfInBounds pre.length true).toList[j]? with
          | none => rw [h] at hlt; simp at hlt
          | some b => rw [h] at hlt g2; simp at hlt g2; rw [hlt] at g2; simp at g2
        cases fuel with
        | zero => exact ⟨hnone, hq'⟩
        | succ fuel => exact ⟨fun _ => hq', fun j hj => by rw [hnone] at hj; simp at hj⟩
end

/-- A region that draws its order and ends in a store: the table of its slots, the list of its facts, each operation's due, and the store. -/
theorem region_owes_end {P : Program} {ops pre : List Oper} {st : Oper} {Q : Exit → Act → World → Prop} {a0 : Act} {w0 : World} {id : Nat} (L : List Fact) (T : List Nat) (hm : P.follows .mixedOrders = true) (hops : ops = pre ++ [st]) (hs : shapely a0.tmps.size pre 0 [] = true) (hk : sinks pre st = true)
    (hT : pre.map (fun o => o.dst.getD 0) = T) (owes : OwesFrom P Q L T a0 w0 0 pre)
    (fin : ∀ a w, Below w0.heap.size w0 w → a.tmps.size = a0.tmps.size → a.defers = a0.defers → (∀ s, T.contains s = false → a.tmps.getD s undef = a0.tmps.getD s undef) →
      (∀ i, i < T.length → (L.getD i Fact.any).1 w (a.tmps.getD (T.getD i 0) undef)) → st.wp P a w (fun a' w' => Q .normal a' w') Q) : (Code.region id ops.toArray true).wp P Q a0 w0 := by
  subst hops
  refine wp_region_any hm (facts_end (F := fun i => (L.getD i Fact.any).1) (a0 := a0) (w0 := w0) hs hk (fun i w w' v hb h => (L.getD i Fact.any).2 w w' v hb h) ?_ ?_ _ _ a0 _ (by simp) ?_ ?_ ?_ ?_)
  · intro i o ho a w hb hold hdeps
    have hown := owes.at i o ho
    rw [Nat.zero_add] at hown
    have hlen : i < pre.length := (List.getElem?_eq_some_iff.1 ho).1
    obtain ⟨d, k1, k2, _, k4, _, k6⟩ := shapely_spec pre 0 [] hs i o ho
    have hw := hown a w hb (fun s h => hold s (table_apart hT s h)) (fun j hj => by
      obtain ⟨e, he, hej⟩ := List.any_eq_true.1 hj
      have he : e ∈ o.after := by simpa using he
      simp only [Bool.and_eq_true, beq_iff_eq] at hej
      have := hdeps e he hej.2
      have hlt := k4 e he hej.2
      rw [hej.1, table_at hT j (by omega)] at this
      exact this)
    have hslot : ∀ g : Nat, g < pre.length → yielded (pre ++ [st]).toArray a.tmps g = (match a.tmps.getD (T.getD g 0) undef with | .bool b => some b | _ => none) := by
      intro g hg
      obtain ⟨d', l1, _⟩ := shapely_spec pre 0 [] hs g pre[g] (List.getElem?_eq_getElem hg)
      have hd' : T.getD g 0 = d' := by rw [← table_at hT g hg]; simp [dstOf, hg, l1]
      rw [hd', Array.getD_eq_getD_getElem?]
      unfold yielded
      simp only [List.getElem?_toArray, end_at hg, List.getElem?_eq_getElem hg, Option.bind_some, l1]
      cases h : a.tmps[d']? with
      | none => rfl
      | some x => cases x <;> rfl
    unfold wpOp
    simp only [List.getElem?_toArray, end_at hlen, ho]
    rcases hw with ⟨hg, hw⟩ | ⟨⟨g, hgd, hne⟩, hu⟩
    · rw [if_pos]
      · exact .inl hw
      · unfold Region.wanted
        cases hgd : o.guard with
        | none => rfl
        | some g =>
          have hv := hg _ hgd
          have hy := hslot g.1 (by have := k6 g hgd; omega)
          rw [hv] at hy
          show (yielded (pre ++ [st]).toArray a.tmps g.1 == some g.2) = true
          rw [hy]
          simp
    · rw [if_neg]
      · exact ⟨Below.refl _ _, undef, rfl, hu⟩
      · unfold Region.wanted
        rw [hgd]
        have hy := hslot g.1 (by have := k6 g hgd; omega)
        show ¬ (yielded (pre ++ [st]).toArray a.tmps g.1 == some g.2) = true
        rw [hy]
        intro hh
        apply hne
        generalize a.tmps.getD (T.getD g.1 0) undef = x at hh ⊢
        cases x <;> simp_all
  · intro a w hf
    exact fin a w hf.below hf.size hf.defers (fun s h => hf.old s (table_apart hT s h)) (fun i hi => by
      have hi' : i < pre.length := by rw [← hT] at hi; simpa using hi
      have := hf.fact i hi' trivial
      rwa [table_at hT i hi'] at this)
  · have : ∀ n, cnt (List.replicate n false) = n := by
      intro n
      induction n with
      | zero => rfl
      | succ n ih => simp [List.replicate_succ, cnt, ih]; omega
    simp [this]
  · intro j o ho h
    have hj : j < (pre ++ [st]).length := (List.getElem?_eq_some_iff.1 ho).1
    rw [getD_listed] at h
    simp only [List.length_append, List.length_cons, List.length_nil] at hj
    simp [hj] at h
  · rw [getD_listed]
    simp
  · refine ⟨(Below.refl _ _).drew, rfl, rfl, fun _ _ => rfl, ?_⟩
    intro i hi h
    rw [getD_listed] at h
    have hj : i < pre.length + 1 := by omega
    simp [hj] at h

/-- The same, where it ends. -/
theorem region_owes_endN {P : Program} {ops : List Oper} {st : Oper} {Q : Exit → Act → World → Prop} {a0 : Act} {w0 : World} {id : Nat} (n : Nat) (L : List Fact) (T : List Nat) (hm : P.follows .mixedOrders = true) (hn : ops[n]? = some st) (hl : ops.length = n + 1) (hs : shapely a0.tmps.size (ops.take n) 0 [] = true) (hk : sinks (ops.take n) st = true)
    (hT : (ops.take n).map (fun o => o.dst.getD 0) = T) (owes : OwesFrom P Q L T a0 w0 0 (ops.take n))
    (fin : ∀ a w, Below w0.heap.size w0 w → a.tmps.size = a0.tmps.size → a.defers = a0.defers → (∀ s, T.contains s = false → a.tmps.getD s undef = a0.tmps.getD s undef) →
      (∀ i, i < T.length → (L.getD i Fact.any).1 w (a.tmps.getD (T.getD i 0) undef)) → st.wp P a w (fun a' w' => Q .normal a' w') Q) : (Code.region id ops.toArray true).wp P Q a0 w0 := by
  refine region_owes_end L T hm ?_ hs hk hT owes fin
  have hlt : n < ops.length := by omega
  have e : ops[n] = st := by rw [List.getElem?_eq_getElem hlt] at hn; simpa using hn
  rw [← e, ← List.take_succ_eq_append_getElem hlt, List.take_of_length_le (by omega)]

end Go.Proofs.Ytmfmdicdbjghkaa
