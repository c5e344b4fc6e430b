/-
  A region that draws its order (Facts) whose last operations stand behind all others, each behind the one ahead of it: they come up one by one.
-/
import Derived.Test.YtmfmdicdbjghkaaFactsEnd
namespace Go.Proofs.Ytmfmdicdbjghkaa
open Go.RowKit
set_option linter.unusedVariables false

/-- The last ones, one by one. -/
def TailWp (P : Program) (Q : Exit → Act → World → Prop) : List Oper → Act → World → Prop
  | [], a, w => Q .normal a w
  | o :: l, a, w => o.wp P a w (fun a' w' => TailWp P Q l a' w') Q

/-- Operation j waits for operation i. -/
def waitsFor (o : Oper) (i : Nat) : Bool := o.after.toList.any fun e => e.on == i && Region.binds .any e
/-- Each has no guard, waits for what stands ahead of it alone, and for the one just ahead. -/
def inLine : List Oper → Nat → Bool
  | [], _ => true
  | o :: l, n => o.guard.isNone && o.after.all (fun e => !Region.binds .any e || decide (e.on < n)) && (l.head?.all fun x => waitsFor x n) && inLine l (n + 1)
/-- Each of the first ones is waited for by one that stands behind it, or by the first of the last ones. -/
def sinksT (pre : List Oper) (st : Oper) : Bool :=
  (List.range pre.length).all fun i => waitsFor st i || (List.range pre.length).any fun j => decide (i < j) && waits pre j i

section
variable {P : Program} {Q : Exit → Act → World → Prop}

theorem mem_tail {ops : List Oper} {listed : Array Bool} {n : Nat} (hl : listed.size = ops.length) (h1 : ∀ i, i < n → listed.getD i false = true) {i : Nat} (hi : i ∈ Region.ready .any ops.toArray listed) : n ≤ i := by
  obtain ⟨g1, g2, _⟩ := mem_ready.1 hi
  rcases Nat.lt_or_ge i n with h | h
  · have := h1 i h
    rw [getD_listed] at this g2
    cases hq : listed.toList[i]? with
    | none => rw [hq] at this; simp at this
    | some b => rw [hq] at this g2; simp at this g2; rw [this] at g2; simp at g2
  · exact h

theorem tail_wp {ops : List Oper} : ∀ (l : List Oper) (n fuel : Nat) (listed : Array Bool) (a : Act) (w : World), ops.drop n = l → n ≤ ops.length → inLine l n = true → listed.size = ops.length → (∀ i, i < n → listed.getD i false = true) → (∀ i, n ≤ i → listed.getD i false = false) → l.length ≤ fuel → TailWp P Q l a w → wpAny P .any ops.toArray Q fuel listed a w := by
  intro l
  induction l with
  | nil =>
    intro n fuel listed a w hd hn _ hl h1 _ _ hq
    have he : n = ops.length := by have := congrArg List.length hd; simp at this; omega
    have hnone : Region.ready .any ops.toArray listed = [] := by
      apply List.eq_nil_iff_forall_not_mem.2
      intro i hi
      have := mem_tail hl h1 hi
      have := (mem_ready.1 hi).1
      omega
    cases fuel with
    | zero => exact ⟨hnone, hq⟩
    | succ fuel => exact ⟨fun _ => hq, fun i hi => by rw [hnone] at hi; simp at hi⟩
  | cons o l ih =>
    intro n fuel listed a w hd hn hin hl h1 h2 hf hq
    have hlen : n < ops.length := by have := congrArg List.length hd; simp at this; omega
    have ho : ops[n]? = some o := by
      have := congrArg (fun x => x[0]?) hd
      simpa using this
    have hrest : ops.drop (n + 1) = l := by
      have := congrArg List.tail hd
      simpa using this
    rw [inLine] at hin
    simp only [Bool.and_eq_true] at hin
    obtain ⟨⟨⟨hg, haft⟩, hnext⟩, hin'⟩ := hin
    have hgd : o.guard = none := by simpa using hg
    have hfn : ∀ i, listed.getD i true = false ↔ listed.getD i false = false ∧ i < ops.length := by
      intro i
      rw [getD_listed, getD_listed]
      cases hq : listed.toList[i]? with
      | none =>
        have : ¬ i < ops.length := by
          intro hlt
          rw [List.getElem?_eq_none_iff] at hq
          simp at hq
          omega
        simp [this]
      | some b =>
        have : i < ops.length := by
          have := (List.getElem?_eq_some_iff.1 hq).1
          simp at this
          omega
        simp [this]
    have honly : ∀ i ∈ Region.ready .any ops.toArray listed, i = n := by
      intro i hi
      have hni := mem_tail hl h1 hi
      obtain ⟨g1, g2, oi, hoi, g3⟩ := mem_ready.1 hi
      rcases Nat.lt_or_ge n i with hlt | hge
      · exfalso
        have key : ∀ (l : List Oper) (m : Nat), ops.drop m = l → inLine l m = true → m < i → n ≤ m → False := by
          intro l
          induction l with
          | nil =>
            intro m hd _ hm _
            have := congrArg List.length hd
            simp at this
            omega
          | cons x l ihl =>
            intro m hd hin hm hnm
            have hrest : ops.drop (m + 1) = l := by
              have := congrArg List.tail hd
              simpa using this
            rw [inLine] at hin
            simp only [Bool.and_eq_true] at hin
            obtain ⟨⟨_, hnext⟩, hin'⟩ := hin
            by_cases hmi : m + 1 = i
            · have hhead : l.head? = some oi := by
                rw [← hrest, List.head?_drop, hmi, hoi]
              rw [hhead] at hnext
              simp only [Option.all_some] at hnext
              unfold waitsFor at hnext
              obtain ⟨e, he, hej⟩ := List.any_eq_true.1 hnext
              simp only [Bool.and_eq_true, beq_iff_eq] at hej
              have := g3 e (by simpa using he) hej.2
              rw [hej.1, h2 m hnm] at this
              simp at this
            · exact ihl (m + 1) hrest hin' (by omega) (by omega)
        exact key (o :: l) n hd (by rw [inLine]; simp [hg, haft, hnext, hin']) hlt (Nat.le_refl _)
      · omega
    have hready : n ∈ Region.ready .any ops.toArray listed := by
      refine mem_ready.2 ⟨hlen, (hfn n).2 ⟨h2 n (Nat.le_refl _), hlen⟩, o, ho, ?_⟩
      intro e he hb
      rw [Array.all_eq_true_iff_forall_mem] at haft
      have := haft e he
      rw [hb] at this
      simp at this
      exact h1 e.on this
    cases fuel with
    | zero => simp at hf
    | succ fuel =>
      refine ⟨fun hr => (by rw [hr] at hready; simp at hready), ?_⟩
      intro i hi
      obtain rfl := honly i hi
      unfold wpOp
      simp only [List.getElem?_toArray, ho]
      rw [if_pos (by simp [Region.wanted, hgd])]
      refine .inl (Oper.wp_mono ?_ hq)
      intro a' w' hq'
      refine ih (i + 1) fuel _ a' w' hrest (by omega) hin' (by simpa using hl) ?_ ?_ (by simp at hf; omega) hq'
      · intro j hj
        rw [getD_listed, Array.toList_setIfInBounds]
        by_cases hji : i = j
        · subst hji
          have h4 : i < listed.toList.length := by simp; omega
          rw [List.getElem?_set_self h4]
          rfl
        · rw [List.getElem?_set_ne hji, ← getD_listed]
          exact h1 j (by omega)
      · intro j hj
        rw [getD_listed, Array.toList_setIfInBounds, List.getElem?_set_ne (by omega), ← getD_listed]
        exact h2 j (by omega)

variable {pre post : List Oper} {F : Nat → World → Value → Prop} {a0 : Act} {w0 : World}

theorem facts_tail (hs : shapely a0.tmps.size pre 0 [] = true) (hpos : ∃ st l, post = st :: l ∧ sinksT pre st = true) (hin : inLine post pre.length = true) (mono : ∀ i w w' v, Below w.heap.size w w' → F i w v → F i w' v)
    (owes : ∀ i o, pre[i]? = some o → ∀ a w, Below w0.heap.size w0 w → (∀ s, apart pre s = true → a.tmps.getD s undef = a0.tmps.getD s undef) → (∀ e ∈ o.after, Region.binds .any e = true → F e.on w (a.tmps.getD (dstOf pre e.on) undef)) →
      wpOp P (pre ++ post).toArray Q i (fun a' w' => Below w.heap.size w w' ∧ ∃ v, a' = a.put o.dst v ∧ F i w' v) a w)
    (fin : ∀ a w, FitsE pre F a0 w0 (fun _ => True) a w → TailWp P Q post a w) :
    ∀ (fuel : Nat) (listed : Array Bool) (a : Act) (w : World), listed.size = (pre ++ post).length → cnt listed.toList ≤ fuel → Closed (pre ++ post) listed → (∀ i, pre.length ≤ i → listed.getD i false = false) → FitsE pre F a0 w0 (fun i => listed.getD i false = true) a w → wpAny P .any (pre ++ post).toArray Q fuel listed a w := by
  obtain ⟨st, lst, hpost, hk⟩ := hpos
  have hat : ∀ {i : Nat}, i < pre.length → (pre ++ post)[i]? = pre[i]? := fun hi => List.getElem?_append_left hi
  have hcnt : ∀ l : List Bool, (∀ i : Nat, pre.length ≤ i → l[i]?.getD false = false) → l.length = (pre ++ post).length → post.length ≤ cnt l := by
    intro l h hlen
    have hge : ∀ (m : List Bool), (∀ i : Nat, m[i]?.getD false = false) → cnt m = m.length := by
      intro m
      induction m with
      | nil => intro _; rfl
      | cons b m ih =>
        intro hm
        have h0 : b = false := by simpa using hm 0
        subst h0
        have := ih fun i => by simpa using hm (i + 1)
        simp [cnt, this]
        omega
    have happ : ∀ (x y : List Bool), cnt (x ++ y) = cnt x + cnt y := by
      intro x y
      induction x with
      | nil => simp [cnt]
      | cons b x ih => simp [cnt, ih]; omega
    have h1 := hge (l.drop pre.length) fun i => by
      rw [List.getElem?_drop]
      exact h (pre.length + i) (by omega)
    have h2 := happ (l.take pre.length) (l.drop pre.length)
    rw [List.take_append_drop, h1] at h2
    simp at h2 hlen
    omega
  intro fuel
  induction fuel with
  | zero =>
    intro listed a w hl hc hcl hn hf
    have := hcnt listed.toList (fun i hi => by rw [← getD_listed]; exact hn i hi) (by simpa using hl)
    rw [hpost] at this
    simp at this
    omega
  | succ fuel ih =>
    intro listed a w hl hc hcl hn hf
    by_cases hall : ∀ i, i < pre.length → listed.getD i false = true
    · refine tail_wp post pre.length (fuel + 1) listed a w (by simp) (by simp) hin (by simpa using hl) hall hn ?_ (fin a w ⟨hf.below, hf.size, hf.defers, hf.old, fun i hi _ => hf.fact i hi (hall i hi)⟩)
      have := hcnt listed.toList (fun i hi => by rw [← getD_listed]; exact hn i hi) (by simpa using hl)
      omega
    refine ⟨?_, ?_⟩
    · intro hr
      exfalso
      apply hall
      intro i
      induction i using Nat.strongRecOn with
      | _ i ih' =>
        intro hi
        cases hc' : listed.getD i true with
        | true =>
          have h1 : i < listed.size := by simp at hl; omega
          simp only [Array.getD, h1, dif_pos] at hc' ⊢
          exact hc'
        | false =>
          have hm : i ∈ Region.ready .any (pre ++ post).toArray listed := by
            refine mem_ready.2 ⟨by simp; omega, hc', pre[i], by rw [hat hi]; exact List.getElem?_eq_getElem hi, ?_⟩
            intro e he hb
            obtain ⟨d, _, _, _, h4, _⟩ := shapely_spec pre 0 [] hs i pre[i] (List.getElem?_eq_getElem hi)
            have := h4 e he hb
            exact ih' e.on (by omega) (by omega)
          rw [hr] at hm
          simp at hm
    · intro i hi
      obtain ⟨h1, h2, o, ho, h3⟩ := mem_ready.1 hi
      have hli : listed.toList[i]? = some false := by
        rw [getD_listed] at h2
        have h4 : i < listed.toList.length := by simp at h1 hl; simp; omega
        rw [List.getElem?_eq_getElem h4] at h2 ⊢
        simpa using h2
      have hkeep : ∀ j, listed.getD j false = true → (listed.setIfInBounds i true).getD j false = true := by
        intro j hj
        rw [getD_listed] at hj ⊢
        rw [Array.toList_setIfInBounds]
        by_cases hji : i = j
        · subst hji; rw [hli] at hj; simp at hj
        · rw [List.getElem?_set_ne hji]; exact hj
      have hback : ∀ j, j ≠ i → (listed.setIfInBounds i true).getD j false = true → listed.getD j false = true := by
        intro j hji hj
        rw [getD_listed] at hj ⊢
        rw [Array.toList_setIfInBounds, List.getElem?_set_ne (Ne.symm hji)] at hj
        exact hj
      have hip : i < pre.length := by
        rcases Nat.lt_or_ge i pre.length with h | h
        · exact h
        · exfalso
          rcases Nat.lt_or_ge pre.length i with hlt | hge
          · have key : ∀ (l : List Oper) (m : Nat), (pre ++ post).drop m = l → inLine l m = true → m < i → pre.length ≤ m → False := by
              intro l
              induction l with
              | nil =>
                intro m hd _ hm _
                have := congrArg List.length hd
                rw [List.length_drop, List.length_nil] at this
                omega
              | cons x l ihl =>
                intro m hd hin hm hnm
                have hrest : (pre ++ post).drop (m + 1) = l := by
                  have := congrArg List.tail hd
                  rw [List.tail_drop, List.tail_cons] at this
                  exact this
                rw [inLine] at hin
                simp only [Bool.and_eq_true] at hin
                obtain ⟨⟨_, hnext⟩, hin'⟩ := hin
                by_cases hmi : m + 1 = i
                · have hhead : l.head? = some o := by
                    rw [← hrest, List.head?_drop, hmi, ho]
                  rw [hhead] at hnext
                  simp only [Option.all_some] at hnext
                  unfold waitsFor at hnext
                  obtain ⟨e, he, hej⟩ := List.any_eq_true.1 hnext
                  simp only [Bool.and_eq_true, beq_iff_eq] at hej
                  have := h3 e (by simpa using he) hej.2
                  rw [hej.1, hn m hnm] at this
                  simp at this
                · exact ihl (m + 1) hrest hin' (by omega) (by omega)
            exact key post pre.length (by simp) hin hlt (Nat.le_refl _)
          · obtain rfl : i = pre.length := by omega
            have hos : o = st := by
              rw [hpost] at ho
              simp at ho
              exact ho.symm
            subst hos
            apply hall
            unfold sinksT at hk
            rw [List.all_eq_true] at hk
            have key : ∀ d j, j + d = pre.length → j < pre.length → listed.getD j false = true := by
              intro d
              induction d using Nat.strongRecOn with
              | _ d ihd =>
                intro j hjd hj
                have h := hk j (List.mem_range.2 hj)
                rw [Bool.or_eq_true] at h
                rcases h with h | h
                · unfold waitsFor at h
                  obtain ⟨e, he, hej⟩ := List.any_eq_true.1 h
                  simp only [Bool.and_eq_true, beq_iff_eq] at hej
                  rw [← hej.1]
                  exact h3 e (by simpa using he) hej.2
                · obtain ⟨t, ht, htj⟩ := List.any_eq_true.1 h
                  rw [List.mem_range] at ht
                  simp only [Bool.and_eq_true, decide_eq_true_eq] at htj
                  have hlt := ihd (pre.length - t) (by omega) t (by omega) ht
                  have hw := htj.2
                  unfold waits at hw
                  rw [List.getElem?_eq_getElem ht] at hw
                  simp only [Option.map_some, Option.getD_some, List.any_eq_true, Bool.and_eq_true, beq_iff_eq] at hw
                  obtain ⟨e, he, hei, hb⟩ := hw
                  have := hcl t pre[t] (by rw [hat ht]; exact List.getElem?_eq_getElem ht) hlt e (by simpa using he) hb
                  rw [← hei]
                  exact this
            intro j hj
            exact key (pre.length - j) j (by omega) hj
      have ho' : pre[i]? = some o := by rw [← hat hip]; exact ho
      obtain ⟨d, k1, k2, _, k4, k5, _⟩ := shapely_spec pre 0 [] hs i o ho'
      have hdi : dstOf pre i = d := by simp [dstOf, ho', k1]
      refine wpOp_mono ?_ (owes i o ho' a w hf.below hf.old (fun e he hb => hf.fact e.on (by have := k4 e he hb; omega) (h3 e he hb)))
      rintro a' w' ⟨hb, v, rfl, hv⟩
      rw [k1]
      refine ih _ _ w' (by simpa using hl) ?_ ?_ ?_ ?_
      · have := cnt_set listed.toList i hli
        rw [Array.toList_setIfInBounds]
        omega
      · intro j oj hoj hj e he hb
        by_cases hji : j = i
        · subst hji
          rw [ho] at hoj
          simp at hoj
          subst hoj
          exact hkeep _ (h3 e he hb)
        · exact hkeep _ (hcl j oj hoj (hback j hji hj) e he hb)
      · intro j hj
        cases hq : (listed.setIfInBounds i true).getD j false with
        | false => rfl
        | true =>
          have := hback j (by omega) hq
          rw [hn j hj] at this
          exact this.symm
      · refine ⟨hf.below.trans (hb.mono hf.below.size), by rw [size_put]; exact hf.size, by rw [defers_put]; exact hf.defers, ?_, ?_⟩
        · intro s hsl
          have hne : d ≠ s := by
            intro h
            subst h
            have := List.all_eq_true.1 hsl o (List.mem_of_getElem? ho')
            rw [k1] at this
            simp at this
          rw [getD_put_ne a d s v hne]
          exact hf.old s hsl
        · intro j hj hdone
          by_cases hji : j = i
          · subst hji
            rw [hdi, getD_put_same a d v (by rw [hf.size]; exact k2)]
            exact hv
          · have hdone' : listed.getD j false = true := hback j hji hdone
            obtain ⟨d', l1, l2, _, _, l5, _⟩ := shapely_spec pre 0 [] hs j pre[j] (List.getElem?_eq_getElem hj)
            have hdj : dstOf pre j = d' := by simp [dstOf, l1, hj]
            have hne : d ≠ d' := by
              intro h
              subst h
              rcases Nat.lt_or_gt_of_ne hji with h | h
              · exact k5 j pre[j] h (List.getElem?_eq_getElem hj) l1
              · exact l5 i o h ho' k1
            have hfj := hf.fact j hj hdone'
            rw [hdj] at hfj ⊢
            rw [getD_put_ne a d d' v hne]
            exact mono j w w' _ hb hfj
end

/-- A region that draws its order, n operations of which come first: the table of their slots, the list of their facts, each one's due, and what comes up one by one behind them. -/
theorem region_owes_tail {P : Program} {ops post : List Oper} {Q : Exit → Act → World → Prop} {a0 : Act} {w0 : World} {id : Nat} (n : Nat) (L : List Fact) (T : List Nat) (hm : P.follows .mixedOrders = true) (hp : ops.drop n = post) (hn : n ≤ ops.length) (hs : shapely a0.tmps.size (ops.take n) 0 [] = true)
    (hk : (post.head?.any fun st => sinksT (ops.take n) st) = true) (hin : inLine post n = true)
    (hT : (ops.take n).map (fun o => o.dst.getD 0) = T) (owes : OwesFrom P Q L T a0 w0 0 (ops.take n))
    (fin : ∀ a w, Below w0.heap.size w0 w → a.tmps.size = a0.tmps.size → a.defers = a0.defers → (∀ s, T.contains s = false → a.tmps.getD s undef = a0.tmps.getD s undef) →
      (∀ i, i < T.length → (L.getD i Fact.any).1 w (a.tmps.getD (T.getD i 0) undef)) → TailWp P Q post a w) : (Code.region id ops.toArray true).wp P Q a0 w0 := by
  obtain ⟨pre, hpre⟩ : ∃ pre, ops.take n = pre := ⟨_, rfl⟩
  have hops : ops = pre ++ post := by rw [← hpre, ← hp, List.take_append_drop]
  have hlen : pre.length = n := by rw [← hpre]; simp; omega
  rw [hpre] at hs hk hT owes
  rw [← hlen] at hin
  clear hp hn
  have hpos : ∃ st l, post = st :: l ∧ sinksT pre st = true := by
    cases post with
    | nil => simp at hk
    | cons st l => exact ⟨st, l, rfl, by simpa using hk⟩
  subst hops
  refine wp_region_any hm (facts_tail (F := fun i => (L.getD i Fact.any).1) (a0 := a0) (w0 := w0) hs hpos hin (fun i w w' v hb h => (L.getD i Fact.any).2 w w' v hb h) ?_ ?_ _ _ a0 _ (by simp) ?_ ?_ ?_ ?_)
  · intro i o ho a w hb hold hdeps
    have hown := owes.at i o ho
    rw [Nat.zero_add] at hown
    have hlen : i < pre.length := (List.getElem?_eq_some_iff.1 ho).1
    obtain ⟨d, k1, k2, _, k4, _, k6⟩ := shapely_spec pre 0 [] hs i o ho
    have hw := hown a w hb (fun s h => hold s (table_apart hT s h)) (fun j hj => by
      obtain ⟨e, he, hej⟩ := List.any_eq_true.1 hj
      have he : e ∈ o.after := by simpa using he
      simp only [Bool.and_eq_true, beq_iff_eq] at hej
      have := hdeps e he hej.2
      have hlt := k4 e he hej.2
      rw [hej.1, table_at hT j (by omega)] at this
      exact this)
    have hat : ∀ {i : Nat}, i < pre.length → (pre ++ post)[i]? = pre[i]? := fun hi => List.getElem?_append_left hi
    have hslot : ∀ g : Nat, g < pre.length → yielded (pre ++ post).toArray a.tmps g = (match a.tmps.getD (T.getD g 0) undef with | .bool b => some b | _ => none) := by
      intro g hg
      obtain ⟨d', l1, _⟩ := shapely_spec pre 0 [] hs g pre[g] (List.getElem?_eq_getElem hg)
      have hd' : T.getD g 0 = d' := by rw [← table_at hT g hg]; simp [dstOf, hg, l1]
      rw [hd', Array.getD_eq_getD_getElem?]
      unfold yielded
      simp only [List.getElem?_toArray, hat hg, List.getElem?_eq_getElem hg, Option.bind_some, l1]
      cases h : a.tmps[d']? with
      | none => rfl
      | some x => cases x <;> rfl
    unfold wpOp
    simp only [List.getElem?_toArray, hat hlen, ho]
    rcases hw with ⟨hg, hw⟩ | ⟨⟨g, hgd, hne⟩, hu⟩
    · rw [if_pos]
      · exact .inl hw
      · unfold Region.wanted
        cases hgd : o.guard with
        | none => rfl
        | some g =>
          have hv := hg _ hgd
          have hy := hslot g.1 (by have := k6 g hgd; omega)
          rw [hv] at hy
          show (yielded (pre ++ post).toArray a.tmps g.1 == some g.2) = true
          rw [hy]
          simp
    · rw [if_neg]
      · exact ⟨Below.refl _ _, undef, rfl, hu⟩
      · unfold Region.wanted
        rw [hgd]
        have hy := hslot g.1 (by have := k6 g hgd; omega)
        show ¬ (yielded (pre ++ post).toArray a.tmps g.1 == some g.2) = true
        rw [hy]
        intro hh
        apply hne
        generalize a.tmps.getD (T.getD g.1 0) undef = x at hh ⊢
        cases x <;> simp_all
  · intro a w hf
    exact fin a w hf.below hf.size hf.defers (fun s h => hf.old s (table_apart hT s h)) (fun i hi => by
      have hi' : i < pre.length := by rw [← hT] at hi; simpa using hi
      have := hf.fact i hi' trivial
      rwa [table_at hT i hi'] at this)
  · have : ∀ n, cnt (List.replicate n false) = n := by
      intro n
      induction n with
      | zero => rfl
      | succ n ih => simp [List.replicate_succ, cnt, ih]; omega
    simp [this]
  · intro j o ho h
    have hj : j < (pre ++ post).length := (List.getElem?_eq_some_iff.1 ho).1
    rw [getD_listed] at h
    simp only [List.length_append] at hj
    simp [hj] at h
  · intro i hi
    rw [getD_listed]
    simp only [Array.toList_replicate]
    by_cases hlt : i < pre.length + post.length
    · simp [hlt]
    · rw [List.getElem?_eq_none (by simp; omega)]
      rfl
  · refine ⟨(Below.refl _ _).drew, rfl, rfl, fun _ _ => rfl, ?_⟩
    intro i hi h
    rw [getD_listed] at h
    have hj : i < pre.length + post.length := by omega
    simp [hj] at h

/-- An assignment among the last ones. -/
theorem wp_assign {P : Program} {o : Oper} {a : Act} {w : World} {K : Act → World → Prop} {Q : Exit → Act → World → Prop} (x : Operand) (ho : o.op = .assign x) (h : K (a.put o.dst (a.eval x)) w) : o.wp P a w K Q := by
  unfold Oper.wp execOp
  rw [ho]
  exact h

end Go.Proofs.Ytmfmdicdbjghkaa
