/-
  A region that draws its order (FactsTail), one operation of which may come up behind the first of the last ones, too ('m, e := f(l[i:])': e is drawn out ahead of m's store, or behind it).
-/
import Derived.Test.YtlackjldopeigaaRowBase
namespace Go.Proofs.Ytlackjldopeigaa
open Go.RowKit
set_option linter.unusedVariables false
set_option linter.unusedSimpArgs false

/-- Each of the first ones but j is waited for by one that stands behind it (not by j), or by the first of the last ones. -/
def sinksL (pre : List Oper) (st : Oper) (j : Nat) : Bool :=
  (List.range pre.length).all fun i => (i == j || waitsFor st i) || (List.range pre.length).any fun t => (decide (i < t) && t != j) && waits pre t i
/-- The first of the last ones, j, then the others. -/
def LateWp (P : Program) (Q : Exit → Act → World → Prop) (oj : Oper) : List Oper → Act → World → Prop
  | [], a, w => False
  | st :: rest, a, w => st.wp P a w (fun a' w' => oj.wp P a' w' (fun a'' w'' => TailWp P Q rest a'' w'') Q) Q
/-- Nothing that is ever asked. -/
def noOp : Oper := { dst := none, op := .alloc 0, type := 0, pos := "", after := #[], guard := none }
theorem cnt_append : ∀ (x y : List Bool), cnt (x ++ y) = cnt x + cnt y := by
  intro x y
  induction x with
  | nil => simp [cnt]
  | cons b x ih => simp [cnt, ih]; omega
theorem cnt_all : ∀ (m : List Bool), (∀ i : Nat, m[i]?.getD false = false) → cnt m = m.length := by
  intro m
  induction m with
  | nil => intro _; rfl
  | cons b m ih =>
    intro hm
    have h0 : b = false := by simpa using hm 0
    subst h0
    have := ih fun i => by simpa using hm (i + 1)
    simp [cnt, this]
    omega
theorem cnt_pos {l : List Bool} {i : Nat} (h : l[i]? = some false) : 0 < cnt l := by
  have := cnt_set l i h
  omega

section
variable {P : Program} {Q : Exit → Act → World → Prop}

theorem late_wp {ops rest : List Oper} {oj : Oper} {n j fuel : Nat} {listed : Array Bool} {a : Act} {w : World} (hd : ops.drop (n + 1) = rest) (hn : n < ops.length) (hin : inLine rest (n + 1) = true) (hj : j < n) (hoj : ops[j]? = some oj) (hgj : oj.guard = none) (hja : ∀ e ∈ oj.after, Region.binds .any e = true → e.on < j)
    (hwj : (rest.head?.any fun x => waitsFor x j) = true) (hl : listed.size = ops.length) (h1 : ∀ i, i ≤ n → i ≠ j → listed.getD i false = true) (hj0 : listed.getD j false = false) (h2 : ∀ i, n < i → listed.getD i false = false) (hf : rest.length < fuel)
    (hq : oj.wp P a w (fun a' w' => TailWp P Q rest a' w') Q) : wpAny P .any ops.toArray Q fuel listed a w := by
  have hfn : ∀ i, listed.getD i true = false ↔ listed.getD i false = false ∧ i < ops.length := by
    intro i
    rw [getD_listed, getD_listed]
    cases hq : listed.toList[i]? with
    | none =>
      have : ¬ i < ops.length := by
        intro hlt
        rw [List.getElem?_eq_none_iff] at hq
        simp at hq
        omega
      simp [this]
    | some b =>
      have : i < ops.length := by
        have := (List.getElem?_eq_some_iff.1 hq).1
        simp at this
        omega
      simp [this]
  have honly : ∀ i ∈ Region.ready .any ops.toArray listed, i = j := by
    intro i hi
    obtain ⟨g1, g2, oi, hoi, g3⟩ := mem_ready.1 hi
    rcases Nat.lt_or_ge n i with hlt | hge
    · exfalso
      have key : ∀ (l : List Oper) (m : Nat), ops.drop m = l → inLine l m = true → m < i → n < m → False := by
        intro l
        induction l with
        | nil =>
          intro m hd _ hm _
          have := congrArg List.length hd
          simp at this
          omega
        | cons x l ihl =>
          intro m hd hin hm hnm
          have hrest : ops.drop (m + 1) = l := by
            have := congrArg List.tail hd
            simpa using this
          rw [inLine] at hin
          simp only [Bool.and_eq_true] at hin
          obtain ⟨⟨_, hnext⟩, hin'⟩ := hin
          by_cases hmi : m + 1 = i
          · have hhead : l.head? = some oi := by rw [← hrest, List.head?_drop, hmi, hoi]
            rw [hhead] at hnext
            simp only [Option.all_some] at hnext
            unfold waitsFor at hnext
            obtain ⟨e, he, hej⟩ := List.any_eq_true.1 hnext
            simp only [Bool.and_eq_true, beq_iff_eq] at hej
            have := g3 e (by simpa using he) hej.2
            rw [hej.1, h2 m hnm] at this
            simp at this
          · exact ihl (m + 1) hrest hin' (by omega) (by omega)
      by_cases hi1 : i = n + 1
      · have hhead : rest.head? = some oi := by rw [← hd, List.head?_drop, ← hi1, hoi]
        rw [hhead] at hwj
        simp only [Option.any_some] at hwj
        unfold waitsFor at hwj
        obtain ⟨e, he, hej⟩ := List.any_eq_true.1 hwj
        simp only [Bool.and_eq_true, beq_iff_eq] at hej
        have := g3 e (by simpa using he) hej.2
        rw [hej.1, hj0] at this
        simp at this
      · exact key rest (n + 1) hd hin (by omega) (by omega)
    · by_cases hij : i = j
      · exact hij
      · exfalso
        have h3 := h1 i hge hij
        rw [((hfn i).1 g2).1] at h3
        simp at h3
  have hready : j ∈ Region.ready .any ops.toArray listed := by
    refine mem_ready.2 ⟨by omega, (hfn j).2 ⟨hj0, by omega⟩, oj, hoj, ?_⟩
    intro e he hb
    have := hja e he hb
    exact h1 e.on (by omega) (by omega)
  cases fuel with
  | zero => omega
  | succ fuel =>
    refine ⟨fun hr => (by rw [hr] at hready; simp at hready), ?_⟩
    intro i hi
    obtain rfl := honly i hi
    unfold wpOp
    simp only [List.getElem?_toArray, hoj]
    rw [if_pos (by simp [Region.wanted, hgj])]
    refine .inl (Oper.wp_mono ?_ hq)
    intro a' w' hq'
    refine tail_wp rest (n + 1) fuel _ a' w' hd (by omega) hin (by simpa using hl) ?_ ?_ (by omega) hq'
    · intro t ht
      rw [getD_listed, Array.toList_setIfInBounds]
      by_cases hti : i = t
      · subst hti
        have h4 : i < listed.toList.length := by simp; omega
        rw [List.getElem?_set_self h4]
        rfl
      · rw [List.getElem?_set_ne hti, ← getD_listed]
        exact h1 t (by omega) (fun e => hti e.symm)
    · intro t ht
      rw [getD_listed, Array.toList_setIfInBounds, List.getElem?_set_ne (by omega), ← getD_listed]
      exact h2 t (by omega)

variable {pre post : List Oper} {F : Nat → World → Value → Prop} {a0 : Act} {w0 : World}

theorem facts_late {j : Nat} {oj : Oper} {rest : List Oper} (hs : shapely a0.tmps.size pre 0 [] = true) (hoj : pre[j]? = some oj) (hgj : oj.guard = none) (hpos : ∃ st, post = st :: rest ∧ sinksL pre st j = true) (hwj : (rest.head?.any fun x => waitsFor x j) = true) (hin : inLine post pre.length = true) (mono : ∀ i w w' v, Below w.heap.size w w' → F i w v → F i w' v)
    (owes : ∀ i o, pre[i]? = some o → ∀ a w, Below w0.heap.size w0 w → (∀ s, apart pre s = true → a.tmps.getD s undef = a0.tmps.getD s undef) → (∀ e ∈ o.after, Region.binds .any e = true → F e.on w (a.tmps.getD (dstOf pre e.on) undef)) →
      wpOp P (pre ++ post).toArray Q i (fun a' w' => Below w.heap.size w w' ∧ ∃ v, a' = a.put o.dst v ∧ F i w' v) a w)
    (fin : ∀ a w, FitsE pre F a0 w0 (fun _ => True) a w → TailWp P Q post a w)
    (fin2 : ∀ a w, FitsE pre F a0 w0 (fun i => i ≠ j) a w → LateWp P Q oj post a w) :
    ∀ (fuel : Nat) (listed : Array Bool) (a : Act) (w : World), listed.size = (pre ++ post).length → cnt listed.toList ≤ fuel → Closed (pre ++ post) listed → (∀ i, pre.length ≤ i → listed.getD i false = false) → FitsE pre F a0 w0 (fun i => listed.getD i false = true) a w → wpAny P .any (pre ++ post).toArray Q fuel listed a w := by
  obtain ⟨st, hpost, hk⟩ := hpos
  have hjp : j < pre.length := (List.getElem?_eq_some_iff.1 hoj).1
  have hat : ∀ {i : Nat}, i < pre.length → (pre ++ post)[i]? = pre[i]? := fun hi => List.getElem?_append_left hi
  have hcnt : ∀ l : List Bool, (∀ i : Nat, pre.length ≤ i → l[i]?.getD false = false) → l.length = (pre ++ post).length → post.length ≤ cnt l := by
    intro l h hlen
    have hge : ∀ (m : List Bool), (∀ i : Nat, m[i]?.getD false = false) → cnt m = m.length := by
      intro m
      induction m with
      | nil => intro _; rfl
      | cons b m ih =>
        intro hm
        have h0 : b = false := by simpa using hm 0
        subst h0
        have := ih fun i => by simpa using hm (i + 1)
        simp [cnt, this]
        omega
    have happ : ∀ (x y : List Bool), cnt (x ++ y) = cnt x + cnt y := by
      intro x y
      induction x with
      | nil => simp [cnt]
      | cons b x ih => simp [cnt, ih]; omega
    have h1 := hge (l.drop pre.length) fun i => by
      rw [List.getElem?_drop]
      exact h (pre.length + i) (by omega)
    have h2 := happ (l.take pre.length) (l.drop pre.length)
    rw [List.take_append_drop, h1] at h2
    simp at h2 hlen
    omega
  intro fuel
  induction fuel with
  | zero =>
    intro listed a w hl hc hcl hn hf
    have := hcnt listed.toList (fun i hi => by rw [← getD_listed]; exact hn i hi) (by simpa using hl)
    rw [hpost] at this
    simp at this
    omega
  | succ fuel ih =>
    intro listed a w hl hc hcl hn hf
    by_cases hall : ∀ i, i < pre.length → listed.getD i false = true
    · refine tail_wp post pre.length (fuel + 1) listed a w (by simp) (by simp) hin (by simpa using hl) hall hn ?_ (fin a w ⟨hf.below, hf.size, hf.defers, hf.old, fun i hi _ => hf.fact i hi (hall i hi)⟩)
      have := hcnt listed.toList (fun i hi => by rw [← getD_listed]; exact hn i hi) (by simpa using hl)
      omega
    refine ⟨?_, ?_⟩
    · intro hr
      exfalso
      apply hall
      intro i
      induction i using Nat.strongRecOn with
      | _ i ih' =>
        intro hi
        cases hc' : listed.getD i true with
        | true =>
          have h1 : i < listed.size := by simp at hl; omega
          simp only [Array.getD, h1, dif_pos] at hc' ⊢
          exact hc'
        | false =>
          have hm : i ∈ Region.ready .any (pre ++ post).toArray listed := by
            refine mem_ready.2 ⟨by simp; omega, hc', pre[i], by rw [hat hi]; exact List.getElem?_eq_getElem hi, ?_⟩
            intro e he hb
            obtain ⟨d, _, _, _, h4, _⟩ := shapely_spec pre 0 [] hs i pre[i] (List.getElem?_eq_getElem hi)
            have := h4 e he hb
            exact ih' e.on (by omega) (by omega)
          rw [hr] at hm
          simp at hm
    · intro i hi
      obtain ⟨h1, h2, o, ho, h3⟩ := mem_ready.1 hi
      have hli : listed.toList[i]? = some false := by
        rw [getD_listed] at h2
        have h4 : i < listed.toList.length := by simp at h1 hl; simp; omega
        rw [List.getElem?_eq_getElem h4] at h2 ⊢
        simpa using h2
      have hkeep : ∀ j, listed.getD j false = true → (listed.setIfInBounds i true).getD j false = true := by
        intro j hj
        rw [getD_listed] at hj ⊢
        rw [Array.toList_setIfInBounds]
        by_cases hji : i = j
        · subst hji; rw [hli] at hj; simp at hj
        · rw [List.getElem?_set_ne hji]; exact hj
      have hback : ∀ j, j ≠ i → (listed.setIfInBounds i true).getD j false = true → listed.getD j false = true := by
        intro j hji hj
        rw [getD_listed] at hj ⊢
        rw [Array.toList_setIfInBounds, List.getElem?_set_ne (Ne.symm hji)] at hj
        exact hj
      have hgt : ¬ pre.length < i := by
        intro hlt
        have key : ∀ (l : List Oper) (m : Nat), (pre ++ post).drop m = l → inLine l m = true → m < i → pre.length ≤ m → False := by
          intro l
          induction l with
          | nil =>
            intro m hd _ hm _
            have := congrArg List.length hd
            rw [List.length_drop, List.length_nil] at this
            omega
          | cons x l ihl =>
            intro m hd hin hm hnm
            have hrest : (pre ++ post).drop (m + 1) = l := by
              have := congrArg List.tail hd
              rw [List.tail_drop, List.tail_cons] at this
              exact this
            rw [inLine] at hin
            simp only [Bool.and_eq_true] at hin
            obtain ⟨⟨_, hnext⟩, hin'⟩ := hin
            by_cases hmi : m + 1 = i
            · have hhead : l.head? = some o := by
                rw [← hrest, List.head?_drop, hmi, ho]
              rw [hhead] at hnext
              simp only [Option.all_some] at hnext
              unfold waitsFor at hnext
              obtain ⟨e, he, hej⟩ := List.any_eq_true.1 hnext
              simp only [Bool.and_eq_true, beq_iff_eq] at hej
              have := h3 e (by simpa using he) hej.2
              rw [hej.1, hn m hnm] at this
              simp at this
            · exact ihl (m + 1) hrest hin' (by omega) (by omega)
        exact key post pre.length (by simp) hin hlt (Nat.le_refl _)
      by_cases hin0 : i = pre.length
      · subst hin0
        have hos : o = st := by
          rw [hpost] at ho
          simp at ho
          exact ho.symm
        subst hos
        unfold sinksL at hk
        rw [List.all_eq_true] at hk
        have key : ∀ d t, t + d = pre.length → t < pre.length → t ≠ j → listed.getD t false = true := by
          intro d
          induction d using Nat.strongRecOn with
          | _ d ihd =>
            intro t htd ht htj
            have h := hk t (List.mem_range.2 ht)
            rw [Bool.or_eq_true, Bool.or_eq_true] at h
            rcases h with (h | h) | h
            · exact absurd (by simpa using h) htj
            · unfold waitsFor at h
              obtain ⟨e, he, hej⟩ := List.any_eq_true.1 h
              simp only [Bool.and_eq_true, beq_iff_eq] at hej
              rw [← hej.1]
              exact h3 e (by simpa using he) hej.2
            · obtain ⟨x, hx, hxt⟩ := List.any_eq_true.1 h
              rw [List.mem_range] at hx
              simp only [Bool.and_eq_true, decide_eq_true_eq, bne_iff_ne, ne_eq] at hxt
              have hlt := ihd (pre.length - x) (by omega) x (by omega) hx hxt.1.2
              have hw := hxt.2
              unfold waits at hw
              rw [List.getElem?_eq_getElem hx] at hw
              simp only [Option.map_some, Option.getD_some, List.any_eq_true, Bool.and_eq_true, beq_iff_eq] at hw
              obtain ⟨e, he, hei, hb⟩ := hw
              have := hcl x pre[x] (by rw [hat hx]; exact List.getElem?_eq_getElem hx) hlt e (by simpa using he) hb
              rw [← hei]
              exact this
        have key : ∀ t, t < pre.length → t ≠ j → listed.getD t false = true := fun t ht htj => key (pre.length - t) t (by omega) ht htj
        have hjf : listed.getD j false = false := by
          cases hq : listed.getD j false with
          | false => rfl
          | true =>
            exfalso
            apply hall
            intro t ht
            by_cases htj : t = j
            · rw [htj]; exact hq
            · exact key t ht htj
        have hq := fin2 a w ⟨hf.below, hf.size, hf.defers, hf.old, fun t ht htj => hf.fact t ht (key t ht htj)⟩
        rw [hpost] at hq
        have hin' : inLine rest (pre.length + 1) = true := by
          rw [hpost, inLine] at hin
          simp only [Bool.and_eq_true] at hin
          exact hin.2
        have hgo : o.guard = none := by
          rw [hpost, inLine] at hin
          simp only [Bool.and_eq_true] at hin
          simpa using hin.1.1.1
        have hlen2 : (pre ++ post).length = pre.length + 1 + rest.length := by rw [hpost]; simp; omega
        have hfu : rest.length < fuel := by
          have := hcnt listed.toList (fun i hi => by rw [← getD_listed]; exact hn i hi) (by simpa using hl)
          rw [hpost] at this
          have hj2 := cnt_pos (l := listed.toList.take pre.length) (i := j) (by
            rw [List.getElem?_take, if_pos hjp]
            rw [getD_listed] at hjf
            have h4 : j < listed.toList.length := by simp; rw [hlen2] at hl; omega
            rw [List.getElem?_eq_getElem h4] at hjf ⊢
            simpa using hjf)
          have h5 := cnt_append (listed.toList.take pre.length) (listed.toList.drop pre.length)
          rw [List.take_append_drop] at h5
          have h6 := cnt_all (listed.toList.drop pre.length) (fun i => by
            rw [List.getElem?_drop]
            have := hn (pre.length + i) (by omega)
            rw [getD_listed] at this
            exact this)
          simp at h6
          rw [hlen2] at hl
          omega
        unfold wpOp
        simp only [List.getElem?_toArray, ho]
        rw [if_pos (by simp [Region.wanted, hgo])]
        refine .inl (Oper.wp_mono ?_ hq)
        intro a' w' hq'
        have hsz : listed.size = (pre ++ post).length := hl
        have hplt : pre.length < (pre ++ post).length := by rw [hlen2]; omega
        refine late_wp (n := pre.length) (j := j) (by rw [hpost]; simp) hplt hin' hjp (by rw [hat hjp]; exact hoj) hgj (fun e he hb => ?_) hwj (by simpa using hl) (fun t ht htj => ?_) ?_ (fun t ht => ?_) hfu hq'
        · obtain ⟨_, _, _, _, h4, _⟩ := shapely_spec pre 0 [] hs j oj hoj
          have := h4 e he hb
          omega
        · rw [getD_listed, Array.toList_setIfInBounds]
          by_cases htn : pre.length = t
          · subst htn
            rw [List.getElem?_set_self (by simp; omega)]
            rfl
          · rw [List.getElem?_set_ne htn, ← getD_listed]
            exact key t (by omega) htj
        · rw [getD_listed, Array.toList_setIfInBounds, List.getElem?_set_ne (by omega), ← getD_listed]
          exact hjf
        · rw [getD_listed, Array.toList_setIfInBounds, List.getElem?_set_ne (by omega), ← getD_listed]
          exact hn t (by omega)
      have hip : i < pre.length := by omega
      have ho' : pre[i]? = some o := by rw [← hat hip]; exact ho
      obtain ⟨d, k1, k2, _, k4, k5, _⟩ := shapely_spec pre 0 [] hs i o ho'
      have hdi : dstOf pre i = d := by simp [dstOf, ho', k1]
      refine wpOp_mono ?_ (owes i o ho' a w hf.below hf.old (fun e he hb => hf.fact e.on (by have := k4 e he hb; omega) (h3 e he hb)))
      rintro a' w' ⟨hb, v, rfl, hv⟩
      rw [k1]
      refine ih _ _ w' (by simpa using hl) ?_ ?_ ?_ ?_
      · have := cnt_set listed.toList i hli
        rw [Array.toList_setIfInBounds]
        omega
      · intro j oj hoj hj e he hb
        by_cases hji : j = i
        · subst hji
          rw [ho] at hoj
          simp at hoj
          subst hoj
          exact hkeep _ (h3 e he hb)
        · exact hkeep _ (hcl j oj hoj (hback j hji hj) e he hb)
      · intro j hj
        cases hq : (listed.setIfInBounds i true).getD j false with
        | false => rfl
        | true =>
          have := hback j (by omega) hq
          rw [hn j hj] at this
          exact this.symm
      · refine ⟨hf.below.trans (hb.mono hf.below.size), by rw [size_put]; exact hf.size, by rw [defers_put]; exact hf.defers, ?_, ?_⟩
        · intro s hsl
          have hne : d ≠ s := by
            intro h
            subst h
            have := List.all_eq_true.1 hsl o (List.mem_of_getElem? ho')
            rw [k1] at this
            simp at this
          rw [getD_put_ne a d s v hne]
          exact hf.old s hsl
        · intro j hj hdone
          by_cases hji : j = i
          · subst hji
            rw [hdi, getD_put_same a d v (by rw [hf.size]; exact k2)]
            exact hv
          · have hdone' : listed.getD j false = true := hback j hji hdone
            obtain ⟨d', l1, l2, _, _, l5, _⟩ := shapely_spec pre 0 [] hs j pre[j] (List.getElem?_eq_getElem hj)
            have hdj : dstOf pre j = d' := by simp [dstOf, l1, hj]
            have hne : d ≠ d' := by
              intro h
              subst h
              rcases Nat.lt_or_gt_of_ne hji with h | h
              · exact k5 j pre[j] h (List.getElem?_eq_getElem hj) l1
              · exact l5 i o h ho' k1
            have hfj := hf.fact j hj hdone'
            rw [hdj] at hfj ⊢
            rw [getD_put_ne a d d' v hne]
            exact mono j w w' _ hb hfj
end

/-- A region that draws its order, n operations of which come first (but j, which may come behind the store too). -/
theorem region_owes_late {P : Program} {ops post : List Oper} {Q : Exit → Act → World → Prop} {a0 : Act} {w0 : World} {id : Nat} (n j : Nat) (L : List Fact) (T : List Nat) (hm : P.follows .mixedOrders = true) (hp : ops.drop n = post) (hn : n ≤ ops.length) (hs : shapely a0.tmps.size (ops.take n) 0 [] = true)
    (hk : (post.head?.any fun st => sinksL (ops.take n) st j) = true) (hgj : ((ops.take n)[j]?.any fun o => o.guard.isNone) = true) (hwj : ((post.drop 1).head?.any fun x => waitsFor x j) = true) (hin : inLine post n = true)
    (hT : (ops.take n).map (fun o => o.dst.getD 0) = T) (owes : OwesFrom P Q L T a0 w0 0 (ops.take n))
    (fin : ∀ a w, Below w0.heap.size w0 w → a.tmps.size = a0.tmps.size → a.defers = a0.defers → (∀ s, T.contains s = false → a.tmps.getD s undef = a0.tmps.getD s undef) →
      (∀ i, i < T.length → (L.getD i Fact.any).1 w (a.tmps.getD (T.getD i 0) undef)) → TailWp P Q post a w)
    (fin2 : ∀ a w, Below w0.heap.size w0 w → a.tmps.size = a0.tmps.size → a.defers = a0.defers → (∀ s, T.contains s = false → a.tmps.getD s undef = a0.tmps.getD s undef) →
      (∀ i, i < T.length → i ≠ j → (L.getD i Fact.any).1 w (a.tmps.getD (T.getD i 0) undef)) → LateWp P Q ((ops.take n).getD j noOp) post a w) : (Code.region id ops.toArray true).wp P Q a0 w0 := by
  obtain ⟨pre, hpre⟩ : ∃ pre, ops.take n = pre := ⟨_, rfl⟩
  have hops : ops = pre ++ post := by rw [← hpre, ← hp, List.take_append_drop]
  have hlen : pre.length = n := by rw [← hpre]; simp; omega
  rw [hpre] at hs hk hgj hT owes fin2
  rw [← hlen] at hin
  clear hp hn
  obtain ⟨oj, hoj, hgo⟩ : ∃ oj, pre[j]? = some oj ∧ oj.guard = none := by
    cases hq : pre[j]? with
    | none => rw [hq] at hgj; simp at hgj
    | some o => rw [hq] at hgj; exact ⟨o, rfl, by simpa using hgj⟩
  have hpos : ∃ st, post = st :: post.drop 1 ∧ sinksL pre st j = true := by
    cases post with
    | nil => simp at hk
    | cons st l => exact ⟨st, rfl, by simpa using hk⟩
  have hjd : pre.getD j noOp = oj := by simp [List.getD_eq_getElem?_getD, hoj]
  rw [hjd] at fin2
  subst hops
  refine wp_region_any hm (facts_late (F := fun i => (L.getD i Fact.any).1) (a0 := a0) (w0 := w0) hs hoj hgo hpos hwj hin (fun i w w' v hb h => (L.getD i Fact.any).2 w w' v hb h) ?_ ?_ ?_ _ _ a0 _ (by simp) ?_ ?_ ?_ ?_)
  · intro i o ho a w hb hold hdeps
    have hown := owes.at i o ho
    rw [Nat.zero_add] at hown
    have hlen : i < pre.length := (List.getElem?_eq_some_iff.1 ho).1
    obtain ⟨d, k1, k2, _, k4, _, k6⟩ := shapely_spec pre 0 [] hs i o ho
    have hw := hown a w hb (fun s h => hold s (table_apart hT s h)) (fun j hj => by
      obtain ⟨e, he, hej⟩ := List.any_eq_true.1 hj
      have he : e ∈ o.after := by simpa using he
      simp only [Bool.and_eq_true, beq_iff_eq] at hej
      have := hdeps e he hej.2
      have hlt := k4 e he hej.2
      rw [hej.1, table_at hT j (by omega)] at this
      exact this)
    have hat : ∀ {i : Nat}, i < pre.length → (pre ++ post)[i]? = pre[i]? := fun hi => List.getElem?_append_left hi
    have hslot : ∀ g : Nat, g < pre.length → yielded (pre ++ post).toArray a.tmps g = (match a.tmps.getD (T.getD g 0) undef with | .bool b => some b | _ => none) := by
      intro g hg
      obtain ⟨d', l1, _⟩ := shapely_spec pre 0 [] hs g pre[g] (List.getElem?_eq_getElem hg)
      have hd' : T.getD g 0 = d' := by rw [← table_at hT g hg]; simp [dstOf, hg, l1]
      rw [hd', Array.getD_eq_getD_getElem?]
      unfold yielded
      simp only [List.getElem?_toArray, hat hg, List.getElem?_eq_getElem hg, Option.bind_some, l1]
      cases h : a.tmps[d']? with
      | none => rfl
      | some x => cases x <;> rfl
    unfold wpOp
    simp only [List.getElem?_toArray, hat hlen, ho]
    rcases hw with ⟨hg, hw⟩ | ⟨⟨g, hgd, hne⟩, hu⟩
    · rw [if_pos]
      · exact .inl hw
      · unfold Region.wanted
        cases hgd : o.guard with
        | none => rfl
        | some g =>
          have hv := hg _ hgd
          have hy := hslot g.1 (by have := k6 g hgd; omega)
          rw [hv] at hy
          show (yielded (pre ++ post).toArray a.tmps g.1 == some g.2) = true
          rw [hy]
          simp
    · rw [if_neg]
      · exact ⟨Below.refl _ _, undef, rfl, hu⟩
      · unfold Region.wanted
        rw [hgd]
        have hy := hslot g.1 (by have := k6 g hgd; omega)
        show ¬ (yielded (pre ++ post).toArray a.tmps g.1 == some g.2) = true
        rw [hy]
        intro hh
        apply hne
        generalize a.tmps.getD (T.getD g.1 0) undef = x at hh ⊢
        cases x <;> simp_all
  · intro a w hf
    exact fin a w hf.below hf.size hf.defers (fun s h => hf.old s (table_apart hT s h)) (fun i hi => by
      have hi' : i < pre.length := by rw [← hT] at hi; simpa using hi
      have := hf.fact i hi' trivial
      rwa [table_at hT i hi'] at this)
  · intro a w hf
    exact fin2 a w hf.below hf.size hf.defers (fun s h => hf.old s (table_apart hT s h)) (fun i hi hij => by
      have hi' : i < pre.length := by rw [← hT] at hi; simpa using hi
      have := hf.fact i hi' hij
      rwa [table_at hT i hi'] at this)
  · have : ∀ n, cnt (List.replicate n false) = n := by
      intro n
      induction n with
      | zero => rfl
      | succ n ih => simp [List.replicate_succ, cnt, ih]; omega
    simp [this]
  · intro j o ho h
    have hj : j < (pre ++ post).length := (List.getElem?_eq_some_iff.1 ho).1
    rw [getD_listed] at h
    simp only [List.length_append] at hj
    simp [hj] at h
  · intro i hi
    rw [getD_listed]
    simp only [Array.toList_replicate]
    by_cases hlt : i < pre.length + post.length
    · simp [hlt]
    · rw [List.getElem?_eq_none (by simp; omega)]
      rfl
  · refine ⟨(Below.refl _ _).drew, rfl, rfl, fun _ _ => rfl, ?_⟩
    intro i hi h
    rw [getD_listed] at h
    have hj : i < pre.length + post.length := by omega
    simp [hj] at h


end Go.Proofs.Ytlackjldopeigaa
