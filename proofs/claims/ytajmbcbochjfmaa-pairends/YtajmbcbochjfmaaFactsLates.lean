/-
  A region that draws its order (FactsTail), some operations of which may come up behind the first of the last ones, too ('a, b, c := f(..)': b and c are drawn out ahead of a's store, or behind it, in any order).
-/
import Derived.Test.YtajmbcbochjfmaaFactsLate
namespace Go.Proofs.Ytajmbcbochjfmaa
open Go.RowKit
set_option linter.unusedVariables false
set_option linter.unusedSimpArgs false

/-- Each of the first ones but J's is waited for by one that stands behind it (not of J), or by the first of the last ones. -/
def sinksJ (pre : List Oper) (st : Oper) (J : List Nat) : Bool :=
  (List.range pre.length).all fun i => (J.contains i || waitsFor st i) || (List.range pre.length).any fun t => (decide (i < t) && !J.contains t) && waits pre t i
/-- J's have no guard, and wait for none of J. -/
def lateOk (pre : List Oper) (J : List Nat) : Bool :=
  J.all fun j => match pre[j]? with
    | some o => o.guard.isNone && o.after.all (fun e => !Region.binds .any e || (decide (e.on < pre.length) && !J.contains e.on))
    | none => false
def AllF (p : Nat → Prop) : List Nat → Prop
  | [] => True
  | x :: l => p x ∧ AllF p l
theorem AllF.at {p : Nat → Prop} : ∀ {l : List Nat}, AllF p l → ∀ x ∈ l, p x
  | [], _, x, hx => by simp at hx
  | y :: l, h, x, hx => by
    rcases List.mem_cons.1 hx with rfl | hx
    · exact h.1
    · exact h.2.at x hx
/-- The last ones, in their order, and among them the late ones, in any order: each ahead of what waits for it. -/
def LatesWp (P : Program) (Q : Exit → Act → World → Prop) (ops : List Oper) : Nat → List Nat → List Oper → Act → World → Prop
  | 0, _, _, a, w => Q .normal a w
  | k + 1, fl, rest, a, w =>
    (match rest with
      | [] => True
      | o :: l => (fl.all fun f => !waitsFor o f) = true → o.wp P a w (fun a' w' => LatesWp P Q ops k fl l a' w') Q) ∧
    AllF (fun f => (ops.getD f noOp).wp P a w (fun a' w' => LatesWp P Q ops k (fl.erase f) rest a' w') Q) fl
/-- The first of the last ones, then the others and the late ones that were not. -/
def LatesTop (P : Program) (Q : Exit → Act → World → Prop) (ops : List Oper) (fl : List Nat) : List Oper → Act → World → Prop
  | [], _, _ => False
  | st :: rest, a, w => st.wp P a w (fun a' w' => LatesWp P Q ops (fl.length + rest.length) fl rest a' w') Q

section
variable {P : Program} {Q : Exit → Act → World → Prop}

theorem lates_wp {ops : List Oper} {J : List Nat} {n : Nat} (hJ : ∀ f ∈ J, f < n ∧ ∃ o, ops[f]? = some o ∧ o.guard = none ∧ ∀ e ∈ o.after, Region.binds .any e = true → e.on < n ∧ J.contains e.on = false) : ∀ (k : Nat) (fl : List Nat) (rest : List Oper) (m fuel : Nat) (listed : Array Bool) (a : Act) (w : World), k = fl.length + rest.length → ops.drop m = rest → m ≤ ops.length → n ≤ m → inLine rest m = true → fl.Nodup → (∀ f ∈ fl, f ∈ J) → listed.size = ops.length →
    (∀ i, i < m → i ∉ fl → listed.getD i false = true) → (∀ i ∈ fl, listed.getD i false = false) → (∀ i, m ≤ i → listed.getD i false = false) → k ≤ fuel → LatesWp P Q ops k fl rest a w → wpAny P .any ops.toArray Q fuel listed a w := by
  intro k
  induction k with
  | zero =>
    intro fl rest m fuel listed a w hk hd hm hnm hin hnd hsub hl h1 h2 h3 hf hq
    have hr : rest = [] := List.length_eq_zero_iff.1 (by omega)
    have hfl : fl = [] := List.length_eq_zero_iff.1 (by omega)
    subst hr hfl
    have he : m = ops.length := by have := congrArg List.length hd; simp at this; omega
    have hnone : Region.ready .any ops.toArray listed = [] := by
      apply List.eq_nil_iff_forall_not_mem.2
      intro i hi
      obtain ⟨g1, g2, _⟩ := mem_ready.1 hi
      have := h1 i (by omega) (by simp)
      rw [getD_listed] at this g2
      cases hq : listed.toList[i]? with
      | none => rw [hq] at this; simp at this
      | some b => rw [hq] at this g2; simp at this g2; rw [this] at g2; simp at g2
    cases fuel with
    | zero => exact ⟨hnone, hq⟩
    | succ fuel => exact ⟨fun _ => hq, fun i hi => by rw [hnone] at hi; simp at hi⟩
  | succ k ih =>
    intro fl rest m fuel listed a w hk hd hm hnm hin hnd hsub hl h1 h2 h3 hf hq
    have hfn : ∀ i, listed.getD i true = false ↔ listed.getD i false = false ∧ i < ops.length := by
      intro i
      rw [getD_listed, getD_listed]
      cases hq : listed.toList[i]? with
      | none =>
        have : ¬ i < ops.length := by
          intro hlt
          rw [List.getElem?_eq_none_iff] at hq
          simp at hq
          omega
        simp [this]
      | some b =>
        have : i < ops.length := by
          have := (List.getElem?_eq_some_iff.1 hq).1
          simp at this
          omega
        simp [this]
    have hfready : ∀ f ∈ fl, f ∈ Region.ready .any ops.toArray listed := by
      intro f hf
      obtain ⟨g1, o, g2, g3, g4⟩ := hJ f (hsub f hf)
      refine mem_ready.2 ⟨by omega, (hfn f).2 ⟨h2 f hf, by omega⟩, o, g2, ?_⟩
      intro e he hb
      obtain ⟨g5, g6⟩ := g4 e he hb
      exact h1 e.on (by omega) (fun hc => by
        have : J.contains e.on = true := by simpa using hsub _ hc
        rw [g6] at this
        simp at this)
    have hset : ∀ (i : Nat), (hi : i < ops.length) → ∀ t, (listed.setIfInBounds i true).getD t false = if t = i then true else listed.getD t false := by
      intro i hi t
      rw [getD_listed, Array.toList_setIfInBounds]
      by_cases hti : t = i
      · subst hti
        rw [if_pos rfl, List.getElem?_set_self (by simp; omega)]
        rfl
      · rw [if_neg hti, List.getElem?_set_ne (fun e => hti e.symm), ← getD_listed]
    have hsome : Region.ready .any ops.toArray listed ≠ [] := by
      intro hr
      cases fl with
      | cons f fl' => have := hfready f (by simp); rw [hr] at this; simp at this
      | nil =>
        cases rest with
        | nil => simp at hk
        | cons o l =>
          have hlen : m < ops.length := by have := congrArg List.length hd; simp at this; omega
          have ho : ops[m]? = some o := by
            have := congrArg (fun x => x[0]?) hd
            simpa using this
          rw [inLine] at hin
          simp only [Bool.and_eq_true] at hin
          obtain ⟨⟨⟨hg, haft⟩, _⟩, _⟩ := hin
          have : m ∈ Region.ready .any ops.toArray listed := by
            refine mem_ready.2 ⟨hlen, (hfn m).2 ⟨h3 m (Nat.le_refl _), hlen⟩, o, ho, ?_⟩
            intro e he hb
            rw [Array.all_eq_true_iff_forall_mem] at haft
            have := haft e he
            rw [hb] at this
            simp at this
            exact h1 e.on this (by simp)
          rw [hr] at this
          simp at this
    cases fuel with
    | zero => omega
    | succ fuel =>
      refine ⟨fun hr => absurd hr hsome, ?_⟩
      intro i hi
      obtain ⟨g1, g2, oi, hoi, g3⟩ := mem_ready.1 hi
      have g1 : i < ops.length := g1
      by_cases hif : i ∈ fl
      · obtain ⟨_, o, hof, hgf, _⟩ := hJ i (hsub i hif)
        have hw := hq.2.at i hif
        have heq : ops.getD i noOp = o := by simp [List.getD_eq_getElem?_getD, hof]
        rw [heq] at hw
        unfold wpOp
        simp only [List.getElem?_toArray, hof]
        rw [if_pos (by simp [Region.wanted, hgf])]
        refine .inl (Oper.wp_mono ?_ hw)
        intro a' w' hq'
        refine ih (fl.erase i) rest m fuel _ a' w' (by rw [List.length_erase_of_mem hif]; have := List.length_pos_of_mem hif; omega) hd hm hnm hin (hnd.erase i) (fun f hf => hsub f (List.mem_of_mem_erase hf)) (by simpa using hl) ?_ ?_ ?_ (by omega) hq'
        · intro t ht htf
          rw [hset i g1]
          by_cases hti : t = i
          · rw [if_pos hti]
          · rw [if_neg hti]
            exact h1 t ht (fun hc => htf ((List.mem_erase_of_ne hti).2 hc))
        · intro t ht
          have hti : t ≠ i := fun e => by
            subst e
            exact hnd.not_mem_erase ht
          rw [hset i g1, if_neg hti]
          exact h2 t (List.mem_of_mem_erase ht)
        · intro t ht
          have hti : t ≠ i := fun e => by have := (hJ i (hsub i hif)).1; omega
          rw [hset i g1, if_neg hti]
          exact h3 t ht
      · have him : m ≤ i := by
          rcases Nat.lt_or_ge i m with h | h
          · have h4 := h1 i h hif
            rw [((hfn i).1 g2).1] at h4
            simp at h4
          · exact h
        have hgt : ¬ m < i := by
          intro hlt
          have key : ∀ (l : List Oper) (m' : Nat), ops.drop m' = l → inLine l m' = true → m' < i → m ≤ m' → False := by
            intro l
            induction l with
            | nil =>
              intro m' hd _ hm _
              have := congrArg List.length hd
              simp at this
              omega
            | cons x l ihl =>
              intro m' hd hin hm hnm
              have hrest : ops.drop (m' + 1) = l := by
                have := congrArg List.tail hd
                simpa using this
              rw [inLine] at hin
              simp only [Bool.and_eq_true] at hin
              obtain ⟨⟨_, hnext⟩, hin'⟩ := hin
              by_cases hmi : m' + 1 = i
              · have hhead : l.head? = some oi := by rw [← hrest, List.head?_drop, hmi, hoi]
                rw [hhead] at hnext
                simp only [Option.all_some] at hnext
                unfold waitsFor at hnext
                obtain ⟨e, he, hej⟩ := List.any_eq_true.1 hnext
                simp only [Bool.and_eq_true, beq_iff_eq] at hej
                have := g3 e (by simpa using he) hej.2
                rw [hej.1, h3 m' hnm] at this
                simp at this
              · exact ihl (m' + 1) hrest hin' (by omega) (by omega)
          exact key rest m hd hin hlt (Nat.le_refl _)
        obtain rfl : i = m := by omega
        cases rest with
        | nil => have := congrArg List.length hd; simp at this; omega
        | cons o l =>
          have ho : oi = o := by
            have := congrArg (fun x => x[0]?) hd
            simp [hoi] at this
            exact this
          subst ho
          have hrest : ops.drop (i + 1) = l := by
            have := congrArg List.tail hd
            simpa using this
          rw [inLine] at hin
          simp only [Bool.and_eq_true] at hin
          obtain ⟨⟨⟨hg, _⟩, _⟩, hin'⟩ := hin
          have hall : (fl.all fun f => !waitsFor oi f) = true := by
            rw [List.all_eq_true]
            intro f hf
            cases hwf : waitsFor oi f with
            | false => rfl
            | true =>
              exfalso
              unfold waitsFor at hwf
              obtain ⟨e, he, hej⟩ := List.any_eq_true.1 hwf
              simp only [Bool.and_eq_true, beq_iff_eq] at hej
              have := g3 e (by simpa using he) hej.2
              rw [hej.1, h2 f hf] at this
              simp at this
          have hw := hq.1 hall
          have hgo : oi.guard = none := by simpa using hg
          unfold wpOp
          simp only [List.getElem?_toArray, hoi]
          rw [if_pos (by simp [Region.wanted, hgo])]
          refine .inl (Oper.wp_mono ?_ hw)
          intro a' w' hq'
          refine ih fl l (i + 1) fuel _ a' w' (by simp at hk; omega) hrest (by omega) (by omega) hin' hnd hsub (by simpa using hl) ?_ ?_ ?_ (by omega) hq'
          · intro t ht htf
            rw [hset i g1]
            by_cases hti : t = i
            · rw [if_pos hti]
            · rw [if_neg hti]
              exact h1 t (by omega) htf
          · intro t ht
            have hti : t ≠ i := fun e => hif (e ▸ ht)
            rw [hset i g1, if_neg hti]
            exact h2 t ht
          · intro t ht
            rw [hset i g1, if_neg (by omega)]
            exact h3 t (by omega)

theorem cnt_many : ∀ {l : List Nat} {m : List Bool}, l.Nodup → (∀ t ∈ l, m[t]? = some false) → l.length ≤ cnt m
  | [], _, _, _ => by simp
  | x :: l, m, hn, h => by
    have h1 := cnt_set m x (h x (by simp))
    have h2 : l.length ≤ cnt (m.set x true) := cnt_many (List.nodup_cons.1 hn).2 fun t ht => by
      have hne : x ≠ t := fun e => (List.nodup_cons.1 hn).1 (e ▸ ht)
      rw [List.getElem?_set_ne hne]
      exact h t (by simp [ht])
    simp
    omega

variable {pre post : List Oper} {F : Nat → World → Value → Prop} {a0 : Act} {w0 : World}

theorem facts_lates {J : List Nat} {rest : List Oper} (hs : shapely a0.tmps.size pre 0 [] = true) (hJ : lateOk pre J = true) (hnd : J.Nodup) (hpos : ∃ st, post = st :: rest ∧ sinksJ pre st J = true) (hin : inLine post pre.length = true) (mono : ∀ i w w' v, Below w.heap.size w w' → F i w v → F i w' v)
    (owes : ∀ i o, pre[i]? = some o → ∀ a w, Below w0.heap.size w0 w → (∀ s, apart pre s = true → a.tmps.getD s undef = a0.tmps.getD s undef) → (∀ e ∈ o.after, Region.binds .any e = true → F e.on w (a.tmps.getD (dstOf pre e.on) undef)) →
      wpOp P (pre ++ post).toArray Q i (fun a' w' => Below w.heap.size w w' ∧ ∃ v, a' = a.put o.dst v ∧ F i w' v) a w)
    (fin : ∀ (D : Nat → Bool) a w, FitsE pre F a0 w0 (fun i => J.contains i = false ∨ D i = true) a w → LatesTop P Q (pre ++ post) (J.filter fun j => !D j) post a w) :
    ∀ (fuel : Nat) (listed : Array Bool) (a : Act) (w : World), listed.size = (pre ++ post).length → cnt listed.toList ≤ fuel → Closed (pre ++ post) listed → (∀ i, pre.length ≤ i → listed.getD i false = false) → FitsE pre F a0 w0 (fun i => listed.getD i false = true) a w → wpAny P .any (pre ++ post).toArray Q fuel listed a w := by
  obtain ⟨st, hpost, hk⟩ := hpos
  have hat : ∀ {i : Nat}, i < pre.length → (pre ++ post)[i]? = pre[i]? := fun hi => List.getElem?_append_left hi
  have hcnt : ∀ l : List Bool, (∀ i : Nat, pre.length ≤ i → l[i]?.getD false = false) → l.length = (pre ++ post).length → post.length ≤ cnt l := by
    intro l h hlen
    have hge : ∀ (m : List Bool), (∀ i : Nat, m[i]?.getD false = false) → cnt m = m.length := by
      intro m
      induction m with
      | nil => intro _; rfl
      | cons b m ih =>
        intro hm
        have h0 : b = false := by simpa using hm 0
        subst h0
        have := ih fun i => by simpa using hm (i + 1)
        simp [cnt, this]
        omega
    have happ : ∀ (x y : List Bool), cnt (x ++ y) = cnt x + cnt y := by
      intro x y
      induction x with
      | nil => simp [cnt]
      | cons b x ih => simp [cnt, ih]; omega
    have h1 := hge (l.drop pre.length) fun i => by
      rw [List.getElem?_drop]
      exact h (pre.length + i) (by omega)
    have h2 := happ (l.take pre.length) (l.drop pre.length)
    rw [List.take_append_drop, h1] at h2
    simp at h2 hlen
    omega
  intro fuel
  induction fuel with
  | zero =>
    intro listed a w hl hc hcl hn hf
    have := hcnt listed.toList (fun i hi => by rw [← getD_listed]; exact hn i hi) (by simpa using hl)
    rw [hpost] at this
    simp at this
    omega
  | succ fuel ih =>
    intro listed a w hl hc hcl hn hf
    refine ⟨?_, ?_⟩
    · intro hr
      exfalso
      have hall : ∀ i, i < pre.length → listed.getD i false = true := by
        intro i
        induction i using Nat.strongRecOn with
        | _ i ih' =>
          intro hi
          cases hc' : listed.getD i true with
          | true =>
            have h1 : i < listed.size := by simp at hl; omega
            simp only [Array.getD, h1, dif_pos] at hc' ⊢
            exact hc'
          | false =>
            have hm : i ∈ Region.ready .any (pre ++ post).toArray listed := by
              refine mem_ready.2 ⟨by simp; omega, hc', pre[i], by rw [hat hi]; exact List.getElem?_eq_getElem hi, ?_⟩
              intro e he hb
              obtain ⟨d, _, _, _, h4, _⟩ := shapely_spec pre 0 [] hs i pre[i] (List.getElem?_eq_getElem hi)
              have := h4 e he hb
              exact ih' e.on (by omega) (by omega)
            rw [hr] at hm
            simp at hm
      have hst : (pre ++ post)[pre.length]? = some st := by rw [hpost]; simp
      have hlen2 : (pre ++ post).length = pre.length + 1 + rest.length := by rw [hpost]; simp; omega
      have hm : pre.length ∈ Region.ready .any (pre ++ post).toArray listed := by
        refine mem_ready.2 ⟨by simp at hlen2 ⊢; omega, ?_, st, hst, ?_⟩
        · have h5 := hn pre.length (Nat.le_refl _)
          rw [getD_listed] at h5 ⊢
          have h6 : pre.length < listed.toList.length := by simp; omega
          rw [List.getElem?_eq_getElem h6] at h5 ⊢
          simpa using h5
        · intro e he hb
          rw [hpost, inLine] at hin
          simp only [Bool.and_eq_true] at hin
          have h5 := hin.1.1.2
          rw [Array.all_eq_true_iff_forall_mem] at h5
          have := h5 e he
          rw [hb] at this
          simp at this
          exact hall e.on this
      rw [hr] at hm
      simp at hm
    · intro i hi
      obtain ⟨h1, h2, o, ho, h3⟩ := mem_ready.1 hi
      have hli : listed.toList[i]? = some false := by
        rw [getD_listed] at h2
        have h4 : i < listed.toList.length := by simp at h1 hl; simp; omega
        rw [List.getElem?_eq_getElem h4] at h2 ⊢
        simpa using h2
      have hkeep : ∀ j, listed.getD j false = true → (listed.setIfInBounds i true).getD j false = true := by
        intro j hj
        rw [getD_listed] at hj ⊢
        rw [Array.toList_setIfInBounds]
        by_cases hji : i = j
        · subst hji; rw [hli] at hj; simp at hj
        · rw [List.getElem?_set_ne hji]; exact hj
      have hback : ∀ j, j ≠ i → (listed.setIfInBounds i true).getD j false = true → listed.getD j false = true := by
        intro j hji hj
        rw [getD_listed] at hj ⊢
        rw [Array.toList_setIfInBounds, List.getElem?_set_ne (Ne.symm hji)] at hj
        exact hj
      have hgt : ¬ pre.length < i := by
        intro hlt
        have key : ∀ (l : List Oper) (m : Nat), (pre ++ post).drop m = l → inLine l m = true → m < i → pre.length ≤ m → False := by
          intro l
          induction l with
          | nil =>
            intro m hd _ hm _
            have := congrArg List.length hd
            rw [List.length_drop, List.length_nil] at this
            omega
          | cons x l ihl =>
            intro m hd hin hm hnm
            have hrest : (pre ++ post).drop (m + 1) = l := by
              have := congrArg List.tail hd
              rw [List.tail_drop, List.tail_cons] at this
              exact this
            rw [inLine] at hin
            simp only [Bool.and_eq_true] at hin
            obtain ⟨⟨_, hnext⟩, hin'⟩ := hin
            by_cases hmi : m + 1 = i
            · have hhead : l.head? = some o := by
                rw [← hrest, List.head?_drop, hmi, ho]
              rw [hhead] at hnext
              simp only [Option.all_some] at hnext
              unfold waitsFor at hnext
              obtain ⟨e, he, hej⟩ := List.any_eq_true.1 hnext
              simp only [Bool.and_eq_true, beq_iff_eq] at hej
              have := h3 e (by simpa using he) hej.2
              rw [hej.1, hn m hnm] at this
              simp at this
            · exact ihl (m + 1) hrest hin' (by omega) (by omega)
        exact key post pre.length (by simp) hin hlt (Nat.le_refl _)
      by_cases hin0 : i = pre.length
      · subst hin0
        have hos : o = st := by
          rw [hpost] at ho
          simp at ho
          exact ho.symm
        subst hos
        unfold sinksJ at hk
        rw [List.all_eq_true] at hk
        have key : ∀ d t, t + d = pre.length → t < pre.length → J.contains t = false → listed.getD t false = true := by
          intro d
          induction d using Nat.strongRecOn with
          | _ d ihd =>
            intro t htd ht htj
            have h := hk t (List.mem_range.2 ht)
            rw [Bool.or_eq_true, Bool.or_eq_true] at h
            rcases h with (h | h) | h
            · rw [htj] at h; simp at h
            · unfold waitsFor at h
              obtain ⟨e, he, hej⟩ := List.any_eq_true.1 h
              simp only [Bool.and_eq_true, beq_iff_eq] at hej
              rw [← hej.1]
              exact h3 e (by simpa using he) hej.2
            · obtain ⟨x, hx, hxt⟩ := List.any_eq_true.1 h
              rw [List.mem_range] at hx
              simp only [Bool.and_eq_true, decide_eq_true_eq, Bool.not_eq_true'] at hxt
              have hlt := ihd (pre.length - x) (by omega) x (by omega) hx hxt.1.2
              have hw := hxt.2
              unfold waits at hw
              rw [List.getElem?_eq_getElem hx] at hw
              simp only [Option.map_some, Option.getD_some, List.any_eq_true, Bool.and_eq_true, beq_iff_eq] at hw
              obtain ⟨e, he, hei, hb⟩ := hw
              have := hcl x pre[x] (by rw [hat hx]; exact List.getElem?_eq_getElem hx) hlt e (by simpa using he) hb
              rw [← hei]
              exact this
        have key : ∀ t, t < pre.length → J.contains t = false → listed.getD t false = true := fun t ht htj => key (pre.length - t) t (by omega) ht htj
        have hq := fin (fun t => listed.getD t false) a w ⟨hf.below, hf.size, hf.defers, hf.old, fun t ht htj => hf.fact t ht (by
          rcases htj with htj | htj
          · exact key t ht htj
          · exact htj)⟩
        rw [hpost] at hq
        rw [← hpost] at hq
        obtain ⟨fl0, hfl⟩ : ∃ fl0, (J.filter fun j => !listed.getD j false) = fl0 := ⟨_, rfl⟩
        rw [hfl] at hq
        have hmem : ∀ t, t ∈ fl0 ↔ t ∈ J ∧ listed.getD t false = false := fun t => by rw [← hfl, List.mem_filter]; simp
        have hq : o.wp P a w (fun a' w' => LatesWp P Q (pre ++ post) (fl0.length + rest.length) fl0 rest a' w') Q := by
          have : LatesTop P Q (pre ++ post) fl0 (o :: rest) a w := by rw [← hpost]; exact hq
          exact this
        have hin' : inLine rest (pre.length + 1) = true := by
          rw [hpost, inLine] at hin
          simp only [Bool.and_eq_true] at hin
          exact hin.2
        have hgo : o.guard = none := by
          rw [hpost, inLine] at hin
          simp only [Bool.and_eq_true] at hin
          simpa using hin.1.1.1
        have hlen2 : (pre ++ post).length = pre.length + 1 + rest.length := by rw [hpost]; simp; omega
        have hJJ : ∀ f ∈ J, f < pre.length ∧ ∃ o, (pre ++ post)[f]? = some o ∧ o.guard = none ∧ ∀ e ∈ o.after, Region.binds .any e = true → e.on < pre.length ∧ J.contains e.on = false := by
          intro f hf
          unfold lateOk at hJ
          rw [List.all_eq_true] at hJ
          have h := hJ f hf
          cases hp : pre[f]? with
          | none => rw [hp] at h; simp at h
          | some of =>
            rw [hp] at h
            simp only [Bool.and_eq_true] at h
            have hfp : f < pre.length := (List.getElem?_eq_some_iff.1 hp).1
            refine ⟨hfp, of, by rw [hat hfp]; exact hp, by simpa using h.1, ?_⟩
            intro e he hb
            have h5 := h.2
            rw [Array.all_eq_true_iff_forall_mem] at h5
            have := h5 e he
            rw [hb] at this
            simp at this
            exact ⟨this.1, by simpa using this.2⟩
        have hfu : fl0.length + rest.length ≤ fuel := by
          have h4 := hcnt listed.toList (fun i hi => by rw [← getD_listed]; exact hn i hi) (by simpa using hl)
          have h5 := cnt_append (listed.toList.take pre.length) (listed.toList.drop pre.length)
          rw [List.take_append_drop] at h5
          have h6 := cnt_all (listed.toList.drop pre.length) (fun i => by
            rw [List.getElem?_drop]
            have := hn (pre.length + i) (by omega)
            rw [getD_listed] at this
            exact this)
          have h7 : fl0.length ≤ cnt (listed.toList.take pre.length) := by
            refine cnt_many (hnd.filter _ |> fun h => by rw [hfl] at h; exact h) fun t ht => ?_
            obtain ⟨h8, h9⟩ := (hmem t).1 ht
            have h10 := (hJJ t h8).1
            rw [List.getElem?_take, if_pos h10]
            rw [getD_listed] at h9
            have h11 : t < listed.toList.length := by simp; omega
            rw [List.getElem?_eq_getElem h11] at h9 ⊢
            simpa using h9
          simp at h6
          omega
        unfold wpOp
        simp only [List.getElem?_toArray, ho]
        rw [if_pos (by simp [Region.wanted, hgo])]
        refine .inl (Oper.wp_mono ?_ hq)
        intro a' w' hq'
        have hset : ∀ t, (listed.setIfInBounds pre.length true).getD t false = if t = pre.length then true else listed.getD t false := by
          intro t
          rw [getD_listed, Array.toList_setIfInBounds]
          by_cases hti : t = pre.length
          · subst hti
            rw [if_pos rfl, List.getElem?_set_self (by simp; omega)]
            rfl
          · rw [if_neg hti, List.getElem?_set_ne (fun e => hti e.symm), ← getD_listed]
        refine lates_wp (J := J) (n := pre.length) hJJ (fl0.length + rest.length) fl0 rest (pre.length + 1) fuel _ a' w' rfl (by rw [hpost]; simp) (by omega) (by omega) hin' (by rw [← hfl]; exact hnd.filter _) (fun f hf => ((hmem f).1 hf).1) (by simpa using hl) ?_ ?_ ?_ hfu hq'
        · intro t ht htf
          rw [hset]
          by_cases htn : t = pre.length
          · rw [if_pos htn]
          · rw [if_neg htn]
            by_cases htJ : t ∈ J
            · cases hc : listed.getD t false with
              | true => rfl
              | false => exact absurd ((hmem t).2 ⟨htJ, hc⟩) htf
            · exact key t (by omega) (by simpa using htJ)
        · intro t ht
          obtain ⟨h8, h9⟩ := (hmem t).1 ht
          have := (hJJ t h8).1
          rw [hset, if_neg (by omega)]
          exact h9
        · intro t ht
          rw [hset, if_neg (by omega)]
          exact hn t (by omega)
      have hip : i < pre.length := by omega
      have ho' : pre[i]? = some o := by rw [← hat hip]; exact ho
      obtain ⟨d, k1, k2, _, k4, k5, _⟩ := shapely_spec pre 0 [] hs i o ho'
      have hdi : dstOf pre i = d := by simp [dstOf, ho', k1]
      refine wpOp_mono ?_ (owes i o ho' a w hf.below hf.old (fun e he hb => hf.fact e.on (by have := k4 e he hb; omega) (h3 e he hb)))
      rintro a' w' ⟨hb, v, rfl, hv⟩
      rw [k1]
      refine ih _ _ w' (by simpa using hl) ?_ ?_ ?_ ?_
      · have := cnt_set listed.toList i hli
        rw [Array.toList_setIfInBounds]
        omega
      · intro j oj hoj hj e he hb
        by_cases hji : j = i
        · subst hji
          rw [ho] at hoj
          simp at hoj
          subst hoj
          exact hkeep _ (h3 e he hb)
        · exact hkeep _ (hcl j oj hoj (hback j hji hj) e he hb)
      · intro j hj
        cases hq : (listed.setIfInBounds i true).getD j false with
        | false => rfl
        | true =>
          have := hback j (by omega) hq
          rw [hn j hj] at this
          exact this.symm
      · refine ⟨hf.below.trans (hb.mono hf.below.size), by rw [size_put]; exact hf.size, by rw [defers_put]; exact hf.defers, ?_, ?_⟩
        · intro s hsl
          have hne : d ≠ s := by
            intro h
            subst h
            have := List.all_eq_true.1 hsl o (List.mem_of_getElem? ho')
            rw [k1] at this
            simp at this
          rw [getD_put_ne a d s v hne]
          exact hf.old s hsl
        · intro j hj hdone
          by_cases hji : j = i
          · subst hji
            rw [hdi, getD_put_same a d v (by rw [hf.size]; exact k2)]
            exact hv
          · have hdone' : listed.getD j false = true := hback j hji hdone
            obtain ⟨d', l1, l2, _, _, l5, _⟩ := shapely_spec pre 0 [] hs j pre[j] (List.getElem?_eq_getElem hj)
            have hdj : dstOf pre j = d' := by simp [dstOf, l1, hj]
            have hne : d ≠ d' := by
              intro h
              subst h
              rcases Nat.lt_or_gt_of_ne hji with h | h
              · exact k5 j pre[j] h (List.getElem?_eq_getElem hj) l1
              · exact l5 i o h ho' k1
            have hfj := hf.fact j hj hdone'
            rw [hdj] at hfj ⊢
            rw [getD_put_ne a d d' v hne]
            exact mono j w w' _ hb hfj
end

/-- A region that draws its order, n operations of which come first (but J's, which may come behind the store too). -/
theorem region_owes_lates {P : Program} {ops post : List Oper} {Q : Exit → Act → World → Prop} {a0 : Act} {w0 : World} {id : Nat} (n : Nat) (J : List Nat) (L : List Fact) (T : List Nat) (hm : P.follows .mixedOrders = true) (hp : ops.drop n = post) (hn : n ≤ ops.length) (hs : shapely a0.tmps.size (ops.take n) 0 [] = true)
    (hk : (post.head?.any fun st => sinksJ (ops.take n) st J) = true) (hJ : lateOk (ops.take n) J = true) (hnd : J.Nodup) (hin : inLine post n = true)
    (hT : (ops.take n).map (fun o => o.dst.getD 0) = T) (owes : OwesFrom P Q L T a0 w0 0 (ops.take n))
    (fin : ∀ (D : Nat → Bool) a w, Below w0.heap.size w0 w → a.tmps.size = a0.tmps.size → a.defers = a0.defers → (∀ s, T.contains s = false → a.tmps.getD s undef = a0.tmps.getD s undef) →
      (∀ i, i < T.length → (J.contains i = false ∨ D i = true) → (L.getD i Fact.any).1 w (a.tmps.getD (T.getD i 0) undef)) → LatesTop P Q ops (J.filter fun j => !D j) post a w) : (Code.region id ops.toArray true).wp P Q a0 w0 := by
  obtain ⟨pre, hpre⟩ : ∃ pre, ops.take n = pre := ⟨_, rfl⟩
  have hops : ops = pre ++ post := by rw [← hpre, ← hp, List.take_append_drop]
  have hlen : pre.length = n := by rw [← hpre]; simp; omega
  rw [hpre] at hs hk hJ hT owes
  rw [← hlen] at hin
  clear hp hn
  have hpos : ∃ st, post = st :: post.drop 1 ∧ sinksJ pre st J = true := by
    cases post with
    | nil => simp at hk
    | cons st l => exact ⟨st, rfl, by simpa using hk⟩
  subst hops
  refine wp_region_any hm (facts_lates (F := fun i => (L.getD i Fact.any).1) (a0 := a0) (w0 := w0) hs hJ hnd hpos hin (fun i w w' v hb h => (L.getD i Fact.any).2 w w' v hb h) ?_ ?_ _ _ a0 _ (by simp) ?_ ?_ ?_ ?_)
  · intro i o ho a w hb hold hdeps
    have hown := owes.at i o ho
    rw [Nat.zero_add] at hown
    have hlen : i < pre.length := (List.getElem?_eq_some_iff.1 ho).1
    obtain ⟨d, k1, k2, _, k4, _, k6⟩ := shapely_spec pre 0 [] hs i o ho
    have hw := hown a w hb (fun s h => hold s (table_apart hT s h)) (fun j hj => by
      obtain ⟨e, he, hej⟩ := List.any_eq_true.1 hj
      have he : e ∈ o.after := by simpa using he
      simp only [Bool.and_eq_true, beq_iff_eq] at hej
      have := hdeps e he hej.2
      have hlt := k4 e he hej.2
      rw [hej.1, table_at hT j (by omega)] at this
      exact this)
    have hat : ∀ {i : Nat}, i < pre.length → (pre ++ post)[i]? = pre[i]? := fun hi => List.getElem?_append_left hi
    have hslot : ∀ g : Nat, g < pre.length → yielded (pre ++ post).toArray a.tmps g = (match a.tmps.getD (T.getD g 0) undef with | .bool b => some b | _ => none) := by
      intro g hg
      obtain ⟨d', l1, _⟩ := shapely_spec pre 0 [] hs g pre[g] (List.getElem?_eq_getElem hg)
      have hd' : T.getD g 0 = d' := by rw [← table_at hT g hg]; simp [dstOf, hg, l1]
      rw [hd', Array.getD_eq_getD_getElem?]
      unfold yielded
      simp only [List.getElem?_toArray, hat hg, List.getElem?_eq_getElem hg, Option.bind_some, l1]
      cases h : a.tmps[d']? with
      | none => rfl
      | some x => cases x <;> rfl
    unfold wpOp
    simp only [List.getElem?_toArray, hat hlen, ho]
    rcases hw with ⟨hg, hw⟩ | ⟨⟨g, hgd, hne⟩, hu⟩
    · rw [if_pos]
      · exact .inl hw
      · unfold Region.wanted
        cases hgd : o.guard with
        | none => rfl
        | some g =>
          have hv := hg _ hgd
          have hy := hslot g.1 (by have := k6 g hgd; omega)
          rw [hv] at hy
          show (yielded (pre ++ post).toArray a.tmps g.1 == some g.2) = true
          rw [hy]
          simp
    · rw [if_neg]
      · exact ⟨Below.refl _ _, undef, rfl, hu⟩
      · unfold Region.wanted
        rw [hgd]
        have hy := hslot g.1 (by have := k6 g hgd; omega)
        show ¬ (yielded (pre ++ post).toArray a.tmps g.1 == some g.2) = true
        rw [hy]
        intro hh
        apply hne
        generalize a.tmps.getD (T.getD g.1 0) undef = x at hh ⊢
        cases x <;> simp_all
  · intro D a w hf
    exact fin D a w hf.below hf.size hf.defers (fun s h => hf.old s (table_apart hT s h)) (fun i hi hij => by
      have hi' : i < pre.length := by rw [← hT] at hi; simpa using hi
      have := hf.fact i hi' hij
      rwa [table_at hT i hi'] at this)
  · have : ∀ n, cnt (List.replicate n false) = n := by
      intro n
      induction n with
      | zero => rfl
      | succ n ih => simp [List.replicate_succ, cnt, ih]; omega
    simp [this]
  · intro j o ho h
    have hj : j < (pre ++ post).length := (List.getElem?_eq_some_iff.1 ho).1
    rw [getD_listed] at h
    simp only [List.length_append] at hj
    simp [hj] at h
  · intro i hi
    rw [getD_listed]
    simp only [Array.toList_replicate]
    by_cases hlt : i < pre.length + post.length
    · simp [hlt]
    · rw [List.getElem?_eq_none (by simp; omega)]
      rfl
  · refine ⟨(Below.refl _ _).drew, rfl, rfl, fun _ _ => rfl, ?_⟩
    intro i hi h
    rw [getD_listed] at h
    have hj : i < pre.length + post.length := by omega
    simp [hj] at h


end Go.Proofs.Ytajmbcbochjfmaa
