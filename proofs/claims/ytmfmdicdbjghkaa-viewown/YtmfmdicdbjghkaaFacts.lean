/-
  A region that draws its order and holds calls that make memory, walked once, operation by operation: each operation is told what it leaves (a fact of its slot that stays true in every later world), whatever the order.
-/
import Derived.Test.YtmfmdicdbjghkaaSl
import Derived.Orders
namespace Go.Proofs.Ytmfmdicdbjghkaa
open Go.RowKit
set_option linter.unusedVariables false

/-- Where operation i lays its value. -/
def dstOf (ops : List Oper) (i : Nat) : Nat := ((ops[i]?).bind (·.dst)).getD 0

/-- What is asked of the text: every operation has a slot of its own among N, and is behind those that it waits for. -/
def shapely (N : Nat) : List Oper → Nat → List Nat → Bool
  | [], _, _ => true
  | o :: l, i, seen => (match o.dst with | some d => decide (d < N) && !seen.contains d && o.after.all (fun e => !Region.binds .any e || decide (e.on < i)) && o.guard.all (fun g => decide (g.1 < i)) && shapely N l (i + 1) (d :: seen) | none => false)

theorem shapely_spec {N : Nat} : ∀ (l : List Oper) (i : Nat) (seen : List Nat), shapely N l i seen = true → ∀ j o, l[j]? = some o →
    ∃ d, o.dst = some d ∧ d < N ∧ d ∉ seen ∧ (∀ e ∈ o.after, Region.binds .any e = true → e.on < i + j) ∧ (∀ j' o', j' < j → l[j']? = some o' → o'.dst ≠ some d) ∧ ∀ g, o.guard = some g → g.1 < i + j
  | [], _, _, _, j, o, h => by simp at h
  | x :: l, i, seen, hs, j, o, h => by
    rw [shapely] at hs
    cases hd : x.dst with
    | none => simp [hd] at hs
    | some d =>
      simp only [hd, Bool.and_eq_true, decide_eq_true_eq, Bool.not_eq_true', Array.all_eq_true_iff_forall_mem] at hs
      obtain ⟨⟨⟨⟨h1, h2⟩, h3⟩, h5⟩, h4⟩ := hs
      cases j with
      | zero =>
        simp at h
        subst h
        exact ⟨d, hd, h1, by simpa using h2, fun e he hb => by simpa [hb] using h3 e he, fun j' o' hj' => absurd hj' (by omega), fun g hg => by rw [hg] at h5; simpa using h5⟩
      | succ j =>
        simp at h
        obtain ⟨d', k1, k2, k3, k4, k5, k6⟩ := shapely_spec l (i + 1) (d :: seen) h4 j o h
        refine ⟨d', k1, k2, fun hm => k3 (by simp [hm]), fun e he hb => by have := k4 e he hb; omega, ?_, fun g hg => by have := k6 g hg; omega⟩
        intro j' o' hj' ho'
        cases j' with
        | zero =>
          simp at ho'
          subst ho'
          rw [hd]
          intro hh
          simp at hh
          exact k3 (by simp [hh])
        | succ j' => simp at ho'; exact k5 j' o' (by omega) ho'

/-- The frame behind the first k operations, with these values. -/
def layAll (ops : List Oper) (a : Act) (vals : Nat → Value) : Nat → Act
  | 0 => a
  | k + 1 => (layAll ops a vals k).put (some (dstOf ops k)) (vals k)

/-- A slot that no operation writes. -/
def apart (ops : List Oper) (s : Nat) : Bool := ops.all fun o => o.dst != some s

/-- The frame a is a0 but for the slots of the operations; the slot of each that has come up holds its fact. -/
structure Fits (ops : List Oper) (F : Nat → World → Value → Prop) (a0 : Act) (w0 : World) (done : Nat → Prop) (a : Act) (w : World) : Prop where
  below : Below w0.heap.size w0 w
  size : a.tmps.size = a0.tmps.size
  defers : a.defers = a0.defers
  old : ∀ s, apart ops s = true → a.tmps.getD s undef = a0.tmps.getD s undef
  fact : ∀ i, i < ops.length → done i → F i w (a.tmps.getD (dstOf ops i) undef)
  yet : ∀ i, i < ops.length → ¬ done i → a.tmps.getD (dstOf ops i) undef = a0.tmps.getD (dstOf ops i) undef

/-- Operation j waits for operation i. -/
def waits (ops : List Oper) (j i : Nat) : Bool := ((ops[j]?).map fun o => o.after.toList.any fun e => e.on == i && Region.binds .any e).getD false
/-- What has come up is behind what it waits for. -/
def Closed (ops : List Oper) (listed : Array Bool) : Prop := ∀ j o, ops[j]? = some o → listed.getD j false = true → ∀ e ∈ o.after, Region.binds .any e = true → listed.getD e.on false = true

/-- What an operation owes. -/
def Owes (P : Program) (ops : List Oper) (Q : Exit → Act → World → Prop) (F : Nat → World → Value → Prop) (a0 : Act) (w0 : World) (i : Nat) (o : Oper) : Prop :=
  ∀ a w, Below w0.heap.size w0 w → (∀ s, apart ops s = true → a.tmps.getD s undef = a0.tmps.getD s undef) →
    (∀ e ∈ o.after, Region.binds .any e = true → F e.on w (a.tmps.getD (dstOf ops e.on) undef)) →
    (∀ j, j < ops.length → waits ops j i = true → a.tmps.getD (dstOf ops j) undef = a0.tmps.getD (dstOf ops j) undef) →
    wpOp P ops.toArray Q i (fun a' w' => Below w.heap.size w w' ∧ ∃ v, a' = a.put o.dst v ∧ F i w' v) a w

theorem getD_put_same (a : Act) (d : Nat) (v : Value) (h : d < a.tmps.size) : (a.put (some d) v).tmps.getD d undef = v := by
  simp [Act.put, Array.getD, h]
theorem getD_put_ne (a : Act) (d s : Nat) (v : Value) (h : d ≠ s) : (a.put (some d) v).tmps.getD s undef = a.tmps.getD s undef := by
  simp only [Act.put, Array.getD_eq_getD_getElem?]
  rw [Array.getElem?_setIfInBounds_ne h]
theorem size_put (a : Act) (d : Option Nat) (v : Value) : (a.put d v).tmps.size = a.tmps.size := by
  cases d <;> simp [Act.put]
theorem defers_put (a : Act) (d : Option Nat) (v : Value) : (a.put d v).defers = a.defers := by
  cases d <;> simp [Act.put]

def cnt : List Bool → Nat
  | [] => 0
  | b :: l => (if b then 0 else 1) + cnt l
theorem cnt_set : ∀ (l : List Bool) (i : Nat), l[i]? = some false → cnt (l.set i true) + 1 = cnt l
  | [], i, h => by simp at h
  | b :: l, 0, h => by simp at h; subst h; simp [cnt]; omega
  | b :: l, i + 1, h => by
    have := cnt_set l i (by simpa using h)
    simp [cnt]
    omega
theorem cnt_zero : ∀ (l : List Bool) (i : Nat), cnt l = 0 → l[i]? ≠ some false
  | [], i, _ => by simp
  | b :: l, 0, h => by
    intro hh
    simp at hh
    subst hh
    simp [cnt] at h
  | b :: l, i + 1, h => by
    have := cnt_zero l i (by simp [cnt] at h; omega)
    simpa using this

theorem mem_ready {ops : List Oper} {listed : Array Bool} {i : Nat} : i ∈ Region.ready .any ops.toArray listed ↔ i < ops.length ∧ listed.getD i true = false ∧
    ∃ o, ops[i]? = some o ∧ ∀ e ∈ o.after, Region.binds .any e = true → listed.getD e.on false = true := by
  unfold Region.ready
  simp only [List.mem_filter, List.mem_range, Bool.and_eq_true, Bool.not_eq_true', List.size_toArray, List.getElem?_toArray]
  constructor
  · rintro ⟨h1, h2, h3⟩
    refine ⟨h1, h2, ops[i], List.getElem?_eq_getElem h1, ?_⟩
    rw [List.getElem?_eq_getElem h1] at h3
    simp only [Option.map_some, Option.getD_some, Array.all_eq_true_iff_forall_mem, Bool.or_eq_true, Bool.not_eq_true'] at h3
    intro e he hb
    rcases h3 e he with h | h
    · rw [h] at hb; simp at hb
    · exact h
  · rintro ⟨h1, h2, o, ho, h3⟩
    refine ⟨h1, h2, ?_⟩
    rw [ho]
    simp only [Option.map_some, Option.getD_some, Array.all_eq_true_iff_forall_mem, Bool.or_eq_true, Bool.not_eq_true']
    intro e he
    cases hb : Region.binds .any e with
    | false => exact .inl rfl
    | true => exact .inr (h3 e he hb)

theorem getD_listed (listed : Array Bool) (i : Nat) (b : Bool) : listed.getD i b = (listed.toList[i]?).getD b := by
  simp [Array.getD_eq_getD_getElem?]

section
variable {P : Program} {ops : List Oper} {Q : Exit → Act → World → Prop} {F : Nat → World → Value → Prop} {a0 : Act} {w0 : World}

/-- Where nothing may come up, all has come up. -/
theorem all_listed (hs : shapely a0.tmps.size ops 0 [] = true) (listed : Array Bool) (hl : listed.size = ops.length) (hr : Region.ready .any ops.toArray listed = []) :
    ∀ i, i < ops.length → listed.getD i false = true := by
  intro i
  induction i using Nat.strongRecOn with
  | _ i ih =>
    intro hi
    cases hc : listed.getD i true with
    | true =>
      have h1 : i < listed.size := by omega
      simp only [Array.getD, h1, dif_pos] at hc ⊢
      exact hc
    | false =>
      have hm : i ∈ Region.ready .any ops.toArray listed := by
        refine mem_ready.2 ⟨hi, hc, ops[i], List.getElem?_eq_getElem hi, ?_⟩
        intro e he hb
        obtain ⟨d, _, _, _, h4, _⟩ := shapely_spec ops 0 [] hs i ops[i] (List.getElem?_eq_getElem hi)
        have := h4 e he hb
        exact ih e.on (by omega) (by omega)
      rw [hr] at hm
      simp at hm

theorem facts_any (hs : shapely a0.tmps.size ops 0 [] = true) (mono : ∀ i w w' v, Below w.heap.size w w' → F i w v → F i w' v)
    (owes : ∀ i o, ops[i]? = some o → Owes P ops Q F a0 w0 i o) (fin : ∀ a w, Fits ops F a0 w0 (fun _ => True) a w → Q .normal a w) :
    ∀ (fuel : Nat) (listed : Array Bool) (a : Act) (w : World), listed.size = ops.length → cnt listed.toList ≤ fuel → Closed ops listed → Fits ops F a0 w0 (fun i => listed.getD i false = true) a w → wpAny P .any ops.toArray Q fuel listed a w := by
  intro fuel
  induction fuel with
  | zero =>
    intro listed a w hl hc hcl hf
    have hall : ∀ i, i < ops.length → listed.getD i false = true := by
      intro i hi
      have := cnt_zero listed.toList i (by omega)
      rw [getD_listed]
      have h1 : i < listed.toList.length := by simp; omega
      rw [List.getElem?_eq_getElem h1] at this ⊢
      simpa using this
    refine ⟨?_, fin a w ⟨hf.below, hf.size, hf.defers, hf.old, fun i hi _ => hf.fact i hi (hall i hi), fun i hi hn => absurd trivial hn⟩⟩
    apply List.eq_nil_iff_forall_not_mem.2
    intro i hi
    obtain ⟨h1, h2, _⟩ := mem_ready.1 hi
    have := hall i h1
    rw [getD_listed] at this h2
    cases h : listed.toList[i]? with
    | none => rw [h] at this; simp at this
    | some b => rw [h] at this h2; simp at this h2; rw [this] at h2; simp at h2
  | succ fuel ih =>
    intro listed a w hl hc hcl hf
    refine ⟨?_, ?_⟩
    · intro hr
      have hall := all_listed hs listed hl hr
      exact fin a w ⟨hf.below, hf.size, hf.defers, hf.old, fun i hi _ => hf.fact i hi (hall i hi), fun i hi hn => absurd trivial hn⟩
    · intro i hi
      obtain ⟨h1, h2, o, ho, h3⟩ := mem_ready.1 hi
      obtain ⟨d, k1, k2, _, k4, k5, _⟩ := shapely_spec ops 0 [] hs i o ho
      have hdi : dstOf ops i = d := by simp [dstOf, ho, k1]
      refine wpOp_mono ?_ (owes i o ho a w hf.below hf.old (fun e he hb => hf.fact e.on (by have := k4 e he hb; omega) (h3 e he hb)) (fun j hj hwj => hf.yet j hj (fun hdone => by
        unfold waits at hwj
        rw [List.getElem?_eq_getElem hj] at hwj
        simp only [Option.map_some, Option.getD_some, List.any_eq_true, Bool.and_eq_true, beq_iff_eq] at hwj
        obtain ⟨e, he, hei, hb⟩ := hwj
        have := hcl j ops[j] (List.getElem?_eq_getElem hj) hdone e (by simpa using he) hb
        rw [hei, getD_listed] at this
        rw [getD_listed] at h2
        cases h : listed.toList[i]? with
        | none => rw [h] at this; simp at this
        | some b => rw [h] at this h2; simp at this h2; rw [this] at h2; simp at h2)))
      rintro a' w' ⟨hb, v, rfl, hv⟩
      rw [k1]
      have hli : listed.toList[i]? = some false := by
        rw [getD_listed] at h2
        have h4 : i < listed.toList.length := by simp; omega
        rw [List.getElem?_eq_getElem h4] at h2 ⊢
        simpa using h2
      have hkeep : ∀ j, listed.getD j false = true → (listed.setIfInBounds i true).getD j false = true := by
        intro j hj
        rw [getD_listed] at hj ⊢
        rw [Array.toList_setIfInBounds]
        by_cases hji : i = j
        · subst hji; rw [hli] at hj; simp at hj
        · rw [List.getElem?_set_ne hji]; exact hj
      have hback : ∀ j, j ≠ i → (listed.setIfInBounds i true).getD j false = true → listed.getD j false = true := by
        intro j hji hj
        rw [getD_listed] at hj ⊢
        rw [Array.toList_setIfInBounds, List.getElem?_set_ne (Ne.symm hji)] at hj
        exact hj
      refine ih _ _ w' (by simpa using hl) ?_ ?_ ?_
      · have := cnt_set listed.toList i hli
        rw [Array.toList_setIfInBounds]
        omega
      · intro j oj hoj hj e he hb
        by_cases hji : j = i
        · subst hji
          rw [ho] at hoj
          simp at hoj
          subst hoj
          exact hkeep _ (h3 e he hb)
        · exact hkeep _ (hcl j oj hoj (hback j hji hj) e he hb)
      · refine ⟨hf.below.trans (hb.mono hf.below.size), by rw [size_put]; exact hf.size, by rw [defers_put]; exact hf.defers, ?_, ?_, ?_⟩
        · intro s hsl
          have hne : d ≠ s := by
            intro h
            subst h
            have := List.all_eq_true.1 hsl o (List.mem_of_getElem? ho)
            rw [k1] at this
            simp at this
          rw [getD_put_ne a d s v hne]
          exact hf.old s hsl
        · intro j hj hdone
          by_cases hji : j = i
          · subst hji
            rw [hdi, getD_put_same a d v (by rw [hf.size]; exact k2)]
            exact hv
          · have hdone' : listed.getD j false = true := by
              rw [getD_listed] at hdone ⊢
              rw [Array.toList_setIfInBounds, List.getElem?_set_ne (Ne.symm hji)] at hdone
              exact hdone
            obtain ⟨d', l1, l2, _, _, l5, _⟩ := shapely_spec ops 0 [] hs j ops[j] (List.getElem?_eq_getElem hj)
            have hdj : dstOf ops j = d' := by simp [dstOf, l1, hj]
            have hne : d ≠ d' := by
              intro h
              subst h
              rcases Nat.lt_or_gt_of_ne hji with h | h
              · exact k5 j ops[j] h (List.getElem?_eq_getElem hj) l1
              · exact l5 i o h ho k1
            have hfj := hf.fact j hj hdone'
            rw [hdj] at hfj ⊢
            rw [getD_put_ne a d d' v hne]
            exact mono j w w' _ hb hfj
        · intro j hj hnd
          have hji : j ≠ i := by
            intro h
            subst h
            apply hnd
            show (listed.setIfInBounds j true).getD j false = true
            rw [getD_listed, Array.toList_setIfInBounds]
            have h4 : j < listed.toList.length := by simp; omega
            rw [List.getElem?_set_self h4]
            rfl
          obtain ⟨d', l1, l2, _, _, l5, _⟩ := shapely_spec ops 0 [] hs j ops[j] (List.getElem?_eq_getElem hj)
          have hdj : dstOf ops j = d' := by simp [dstOf, l1, hj]
          have hne : d ≠ d' := by
            intro h
            subst h
            rcases Nat.lt_or_gt_of_ne hji with h | h
            · exact k5 j ops[j] h (List.getElem?_eq_getElem hj) l1
            · exact l5 i o h ho k1
          have hy := hf.yet j hj (fun h => hnd (hkeep j h))
          rw [hdj] at hy ⊢
          rw [getD_put_ne a d d' v hne]
          exact hy

/-- A region that draws its order: each operation owes its fact. -/
theorem region_facts {id : Nat} (hm : P.follows .mixedOrders = true) (hs : shapely a0.tmps.size ops 0 [] = true) (mono : ∀ i w w' v, Below w.heap.size w w' → F i w v → F i w' v)
    (owes : ∀ i o, ops[i]? = some o → Owes P ops Q F a0 w0 i o) (fin : ∀ a w, Fits ops F a0 w0 (fun _ => True) a w → Q .normal a w) : (Code.region id ops.toArray true).wp P Q a0 w0 := by
  refine wp_region_any hm (facts_any (F := F) (a0 := a0) (w0 := w0) hs mono owes fin _ _ a0 _ (by simp) ?_ ?_ ?_)
  · have : ∀ n, cnt (List.replicate n false) = n := by
      intro n
      induction n with
      | zero => rfl
      | succ n ih => simp [List.replicate_succ, cnt, ih]; omega
    simp [this]
  · intro j o ho h
    have hj : j < ops.length := (List.getElem?_eq_some_iff.1 ho).1
    rw [getD_listed] at h
    simp [hj] at h
  · refine ⟨(Below.refl _ _).drew, rfl, rfl, fun _ _ => rfl, ?_, fun _ _ _ => rfl⟩
    intro i hi h
    rw [getD_listed] at h
    simp [hi] at h
end

/-- A fact of a value that stays true in every later world. -/
abbrev Fact := { p : World → Value → Prop // ∀ w w' v, Below w.heap.size w w' → p w v → p w' v }
def Fact.any : Fact := ⟨fun _ _ => True, fun _ _ _ _ _ => trivial⟩
/-- It is this value. -/
def Fact.is (v0 : Value) : Fact := ⟨fun _ v => v = v0, fun _ _ _ _ h => h⟩
/-- It is a slice of these integers. -/
def Fact.sl (k : IntKind) (n : Nat) (zs : List Int) : Fact :=
  ⟨fun w v => ∃ a c, v = .slice a n c ∧ Sl k w a n zs ∧ n ≤ c ∧ c ≤ 9223372036854775807, fun _ _ _ hb ⟨a, c, h1, h2, h3⟩ => ⟨a, c, h1, h2.below hb, h3⟩⟩

/-- What an operation owes: its fact, or undef where its guard passes it over. -/
def OwesT (P : Program) (Q : Exit → Act → World → Prop) (L : List Fact) (T : List Nat) (a0 : Act) (w0 : World) (i : Nat) (o : Oper) : Prop :=
  ∀ a w, Below w0.heap.size w0 w → (∀ s, T.contains s = false → a.tmps.getD s undef = a0.tmps.getD s undef) →
    (∀ j, (o.after.toList.any fun e => e.on == j && Region.binds .any e) = true → (L.getD j Fact.any).1 w (a.tmps.getD (T.getD j 0) undef)) →
    ((∀ g, o.guard = some g → a.tmps.getD (T.getD g.1 0) undef = .bool g.2) ∧ o.wp P a w (fun a' w' => Below w.heap.size w w' ∧ ∃ v, a' = a.put o.dst v ∧ (L.getD i Fact.any).1 w' v) Q) ∨
    ((∃ g, o.guard = some g ∧ a.tmps.getD (T.getD g.1 0) undef ≠ .bool g.2) ∧ (L.getD i Fact.any).1 w undef)

/-- What the operations owe, one behind the other. -/
def OwesFrom (P : Program) (Q : Exit → Act → World → Prop) (L : List Fact) (T : List Nat) (a0 : Act) (w0 : World) : Nat → List Oper → Prop
  | _, [] => True
  | i, o :: l => OwesT P Q L T a0 w0 i o ∧ OwesFrom P Q L T a0 w0 (i + 1) l

theorem OwesFrom.nil {P : Program} {Q : Exit → Act → World → Prop} {L : List Fact} {T : List Nat} {a0 : Act} {w0 : World} (i : Nat) : OwesFrom P Q L T a0 w0 i [] := trivial
theorem OwesFrom.cons {P : Program} {Q : Exit → Act → World → Prop} {L : List Fact} {T : List Nat} {a0 : Act} {w0 : World} {i : Nat} {o : Oper} {l : List Oper} (h : OwesT P Q L T a0 w0 i o) (k : OwesFrom P Q L T a0 w0 (i + 1) l) : OwesFrom P Q L T a0 w0 i (o :: l) := ⟨h, k⟩

theorem OwesFrom.at {P : Program} {Q : Exit → Act → World → Prop} {L : List Fact} {T : List Nat} {a0 : Act} {w0 : World} {k : Nat} {l : List Oper} (h : OwesFrom P Q L T a0 w0 k l) : ∀ i o, l[i]? = some o → OwesT P Q L T a0 w0 (k + i) o := by
  induction l generalizing k with
  | nil => intro i o h'; simp at h'
  | cons o l ih =>
    intro i o' ho
    cases i with
    | zero => simp at ho; subst ho; exact h.1
    | succ i =>
      simp at ho
      have := ih h.2 i o' ho
      rwa [show k + 1 + i = k + (i + 1) by omega] at this

theorem table_at {ops : List Oper} {T : List Nat} (hT : ops.map (fun o => o.dst.getD 0) = T) (i : Nat) (hi : i < ops.length) : dstOf ops i = T.getD i 0 := by
  subst hT
  simp [dstOf, List.getD_eq_getElem?_getD, hi]

theorem table_apart {ops : List Oper} {T : List Nat} (hT : ops.map (fun o => o.dst.getD 0) = T) (s : Nat) (h : T.contains s = false) : apart ops s = true := by
  subst hT
  unfold apart
  rw [List.all_eq_true]
  intro o ho
  cases hd : o.dst with
  | none => simp
  | some d =>
    simp only [List.contains_eq_mem, decide_eq_false_iff_not, List.mem_map, not_exists, not_and] at h
    have := h o ho
    rw [hd] at this
    simpa using this

/-- The slots that are written only behind operation i. -/
def laterOf (ops : List Oper) (i : Nat) : List Nat := (List.range ops.length).filterMap fun j => if waits ops j i = true then some (dstOf ops j) else none
/-- What an operation owes, with slots that are not yet written. -/
def OwesY (P : Program) (Q : Exit → Act → World → Prop) (L : List Fact) (T Y : List Nat) (a0 : Act) (w0 : World) (i : Nat) (o : Oper) : Prop :=
  ∀ a w, Below w0.heap.size w0 w → (∀ s, T.contains s = false → a.tmps.getD s undef = a0.tmps.getD s undef) →
    (∀ j, (o.after.toList.any fun e => e.on == j && Region.binds .any e) = true → (L.getD j Fact.any).1 w (a.tmps.getD (T.getD j 0) undef)) → (∀ s, Y.contains s = true → a.tmps.getD s undef = a0.tmps.getD s undef) →
    ((∀ g, o.guard = some g → a.tmps.getD (T.getD g.1 0) undef = .bool g.2) ∧ o.wp P a w (fun a' w' => Below w.heap.size w w' ∧ ∃ v, a' = a.put o.dst v ∧ (L.getD i Fact.any).1 w' v) Q) ∨
    ((∃ g, o.guard = some g ∧ a.tmps.getD (T.getD g.1 0) undef ≠ .bool g.2) ∧ (L.getD i Fact.any).1 w undef)
theorem OwesT.y {P : Program} {Q : Exit → Act → World → Prop} {L : List Fact} {T Y : List Nat} {a0 : Act} {w0 : World} {i : Nat} {o : Oper} (h : OwesT P Q L T a0 w0 i o) : OwesY P Q L T Y a0 w0 i o := fun a w h1 h2 h3 _ => h a w h1 h2 h3
/-- A move of a slot that is not yet written. -/
theorem owesY_move {P : Program} {Q : Exit → Act → World → Prop} {L : List Fact} {T Y : List Nat} {a0 : Act} {w0 : World} {i : Nat} {o : Oper} (s : Nat) (v : Value) (ho : o.op = .move (.tmp s)) (hg : o.guard = none) (hs : Y.contains s = true) (hv : a0.tmps.getD s undef = v)
    (hL : (L.getD i Fact.any) = ⟨fun _ x => x = v, fun _ _ _ _ h => h⟩) : OwesY P Q L T Y a0 w0 i o := by
  intro a w h1 h2 h3 h4
  refine .inl ⟨fun g hgd => by rw [hg] at hgd; simp at hgd, ?_⟩
  have e : a.tmps.getD s undef = v := (h4 s hs).trans hv
  unfold Oper.wp execOp
  rw [ho]
  refine ⟨Below.refl _ _, _, rfl, ?_⟩
  rw [hL]
  exact e
def OwesFromY (P : Program) (Q : Exit → Act → World → Prop) (L : List Fact) (T : List Nat) (ops : List Oper) (a0 : Act) (w0 : World) : Nat → List Oper → Prop
  | _, [] => True
  | i, o :: l => OwesY P Q L T (laterOf ops i) a0 w0 i o ∧ OwesFromY P Q L T ops a0 w0 (i + 1) l
theorem OwesFromY.nil {P : Program} {Q : Exit → Act → World → Prop} {L : List Fact} {T : List Nat} {ops : List Oper} {a0 : Act} {w0 : World} (i : Nat) : OwesFromY P Q L T ops a0 w0 i [] := trivial
theorem OwesFromY.cons {P : Program} {Q : Exit → Act → World → Prop} {L : List Fact} {T : List Nat} {ops : List Oper} {a0 : Act} {w0 : World} {i : Nat} {o : Oper} {l : List Oper} (h : OwesY P Q L T (laterOf ops i) a0 w0 i o) (k : OwesFromY P Q L T ops a0 w0 (i + 1) l) : OwesFromY P Q L T ops a0 w0 i (o :: l) := ⟨h, k⟩
theorem OwesFromY.at {P : Program} {Q : Exit → Act → World → Prop} {L : List Fact} {T : List Nat} {ops : List Oper} {a0 : Act} {w0 : World} {k : Nat} {l : List Oper} (h : OwesFromY P Q L T ops a0 w0 k l) : ∀ i o, l[i]? = some o → OwesY P Q L T (laterOf ops (k + i)) a0 w0 (k + i) o := by
  induction l generalizing k with
  | nil => intro i o h'; simp at h'
  | cons o l ih =>
    intro i o' ho
    cases i with
    | zero => simp at ho; subst ho; exact h.1
    | succ i =>
      simp at ho
      have := ih h.2 i o' ho
      rwa [show k + 1 + i = k + (i + 1) by omega] at this

theorem region_owes_all {P : Program} {ops : List Oper} {Q : Exit → Act → World → Prop} {a0 : Act} {w0 : World} {id : Nat} (L : List Fact) (T : List Nat) (hm : P.follows .mixedOrders = true) (hs : shapely a0.tmps.size ops 0 [] = true)
    (hT : ops.map (fun o => o.dst.getD 0) = T) (owes : ∀ i o, ops[i]? = some o → OwesY P Q L T (laterOf ops i) a0 w0 i o)
    (fin : ∀ a w, Below w0.heap.size w0 w → a.tmps.size = a0.tmps.size → a.defers = a0.defers → (∀ s, T.contains s = false → a.tmps.getD s undef = a0.tmps.getD s undef) →
      (∀ i, i < T.length → (L.getD i Fact.any).1 w (a.tmps.getD (T.getD i 0) undef)) → Q .normal a w) : (Code.region id ops.toArray true).wp P Q a0 w0 := by
  refine region_facts (F := fun i => (L.getD i Fact.any).1) hm hs (fun i w w' v hb h => (L.getD i Fact.any).2 w w' v hb h) ?_ ?_
  · intro i o ho a w hb hold hdeps hyet
    have hown := owes i o ho
    have hlen : i < ops.length := (List.getElem?_eq_some_iff.1 ho).1
    obtain ⟨d, k1, k2, _, k4, _, k6⟩ := shapely_spec ops 0 [] hs i o ho
    have hw := hown a w hb (fun s h => hold s (table_apart hT s h)) (fun j hj => by
      obtain ⟨e, he, hej⟩ := List.any_eq_true.1 hj
      have he : e ∈ o.after := by simpa using he
      simp only [Bool.and_eq_true, beq_iff_eq] at hej
      have := hdeps e he hej.2
      have hlt := k4 e he hej.2
      rw [hej.1, table_at hT j (by omega)] at this
      exact this) (fun s hs' => by
      simp only [laterOf, List.contains_eq_mem, decide_eq_true_eq, List.mem_filterMap, List.mem_range] at hs'
      obtain ⟨j, hj, hjs⟩ := hs'
      by_cases hwj : waits ops j i = true
      · rw [if_pos hwj] at hjs
        simp at hjs
        rw [← hjs]
        exact hyet j hj hwj
      · rw [if_neg hwj] at hjs
        simp at hjs)
    have hslot : ∀ g : Nat, g < ops.length → yielded ops.toArray a.tmps g = (match a.tmps.getD (T.getD g 0) undef with | .bool b => some b | _ => none) := by
      intro g hg
      obtain ⟨d', l1, _⟩ := shapely_spec ops 0 [] hs g ops[g] (List.getElem?_eq_getElem hg)
      have hd' : T.getD g 0 = d' := by rw [← table_at hT g hg]; simp [dstOf, hg, l1]
      rw [hd', Array.getD_eq_getD_getElem?]
      unfold yielded
      simp only [List.getElem?_toArray, List.getElem?_eq_getElem hg, Option.bind_some, l1]
      cases h : a.tmps[d']? with
      | none => rfl
      | some x => cases x <;> rfl
    unfold wpOp
    simp only [List.getElem?_toArray, ho]
    rcases hw with ⟨hg, hw⟩ | ⟨⟨g, hgd, hne⟩, hu⟩
    · rw [if_pos]
      · exact .inl hw
      · unfold Region.wanted
        cases hgd : o.guard with
        | none => rfl
        | some g =>
          have hv := hg _ hgd
          have hy := hslot g.1 (by have := k6 g hgd; omega)
          rw [hv] at hy
          show (yielded ops.toArray a.tmps g.1 == some g.2) = true
          rw [hy]
          simp
    · rw [if_neg]
      · exact ⟨Below.refl _ _, undef, rfl, hu⟩
      · unfold Region.wanted
        rw [hgd]
        have hy := hslot g.1 (by have := k6 g hgd; omega)
        show ¬ (yielded ops.toArray a.tmps g.1 == some g.2) = true
        rw [hy]
        intro hh
        apply hne
        generalize a.tmps.getD (T.getD g.1 0) undef = x at hh ⊢
        cases x <;> simp_all
  · intro a w hf
    exact fin a w hf.below hf.size hf.defers (fun s h => hf.old s (table_apart hT s h)) (fun i hi => by
      have hi' : i < ops.length := by rw [← hT] at hi; simpa using hi
      have := hf.fact i hi' trivial
      rwa [table_at hT i hi'] at this)

/-- A region that draws its order: the table of its slots, the list of its facts, and each operation's due. -/
theorem region_owes {P : Program} {ops : List Oper} {Q : Exit → Act → World → Prop} {a0 : Act} {w0 : World} {id : Nat} (L : List Fact) (T : List Nat) (hm : P.follows .mixedOrders = true) (hs : shapely a0.tmps.size ops 0 [] = true)
    (hT : ops.map (fun o => o.dst.getD 0) = T) (owes : OwesFrom P Q L T a0 w0 0 ops)
    (fin : ∀ a w, Below w0.heap.size w0 w → a.tmps.size = a0.tmps.size → a.defers = a0.defers → (∀ s, T.contains s = false → a.tmps.getD s undef = a0.tmps.getD s undef) →
      (∀ i, i < T.length → (L.getD i Fact.any).1 w (a.tmps.getD (T.getD i 0) undef)) → Q .normal a w) : (Code.region id ops.toArray true).wp P Q a0 w0 :=
  region_owes_all L T hm hs hT (fun i o ho => by have := owes.at i o ho; rw [Nat.zero_add] at this; exact this.y) fin
/-- The same where a slot is read and, behind that, written. -/
theorem region_owesY {P : Program} {ops : List Oper} {Q : Exit → Act → World → Prop} {a0 : Act} {w0 : World} {id : Nat} (L : List Fact) (T : List Nat) (hm : P.follows .mixedOrders = true) (hs : shapely a0.tmps.size ops 0 [] = true)
    (hT : ops.map (fun o => o.dst.getD 0) = T) (owes : OwesFromY P Q L T ops a0 w0 0 ops)
    (fin : ∀ a w, Below w0.heap.size w0 w → a.tmps.size = a0.tmps.size → a.defers = a0.defers → (∀ s, T.contains s = false → a.tmps.getD s undef = a0.tmps.getD s undef) →
      (∀ i, i < T.length → (L.getD i Fact.any).1 w (a.tmps.getD (T.getD i 0) undef)) → Q .normal a w) : (Code.region id ops.toArray true).wp P Q a0 w0 :=
  region_owes_all L T hm hs hT (fun i o ho => by have := owes.at i o ho; rw [Nat.zero_add] at this; exact this) fin

section
variable {P : Program} {Q : Exit → Act → World → Prop} {L : List Fact} {T : List Nat} {a0 : Act} {w0 : World} {i : Nat} {o : Oper}

/-- What an operation may lean on: the world is a later one; a slot that no operation writes; the facts of those that it waits for. -/
structure Leans (L : List Fact) (T : List Nat) (a0 : Act) (w0 : World) (o : Oper) (a : Act) (w : World) : Prop where
  below : Below w0.heap.size w0 w
  old : ∀ s, T.contains s = false → a.tmps.getD s undef = a0.tmps.getD s undef
  dep : ∀ j, (o.after.toList.any fun e => e.on == j && Region.binds .any e) = true → (L.getD j Fact.any).1 w (a.tmps.getD (T.getD j 0) undef)

/-- Its guard wants it. -/
def Wants (T : List Nat) (o : Oper) (a : Act) : Prop := ∀ g, o.guard = some g → a.tmps.getD (T.getD g.1 0) undef = .bool g.2

theorem Leans.wants {a : Act} {w : World} (h : Leans L T a0 w0 o a w) (hg : o.guard.all (fun g => (o.after.toList.any fun e => e.on == g.1 && Region.binds .any e)) = true) (hb : ∀ g, o.guard = some g → L.getD g.1 Fact.any = Fact.is (.bool g.2)) : Wants T o a := by
  intro g hgd
  rw [hgd] at hg
  have := h.dep g.1 hg
  rw [hb g hgd] at this
  exact this

theorem owes_value (h : ∀ a w, Leans L T a0 w0 o a w → Wants T o a ∧ ∃ v, (execOp a.eval o).run P w = .ok (.value v) w ∧ (L.getD i Fact.any).1 w v) : OwesT P Q L T a0 w0 i o := by
  intro a w h1 h2 h3
  obtain ⟨hg, v, hr, hf⟩ := h a w ⟨h1, h2, h3⟩
  refine .inl ⟨hg, ?_⟩
  unfold Oper.wp
  rw [hr]
  exact ⟨Below.refl _ _, v, rfl, hf⟩

theorem owes_move (x : Operand) (ho : o.op = .move x ∨ o.op = .assign x) (h : ∀ a w, Leans L T a0 w0 o a w → Wants T o a ∧ (L.getD i Fact.any).1 w (a.eval x)) : OwesT P Q L T a0 w0 i o := by
  refine owes_value fun a w hl => ?_
  obtain ⟨hg, hf⟩ := h a w hl
  refine ⟨hg, a.eval x, ?_, hf⟩
  unfold execOp
  rcases ho with ho | ho <;> rw [ho] <;> rfl

theorem owes_pick (c x y : Operand) (ho : o.op = .pick c x y) (h : ∀ a w, Leans L T a0 w0 o a w → Wants T o a ∧ ∃ b, a.eval c = .bool b ∧ (L.getD i Fact.any).1 w (if b = true then a.eval x else a.eval y)) : OwesT P Q L T a0 w0 i o := by
  refine owes_value fun a w hl => ?_
  obtain ⟨hg, b, hc, hf⟩ := h a w hl
  refine ⟨hg, _, ?_, hf⟩
  unfold execOp
  rw [ho]
  simp [hc, asBool]

theorem owes_convert (s d : TypeId) (x : Operand) (ho : o.op = .convert s d x) (h : ∀ a w, Leans L T a0 w0 o a w → Wants T o a ∧ ∃ v, (convert s d (a.eval x)).run P w = .ok v w ∧ (L.getD i Fact.any).1 w v) : OwesT P Q L T a0 w0 i o := by
  refine owes_value fun a w hl => ?_
  obtain ⟨hg, v, hr, hf⟩ := h a w hl
  refine ⟨hg, v, ?_, hf⟩
  unfold execOp
  rw [ho]
  simp [hr, Result.andThen]

theorem run_enter {f : FuncId} {fn : Func} (hf : P.funcs[f]? = some fn) (hname : (fn.name == "runtime.NumGoroutine") = false) (hb : fn.body.isNone = false) (args : Array Value) (w : World) : (callFunc f args).run P w = .ok (.enter f args) w := by
  have h1 : ¬ fn.name = "runtime.NumGoroutine" := by simpa using hname
  have h2 : ¬ fn.body = none := by
    intro h
    rw [h] at hb
    simp at hb
  simp [callFunc, hf]
  rw [if_neg h1, if_neg h2]

theorem owes_call (f : FuncId) {fn : Func} (hfn : P.funcs[f]? = some fn) (hname : (fn.name == "runtime.NumGoroutine") = false) (hbody : fn.body.isNone = false) (xs : List Operand) (ts : Array TypeId) (ho : o.op = .call { callee := .value (.func f), args := xs.toArray, argTypes := ts })
    (h : ∀ a w, Leans L T a0 w0 o a w → Wants T o a ∧ Calls P f (xs.map a.eval).toArray w fun e w' => ∃ v, e = .returned v ∧ Below w.heap.size w w' ∧ (L.getD i Fact.any).1 w' v) : OwesT P Q L T a0 w0 i o := by
  intro a w h1 h2 h3
  obtain ⟨hg, hc⟩ := h a w ⟨h1, h2, h3⟩
  refine .inl ⟨hg, ?_⟩
  unfold Oper.wp
  have hr : (execOp a.eval o).run P w = (.ok (.enter f (xs.map a.eval).toArray) w) := by
    unfold execOp
    rw [ho]
    simp [resolve, invoke, Act.eval, Deferred.ofValue, run_enter hfn hname hbody]
  rw [hr]
  refine hc.mono ?_
  rintro e w' ⟨v, rfl, hb, hf⟩
  exact ⟨hb, v, rfl, hf⟩

theorem wants_free {a : Act} (h : o.guard = none) : Wants T o a := fun g hg => by rw [h] at hg; simp at hg
theorem Leans.wants1 {a : Act} {w : World} (h : Leans L T a0 w0 o a w) (j : Nat) (b : Bool) (hg : o.guard = some (j, b)) (hd : (o.after.toList.any fun e => e.on == j && Region.binds .any e) = true) (hL : L.getD j Fact.any = Fact.is (.bool b)) : Wants T o a := by
  intro g hgd
  rw [hg] at hgd
  simp at hgd
  subst hgd
  have := h.dep j hd
  rw [hL] at this
  exact this

/-- Two values that are one. -/
theorem owes_eql (t t2 : TypeId) (x y : Operand) (ho : o.op = .binOp .eql t x y t2) (hL : L.getD i Fact.any = Fact.is (.bool true))
    (h : ∀ a w, Leans L T a0 w0 o a w → Wants T o a ∧ ∃ v, a.eval x = v ∧ a.eval y = v ∧ ∀ w, (do eqGuard .eql t x y v v; binOp .eql t v v : Sem Value).run P w = .ok (.bool true) w) : OwesT P Q L T a0 w0 i o := by
  refine owes_value fun a w hl => ?_
  obtain ⟨hg, v, hx, hy, hr⟩ := h a w hl
  refine ⟨hg, .bool true, ?_, by rw [hL]; rfl⟩
  unfold execOp
  rw [ho]
  simp only [hx, hy]
  have := hr w
  simp only [Sem.run_bind, this, Result.andThen]
  rfl

/-- The text of a slice that was there before. -/
theorem owes_text (s d e : TypeId) (x : Nat) (j : Nat) (ad : Option Addr) (n c : Nat) (zs : List Int) (ho : o.op = .convert s d (.tmp x)) (hx : T.getD j 0 = x) (hd : (o.after.toList.any fun e => e.on == j && Region.binds .any e) = true)
    (hj : L.getD j Fact.any = Fact.is (.slice ad n c)) (hL : L.getD i Fact.any = Fact.is (.string (strOfNums zs))) (hS : Sl .u8 w0 ad n zs) (u1 : P.underlying s = some (.slice e)) (u2 : P.underlying e = some (.int .u8)) (u3 : P.underlying d = some .string)
    (hw : ∀ a w, Leans L T a0 w0 o a w → Wants T o a) : OwesT P Q L T a0 w0 i o := by
  refine owes_convert s d (.tmp x) ho fun a w h => ⟨hw a w h, _, ?_, by rw [hL]; rfl⟩
  have hv := h.dep j hd
  rw [hj, hx] at hv
  have hv : a.tmps.getD x undef = .slice ad n c := hv
  show (convert s d (a.tmps.getD x undef)).run P w = _
  rw [hv]
  exact (hS.below h.below).text s d e u1 u2 u3

/-- The text of a slice that an operation of the region has made. -/
theorem owes_text_new (s d e : TypeId) (x : Nat) (j : Nat) (n : Nat) (zs : List Int) (ho : o.op = .convert s d (.tmp x)) (hx : T.getD j 0 = x) (hd : (o.after.toList.any fun e => e.on == j && Region.binds .any e) = true)
    (hj : L.getD j Fact.any = Fact.sl .u8 n zs) (hL : L.getD i Fact.any = Fact.is (.string (strOfNums zs))) (u1 : P.underlying s = some (.slice e)) (u2 : P.underlying e = some (.int .u8)) (u3 : P.underlying d = some .string)
    (hw : ∀ a w, Leans L T a0 w0 o a w → Wants T o a) : OwesT P Q L T a0 w0 i o := by
  refine owes_convert s d (.tmp x) ho fun a w h => ⟨hw a w h, _, ?_, by rw [hL]; rfl⟩
  have hv := h.dep j hd
  rw [hj, hx] at hv
  obtain ⟨ad, c, hv, hS, _⟩ := hv
  show (convert s d (a.tmps.getD x undef)).run P w = _
  rw [hv]
  exact hS.text s d e u1 u2 u3
end

end Go.Proofs.Ytmfmdicdbjghkaa
