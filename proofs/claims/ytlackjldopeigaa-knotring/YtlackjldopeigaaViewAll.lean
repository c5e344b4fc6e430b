/-
  Texts of this seat in one: ViewSpec, ViewRef, ViewSuch, ViewReady, MapI, ViewOthers, ViewMay, ViewHeads, ViewRefHeads, ViewRefMay, ViewPure, OwnAll.
-/
import Derived.Test.YtlackjldopeigaaRowBase
import Derived.Maps.Range
import Derived.Maps.RangeWalk
import Derived.Maps.OwnOps
import Derived.Maps.Views
import Derived.Test.YtlackjldopeigaaRowRefs

/-
  view: what may go, as plain lists.
-/
namespace Go.Proofs.Ytlackjldopeigaa
open Go.RowKit
set_option linter.unusedVariables false
set_option linter.unusedSimpArgs false

/-- All that a test lets through, which is told what stood ahead. -/
def selA (K : List P7 → P7 → Bool) : List P7 → List P7 → List P7
  | _, [] => []
  | A, p :: l => (if K A p then [p] else []) ++ selA K (A ++ [p]) l
def sel (K : List P7 → P7 → Bool) (L : List P7) : List P7 := selA K [] L
theorem selA_snoc (K : List P7 → P7 → Bool) (A l : List P7) (p : P7) : selA K A (l ++ [p]) = selA K A l ++ (if K (A ++ l) p then [p] else []) := by
  induction l generalizing A with
  | nil => simp [selA]
  | cons x l ih => simp only [List.cons_append, selA, ih]; simp
theorem sel_nil (K : List P7 → P7 → Bool) : sel K [] = [] := rfl
theorem sel_snoc (K : List P7 → P7 → Bool) (l : List P7) (p : P7) : sel K (l ++ [p]) = sel K l ++ (if K l p then [p] else []) := by
  have := selA_snoc K [] l p
  rw [List.nil_append] at this
  exact this
theorem take_snoc7 (L : List P7) {k : Nat} (h : k < L.length) : L.take (k + 1) = L.take k ++ [L.getD k p70] := take_snocA L p70 k h
theorem sel_take (K : List P7 → P7 → Bool) (L : List P7) {k : Nat} (h : k < L.length) : sel K (L.take (k + 1)) = sel K (L.take k) ++ (if K (L.take k) (L.getD k p70) then [L.getD k p70] else []) := by
  rw [take_snoc7 L h, sel_snoc]
theorem sel_yes {K : List P7 → P7 → Bool} {L : List P7} {k : Nat} {x : P7} (h : k < L.length) (hx : L.getD k p70 = x) (hK : K (L.take k) x = true) : sel K (L.take k) ++ [x] = sel K (L.take (k + 1)) := by
  rw [sel_take K L h, hx, hK]
  rfl
theorem sel_no {K : List P7 → P7 → Bool} {L : List P7} {k : Nat} {x : P7} (h : k < L.length) (hx : L.getD k p70 = x) (hK : K (L.take k) x = false) : sel K (L.take k) = sel K (L.take (k + 1)) := by
  rw [sel_take K L h, hx, hK]
  simp
theorem selA_len (K : List P7 → P7 → Bool) (A l : List P7) : (selA K A l).length ≤ l.length := by
  induction l generalizing A with
  | nil => simp [selA]
  | cons x l ih =>
    have := ih (A ++ [x])
    simp only [selA, List.length_append, List.length_cons]
    split <;> simp <;> omega
theorem sel_len (K : List P7 → P7 → Bool) (L : List P7) : (sel K L).length ≤ L.length := selA_len K [] L
theorem sel_all {K : List P7 → P7 → Bool} {L : List P7} {k : Nat} (h : k = L.length) : sel K (L.take k) = sel K L := by rw [h, List.take_length]
theorem selA_filter (q : P7 → Bool) (A l : List P7) : selA (fun _ p => q p) A l = l.filter q := by
  induction l generalizing A with
  | nil => rfl
  | cons x l ih => simp only [selA, ih, List.filter_cons]; split <;> simp
theorem sel_filter (q : P7 → Bool) (L : List P7) : sel (fun _ p => q p) L = L.filter q := selA_filter q [] L
theorem selA_mem {K : List P7 → P7 → Bool} {A l : List P7} {p : P7} (h : p ∈ selA K A l) : p ∈ l := by
  induction l generalizing A with
  | nil => simp [selA] at h
  | cons x l ih =>
    simp only [selA, List.mem_append] at h
    rcases h with h | h
    · split at h
      · simp at h; simp [h]
      · simp at h
    · exact List.mem_cons_of_mem _ (ih h)

/-- Numbers that an int holds. -/
def FrOk (L : List P7) : Prop := ∀ p ∈ L, IntKind.i64.wrap p.fr = p.fr
theorem FrOk.sel {L : List P7} (h : FrOk L) (K : List P7 → P7 → Bool) : FrOk (sel K L) := fun p hp => h p (selA_mem hp)
theorem FrOk.at {L : List P7} (h : FrOk L) {k : Nat} (hk : k < L.length) : IntKind.i64.wrap (L.getD k p70).fr = (L.getD k p70).fr := h _ (getD_in hk)

/-- What is ready. -/
def readyK (t : Int) (_ : List P7) (p : P7) : Bool := readyB p.st p.ti t
def vReady (L : List P7) (t : Int) : List P7 := sel (readyK t) L
/-- What one sends. -/
def ofK (f : Int) (_ : List P7) (p : P7) : Bool := p.fr == f
def vOf (L : List P7) (f : Int) : List P7 := sel (ofK f) L
theorem vReady_eq (L : List P7) (t : Int) : vReady L t = L.filter fun p => readyB p.st p.ti t := sel_filter _ L
theorem vOf_eq (L : List P7) (f : Int) : vOf L f = L.filter fun p => p.fr == f := sel_filter _ L
/-- How many one sends. -/
def cntF (A : List P7) (f : Int) : Nat := (vOf A f).length
theorem cntF_nil (f : Int) : cntF [] f = 0 := rfl
theorem cntF_snoc (A : List P7) (p : P7) (f : Int) : cntF (A ++ [p]) f = cntF A f + if p.fr = f then 1 else 0 := by
  unfold cntF vOf
  rw [sel_snoc]
  unfold ofK
  by_cases h : p.fr = f <;> simp [h]
theorem cntF_le (A : List P7) (f : Int) : cntF A f ≤ A.length := sel_len _ A
/-- How many of another class than Normal one sends. -/
def othF (A : List P7) (f : Int) : Nat := (A.filter fun p => p.fr == f && p.cl != 3).length
theorem othF_snoc (A : List P7) (p : P7) (f : Int) : othF (A ++ [p]) f = othF A f + if p.fr = f ∧ ¬ p.cl = 3 then 1 else 0 := by
  unfold othF
  rw [List.filter_append]
  by_cases h : p.fr = f <;> by_cases h2 : p.cl = 3 <;> simp [h, h2]
theorem othF_le (A : List P7) (f : Int) : othF A f ≤ A.length := List.length_filter_le _ _
/-- What may go, of what is ready. -/
def mayK (R A : List P7) (p : P7) : Bool := decide (cntF A p.fr = 0) || decide (othF R p.fr = 0)
def vMay (L : List P7) (t : Int) : List P7 := sel (mayK (vReady L t)) (vReady L t)
/-- The first ones of each. -/
def headK (M : List Int) (A : List P7) (p : P7) : Bool := decide (0 ≤ p.fr) && decide (p.fr < M.length) && decide ((cntF A p.fr : Int) < M.getD p.fr.toNat 0)
def vHeads (L : List P7) (M : List Int) : List P7 := sel (headK M) L

end Go.Proofs.Ytlackjldopeigaa

/-
  giroref14.Ready, Of.
-/
namespace Go.Proofs.Ytlackjldopeigaa
open Go.RowKit
set_option linter.unusedVariables false
set_option linter.unusedSimpArgs false

set_option maxHeartbeats 4000000 in
theorem refVReady_any (a : Option Addr) (n c : Nat) (L : List P7) (t : Int) (w : World) (h : PGood w a n c L) (hm : n ≤ 100000) :
    Calls Try.prog 20 #[.slice a n c, .int .i64 t] w (PEnd w (vReady L t)) := by
  have H : Hid (PGood w a n c L) := h
  have HN : Hid (n = L.length) := h.len
  clear h
  go_enter Try.func20, Try.ntmps20
  go_wp2
  go_loopw [5, 6] (fun tv i wr => ∃ (k z : Nat) (v : Value), k ≤ n ∧ i = .int .i64 k ∧ v = tv ∧ z ≤ k ∧ Hid (wr.ownsRow w.heap.size 51 7 v z (payL (sel (readyK t) (L.take k)))) ∧ Hid (Below w.heap.size w wr)) (fun _ i _ => n - (intOf i).toNat)
  case atStart => exact ⟨0, 0, _, by omega, rfl, rfl, by omega, World.ownsRow_nil _ _ _ _, Below.refl _ _⟩
  case round =>
    obtain ⟨k, z, v, hk, rfl, rfl, hz, HO, HB⟩ := hrel
    by_cases hlt : k < n
    · obtain ⟨b, off, rfl, HC⟩ := H.out.at hlt
      have i1 : (k : Int) < (n : Int) := by omega
      obtain ⟨x, hx⟩ : ∃ x, L.getD k p70 = x := ⟨_, rfl⟩
      have C0 := HC k hlt
      rw [hx] at C0
      obtain ⟨x0, x1, x2, x3, x4, x5, x6⟩ := x
      have C : Hid (At7 w b (off + k * 7) (x0, x1, x2, x3, x4, x5, x6)) := C0
      have HX : Hid (L.getD k p70 = (x0, x1, x2, x3, x4, x5, x6)) := hx
      obtain ⟨p0, p1, p2, p3, p4, p5, p6⟩ := C.out.below HB.out
      simp only [P7.id, P7.fr, P7.to, P7.am, P7.cl, P7.st, P7.ti] at p0 p1 p2 p3 p4 p5 p6
      have R := refReady_any x0 x1 x2 x3 x4 x5 x6 t wr
      clear HC C0 hx H
      cases hr : readyB x5 x6 t with
      | true =>
        rw [hr] at R
        have HS : Hid (sel (readyK t) (L.take k) ++ [(x0, x1, x2, x3, x4, x5, x6)] = sel (readyK t) (L.take (k + 1))) := sel_yes (by have := HN.out; omega) HX.out hr
        clear hr
        go_wp2_with fail
        go_at_call 44
        refine R.mono ?_
        rintro e w1 ⟨rfl, hb⟩
        have B1 : Hid (Below w.heap.size w w1) := HB.out.trans (hb.mono HB.out.size)
        have O1 : Hid (w1.ownsRow w.heap.size 51 7 v z (payL (sel (readyK t) (L.take k)))) := own_below HO.out hb
        clear p0 p1 p2 p3 p4 p5 p6 R hb HO
        obtain ⟨p0, p1, p2, p3, p4, p5, p6⟩ := C.out.below B1.out
        simp only [P7.id, P7.fr, P7.to, P7.am, P7.cl, P7.st, P7.ti] at p0 p1 p2 p3 p4 p5 p6
        go_wp2_with (at_builtin; refine wpList_append_pays rfl _ _ rfl w.heap.size v z _ rfl (own_below O1.out (box_below _ _)) (some ⟨w1.heap.size, 0, none⟩) 1 1 [(x0, x1, x2, x3, x4, x5, x6)] rfl (PGood.lit1 w1 (x0, x1, x2, x3, x4, x5, x6)) (by omega) (by rw [size_alloc]; have := B1.out.size; omega) ?_)
        intro v2 w2 ho hg
        have O2 : Hid (w2.ownsRow w.heap.size 51 7 v2 (z + 1) (payL (sel (readyK t) (L.take (k + 1))))) := by rw [← HS.out]; exact ho
        have B2 : Hid (Below w.heap.size w w2) := (B1.out.alloc B1.out.size _).grown hg (by rw [size_alloc]; have := B1.out.size; omega) (fun j hj => (O1.out.lt j hj).1)
        clear ho hg O1 p0 p1 p2 p3 p4 p5 p6
        go_wp2
        go_roundw
        case rel => exact ⟨k + 1, z + 1, v2, by omega, by go_num, rfl, by omega, O2, B2⟩
        case measure => simp [intOf]; omega
      | false =>
        rw [hr] at R
        have HS : Hid (sel (readyK t) (L.take k) = sel (readyK t) (L.take (k + 1))) := sel_no (by have := HN.out; omega) HX.out hr
        clear hr
        go_wp2_with fail
        go_at_call 44
        refine R.mono ?_
        rintro e w1 ⟨rfl, hb⟩
        have B1 : Hid (Below w.heap.size w w1) := HB.out.trans (hb.mono HB.out.size)
        have O1 : Hid (w1.ownsRow w.heap.size 51 7 v z (payL (sel (readyK t) (L.take (k + 1))))) := by rw [← HS.out]; exact own_below HO.out hb
        clear p0 p1 p2 p3 p4 p5 p6 R hb HO
        go_wp2
        go_roundw
        case rel => exact ⟨k + 1, z, v, by omega, by go_num, rfl, by omega, O1, B1⟩
        case measure => simp [intOf]; omega
    · obtain rfl : k = n := by omega
      have HF : Hid (sel (readyK t) (L.take k) = vReady L t) := sel_all HN.out
      clear H
      go_wp2
      go_ret
      have := HO.out
      rw [HF.out] at this
      obtain ⟨a2, c2, hv, g, hnew⟩ := PGood.own this
      subst hv
      exact ⟨a2, c2, rfl, g, hnew, HB.out⟩

set_option maxHeartbeats 4000000 in
theorem refVOf_any (a : Option Addr) (n c : Nat) (L : List P7) (f : Int) (w : World) (h : PGood w a n c L) (hm : n ≤ 100000) :
    Calls Try.prog 23 #[.slice a n c, .int .i64 f] w (PEnd w (vOf L f)) := by
  have H : Hid (PGood w a n c L) := h
  have HN : Hid (n = L.length) := h.len
  clear h
  go_enter Try.func23, Try.ntmps23
  go_wp2
  go_loopw [5, 6] (fun tv i wr => ∃ (k z : Nat) (v : Value), k ≤ n ∧ i = .int .i64 k ∧ v = tv ∧ z ≤ k ∧ Hid (wr.ownsRow w.heap.size 51 7 v z (payL (sel (ofK f) (L.take k)))) ∧ Hid (Below w.heap.size w wr)) (fun _ i _ => n - (intOf i).toNat)
  case atStart => exact ⟨0, 0, _, by omega, rfl, rfl, by omega, World.ownsRow_nil _ _ _ _, Below.refl _ _⟩
  case round =>
    obtain ⟨k, z, v, hk, rfl, rfl, hz, HO, HB⟩ := hrel
    by_cases hlt : k < n
    · obtain ⟨b, off, rfl, HC⟩ := H.out.at hlt
      have i1 : (k : Int) < (n : Int) := by omega
      obtain ⟨x, hx⟩ : ∃ x, L.getD k p70 = x := ⟨_, rfl⟩
      have C0 := HC k hlt
      rw [hx] at C0
      obtain ⟨x0, x1, x2, x3, x4, x5, x6⟩ := x
      have C : Hid (At7 w b (off + k * 7) (x0, x1, x2, x3, x4, x5, x6)) := C0
      have HX : Hid (L.getD k p70 = (x0, x1, x2, x3, x4, x5, x6)) := hx
      obtain ⟨p0, p1, p2, p3, p4, p5, p6⟩ := C.out.below HB.out
      simp only [P7.id, P7.fr, P7.to, P7.am, P7.cl, P7.st, P7.ti] at p0 p1 p2 p3 p4 p5 p6
      clear HC C0 hx H
      cases hr : (x1 == f) with
      | true =>
        have HS : Hid (sel (ofK f) (L.take k) ++ [(x0, x1, x2, x3, x4, x5, x6)] = sel (ofK f) (L.take (k + 1))) := sel_yes (by have := HN.out; omega) HX.out hr
        go_wp2_with (at_builtin; refine wpList_append_pays rfl _ _ rfl w.heap.size v z _ rfl (own_below HO.out (box_below _ _)) (some ⟨wr.heap.size, 0, none⟩) 1 1 [(x0, x1, x2, x3, x4, x5, x6)] rfl (PGood.lit1 wr (x0, x1, x2, x3, x4, x5, x6)) (by omega) (by rw [size_alloc]; have := HB.out.size; omega) ?_)
        intro v2 w2 ho hg
        have O2 : Hid (w2.ownsRow w.heap.size 51 7 v2 (z + 1) (payL (sel (ofK f) (L.take (k + 1))))) := by rw [← HS.out]; exact ho
        have B2 : Hid (Below w.heap.size w w2) := (HB.out.alloc HB.out.size _).grown hg (by rw [size_alloc]; have := HB.out.size; omega) (fun j hj => (HO.out.lt j hj).1)
        clear ho hg HO p0 p1 p2 p3 p4 p5 p6
        go_wp2
        go_roundw
        case rel => exact ⟨k + 1, z + 1, v2, by omega, by go_num, rfl, by omega, O2, B2⟩
        case measure => simp [intOf]; omega
      | false =>
        have HS : Hid (sel (ofK f) (L.take k) = sel (ofK f) (L.take (k + 1))) := sel_no (by have := HN.out; omega) HX.out hr
        have O1 : Hid (wr.ownsRow w.heap.size 51 7 v z (payL (sel (ofK f) (L.take (k + 1))))) := by rw [← HS.out]; exact HO.out
        clear HO
        go_wp2
        go_roundw
        case rel => exact ⟨k + 1, z, v, by omega, by go_num, rfl, by omega, O1, HB⟩
        case measure => simp [intOf]; omega
    · obtain rfl : k = n := by omega
      have HF : Hid (sel (ofK f) (L.take k) = vOf L f) := sel_all HN.out
      clear H
      go_wp2
      go_ret
      have := HO.out
      rw [HF.out] at this
      obtain ⟨a2, c2, hv, g, hnew⟩ := PGood.own this
      subst hv
      exact ⟨a2, c2, rfl, g, hnew, HB.out⟩

end Go.Proofs.Ytlackjldopeigaa

/-
  view.such, with each of the functions that it is handed.
-/
namespace Go.Proofs.Ytlackjldopeigaa
open Go.RowKit
set_option linter.unusedVariables false
set_option linter.unusedSimpArgs false

theorem At7.grown {w w' : World} {g o : Nat} {p : P7} {r : Option Nat} (h : At7 w g o p) (hg : w.grownBy w' r) (hne : some g ≠ r) : At7 w' g o p := by
  obtain ⟨h0, h1, h2, h3, h4, h5, h6⟩ := h
  exact ⟨hg.cell h0 hne, hg.cell h1 hne, hg.cell h2 hne, hg.cell h3 hne, hg.cell h4 hne, hg.cell h5 hne, hg.cell h6 hne⟩
theorem grown_below {w w' : World} (h : Below w.heap.size w w') (r : Option Nat) : w.grownBy w' r := ⟨h.os, h.tape, h.output, h.size, fun k hk _ => h.block k hk⟩
theorem below_grown {w w' : World} (h : w.grownBy w' none) : Below w.heap.size w w' := ⟨h.os, h.tape, h.output, h.size, fun k hk => h.block k hk (by simp)⟩
/-- What a call leaves that makes a row of its own, and may write one block. -/
def PMadeO (o : Option Nat) (w : World) (L : List P7) (e : Ending) (w' : World) : Prop := ∃ v, e = .returned v ∧ w'.ownsRow w.heap.size 51 7 v L.length (payL L) ∧ w.grownBy w' o
def PMade (w : World) (L : List P7) (e : Ending) (w' : World) : Prop := ∃ v, e = .returned v ∧ w'.ownsRow w.heap.size 51 7 v L.length (payL L) ∧ Below w.heap.size w w'
theorem PMade.end {w : World} {L : List P7} {e : Ending} {w' : World} (h : PMade w L e w') : PEnd w L e w' := by
  obtain ⟨v, rfl, h2, h3⟩ := h
  obtain ⟨a, c, rfl, g, hn⟩ := PGood.own h2
  exact ⟨a, c, rfl, g, hn, h3⟩

set_option maxHeartbeats 4000000 in
theorem suchReady (g1 : Nat) (o : Option Nat) (K : List P7 → P7 → Bool) (I : List P7 → World → Prop) (a : Option Addr) (n c : Nat) (L : List P7) (w : World) (h : PGood w a n c L) (hm : n ≤ 100000)
    (ho : ∀ x, o = some x → x < w.heap.size) (ha : 0 < n → ∀ x, a = some x → some x.block ≠ o)
    (hI : ∀ A u u' r, (∀ x, r = some x → w.heap.size ≤ x) → I A u → u.grownBy u' r → I A u') (h0 : I [] w)
    (hs : ∀ k u, k < n → w.grownBy u o → I (L.take k) u → Calls Try.prog 54 #[(L.getD k p70).val, .pointer (some ⟨g1, 0, none⟩)] u fun e u' => e = .returned (.bool (K (L.take k) (L.getD k p70))) ∧ I (L.take (k + 1)) u' ∧ u.grownBy u' o) :
    Calls Try.prog 53 #[.slice a n c, .func (.func 54) #[] #[.pointer (some ⟨g1, 0, none⟩)]] w fun e w' => PMadeO o w (sel K L) e w' ∧ I L w' := by
  have H : Hid (PGood w a n c L) := h
  have HN : Hid (n = L.length) := h.len
  have HO : Hid (∀ x, o = some x → x < w.heap.size) := ho
  have HA : Hid (0 < n → ∀ x, a = some x → some x.block ≠ o) := ha
  have HI0 : Hid (∀ A u u' r, (∀ x, r = some x → w.heap.size ≤ x) → I A u → u.grownBy u' r → I A u') := hI
  have H0 : Hid (I [] w) := h0
  have HS : Hid (∀ k u, k < n → w.grownBy u o → I (L.take k) u → Calls Try.prog 54 #[(L.getD k p70).val, .pointer (some ⟨g1, 0, none⟩)] u fun e u' => e = .returned (.bool (K (L.take k) (L.getD k p70))) ∧ I (L.take (k + 1)) u' ∧ u.grownBy u' o) := hs
  clear h ho ha hI h0 hs
  go_enter Try.func53, Try.ntmps53
  go_wp2
  go_loopw [5, 10] (fun tv i wr => ∃ (k z : Nat) (v : Value), k ≤ n ∧ i = .int .i64 k ∧ v = tv ∧ z ≤ k ∧ Hid (wr.ownsRow w.heap.size 51 7 v z (payL (sel K (L.take k)))) ∧ Hid (I (L.take k) wr) ∧ Hid (w.grownBy wr o)) (fun _ i _ => n - (intOf i).toNat)
  case atStart => exact ⟨0, 0, _, by omega, rfl, rfl, by omega, World.ownsRow_nil _ _ _ _, H0, World.grownBy.refl _ _⟩
  case round =>
    obtain ⟨k, z, v, hk, rfl, rfl, hz, HR, HI, HG⟩ := hrel
    by_cases hlt : k < n
    · obtain ⟨b, off, rfl, HC⟩ := H.out.at hlt
      have i1 : (k : Int) < (n : Int) := by omega
      have C0 := (HC k hlt).grown HG.out (HA.out (by omega) _ rfl)
      have S := HS.out k (wr.alloc (.cells #[.int .i64 (L.getD k p70).id, .int .i64 (L.getD k p70).fr, .int .i64 (L.getD k p70).to, .int .i64 (L.getD k p70).am, .int .i64 (L.getD k p70).cl, .int .i64 (L.getD k p70).st, .int .i64 (L.getD k p70).ti] 51)) hlt (HG.out.andThen (World.grownBy_alloc wr _ o) (fun j hj => .inr hj)) (HI0.out _ _ _ none (fun x hx => by cases hx) HI.out (World.grownBy_alloc wr _ none))
      obtain ⟨x, hx⟩ : ∃ x, L.getD k p70 = x := ⟨_, rfl⟩
      rw [hx] at C0 S
      obtain ⟨x0, x1, x2, x3, x4, x5, x6⟩ := x
      have X1 : Hid (At7 (wr.alloc (.cells #[.int .i64 x0, .int .i64 x1, .int .i64 x2, .int .i64 x3, .int .i64 x4, .int .i64 x5, .int .i64 x6] 51)) wr.heap.size 0 (x0, x1, x2, x3, x4, x5, x6)) := At7.new wr (x0, x1, x2, x3, x4, x5, x6) _ _
      have HX : Hid (L.getD k p70 = (x0, x1, x2, x3, x4, x5, x6)) := hx
      obtain ⟨p0, p1, p2, p3, p4, p5, p6⟩ := C0
      simp only [P7.id, P7.fr, P7.to, P7.am, P7.cl, P7.st, P7.ti] at p0 p1 p2 p3 p4 p5 p6
      clear HC hx H HS
      cases hr : K (L.take k) (x0, x1, x2, x3, x4, x5, x6) with
      | true =>
        rw [hr] at S
        have HE : Hid (sel K (L.take k) ++ [(x0, x1, x2, x3, x4, x5, x6)] = sel K (L.take (k + 1))) := sel_yes (by have := HN.out; omega) HX.out hr
        clear hr
        go_wp2_with fail
        go_at_call 54
        refine S.mono ?_
        rintro e w2 ⟨rfl, i2, hg2⟩
        have G2 : Hid (w.grownBy w2 o) := HG.out.andThen ((World.grownBy_alloc wr _ o).trans hg2) (fun j hj => .inr hj)
        have X2 : Hid (At7 w2 wr.heap.size 0 (x0, x1, x2, x3, x4, x5, x6)) := X1.out.grown hg2 (fun e => by have := HO.out _ e.symm; have := HG.out.size; omega)
        have O2 : Hid (w2.ownsRow w.heap.size 51 7 v z (payL (sel K (L.take k)))) := (HR.out.alloc _).kept hg2 (by
          cases hv : v.ownBlock with
          | none => exact .inl rfl
          | some j => exact .inr (fun e => by have := HO.out j e.symm; have := (HR.out.lt j hv).1; omega))
        have I2 : Hid (I (L.take (k + 1)) w2) := i2
        clear i2 hg2 S X1 HR HI HG
        clear p0 p1 p2 p3 p4 p5 p6
        obtain ⟨p0, p1, p2, p3, p4, p5, p6⟩ := X2.out
        simp only [P7.id, P7.fr, P7.to, P7.am, P7.cl, P7.st, P7.ti] at p0 p1 p2 p3 p4 p5 p6
        go_wp2_with (at_builtin; refine wpList_append_pays rfl _ _ rfl w.heap.size v z _ rfl (O2.out.alloc _) (some ⟨w2.heap.size, 0, none⟩) 1 1 [(x0, x1, x2, x3, x4, x5, x6)] rfl (PGood.lit1 w2 (x0, x1, x2, x3, x4, x5, x6)) (by omega) (by rw [size_alloc]; have := G2.out.size; omega) ?_)
        intro v3 w3 ho3 hg3
        have O3 : Hid (w3.ownsRow w.heap.size 51 7 v3 (z + 1) (payL (sel K (L.take (k + 1))))) := by rw [← HE.out]; exact ho3
        have hb := fun j hj => (O2.out.lt j hj).1
        have G3 : Hid (w.grownBy w3 o) := G2.out.andThen ((World.grownBy_alloc w2 _ v.ownBlock).trans hg3) (fun j hj => .inl (hb j hj))
        have I3 : Hid (I (L.take (k + 1)) w3) := HI0.out _ _ _ _ hb I2.out ((World.grownBy_alloc w2 _ v.ownBlock).trans hg3)
        clear ho3 hg3 hb O2 G2 I2 X2 p0 p1 p2 p3 p4 p5 p6
        go_wp2
        go_roundw
        case rel => exact ⟨k + 1, z + 1, v3, by omega, by go_num, rfl, by omega, O3, I3, G3⟩
        case measure => simp [intOf]; omega
      | false =>
        rw [hr] at S
        have HE : Hid (sel K (L.take k) = sel K (L.take (k + 1))) := sel_no (by have := HN.out; omega) HX.out hr
        clear hr
        go_wp2_with fail
        go_at_call 54
        refine S.mono ?_
        rintro e w2 ⟨rfl, i2, hg2⟩
        have G2 : Hid (w.grownBy w2 o) := HG.out.andThen ((World.grownBy_alloc wr _ o).trans hg2) (fun j hj => .inr hj)
        have X2 : Hid (At7 w2 wr.heap.size 0 (x0, x1, x2, x3, x4, x5, x6)) := X1.out.grown hg2 (fun e => by have := HO.out _ e.symm; have := HG.out.size; omega)
        have O2 : Hid (w2.ownsRow w.heap.size 51 7 v z (payL (sel K (L.take k)))) := (HR.out.alloc _).kept hg2 (by
          cases hv : v.ownBlock with
          | none => exact .inl rfl
          | some j => exact .inr (fun e => by have := HO.out j e.symm; have := (HR.out.lt j hv).1; omega))
        have I2 : Hid (I (L.take (k + 1)) w2) := i2
        clear i2 hg2 S X1 HR HI HG
        have O3 : Hid (w2.ownsRow w.heap.size 51 7 v z (payL (sel K (L.take (k + 1))))) := by rw [← HE.out]; exact O2.out
        clear p0 p1 p2 p3 p4 p5 p6 O2 X2
        go_wp2
        go_roundw
        case rel => exact ⟨k + 1, z, v, by omega, by go_num, rfl, by omega, O3, I2, G2⟩
        case measure => simp [intOf]; omega
    · obtain rfl : k = n := by omega
      have HF : Hid (sel K (L.take k) = sel K L) := sel_all HN.out
      have HL : Hid (L.take k = L) := by show _ = _; rw [HN.out, List.take_length]
      clear H HS
      go_wp2
      go_ret
      have hr := HR.out
      have hi := HI.out
      rw [HF.out] at hr
      rw [HL.out] at hi
      have hzl : z = (sel K L).length := by have := hr.1; rw [payL_length] at this; omega
      rw [hzl] at hr
      exact ⟨⟨v, rfl, hr, HG.out⟩, hi⟩



set_option maxHeartbeats 4000000 in
theorem suchHeads (g1 g2 : Nat) (o : Option Nat) (K : List P7 → P7 → Bool) (I : List P7 → World → Prop) (a : Option Addr) (n c : Nat) (L : List P7) (w : World) (h : PGood w a n c L) (hm : n ≤ 100000)
    (ho : ∀ x, o = some x → x < w.heap.size) (ha : 0 < n → ∀ x, a = some x → some x.block ≠ o)
    (hI : ∀ A u u' r, (∀ x, r = some x → w.heap.size ≤ x) → I A u → u.grownBy u' r → I A u') (h0 : I [] w)
    (hs : ∀ k u, k < n → w.grownBy u o → I (L.take k) u → Calls Try.prog 59 #[(L.getD k p70).val, .pointer (some ⟨g1, 0, none⟩), .pointer (some ⟨g2, 0, none⟩)] u fun e u' => e = .returned (.bool (K (L.take k) (L.getD k p70))) ∧ I (L.take (k + 1)) u' ∧ u.grownBy u' o) :
    Calls Try.prog 53 #[.slice a n c, .func (.func 59) #[] #[.pointer (some ⟨g1, 0, none⟩), .pointer (some ⟨g2, 0, none⟩)]] w fun e w' => PMadeO o w (sel K L) e w' ∧ I L w' := by
  have H : Hid (PGood w a n c L) := h
  have HN : Hid (n = L.length) := h.len
  have HO : Hid (∀ x, o = some x → x < w.heap.size) := ho
  have HA : Hid (0 < n → ∀ x, a = some x → some x.block ≠ o) := ha
  have HI0 : Hid (∀ A u u' r, (∀ x, r = some x → w.heap.size ≤ x) → I A u → u.grownBy u' r → I A u') := hI
  have H0 : Hid (I [] w) := h0
  have HS : Hid (∀ k u, k < n → w.grownBy u o → I (L.take k) u → Calls Try.prog 59 #[(L.getD k p70).val, .pointer (some ⟨g1, 0, none⟩), .pointer (some ⟨g2, 0, none⟩)] u fun e u' => e = .returned (.bool (K (L.take k) (L.getD k p70))) ∧ I (L.take (k + 1)) u' ∧ u.grownBy u' o) := hs
  clear h ho ha hI h0 hs
  go_enter Try.func53, Try.ntmps53
  go_wp2
  go_loopw [5, 10] (fun tv i wr => ∃ (k z : Nat) (v : Value), k ≤ n ∧ i = .int .i64 k ∧ v = tv ∧ z ≤ k ∧ Hid (wr.ownsRow w.heap.size 51 7 v z (payL (sel K (L.take k)))) ∧ Hid (I (L.take k) wr) ∧ Hid (w.grownBy wr o)) (fun _ i _ => n - (intOf i).toNat)
  case atStart => exact ⟨0, 0, _, by omega, rfl, rfl, by omega, World.ownsRow_nil _ _ _ _, H0, World.grownBy.refl _ _⟩
  case round =>
    obtain ⟨k, z, v, hk, rfl, rfl, hz, HR, HI, HG⟩ := hrel
    by_cases hlt : k < n
    · obtain ⟨b, off, rfl, HC⟩ := H.out.at hlt
      have i1 : (k : Int) < (n : Int) := by omega
      have C0 := (HC k hlt).grown HG.out (HA.out (by omega) _ rfl)
      have S := HS.out k (wr.alloc (.cells #[.int .i64 (L.getD k p70).id, .int .i64 (L.getD k p70).fr, .int .i64 (L.getD k p70).to, .int .i64 (L.getD k p70).am, .int .i64 (L.getD k p70).cl, .int .i64 (L.getD k p70).st, .int .i64 (L.getD k p70).ti] 51)) hlt (HG.out.andThen (World.grownBy_alloc wr _ o) (fun j hj => .inr hj)) (HI0.out _ _ _ none (fun x hx => by cases hx) HI.out (World.grownBy_alloc wr _ none))
      obtain ⟨x, hx⟩ : ∃ x, L.getD k p70 = x := ⟨_, rfl⟩
      rw [hx] at C0 S
      obtain ⟨x0, x1, x2, x3, x4, x5, x6⟩ := x
      have X1 : Hid (At7 (wr.alloc (.cells #[.int .i64 x0, .int .i64 x1, .int .i64 x2, .int .i64 x3, .int .i64 x4, .int .i64 x5, .int .i64 x6] 51)) wr.heap.size 0 (x0, x1, x2, x3, x4, x5, x6)) := At7.new wr (x0, x1, x2, x3, x4, x5, x6) _ _
      have HX : Hid (L.getD k p70 = (x0, x1, x2, x3, x4, x5, x6)) := hx
      obtain ⟨p0, p1, p2, p3, p4, p5, p6⟩ := C0
      simp only [P7.id, P7.fr, P7.to, P7.am, P7.cl, P7.st, P7.ti] at p0 p1 p2 p3 p4 p5 p6
      clear HC hx H HS
      cases hr : K (L.take k) (x0, x1, x2, x3, x4, x5, x6) with
      | true =>
        rw [hr] at S
        have HE : Hid (sel K (L.take k) ++ [(x0, x1, x2, x3, x4, x5, x6)] = sel K (L.take (k + 1))) := sel_yes (by have := HN.out; omega) HX.out hr
        clear hr
        go_wp2_with fail
        go_at_call 59
        refine S.mono ?_
        rintro e w2 ⟨rfl, i2, hg2⟩
        have G2 : Hid (w.grownBy w2 o) := HG.out.andThen ((World.grownBy_alloc wr _ o).trans hg2) (fun j hj => .inr hj)
        have X2 : Hid (At7 w2 wr.heap.size 0 (x0, x1, x2, x3, x4, x5, x6)) := X1.out.grown hg2 (fun e => by have := HO.out _ e.symm; have := HG.out.size; omega)
        have O2 : Hid (w2.ownsRow w.heap.size 51 7 v z (payL (sel K (L.take k)))) := (HR.out.alloc _).kept hg2 (by
          cases hv : v.ownBlock with
          | none => exact .inl rfl
          | some j => exact .inr (fun e => by have := HO.out j e.symm; have := (HR.out.lt j hv).1; omega))
        have I2 : Hid (I (L.take (k + 1)) w2) := i2
        clear i2 hg2 S X1 HR HI HG
        clear p0 p1 p2 p3 p4 p5 p6
        obtain ⟨p0, p1, p2, p3, p4, p5, p6⟩ := X2.out
        simp only [P7.id, P7.fr, P7.to, P7.am, P7.cl, P7.st, P7.ti] at p0 p1 p2 p3 p4 p5 p6
        go_wp2_with (at_builtin; refine wpList_append_pays rfl _ _ rfl w.heap.size v z _ rfl (O2.out.alloc _) (some ⟨w2.heap.size, 0, none⟩) 1 1 [(x0, x1, x2, x3, x4, x5, x6)] rfl (PGood.lit1 w2 (x0, x1, x2, x3, x4, x5, x6)) (by omega) (by rw [size_alloc]; have := G2.out.size; omega) ?_)
        intro v3 w3 ho3 hg3
        have O3 : Hid (w3.ownsRow w.heap.size 51 7 v3 (z + 1) (payL (sel K (L.take (k + 1))))) := by rw [← HE.out]; exact ho3
        have hb := fun j hj => (O2.out.lt j hj).1
        have G3 : Hid (w.grownBy w3 o) := G2.out.andThen ((World.grownBy_alloc w2 _ v.ownBlock).trans hg3) (fun j hj => .inl (hb j hj))
        have I3 : Hid (I (L.take (k + 1)) w3) := HI0.out _ _ _ _ hb I2.out ((World.grownBy_alloc w2 _ v.ownBlock).trans hg3)
        clear ho3 hg3 hb O2 G2 I2 X2 p0 p1 p2 p3 p4 p5 p6
        go_wp2
        go_roundw
        case rel => exact ⟨k + 1, z + 1, v3, by omega, by go_num, rfl, by omega, O3, I3, G3⟩
        case measure => simp [intOf]; omega
      | false =>
        rw [hr] at S
        have HE : Hid (sel K (L.take k) = sel K (L.take (k + 1))) := sel_no (by have := HN.out; omega) HX.out hr
        clear hr
        go_wp2_with fail
        go_at_call 59
        refine S.mono ?_
        rintro e w2 ⟨rfl, i2, hg2⟩
        have G2 : Hid (w.grownBy w2 o) := HG.out.andThen ((World.grownBy_alloc wr _ o).trans hg2) (fun j hj => .inr hj)
        have X2 : Hid (At7 w2 wr.heap.size 0 (x0, x1, x2, x3, x4, x5, x6)) := X1.out.grown hg2 (fun e => by have := HO.out _ e.symm; have := HG.out.size; omega)
        have O2 : Hid (w2.ownsRow w.heap.size 51 7 v z (payL (sel K (L.take k)))) := (HR.out.alloc _).kept hg2 (by
          cases hv : v.ownBlock with
          | none => exact .inl rfl
          | some j => exact .inr (fun e => by have := HO.out j e.symm; have := (HR.out.lt j hv).1; omega))
        have I2 : Hid (I (L.take (k + 1)) w2) := i2
        clear i2 hg2 S X1 HR HI HG
        have O3 : Hid (w2.ownsRow w.heap.size 51 7 v z (payL (sel K (L.take (k + 1))))) := by rw [← HE.out]; exact O2.out
        clear p0 p1 p2 p3 p4 p5 p6 O2 X2
        go_wp2
        go_roundw
        case rel => exact ⟨k + 1, z, v, by omega, by go_num, rfl, by omega, O3, I2, G2⟩
        case measure => simp [intOf]; omega
    · obtain rfl : k = n := by omega
      have HF : Hid (sel K (L.take k) = sel K L) := sel_all HN.out
      have HL : Hid (L.take k = L) := by show _ = _; rw [HN.out, List.take_length]
      clear H HS
      go_wp2
      go_ret
      have hr := HR.out
      have hi := HI.out
      rw [HF.out] at hr
      rw [HL.out] at hi
      have hzl : z = (sel K L).length := by have := hr.1; rw [payL_length] at this; omega
      rw [hzl] at hr
      exact ⟨⟨v, rfl, hr, HG.out⟩, hi⟩

end Go.Proofs.Ytlackjldopeigaa

/-
  view.Ready, view.Of.
-/
namespace Go.Proofs.Ytlackjldopeigaa
open Go.RowKit
set_option linter.unusedVariables false
set_option linter.unusedSimpArgs false

theorem viewReadyF_any (p : P7) (g : Nat) (t : Int) (w : World) (h : w.cell? ⟨g, 0, none⟩ = some (.int .i64 t)) : Calls Try.prog 54 #[p.val, .pointer (some ⟨g, 0, none⟩)] w fun e w' => e = .returned (.bool (readyB p.st p.ti t)) ∧ Below w.heap.size w w' := by
  obtain ⟨x0, x1, x2, x3, x4, x5, x6⟩ := p
  have hg := block_lt_of_cell h
  have hb := box_below w (.cells #[.int .i64 x0, .int .i64 x1, .int .i64 x2, .int .i64 x3, .int .i64 x4, .int .i64 x5, .int .i64 x6] 51)
  have h' := (hb.cell (p := ⟨g, 0, none⟩) hg).trans h
  have HB : Hid (Below w.heap.size w _) := hb
  have R := ready_any x0 x1 x2 x3 x4 x5 x6 t (w.alloc (.cells #[.int .i64 x0, .int .i64 x1, .int .i64 x2, .int .i64 x3, .int .i64 x4, .int .i64 x5, .int .i64 x6] 51))
  clear hb h hg
  go_enter Try.func54, Try.ntmps54
  go_wp2_with fail
  go_at_call 55
  refine R.mono ?_
  rintro e w1 ⟨rfl, hb⟩
  have B1 : Hid (Below w.heap.size w w1) := HB.out.trans (hb.mono HB.out.size)
  clear hb R HB
  go_wp2
  go_ret
  exact ⟨rfl, B1.out⟩

set_option maxHeartbeats 1000000 in
theorem viewReady_made (a : Option Addr) (n c : Nat) (L : List P7) (t : Int) (w : World) (h : PGood w a n c L) (hm : n ≤ 100000) :
    Calls Try.prog 29 #[.slice a n c, .int .i64 t] w (PMade w (vReady L t)) := by
  have hb : Below w.heap.size w (w.alloc (.cells #[.int .i64 t] 2)) := box_below _ _
  have hs : (w.alloc (.cells #[.int .i64 t] 2)).heap.size = w.heap.size + 1 := size_alloc _ _
  have S := suchReady w.heap.size none (readyK t) (fun _ u => u.cell? ⟨w.heap.size, 0, none⟩ = some (.int .i64 t)) a n c L (w.alloc (.cells #[.int .i64 t] 2)) (h.below hb) hm
    (fun x hx => by cases hx) (fun _ x _ => by simp)
    (fun A u u' r hr hc hg => hg.cell hc (fun e => by have := hr _ e.symm; rw [hs] at this; simp at this; omega))
    (by rw [cell_new]; rfl)
    (fun k u _ _ hc => (viewReadyF_any (L.getD k p70) w.heap.size t u hc).mono fun e u' ⟨h1, h2⟩ => ⟨h1, (h2.cell (p := ⟨w.heap.size, 0, none⟩) (block_lt_of_cell hc)).trans hc, grown_below h2 _⟩)
  have HB : Hid (Below w.heap.size w (w.alloc (.cells #[.int .i64 t] 2))) := hb
  clear h hm hb hs
  go_enter Try.func29, Try.ntmps29
  go_wp2_with fail
  go_at_call 53
  refine S.mono ?_
  rintro e w1 ⟨⟨v1, rfl, o1, hg⟩, -⟩
  have hsz := HB.out.size
  have R : Hid (PMade w (vReady L t) (.returned v1) w1) := ⟨v1, rfl, own_base o1 hsz, HB.out.trans ((below_grown hg).mono hsz)⟩
  clear o1 hg S hsz HB
  go_wp2
  go_ret
  exact R.out
theorem viewReady_any (a : Option Addr) (n c : Nat) (L : List P7) (t : Int) (w : World) (h : PGood w a n c L) (hm : n ≤ 100000) :
    Calls Try.prog 29 #[.slice a n c, .int .i64 t] w (PEnd w (vReady L t)) := (viewReady_made a n c L t w h hm).mono fun _ _ h => h.end


end Go.Proofs.Ytlackjldopeigaa

/-
  A map[int]int that the call made, as a function: what stands at each key, 0 where nothing does.
-/
namespace Go.Proofs.Ytlackjldopeigaa
open Go.RowKit Go.Maps
set_option linter.unusedVariables false
set_option linter.unusedSimpArgs false

theorem keyedInt : Keyed Try.prog 3 := int_keyed Try.underlying3
theorem zeroInt (w : World) : (zeroValue 3).run Try.prog w = .ok (.int .i64 0) w := by kernel_rfl
theorem wf_lit {n : Int} (h : IntKind.i64.wrap n = n) : (Lit.int .i64 n).wf = true := by
  have := wf_i64 h
  exact WalkArith.wf_i64 (by omega)

/-- Block b is such a map, of at most n keys. -/
def MapI (w : World) (b n : Nat) (f : Int → Int) : Prop :=
  ∃ D : DataW Unit, w.ownsMap Try.prog 3 (plainElem Try.prog 3) b n D ∧ IsMap D ∧ ∀ x, D.atKey (.int .i64 x) (.lit (.int .i64 0)) = .lit (.int .i64 (f x))

theorem MapI.new (w : World) : MapI (w.alloc (.map #[] 0)) w.heap.size 0 (fun _ => 0) :=
  ⟨.map [], World.ownsMap_made _ _ _ _, isMap_empty, fun _ => rfl⟩
theorem MapI.lt {w : World} {b n : Nat} {f : Int → Int} (h : MapI w b n f) : b < w.heap.size := by
  obtain ⟨D, h, _⟩ := h
  exact h.lt
theorem MapI.grown {w w' : World} {b n : Nat} {f : Int → Int} {r : Option Nat} (h : MapI w b n f) (hg : w.grownBy w' r) (hne : some b ≠ r) : MapI w' b n f := by
  obtain ⟨D, h, k⟩ := h
  exact ⟨D, h.kept hg hne, k⟩
theorem MapI.below {w w' : World} {b n : Nat} {f : Int → Int} (h : MapI w b n f) (hb : Below w.heap.size w w') : MapI w' b n f :=
  h.grown (r := none) ⟨hb.os, hb.tape, hb.output, hb.size, fun k hk _ => hb.block k hk⟩ (by simp)
theorem MapI.congr {w : World} {b n : Nat} {f g : Int → Int} (h : MapI w b n f) (e : ∀ x, f x = g x) : MapI w b n g := by
  obtain ⟨D, h, h1, h2⟩ := h
  exact ⟨D, h, h1, fun x => by rw [h2, e]⟩
theorem MapI.mono {w : World} {b n m : Nat} {f : Int → Int} (h : MapI w b n f) (e : n ≤ m) : MapI w b m f := by
  obtain ⟨D, h, k⟩ := h
  exact ⟨D, h.mono e, k⟩
/-- It is no block of cells. -/
theorem MapI.ne {w : World} {b n g o : Nat} {f : Int → Int} {v : Value} (h : MapI w b n f) (hc : w.cell? ⟨g, o, none⟩ = some v) : g ≠ b := by
  rintro rfl
  obtain ⟨D, ⟨es, clock, hm, _⟩, _⟩ := h
  unfold World.cell? at hc
  simp [hm] at hc
/-- One more at a key. -/
def upd (f : Int → Int) (x y : Int) : Int → Int := fun z => if z = x then y else f z

end Go.Proofs.Ytlackjldopeigaa

/-
  view.othersOf, view.May and the function in it.
-/
namespace Go.Proofs.Ytlackjldopeigaa
open Go.RowKit Go.Maps
set_option linter.unusedVariables false
set_option linter.unusedSimpArgs false


end Go.Proofs.Ytlackjldopeigaa

/-
  view.May and the function in it.
-/
namespace Go.Proofs.Ytlackjldopeigaa
open Go.RowKit Go.Maps
set_option linter.unusedVariables false
set_option linter.unusedSimpArgs false



end Go.Proofs.Ytlackjldopeigaa

/-
  view.Heads and the function in it.
-/
namespace Go.Proofs.Ytlackjldopeigaa
open Go.RowKit
set_option linter.unusedVariables false
set_option linter.unusedSimpArgs false

theorem infoInt : (Try.prog.info? 3).map (fun i => (i.zero, i.size, i.bytes)) = some (some (.int .i64 0), 1, 8) := by kernel_rfl
/-- Block b holds these ints. -/
def BlkN (w : World) (b : Nat) (zs : List Int) : Prop := w.heap[b]? = some (.cells (zs.map (Value.int .i64)).toArray 3 (0, 0))
theorem BlkN.lt {w : World} {b : Nat} {zs : List Int} (h : BlkN w b zs) : b < w.heap.size := lt_of_block h
theorem BlkN.grown {w w' : World} {b : Nat} {zs : List Int} {r : Option Nat} (h : BlkN w b zs) (hg : w.grownBy w' r) (hne : some b ≠ r) : BlkN w' b zs := (hg.block b h.lt hne).trans h
theorem BlkN.cell {w : World} {b : Nat} {zs : List Int} (h : BlkN w b zs) {k : Nat} (hk : k < zs.length) : w.cell? ⟨b, k, none⟩ = some (.int .i64 (zs.getD k 0)) := by
  rw [cell_of_row w b k _ _ _ h]
  simp [hk]
theorem BlkN.free {w : World} {b : Nat} {zs : List Int} (h : BlkN w b zs) (k : Nat) : w.frozen? ⟨b, k, none⟩ = false := frozen_of_row w b k _ _ h
theorem BlkN.set {w : World} {b : Nat} {zs : List Int} (h : BlkN w b zs) (k : Nat) (x : Int) : BlkN (w.setCell ⟨b, k, none⟩ (.int .i64 x)) b (zs.set k x) := by
  unfold BlkN
  rw [heap_setCell_same w b k _ _ _ h]
  rw [show ((zs.map (Value.int .i64)).toArray.setIfInBounds k (.int .i64 x)) = ((zs.set k x).map (Value.int .i64)).toArray by apply Array.toList_inj.1; simp [List.map_set]]
theorem grown_set (w : World) (b k : Nat) (v : Value) : w.grownBy (w.setCell ⟨b, k, none⟩ v) (some b) := ⟨rfl, rfl, rfl, by simp, fun j _ hj => heap_setCell_other w ⟨b, k, none⟩ j v (fun e => hj (by simp [e]))⟩
theorem makeInts (w : World) (n : Nat) (h : n ≤ 1000000) :
    ∃ w', (Instr.makeSlice 30 (.int .i64 n) (.int .i64 n)).run Try.prog w = .ok (.slice (some ⟨w.heap.size, 0, none⟩) n n) w' ∧ BlkN w' w.heap.size (List.replicate n 0) ∧ Below w.heap.size w w' := by
  obtain ⟨i, hi, hz0, hz1, hz2⟩ := info_parts infoInt
  have hr := run_make (P := Try.prog) w 30 3 i (.int .i64 0) Try.underlying30 hi hz0 .i64 .i64 n n (by omega) (Int.le_refl _) (by rw [hz2]; omega) (by omega)
  simp only [Int.toNat_natCast, hz1, Nat.mul_one] at hr
  refine ⟨_, hr, ?_, (Below.refl _ _).alloc (Nat.le_refl _) _⟩
  have e : madeCells (Value.int .i64 0).cells n = ((List.replicate n 0).map (Value.int .i64)).toArray := by
    apply Array.toList_inj.1
    show (madeCells #[Value.int .i64 0] n).toList = _
    rw [toList_madeCells_one]
    simp
  unfold BlkN
  rw [e]
  exact heap_alloc_new w _
theorem Sl.grown {w w' : World} {a : Option Addr} {n : Nat} {zs : List Int} {r : Option Nat} (h : Sl .i64 w a n zs) (hg : w.grownBy w' r) (hne : ∀ x, a = some x → 0 < n → some x.block ≠ r) : Sl .i64 w' a n zs := by
  refine ⟨h.1, h.2.1, ?_⟩
  rcases h.2.2 with h0 | ⟨b, off, ha, hc⟩
  · exact .inl h0
  · by_cases hn : zs = []
    · exact .inl hn
    · refine .inr ⟨b, off, ha, fun i hi => hg.cell (hc i hi) (by have := hne _ ha (by rw [h.1]; omega); exact this)⟩
theorem Sl.cells_at {w : World} {a : Option Addr} {n : Nat} {zs : List Int} (h : Sl .i64 w a n zs) {k : Nat} (hk : k < n) : ∃ b off, a = some ⟨b, off, none⟩ ∧ ∀ i, i < n → w.cell? ⟨b, off + i, none⟩ = some (.int .i64 (zs.getD i 0)) := by
  have hl := h.1
  rcases h.2.2 with h0 | ⟨b, off, ha, hc⟩
  · subst h0; simp at hl; omega
  · exact ⟨b, off, ha, fun i hi => hc i (by omega)⟩

/-- Is one more taken? -/
def takeB (M T : List Int) (f : Int) : Bool := decide (0 ≤ f) && decide (f < M.length) && decide (T.getD f.toNat 0 < M.getD f.toNat 0)
def takeT (M T : List Int) (f : Int) : List Int := if takeB M T f then T.set f.toNat (T.getD f.toNat 0 + 1) else T
theorem takeB_neg {M T : List Int} {f : Int} (h : f < 0) : takeB M T f = false := by unfold takeB; rw [decide_eq_false (by omega)]; rfl
theorem takeB_over {M T : List Int} {f : Int} (h : (M.length : Int) ≤ f) : takeB M T f = false := by unfold takeB; rw [decide_eq_false (p := f < _) (by omega), Bool.and_false]; rfl
theorem takeB_in {M T : List Int} {k : Nat} (h : k < M.length) : takeB M T (k : Int) = decide (T.getD k 0 < M.getD k 0) := by
  unfold takeB
  rw [decide_eq_true (p := (0 : Int) ≤ _) (by omega), decide_eq_true (p := (k : Int) < _) (by omega), Int.toNat_natCast]
  rfl

set_option maxHeartbeats 4000000 in
theorem viewHeadsF_out (x0 x1 x2 x3 x4 x5 x6 : Int) (g1 g2 nm cm : Nat) (am : Option Addr) (w : World) (h1 : w.cell? ⟨g1, 0, none⟩ = some (.slice am nm cm)) (hf : x1 < 0 ∨ (nm : Int) ≤ x1) :
    Calls Try.prog 59 #[.agg #[.int .i64 x0, .int .i64 x1, .int .i64 x2, .int .i64 x3, .int .i64 x4, .int .i64 x5, .int .i64 x6], .pointer (some ⟨g1, 0, none⟩), .pointer (some ⟨g2, 0, none⟩)] w fun e w' => e = .returned (.bool false) ∧ Below w.heap.size w w' := by
  have hb := box_below w (.cells #[.int .i64 x0, .int .i64 x1, .int .i64 x2, .int .i64 x3, .int .i64 x4, .int .i64 x5, .int .i64 x6] 51)
  have c1 := (hb.cell (p := ⟨g1, 0, none⟩) (block_lt_of_cell h1)).trans h1
  have HB : Hid (Below w.heap.size w (w.alloc (.cells #[.int .i64 x0, .int .i64 x1, .int .i64 x2, .int .i64 x3, .int .i64 x4, .int .i64 x5, .int .i64 x6] 51))) := hb
  clear hb h1
  by_cases h0 : x1 < 0
  · clear hf
    go_enter Try.func59, Try.ntmps59
    go_wp2
    go_quiet (fail)
    go_wp2
    go_ret
    exact ⟨rfl, HB.out.trans ((drawn_below _ _).mono HB.out.size)⟩
  · have h2 : decide ((nm : Int) ≤ x1) = true := by rw [decide_eq_true_eq]; omega
    have h3 : decide (x1 < 0) = false := by rw [decide_eq_false_iff_not]; omega
    clear hf h0
    go_enter Try.func59, Try.ntmps59
    go_wp2
    go_quiet (fail)
    go_wp2
    go_ret
    exact ⟨rfl, HB.out.trans ((drawn_below _ _).mono HB.out.size)⟩

set_option maxHeartbeats 4000000 in
theorem viewHeadsF_in (x0 x2 x3 x4 x5 x6 : Int) (k g1 g2 bt nm cm : Nat) (am : Option Addr) (M T : List Int) (w : World) (h1 : w.cell? ⟨g1, 0, none⟩ = some (.slice am nm cm)) (h2 : w.cell? ⟨g2, 0, none⟩ = some (.slice (some ⟨bt, 0, none⟩) nm nm))
    (hM : Sl .i64 w am nm M) (hT : BlkN w bt T) (hl : T.length = nm) (hk : k < nm) (ht : 0 ≤ T.getD k 0 ∧ T.getD k 0 ≤ 100000) :
    Calls Try.prog 59 #[.agg #[.int .i64 x0, .int .i64 (k : Int), .int .i64 x2, .int .i64 x3, .int .i64 x4, .int .i64 x5, .int .i64 x6], .pointer (some ⟨g1, 0, none⟩), .pointer (some ⟨g2, 0, none⟩)] w fun e w' => e = .returned (.bool (decide (T.getD k 0 < M.getD k 0))) ∧ BlkN w' bt (if T.getD k 0 < M.getD k 0 then T.set k (T.getD k 0 + 1) else T) ∧ w.grownBy w' (some bt) := by
  obtain ⟨bm, om, rfl, hc⟩ := hM.cells_at hk
  have hb := box_below w (.cells #[.int .i64 x0, .int .i64 (k : Int), .int .i64 x2, .int .i64 x3, .int .i64 x4, .int .i64 x5, .int .i64 x6] 51)
  have c1 := (hb.cell (p := ⟨g1, 0, none⟩) (block_lt_of_cell h1)).trans h1
  have c2 := (hb.cell (p := ⟨g2, 0, none⟩) (block_lt_of_cell h2)).trans h2
  have m0 := (hb.cell (p := ⟨bm, om + k, none⟩) (block_lt_of_cell (hc k hk))).trans (hc k hk)
  have HT : Hid (BlkN (w.alloc (.cells #[.int .i64 x0, .int .i64 (k : Int), .int .i64 x2, .int .i64 x3, .int .i64 x4, .int .i64 x5, .int .i64 x6] 51)) bt T) := hT.grown (grown_below hb none) (by simp)
  have t0 := HT.out.cell (k := k) (by omega)
  have f0 := HT.out.free k
  have HG : Hid (w.grownBy (w.alloc (.cells #[.int .i64 x0, .int .i64 (k : Int), .int .i64 x2, .int .i64 x3, .int .i64 x4, .int .i64 x5, .int .i64 x6] 51)) (some bt)) := World.grownBy_alloc _ _ _
  obtain ⟨tq, htq⟩ : ∃ tq, T.getD k 0 = tq := ⟨_, rfl⟩
  obtain ⟨mq, hmq⟩ : ∃ mq, M.getD k 0 = mq := ⟨_, rfl⟩
  rw [htq] at t0 ht ⊢
  rw [hmq] at m0 ⊢
  obtain ⟨ht1, ht2⟩ := ht
  have i1 : (k : Int) < (nm : Int) := by omega
  clear h1 h2 hM hT hl hc hb htq hmq
  by_cases hlt : tq < mq
  · rw [decide_eq_true hlt, if_pos hlt]
    go_enter Try.func59, Try.ntmps59
    go_wp2
    go_quiet (fail)
    go_wp2
    go_ret
    exact ⟨rfl, BlkN.set (w := (w.alloc (.cells #[.int .i64 x0, .int .i64 (k : Int), .int .i64 x2, .int .i64 x3, .int .i64 x4, .int .i64 x5, .int .i64 x6] 51)).drewN nq) HT.out k (tq + 1), HG.out.trans (World.grownBy.trans (b := (w.alloc (.cells #[.int .i64 x0, .int .i64 (k : Int), .int .i64 x2, .int .i64 x3, .int .i64 x4, .int .i64 x5, .int .i64 x6] 51)).drewN nq) ⟨rfl, rfl, rfl, Nat.le_refl _, fun _ _ _ => rfl⟩ (grown_set _ bt k _))⟩
  · have hge : mq ≤ tq := by omega
    rw [decide_eq_false hlt, if_neg hlt]
    clear hlt
    go_enter Try.func59, Try.ntmps59
    go_wp2
    go_quiet (fail)
    go_wp2
    go_ret
    exact ⟨rfl, HT.out, HG.out.trans (World.grownBy.trans (b := (w.alloc (.cells #[.int .i64 x0, .int .i64 (k : Int), .int .i64 x2, .int .i64 x3, .int .i64 x4, .int .i64 x5, .int .i64 x6] 51)).drewN nq) ⟨rfl, rfl, rfl, Nat.le_refl _, fun _ _ _ => rfl⟩ (World.grownBy.refl _ _))⟩

/-- How many were taken of each. -/
def HeadsT (M T : List Int) (A : List P7) : Prop := T.length = M.length ∧ ∀ k, k < M.length → T.getD k 0 = min (cntF A k : Int) (max (M.getD k 0) 0)
def HeadsI (g1 g2 bt : Nat) (am : Option Addr) (nm cm : Nat) (M : List Int) (A : List P7) (u : World) : Prop :=
  u.cell? ⟨g1, 0, none⟩ = some (.slice am nm cm) ∧ u.cell? ⟨g2, 0, none⟩ = some (.slice (some ⟨bt, 0, none⟩) nm nm) ∧ Sl .i64 u am nm M ∧ ∃ T, BlkN u bt T ∧ HeadsT M T A

theorem headsI_grown {g1 g2 bt nm cm : Nat} {am : Option Addr} {M : List Int} {A : List P7} {u u' : World} {r : Option Nat} {B : Nat} (h : HeadsI g1 g2 bt am nm cm M A u) (hB : g1 < B ∧ g2 < B ∧ bt < B ∧ ∀ x, am = some x → 0 < nm → x.block < B) (hr : ∀ x, r = some x → B ≤ x) (hg : u.grownBy u' r) : HeadsI g1 g2 bt am nm cm M A u' := by
  obtain ⟨h1, h2, h3, T, h4, h5⟩ := h
  obtain ⟨b1, b2, b3, b4⟩ := hB
  exact ⟨hg.cell h1 (fun e => by have := hr _ e.symm; simp at this; omega), hg.cell h2 (fun e => by have := hr _ e.symm; simp at this; omega), h3.grown hg (fun x hx hn e => by have := hr _ e.symm; have := b4 x hx hn; omega), T, h4.grown hg (fun e => by have := hr _ e.symm; omega), h5⟩

theorem headsT_skip {M T : List Int} {A : List P7} {p : P7} (h : HeadsT M T A) (hK : headK M A p = false) : HeadsT M T (A ++ [p]) := by
  refine ⟨h.1, fun k hk => ?_⟩
  rw [h.2 k hk, cntF_snoc]
  by_cases hf : p.fr = (k : Int)
  · rw [if_pos hf]
    have : ¬ ((cntF A k : Int) < M.getD k 0) := by
      intro hlt
      have : headK M A p = true := by
        unfold headK
        rw [hf, decide_eq_true (p := (0 : Int) ≤ _) (by omega), decide_eq_true (p := (k : Int) < _) (by omega), Int.toNat_natCast, decide_eq_true hlt]
        rfl
      rw [this] at hK
      cases hK
    omega
  · rw [if_neg hf]; rfl
theorem headsT_take {M T : List Int} {A : List P7} {p : P7} {k : Nat} (h : HeadsT M T A) (hp : p.fr = (k : Int)) (hk : k < M.length) (hlt : (cntF A k : Int) < M.getD k 0) : HeadsT M (T.set k (T.getD k 0 + 1)) (A ++ [p]) := by
  refine ⟨by rw [List.length_set]; exact h.1, fun j hj => ?_⟩
  rw [cntF_snoc]
  by_cases hf : p.fr = (j : Int)
  · obtain rfl : k = j := by omega
    rw [if_pos hf]
    have e : (T.set k (T.getD k 0 + 1)).getD k 0 = T.getD k 0 + 1 := by simp [List.getD_eq_getElem?_getD, h.1, hk]
    rw [e, h.2 k hk]
    omega
  · rw [if_neg hf]
    have hne : k ≠ j := fun e => hf (by rw [hp, e])
    have e : (T.set k (T.getD k 0 + 1)).getD j 0 = T.getD j 0 := by simp [List.getD_eq_getElem?_getD, hne]
    rw [e, h.2 j hj]
    rfl

theorem headsI_step {g1 g2 bt nm cm k : Nat} {am : Option Addr} {M : List Int} {L : List P7} {u : World} (hk : k < L.length) (hm : L.length ≤ 100000) (hne : g1 ≠ bt ∧ g2 ≠ bt ∧ ∀ x, am = some x → 0 < nm → x.block ≠ bt) (h : HeadsI g1 g2 bt am nm cm M (L.take k) u) :
    Calls Try.prog 59 #[(L.getD k p70).val, .pointer (some ⟨g1, 0, none⟩), .pointer (some ⟨g2, 0, none⟩)] u fun e u' => e = .returned (.bool (headK M (L.take k) (L.getD k p70))) ∧ HeadsI g1 g2 bt am nm cm M (L.take (k + 1)) u' ∧ u.grownBy u' (some bt) := by
  obtain ⟨h1, h2, h3, T, h4, h5⟩ := h
  obtain ⟨n1, n2, n3⟩ := hne
  have hl := h3.1
  rw [take_snoc7 L hk]
  have hcl : ∀ f, cntF (L.take k) f ≤ 100000 := fun f => by have := cntF_le (L.take k) f; simp at this; omega
  obtain ⟨A, hA⟩ : ∃ A, L.take k = A := ⟨_, rfl⟩
  rw [hA] at h5 hcl ⊢
  obtain ⟨p, hp⟩ : ∃ p, L.getD k p70 = p := ⟨_, rfl⟩
  rw [hp]
  clear hA hp hk hm
  have hold : ∀ (T' : List Int) (A' : List P7) (u' : World), u.grownBy u' (some bt) → BlkN u' bt T' → HeadsT M T' A' → HeadsI g1 g2 bt am nm cm M A' u' := fun T' A' u' hg hb ht =>
    ⟨hg.cell h1 (by simpa using n1), hg.cell h2 (by simpa using n2), h3.grown hg (fun x hx hn => by simpa using n3 x hx hn), T', hb, ht⟩
  by_cases hin : p.fr < 0 ∨ (nm : Int) ≤ p.fr
  · have hK : headK M A p = false := by
      unfold headK
      rcases hin with hin | hin
      · rw [decide_eq_false (p := (0 : Int) ≤ _) (by omega)]; rfl
      · rw [decide_eq_false (p := p.fr < _) (by omega), Bool.and_false]; rfl
    rw [hK]
    refine (viewHeadsF_out p.id p.fr p.to p.am p.cl p.st p.ti g1 g2 nm cm am u h1 hin).mono ?_
    rintro e u' ⟨rfl, hb⟩
    have hg := grown_below hb (some bt)
    exact ⟨rfl, hold T _ u' hg (h4.grown (grown_below hb none) (by simp)) (headsT_skip h5 hK), hg⟩
  · obtain ⟨q, hq⟩ : ∃ q : Nat, p.fr = (q : Int) := ⟨p.fr.toNat, by omega⟩
    have hqn : q < nm := by omega
    have ht := h5.2 q (by omega)
    have hc := hcl (q : Int)
    have hlt : T.getD q 0 < M.getD q 0 ↔ (cntF A (q : Int) : Int) < M.getD q 0 := by rw [ht]; omega
    have hK : headK M A p = decide (T.getD q 0 < M.getD q 0) := by
      unfold headK
      rw [hq, decide_eq_true (p := (0 : Int) ≤ _) (by omega), decide_eq_true (p := (q : Int) < _) (by omega), Int.toNat_natCast, Bool.true_and, Bool.true_and]
      exact decide_eq_decide.2 hlt.symm
    have C := viewHeadsF_in p.id p.to p.am p.cl p.st p.ti q g1 g2 bt nm cm am M T u h1 h2 h3 h4 (by rw [h5.1, hl]) hqn (by rw [ht]; omega)
    rw [← hq] at C
    refine C.mono ?_
    rintro e u' ⟨rfl, hb, hg⟩
    refine ⟨by rw [hK], hold _ _ u' hg hb ?_, hg⟩
    by_cases hl2 : T.getD q 0 < M.getD q 0
    · rw [if_pos hl2]
      exact headsT_take h5 hq (by omega) (hlt.1 hl2)
    · rw [if_neg hl2]
      exact headsT_skip h5 (by rw [hK, decide_eq_false hl2])

set_option maxHeartbeats 4000000 in
theorem viewHeads_made (a am : Option Addr) (n c nm cm : Nat) (L : List P7) (M : List Int) (w : World) (h : PGood w a n c L) (hM : Sl .i64 w am nm M) (hm : n ≤ 100000) (hmm : nm ≤ 1000000) :
    Calls Try.prog 32 #[.slice a n c, .slice am nm cm] w (PMade w (vHeads L M)) := by
  obtain ⟨w1, hw1⟩ : ∃ w1, w1 = w.alloc (.cells #[.slice am nm cm] 30) := ⟨_, rfl⟩
  have hb1 : Below w.heap.size w w1 := by rw [hw1]; exact box_below _ _
  have hs1 : w1.heap.size = w.heap.size + 1 := by rw [hw1, size_alloc]
  have c1 : w1.cell? ⟨w.heap.size, 0, none⟩ = some (.slice am nm cm) := by rw [hw1, cell_new]; rfl
  obtain ⟨w2, hmk, hbk, hb2⟩ := makeInts w1 nm hmm
  have hlt := hbk.lt
  obtain ⟨w3, hw3⟩ : ∃ w3, w3 = w2.alloc (.cells #[.slice (some ⟨w1.heap.size, 0, none⟩) nm nm] 30) := ⟨_, rfl⟩
  have hb3 : Below w2.heap.size w2 w3 := by rw [hw3]; exact box_below _ _
  have hs3 : w3.heap.size = w2.heap.size + 1 := by rw [hw3, size_alloc]
  have c3 : w3.cell? ⟨w2.heap.size, 0, none⟩ = some (.slice (some ⟨w1.heap.size, 0, none⟩) nm nm) := by rw [hw3, cell_new]; rfl
  have hb23 := hb2.trans (hb3.mono hb2.size)
  have hb13 := hb1.trans (hb23.mono hb1.size)
  have hsz := hb2.size
  have hamlt : ∀ x, am = some x → 0 < nm → x.block < w.heap.size := fun x hx hn => by
    obtain ⟨b, off, hab, hcc⟩ := hM.cells_at hn
    rw [hx] at hab
    cases hab
    have hbb : b < w.heap.size := block_lt_of_cell (hcc 0 hn)
    exact hbb
  have I3 : HeadsI w.heap.size w2.heap.size w1.heap.size am nm cm M [] w3 := by
    refine ⟨(hb23.cell (p := ⟨w.heap.size, 0, none⟩) (by simp; omega)).trans c1, c3, hM.below hb13, _, hbk.grown (grown_below hb3 none) (by simp), ⟨by rw [List.length_replicate]; exact hM.1, fun k hk => ?_⟩⟩
    rw [cntF_nil]
    have : (List.replicate nm (0 : Int)).getD k 0 = 0 := by rw [List.getD_eq_getElem?_getD, List.getElem?_replicate]; split <;> rfl
    rw [this]
    simp
    omega
  have S := suchHeads w.heap.size w2.heap.size (some w1.heap.size) (headK M) (HeadsI w.heap.size w2.heap.size w1.heap.size am nm cm M) a n c L w3 (h.below hb13) hm
    (fun x hx => by cases hx; omega)
    (fun h0 x hx => by
      obtain ⟨b, off, hab, hcc⟩ := h.at h0
      rw [hx] at hab
      cases hab
      have hbb : b < w.heap.size := block_lt_of_cell (hcc 0 h0).1
      simp
      omega)
    (fun A u u' r hr hi hg => headsI_grown hi ⟨by omega, by omega, by omega, fun x hx hn => by have := hamlt x hx hn; omega⟩ hr hg) I3
    (fun k u hk _ hi => headsI_step (by have := h.len; omega) (by have := h.len; omega) ⟨by omega, by omega, fun x hx hn => by have := hamlt x hx hn; omega⟩ hi)
  have B3 : Hid (Below w.heap.size w w3) := hb13
  have HZ : Hid (w.heap.size < w1.heap.size ∧ w.heap.size < w3.heap.size) := ⟨by omega, by omega⟩
  rw [hs1] at hw3 S
  have HW : Hid (w3 = _) := hw3
  rw [hw3] at S
  rw [hw1] at hmk
  rw [size_alloc] at hmk
  clear h hM hm hmm hw1 hb1 hs1 c1 hbk hb2 hlt hw3 hb3 hs3 c3 hb23 hb13 hsz hamlt I3
  go_enter Try.func32, Try.ntmps32
  go_wp2_with fail
  go_at_call 53
  refine S.mono ?_
  rintro e w6 ⟨⟨v6, rfl, o6, hg⟩, -⟩
  rw [← HW.out] at o6 hg
  have hzz := HZ.out
  have R6 : Hid (PMade w (vHeads L M) (.returned v6) w6) := ⟨v6, rfl, own_base o6 (by omega), B3.out.trans ⟨hg.os, hg.tape, hg.output, hg.size, fun i hi => hg.block i (by omega) (by simp; omega)⟩⟩
  clear o6 hg S hzz HZ HW B3
  go_wp2
  go_ret
  exact R6.out
theorem viewHeads_any (a am : Option Addr) (n c nm cm : Nat) (L : List P7) (M : List Int) (w : World) (h : PGood w a n c L) (hM : Sl .i64 w am nm M) (hm : n ≤ 100000) (hmm : nm ≤ 1000000) :
    Calls Try.prog 32 #[.slice a n c, .slice am nm cm] w (PEnd w (vHeads L M)) := (viewHeads_made a am n c nm cm L M w h hM hm hmm).mono fun _ _ h => h.end

end Go.Proofs.Ytlackjldopeigaa

/-
  giroref14.Heads.
-/
namespace Go.Proofs.Ytlackjldopeigaa
open Go.RowKit
set_option linter.unusedVariables false
set_option linter.unusedSimpArgs false

theorem headK_in {M : List Int} {A : List P7} {x0 x2 x3 x4 x5 x6 mq : Int} {r cq nm : Nat} {B : Bool} (hq : cntF A (r : Int) = cq) (hm : M.getD r 0 = mq) (hn : nm = M.length) (g0 : decide ((0 : Int) ≤ (r : Int)) = true) (g1 : decide ((r : Int) < (nm : Int)) = true) (g2 : decide ((cq : Int) < mq) = B) : headK M A (x0, (r : Int), x2, x3, x4, x5, x6) = B := by
  subst hq hm hn
  unfold headK
  simp only [P7.fr, Int.toNat_natCast]
  rw [g0, g1, g2]
  rfl
set_option maxHeartbeats 4000000 in
set_option maxRecDepth 100000 in
theorem refVHeads_any (a am : Option Addr) (n c nm cm : Nat) (L : List P7) (M : List Int) (w : World) (h : PGood w a n c L) (hM : Sl .i64 w am nm M) (hm : n ≤ 100000) (hmm : nm ≤ 1000000) :
    Calls Try.prog 22 #[.slice a n c, .slice am nm cm] w (PEnd w (vHeads L M)) := by
  have H : Hid (PGood w a n c L) := h
  have HN : Hid (n = L.length) := h.len
  have HM : Hid (Sl .i64 w am nm M) := hM
  have HML : Hid (nm = M.length) := hM.1
  have hcap := h.cap
  have hmax := h.max
  clear h hM
  go_enter Try.func22, Try.ntmps22
  go_wp2
  go_loopw [5, 6] (fun tv i wr => ∃ (k z : Nat) (v : Value), k ≤ n ∧ i = .int .i64 k ∧ v = tv ∧ z ≤ k ∧ Hid (wr.ownsRow w.heap.size 51 7 v z (payL (sel (headK M) (L.take k)))) ∧ Hid (Below w.heap.size w wr)) (fun _ i _ => n - (intOf i).toNat)
  case atStart => exact ⟨0, 0, _, by omega, rfl, rfl, by omega, World.ownsRow_nil _ _ _ _, Below.refl _ _⟩
  case round =>
    obtain ⟨k, z, v, hk, rfl, rfl, hz, HO, HB⟩ := hrel
    by_cases hlt : k < n
    · obtain ⟨b, off, rfl, HC⟩ := H.out.at hlt
      have i1 : (k : Int) < (n : Int) := by omega
      have i2 : (k : Int) ≤ (c : Int) := by omega
      have i3 : (0 : Int) ≤ (k : Int) := by omega
      obtain ⟨x, hx⟩ : ∃ x, L.getD k p70 = x := ⟨_, rfl⟩
      have C0 := HC k hlt
      rw [hx] at C0
      obtain ⟨x0, x1, x2, x3, x4, x5, x6⟩ := x
      have C : Hid (At7 w b (off + k * 7) (x0, x1, x2, x3, x4, x5, x6)) := C0
      have HX : Hid (L.getD k p70 = (x0, x1, x2, x3, x4, x5, x6)) := hx
      have O : Hid (∀ u, Below w.heap.size w u → Calls Try.prog 23 #[.slice (some ⟨b, off, none⟩) k c, .int .i64 x1] u (PEnd u (vOf (L.take k) x1))) := fun u hu => refVOf_any (some ⟨b, off, none⟩) k c (L.take k) x1 u ((H.out.below hu).take k (by omega)) (by omega)
      obtain ⟨cq, hq⟩ : ∃ cq : Nat, (vOf (L.take k) x1).length = cq := ⟨_, rfl⟩
      have HQ : Hid ((vOf (L.take k) x1).length = cq) := hq
      have hqc : cntF (L.take k) x1 = cq := hq
      have hnl := HML.out
      clear HC C0 hx hq H
      by_cases hneg : x1 < 0
      · have g0 : decide ((0 : Int) ≤ x1) = false := by rw [decide_eq_false_iff_not]; omega
        have HE : Hid (sel (headK M) (L.take k) = sel (headK M) (L.take (k + 1))) := sel_no (by have := HN.out; omega) HX.out (by unfold headK; simp only [P7.fr]; rw [g0]; rfl)
        clear hqc hnl hneg
        go_wp2_with fail
        refine region_owes (L := [Fact.is (.slice (some ⟨b, off, none⟩) n c),
          Fact.is (.int .i64 k),
          Fact.is (.slice (some ⟨b, off, none⟩) k c),
          Fact.is (.slice (some ⟨b, off, none⟩) n c),
          Fact.is (.int .i64 k),
          Fact.is (.pointer (some ⟨b, off + k * 7, none⟩)),
          Fact.is (.pointer (some ⟨b, off + k * 7 + 1, none⟩)),
          Fact.is (.int .i64 x1),
          Fact.pnew w.heap.size (vOf (L.take k) x1),
          Fact.is (.int .i64 cq),
          Fact.is (.int .i64 cq)])
          (T := [14, 15, 16, 17, 18, 19, 20, 21, 22, 23, 7]) (by kernel_rfl) (by kernel_rfl) rfl ?owes ?_
        case owes =>
          refine .cons (owes_move (.tmp 0) (.inl rfl) fun q u lh => ⟨wants_free rfl, lh.old 0 rfl⟩) ?_
          refine .cons (owes_move (.tmp 6) (.inl rfl) fun q u lh => ⟨wants_free rfl, lh.old 6 rfl⟩) ?_
          refine .cons (owes_value fun q u lh => ⟨wants_free rfl, .slice (some ⟨b, off, none⟩) k c, by have e14 : q.tmps.getD 14 undef = .slice (some ⟨b, off, none⟩) n c := lh.dep 0 rfl; have e15 : q.tmps.getD 15 undef = .int .i64 k := lh.dep 1 rfl; simp [execOp, Act.eval, e14, e15, i2, i3, go_sem], rfl⟩) ?_
          refine .cons (owes_move (.tmp 0) (.inl rfl) fun q u lh => ⟨wants_free rfl, lh.old 0 rfl⟩) ?_
          refine .cons (owes_move (.tmp 6) (.inl rfl) fun q u lh => ⟨wants_free rfl, lh.old 6 rfl⟩) ?_
          refine .cons (owes_value fun q u lh => ⟨wants_free rfl, .pointer (some ⟨b, off + k * 7, none⟩), by have e17 : q.tmps.getD 17 undef = .slice (some ⟨b, off, none⟩) n c := lh.dep 3 rfl; have e18 : q.tmps.getD 18 undef = .int .i64 k := lh.dep 4 rfl; simp [execOp, Act.eval, e17, e18, i1, go_sem], rfl⟩) ?_
          refine .cons (owes_value fun q u lh => ⟨wants_free rfl, .pointer (some ⟨b, off + k * 7 + 1, none⟩), by have e19 : q.tmps.getD 19 undef = .pointer (some ⟨b, off + k * 7, none⟩) := lh.dep 5 rfl; simp [execOp, Act.eval, e19, go_sem], rfl⟩) ?_
          refine .cons (owes_value fun q u lh => ⟨wants_free rfl, .int .i64 x1, by have e20 : q.tmps.getD 20 undef = .pointer (some ⟨b, off + k * 7 + 1, none⟩) := lh.dep 6 rfl; obtain ⟨z0, z1, z2, z3, z4, z5, z6⟩ := (C.out.below HB.out).below lh.below; simp [execOp, Act.eval, e20, z1, go_sem], rfl⟩) ?_
          refine .cons (owes_call 23 Try.func23 (by kernel_rfl) (by kernel_rfl) [.tmp 16, .tmp 21] #[23, 3] rfl fun q u lh => ⟨wants_free rfl, by have e16 : q.tmps.getD 16 undef = .slice (some ⟨b, off, none⟩) k c := lh.dep 2 rfl; have e21 : q.tmps.getD 21 undef = .int .i64 x1 := lh.dep 7 rfl; show Calls Try.prog 23 #[q.tmps.getD 16 undef, q.tmps.getD 21 undef] u _; rw [e16, e21]; exact pend_fact (Nat.le_trans HB.out.size lh.below.size) (O.out u (HB.out.trans (lh.below.mono HB.out.size)))⟩) ?_
          refine .cons (owes_value fun q u lh => ⟨wants_free rfl, .int .i64 cq, by obtain ⟨aa, cc, e22, -⟩ := lh.dep 8 rfl; have e22 : q.tmps.getD 22 undef = .slice aa (vOf (L.take k) x1).length cc := e22; rw [HQ.out] at e22; simp [execOp, Act.eval, e22, go_sem], rfl⟩) ?_
          refine .cons (owes_move (.tmp 23) (.inr rfl) fun q u lh => ⟨wants_free rfl, lh.dep 9 rfl⟩) ?_
          exact .nil _
        intro q u hb hsz hdf hold hfact
        obtain ⟨v22, e22⟩ : ∃ v, q.tmps.getD 22 undef = v := ⟨_, rfl⟩
        have f22 : (Fact.pnew w.heap.size (vOf (L.take k) x1)).1 u v22 := by rw [← e22]; exact hfact 8 (by decide)
        have B1 : Hid (Below w.heap.size w u) := HB.out.trans (hb.mono HB.out.size)
        obtain ⟨z0, z1, z2, z3, z4, z5, z6⟩ := C.out.below B1.out
        simp only [P7.id, P7.fr, P7.to, P7.am, P7.cl, P7.st, P7.ti] at z0 z1 z2 z3 z4 z5 z6
        have O3 : Hid (u.ownsRow w.heap.size 51 7 v z (payL (sel (headK M) (L.take (k + 1))))) := by rw [← HE.out]; exact own_below HO.out hb
        obtain rfl := frame_puts hsz hdf [14, 15, 16, 17, 18, 19, 20, 21, 22, 23, 7] hold [(14, Value.slice (some ⟨b, off, none⟩) n c), (15, Value.int .i64 k), (16, Value.slice (some ⟨b, off, none⟩) k c), (17, Value.slice (some ⟨b, off, none⟩) n c), (18, Value.int .i64 k), (19, Value.pointer (some ⟨b, off + k * 7, none⟩)), (20, Value.pointer (some ⟨b, off + k * 7 + 1, none⟩)), (21, Value.int .i64 x1), (22, v22), (23, Value.int .i64 cq), (7, Value.int .i64 cq)] ⟨hfact 0 (by decide), hfact 1 (by decide), hfact 2 (by decide), hfact 3 (by decide), hfact 4 (by decide), hfact 5 (by decide), hfact 6 (by decide), hfact 7 (by decide), e22, hfact 9 (by decide), hfact 10 (by decide), trivial⟩ rfl
        clear hsz hdf hold hfact
        clear hb HO O f22
        simp only [puts, Act.put, List.setIfInBounds_toArray, List.set_cons_zero, List.set_cons_succ]
        go_wp2
        go_roundw
        case rel => exact ⟨k + 1, z, v, by omega, by go_num, rfl, by omega, O3, B1⟩
        case measure => simp [intOf]; omega
      · by_cases hov : (nm : Int) ≤ x1
        · have g0 : decide ((0 : Int) ≤ x1) = true := by rw [decide_eq_true_eq]; omega
          have g1 : decide (x1 < (nm : Int)) = false := by rw [decide_eq_false_iff_not]; omega
          have HE : Hid (sel (headK M) (L.take k) = sel (headK M) (L.take (k + 1))) := sel_no (by have := HN.out; omega) HX.out (by unfold headK; simp only [P7.fr]; rw [← hnl, g0, g1]; rfl)
          clear hqc hnl hneg hov
          go_wp2_with fail
          refine region_owes (L := [Fact.is (.slice (some ⟨b, off, none⟩) n c),
            Fact.is (.int .i64 k),
            Fact.is (.slice (some ⟨b, off, none⟩) k c),
            Fact.is (.slice (some ⟨b, off, none⟩) n c),
            Fact.is (.int .i64 k),
            Fact.is (.pointer (some ⟨b, off + k * 7, none⟩)),
            Fact.is (.pointer (some ⟨b, off + k * 7 + 1, none⟩)),
            Fact.is (.int .i64 x1),
            Fact.pnew w.heap.size (vOf (L.take k) x1),
            Fact.is (.int .i64 cq),
            Fact.is (.int .i64 cq)])
            (T := [14, 15, 16, 17, 18, 19, 20, 21, 22, 23, 7]) (by kernel_rfl) (by kernel_rfl) rfl ?owes ?_
          case owes =>
            refine .cons (owes_move (.tmp 0) (.inl rfl) fun q u lh => ⟨wants_free rfl, lh.old 0 rfl⟩) ?_
            refine .cons (owes_move (.tmp 6) (.inl rfl) fun q u lh => ⟨wants_free rfl, lh.old 6 rfl⟩) ?_
            refine .cons (owes_value fun q u lh => ⟨wants_free rfl, .slice (some ⟨b, off, none⟩) k c, by have e14 : q.tmps.getD 14 undef = .slice (some ⟨b, off, none⟩) n c := lh.dep 0 rfl; have e15 : q.tmps.getD 15 undef = .int .i64 k := lh.dep 1 rfl; simp [execOp, Act.eval, e14, e15, i2, i3, go_sem], rfl⟩) ?_
            refine .cons (owes_move (.tmp 0) (.inl rfl) fun q u lh => ⟨wants_free rfl, lh.old 0 rfl⟩) ?_
            refine .cons (owes_move (.tmp 6) (.inl rfl) fun q u lh => ⟨wants_free rfl, lh.old 6 rfl⟩) ?_
            refine .cons (owes_value fun q u lh => ⟨wants_free rfl, .pointer (some ⟨b, off + k * 7, none⟩), by have e17 : q.tmps.getD 17 undef = .slice (some ⟨b, off, none⟩) n c := lh.dep 3 rfl; have e18 : q.tmps.getD 18 undef = .int .i64 k := lh.dep 4 rfl; simp [execOp, Act.eval, e17, e18, i1, go_sem], rfl⟩) ?_
            refine .cons (owes_value fun q u lh => ⟨wants_free rfl, .pointer (some ⟨b, off + k * 7 + 1, none⟩), by have e19 : q.tmps.getD 19 undef = .pointer (some ⟨b, off + k * 7, none⟩) := lh.dep 5 rfl; simp [execOp, Act.eval, e19, go_sem], rfl⟩) ?_
            refine .cons (owes_value fun q u lh => ⟨wants_free rfl, .int .i64 x1, by have e20 : q.tmps.getD 20 undef = .pointer (some ⟨b, off + k * 7 + 1, none⟩) := lh.dep 6 rfl; obtain ⟨z0, z1, z2, z3, z4, z5, z6⟩ := (C.out.below HB.out).below lh.below; simp [execOp, Act.eval, e20, z1, go_sem], rfl⟩) ?_
            refine .cons (owes_call 23 Try.func23 (by kernel_rfl) (by kernel_rfl) [.tmp 16, .tmp 21] #[23, 3] rfl fun q u lh => ⟨wants_free rfl, by have e16 : q.tmps.getD 16 undef = .slice (some ⟨b, off, none⟩) k c := lh.dep 2 rfl; have e21 : q.tmps.getD 21 undef = .int .i64 x1 := lh.dep 7 rfl; show Calls Try.prog 23 #[q.tmps.getD 16 undef, q.tmps.getD 21 undef] u _; rw [e16, e21]; exact pend_fact (Nat.le_trans HB.out.size lh.below.size) (O.out u (HB.out.trans (lh.below.mono HB.out.size)))⟩) ?_
            refine .cons (owes_value fun q u lh => ⟨wants_free rfl, .int .i64 cq, by obtain ⟨aa, cc, e22, -⟩ := lh.dep 8 rfl; have e22 : q.tmps.getD 22 undef = .slice aa (vOf (L.take k) x1).length cc := e22; rw [HQ.out] at e22; simp [execOp, Act.eval, e22, go_sem], rfl⟩) ?_
            refine .cons (owes_move (.tmp 23) (.inr rfl) fun q u lh => ⟨wants_free rfl, lh.dep 9 rfl⟩) ?_
            exact .nil _
          intro q u hb hsz hdf hold hfact
          obtain ⟨v22, e22⟩ : ∃ v, q.tmps.getD 22 undef = v := ⟨_, rfl⟩
          have f22 : (Fact.pnew w.heap.size (vOf (L.take k) x1)).1 u v22 := by rw [← e22]; exact hfact 8 (by decide)
          have B1 : Hid (Below w.heap.size w u) := HB.out.trans (hb.mono HB.out.size)
          obtain ⟨z0, z1, z2, z3, z4, z5, z6⟩ := C.out.below B1.out
          simp only [P7.id, P7.fr, P7.to, P7.am, P7.cl, P7.st, P7.ti] at z0 z1 z2 z3 z4 z5 z6
          have O3 : Hid (u.ownsRow w.heap.size 51 7 v z (payL (sel (headK M) (L.take (k + 1))))) := by rw [← HE.out]; exact own_below HO.out hb
          obtain rfl := frame_puts hsz hdf [14, 15, 16, 17, 18, 19, 20, 21, 22, 23, 7] hold [(14, Value.slice (some ⟨b, off, none⟩) n c), (15, Value.int .i64 k), (16, Value.slice (some ⟨b, off, none⟩) k c), (17, Value.slice (some ⟨b, off, none⟩) n c), (18, Value.int .i64 k), (19, Value.pointer (some ⟨b, off + k * 7, none⟩)), (20, Value.pointer (some ⟨b, off + k * 7 + 1, none⟩)), (21, Value.int .i64 x1), (22, v22), (23, Value.int .i64 cq), (7, Value.int .i64 cq)] ⟨hfact 0 (by decide), hfact 1 (by decide), hfact 2 (by decide), hfact 3 (by decide), hfact 4 (by decide), hfact 5 (by decide), hfact 6 (by decide), hfact 7 (by decide), e22, hfact 9 (by decide), hfact 10 (by decide), trivial⟩ rfl
          clear hsz hdf hold hfact
          clear hb HO O f22
          simp only [puts, Act.put, List.setIfInBounds_toArray, List.set_cons_zero, List.set_cons_succ]
          go_wp2
          go_roundw
          case rel => exact ⟨k + 1, z, v, by omega, by go_num, rfl, by omega, O3, B1⟩
          case measure => simp [intOf]; omega
        · obtain ⟨r, rfl⟩ : ∃ r : Nat, x1 = (r : Int) := ⟨x1.toNat, by omega⟩
          obtain ⟨bm, om, rfl, hcm⟩ := HM.out.cells_at (k := r) (by omega)
          obtain ⟨mq, hmq⟩ : ∃ mq, M.getD r 0 = mq := ⟨_, rfl⟩
          have m0 := hcm r (by omega)
          rw [hmq] at m0
          have MC : Hid (w.cell? ⟨bm, om + r, none⟩ = some (.int .i64 mq)) := m0
          clear hcm m0 HM
          by_cases hlt2 : (cq : Int) < mq
          · have g0 : decide ((0 : Int) ≤ (r : Int)) = true := by rw [decide_eq_true_eq]; omega
            have g1 : decide ((r : Int) < (nm : Int)) = true := by rw [decide_eq_true_eq]; omega
            have g2 : decide ((cq : Int) < mq) = true := by rw [decide_eq_true_eq]; omega
            have HE : Hid (sel (headK M) (L.take k) ++ [(x0, (r : Int), x2, x3, x4, x5, x6)] = sel (headK M) (L.take (k + 1))) := sel_yes (by have := HN.out; omega) HX.out (by exact headK_in hqc hmq hnl g0 g1 g2)
            have i4 : (r : Int) < (nm : Int) := by omega
            clear hqc hnl hneg hov hmq g0 g1 g2
            go_wp2_with fail
            refine region_owes (L := [Fact.is (.slice (some ⟨b, off, none⟩) n c),
              Fact.is (.int .i64 k),
              Fact.is (.slice (some ⟨b, off, none⟩) k c),
              Fact.is (.slice (some ⟨b, off, none⟩) n c),
              Fact.is (.int .i64 k),
              Fact.is (.pointer (some ⟨b, off + k * 7, none⟩)),
              Fact.is (.pointer (some ⟨b, off + k * 7 + 1, none⟩)),
              Fact.is (.int .i64 (r : Int)),
              Fact.pnew w.heap.size (vOf (L.take k) (r : Int)),
              Fact.is (.int .i64 cq),
              Fact.is (.int .i64 cq)])
              (T := [14, 15, 16, 17, 18, 19, 20, 21, 22, 23, 7]) (by kernel_rfl) (by kernel_rfl) rfl ?owes ?_
            case owes =>
              refine .cons (owes_move (.tmp 0) (.inl rfl) fun q u lh => ⟨wants_free rfl, lh.old 0 rfl⟩) ?_
              refine .cons (owes_move (.tmp 6) (.inl rfl) fun q u lh => ⟨wants_free rfl, lh.old 6 rfl⟩) ?_
              refine .cons (owes_value fun q u lh => ⟨wants_free rfl, .slice (some ⟨b, off, none⟩) k c, by have e14 : q.tmps.getD 14 undef = .slice (some ⟨b, off, none⟩) n c := lh.dep 0 rfl; have e15 : q.tmps.getD 15 undef = .int .i64 k := lh.dep 1 rfl; simp [execOp, Act.eval, e14, e15, i2, i3, go_sem], rfl⟩) ?_
              refine .cons (owes_move (.tmp 0) (.inl rfl) fun q u lh => ⟨wants_free rfl, lh.old 0 rfl⟩) ?_
              refine .cons (owes_move (.tmp 6) (.inl rfl) fun q u lh => ⟨wants_free rfl, lh.old 6 rfl⟩) ?_
              refine .cons (owes_value fun q u lh => ⟨wants_free rfl, .pointer (some ⟨b, off + k * 7, none⟩), by have e17 : q.tmps.getD 17 undef = .slice (some ⟨b, off, none⟩) n c := lh.dep 3 rfl; have e18 : q.tmps.getD 18 undef = .int .i64 k := lh.dep 4 rfl; simp [execOp, Act.eval, e17, e18, i1, go_sem], rfl⟩) ?_
              refine .cons (owes_value fun q u lh => ⟨wants_free rfl, .pointer (some ⟨b, off + k * 7 + 1, none⟩), by have e19 : q.tmps.getD 19 undef = .pointer (some ⟨b, off + k * 7, none⟩) := lh.dep 5 rfl; simp [execOp, Act.eval, e19, go_sem], rfl⟩) ?_
              refine .cons (owes_value fun q u lh => ⟨wants_free rfl, .int .i64 (r : Int), by have e20 : q.tmps.getD 20 undef = .pointer (some ⟨b, off + k * 7 + 1, none⟩) := lh.dep 6 rfl; obtain ⟨z0, z1, z2, z3, z4, z5, z6⟩ := (C.out.below HB.out).below lh.below; simp [execOp, Act.eval, e20, z1, go_sem], rfl⟩) ?_
              refine .cons (owes_call 23 Try.func23 (by kernel_rfl) (by kernel_rfl) [.tmp 16, .tmp 21] #[23, 3] rfl fun q u lh => ⟨wants_free rfl, by have e16 : q.tmps.getD 16 undef = .slice (some ⟨b, off, none⟩) k c := lh.dep 2 rfl; have e21 : q.tmps.getD 21 undef = .int .i64 (r : Int) := lh.dep 7 rfl; show Calls Try.prog 23 #[q.tmps.getD 16 undef, q.tmps.getD 21 undef] u _; rw [e16, e21]; exact pend_fact (Nat.le_trans HB.out.size lh.below.size) (O.out u (HB.out.trans (lh.below.mono HB.out.size)))⟩) ?_
              refine .cons (owes_value fun q u lh => ⟨wants_free rfl, .int .i64 cq, by obtain ⟨aa, cc, e22, -⟩ := lh.dep 8 rfl; have e22 : q.tmps.getD 22 undef = .slice aa (vOf (L.take k) (r : Int)).length cc := e22; rw [HQ.out] at e22; simp [execOp, Act.eval, e22, go_sem], rfl⟩) ?_
              refine .cons (owes_move (.tmp 23) (.inr rfl) fun q u lh => ⟨wants_free rfl, lh.dep 9 rfl⟩) ?_
              exact .nil _
            intro q u hb hsz hdf hold hfact
            obtain ⟨v22, e22⟩ : ∃ v, q.tmps.getD 22 undef = v := ⟨_, rfl⟩
            have f22 : (Fact.pnew w.heap.size (vOf (L.take k) (r : Int))).1 u v22 := by rw [← e22]; exact hfact 8 (by decide)
            have B1 : Hid (Below w.heap.size w u) := HB.out.trans (hb.mono HB.out.size)
            obtain ⟨z0, z1, z2, z3, z4, z5, z6⟩ := C.out.below B1.out
            simp only [P7.id, P7.fr, P7.to, P7.am, P7.cl, P7.st, P7.ti] at z0 z1 z2 z3 z4 z5 z6
            have m1 := (B1.out.cell (p := ⟨bm, om + r, none⟩) (block_lt_of_cell MC.out)).trans MC.out
            have O1 : Hid (u.ownsRow w.heap.size 51 7 v z (payL (sel (headK M) (L.take k)))) := own_below HO.out hb
            obtain rfl := frame_puts hsz hdf [14, 15, 16, 17, 18, 19, 20, 21, 22, 23, 7] hold [(14, Value.slice (some ⟨b, off, none⟩) n c), (15, Value.int .i64 k), (16, Value.slice (some ⟨b, off, none⟩) k c), (17, Value.slice (some ⟨b, off, none⟩) n c), (18, Value.int .i64 k), (19, Value.pointer (some ⟨b, off + k * 7, none⟩)), (20, Value.pointer (some ⟨b, off + k * 7 + 1, none⟩)), (21, Value.int .i64 (r : Int)), (22, v22), (23, Value.int .i64 cq), (7, Value.int .i64 cq)] ⟨hfact 0 (by decide), hfact 1 (by decide), hfact 2 (by decide), hfact 3 (by decide), hfact 4 (by decide), hfact 5 (by decide), hfact 6 (by decide), hfact 7 (by decide), e22, hfact 9 (by decide), hfact 10 (by decide), trivial⟩ rfl
            clear hsz hdf hold hfact
            clear hb HO O f22
            simp only [puts, Act.put, List.setIfInBounds_toArray, List.set_cons_zero, List.set_cons_succ]
            go_wp2_with (at_builtin; refine wpList_append_pays rfl _ _ rfl w.heap.size v z _ rfl (own_below O1.out (box_below _ _)) (some ⟨u.heap.size, 0, none⟩) 1 1 [(x0, (r : Int), x2, x3, x4, x5, x6)] rfl (PGood.lit1 u (x0, (r : Int), x2, x3, x4, x5, x6)) (by omega) (by rw [size_alloc]; have := B1.out.size; omega) ?_)
            intro v3 w3 ho3 hg3
            have O3 : Hid (w3.ownsRow w.heap.size 51 7 v3 (z + 1) (payL (sel (headK M) (L.take (k + 1))))) := by rw [← HE.out]; exact ho3
            have B3 : Hid (Below w.heap.size w w3) := (B1.out.alloc B1.out.size _).grown hg3 (by rw [size_alloc]; have := B1.out.size; omega) (fun j hj => (O1.out.lt j hj).1)
            clear ho3 hg3 O1 B1
            go_wp2
            go_roundw
            case rel => exact ⟨k + 1, z + 1, v3, by omega, by go_num, rfl, by omega, O3, B3⟩
            case measure => simp [intOf]; omega
          · have g0 : decide ((0 : Int) ≤ (r : Int)) = true := by rw [decide_eq_true_eq]; omega
            have g1 : decide ((r : Int) < (nm : Int)) = true := by rw [decide_eq_true_eq]; omega
            have g2 : decide ((cq : Int) < mq) = false := by rw [decide_eq_false_iff_not]; omega
            have HE : Hid (sel (headK M) (L.take k) = sel (headK M) (L.take (k + 1))) := sel_no (by have := HN.out; omega) HX.out (by exact headK_in hqc hmq hnl g0 g1 g2)
            have i4 : (r : Int) < (nm : Int) := by omega
            clear hqc hnl hneg hov hmq hlt2 g0 g1
            go_wp2_with fail
            refine region_owes (L := [Fact.is (.slice (some ⟨b, off, none⟩) n c),
              Fact.is (.int .i64 k),
              Fact.is (.slice (some ⟨b, off, none⟩) k c),
              Fact.is (.slice (some ⟨b, off, none⟩) n c),
              Fact.is (.int .i64 k),
              Fact.is (.pointer (some ⟨b, off + k * 7, none⟩)),
              Fact.is (.pointer (some ⟨b, off + k * 7 + 1, none⟩)),
              Fact.is (.int .i64 (r : Int)),
              Fact.pnew w.heap.size (vOf (L.take k) (r : Int)),
              Fact.is (.int .i64 cq),
              Fact.is (.int .i64 cq)])
              (T := [14, 15, 16, 17, 18, 19, 20, 21, 22, 23, 7]) (by kernel_rfl) (by kernel_rfl) rfl ?owes ?_
            case owes =>
              refine .cons (owes_move (.tmp 0) (.inl rfl) fun q u lh => ⟨wants_free rfl, lh.old 0 rfl⟩) ?_
              refine .cons (owes_move (.tmp 6) (.inl rfl) fun q u lh => ⟨wants_free rfl, lh.old 6 rfl⟩) ?_
              refine .cons (owes_value fun q u lh => ⟨wants_free rfl, .slice (some ⟨b, off, none⟩) k c, by have e14 : q.tmps.getD 14 undef = .slice (some ⟨b, off, none⟩) n c := lh.dep 0 rfl; have e15 : q.tmps.getD 15 undef = .int .i64 k := lh.dep 1 rfl; simp [execOp, Act.eval, e14, e15, i2, i3, go_sem], rfl⟩) ?_
              refine .cons (owes_move (.tmp 0) (.inl rfl) fun q u lh => ⟨wants_free rfl, lh.old 0 rfl⟩) ?_
              refine .cons (owes_move (.tmp 6) (.inl rfl) fun q u lh => ⟨wants_free rfl, lh.old 6 rfl⟩) ?_
              refine .cons (owes_value fun q u lh => ⟨wants_free rfl, .pointer (some ⟨b, off + k * 7, none⟩), by have e17 : q.tmps.getD 17 undef = .slice (some ⟨b, off, none⟩) n c := lh.dep 3 rfl; have e18 : q.tmps.getD 18 undef = .int .i64 k := lh.dep 4 rfl; simp [execOp, Act.eval, e17, e18, i1, go_sem], rfl⟩) ?_
              refine .cons (owes_value fun q u lh => ⟨wants_free rfl, .pointer (some ⟨b, off + k * 7 + 1, none⟩), by have e19 : q.tmps.getD 19 undef = .pointer (some ⟨b, off + k * 7, none⟩) := lh.dep 5 rfl; simp [execOp, Act.eval, e19, go_sem], rfl⟩) ?_
              refine .cons (owes_value fun q u lh => ⟨wants_free rfl, .int .i64 (r : Int), by have e20 : q.tmps.getD 20 undef = .pointer (some ⟨b, off + k * 7 + 1, none⟩) := lh.dep 6 rfl; obtain ⟨z0, z1, z2, z3, z4, z5, z6⟩ := (C.out.below HB.out).below lh.below; simp [execOp, Act.eval, e20, z1, go_sem], rfl⟩) ?_
              refine .cons (owes_call 23 Try.func23 (by kernel_rfl) (by kernel_rfl) [.tmp 16, .tmp 21] #[23, 3] rfl fun q u lh => ⟨wants_free rfl, by have e16 : q.tmps.getD 16 undef = .slice (some ⟨b, off, none⟩) k c := lh.dep 2 rfl; have e21 : q.tmps.getD 21 undef = .int .i64 (r : Int) := lh.dep 7 rfl; show Calls Try.prog 23 #[q.tmps.getD 16 undef, q.tmps.getD 21 undef] u _; rw [e16, e21]; exact pend_fact (Nat.le_trans HB.out.size lh.below.size) (O.out u (HB.out.trans (lh.below.mono HB.out.size)))⟩) ?_
              refine .cons (owes_value fun q u lh => ⟨wants_free rfl, .int .i64 cq, by obtain ⟨aa, cc, e22, -⟩ := lh.dep 8 rfl; have e22 : q.tmps.getD 22 undef = .slice aa (vOf (L.take k) (r : Int)).length cc := e22; rw [HQ.out] at e22; simp [execOp, Act.eval, e22, go_sem], rfl⟩) ?_
              refine .cons (owes_move (.tmp 23) (.inr rfl) fun q u lh => ⟨wants_free rfl, lh.dep 9 rfl⟩) ?_
              exact .nil _
            intro q u hb hsz hdf hold hfact
            obtain ⟨v22, e22⟩ : ∃ v, q.tmps.getD 22 undef = v := ⟨_, rfl⟩
            have f22 : (Fact.pnew w.heap.size (vOf (L.take k) (r : Int))).1 u v22 := by rw [← e22]; exact hfact 8 (by decide)
            have B1 : Hid (Below w.heap.size w u) := HB.out.trans (hb.mono HB.out.size)
            obtain ⟨z0, z1, z2, z3, z4, z5, z6⟩ := C.out.below B1.out
            simp only [P7.id, P7.fr, P7.to, P7.am, P7.cl, P7.st, P7.ti] at z0 z1 z2 z3 z4 z5 z6
            have m1 := (B1.out.cell (p := ⟨bm, om + r, none⟩) (block_lt_of_cell MC.out)).trans MC.out
            have O3 : Hid (u.ownsRow w.heap.size 51 7 v z (payL (sel (headK M) (L.take (k + 1))))) := by rw [← HE.out]; exact own_below HO.out hb
            obtain rfl := frame_puts hsz hdf [14, 15, 16, 17, 18, 19, 20, 21, 22, 23, 7] hold [(14, Value.slice (some ⟨b, off, none⟩) n c), (15, Value.int .i64 k), (16, Value.slice (some ⟨b, off, none⟩) k c), (17, Value.slice (some ⟨b, off, none⟩) n c), (18, Value.int .i64 k), (19, Value.pointer (some ⟨b, off + k * 7, none⟩)), (20, Value.pointer (some ⟨b, off + k * 7 + 1, none⟩)), (21, Value.int .i64 (r : Int)), (22, v22), (23, Value.int .i64 cq), (7, Value.int .i64 cq)] ⟨hfact 0 (by decide), hfact 1 (by decide), hfact 2 (by decide), hfact 3 (by decide), hfact 4 (by decide), hfact 5 (by decide), hfact 6 (by decide), hfact 7 (by decide), e22, hfact 9 (by decide), hfact 10 (by decide), trivial⟩ rfl
            clear hsz hdf hold hfact
            clear hb HO O f22
            simp only [puts, Act.put, List.setIfInBounds_toArray, List.set_cons_zero, List.set_cons_succ]
            go_wp2
            go_roundw
            case rel => exact ⟨k + 1, z, v, by omega, by go_num, rfl, by omega, O3, B1⟩
            case measure => simp [intOf]; omega
    · obtain rfl : k = n := by omega
      have HF : Hid (sel (headK M) (L.take k) = vHeads L M) := sel_all HN.out
      clear H HM
      go_wp2
      go_ret
      have := HO.out
      rw [HF.out] at this
      obtain ⟨a2, c2, hv, g, hnew⟩ := PGood.own this
      subst hv
      exact ⟨a2, c2, rfl, g, hnew, HB.out⟩

end Go.Proofs.Ytlackjldopeigaa

/-
  giroref14.May.
-/
namespace Go.Proofs.Ytlackjldopeigaa
open Go.RowKit
set_option linter.unusedVariables false
set_option linter.unusedSimpArgs false

theorem vOf_split {R : List P7} {k : Nat} (hk : k < R.length) : vOf R (R.getD k p70).fr = vOf (R.take k) (R.getD k p70).fr ++ R.getD k p70 :: vOf (R.drop (k + 1)) (R.getD k p70).fr := by
  have e : R = R.take k ++ R.getD k p70 :: R.drop (k + 1) := by
    rw [getD_get hk, List.getElem_cons_drop, List.take_append_drop]
  rw [vOf_eq, vOf_eq, vOf_eq]
  obtain ⟨x, hx⟩ : ∃ x, R.getD k p70 = x := ⟨_, rfl⟩
  rw [hx] at e ⊢
  obtain ⟨A, hA⟩ : ∃ A, R.take k = A := ⟨_, rfl⟩
  obtain ⟨B, hB⟩ : ∃ B, R.drop (k + 1) = B := ⟨_, rfl⟩
  rw [hA, hB] at e ⊢
  rw [e, List.filter_append, List.filter_cons]
  simp
theorem plain_iff (R : List P7) (f : Int) : ((vOf R f).all fun p => p.cl == 3) = decide (othF R f = 0) := by
  rw [Bool.eq_iff_iff, decide_eq_true_eq, vOf_eq, List.all_eq_true]
  unfold othF
  rw [List.length_eq_zero_iff, List.filter_eq_nil_iff]
  constructor
  · intro h p hp hc
    simp at hc
    have := h p (List.mem_filter.2 ⟨hp, by simpa using hc.1⟩)
    simp at this
    exact hc.2 this
  · intro h p hp
    obtain ⟨hp, hc⟩ := List.mem_filter.1 hp
    have := h p hp
    simp at this hc
    simpa using this hc
theorem may_or {R : List P7} {k : Nat} (hq : R.Pairwise QR) (hk : k < R.length) :
    ∃ y m, vOf R (R.getD k p70).fr = y :: m ∧ (eqB7 y (R.getD k p70) || ((y :: m).all fun p => p.cl == 3)) = mayK R (R.take k) (R.getD k p70) := by
  have hs := vOf_split hk
  have hp := plain_iff R (R.getD k p70).fr
  unfold mayK cntF
  cases hv : vOf (R.take k) (R.getD k p70).fr with
  | nil =>
    rw [hv] at hs
    refine ⟨_, _, hs, ?_⟩
    rw [eqB7_self]
    simp
  | cons y m =>
    rw [hv] at hs
    refine ⟨y, _, hs, ?_⟩
    have hy : y ∈ R.take k := by
      have : y ∈ vOf (R.take k) (R.getD k p70).fr := by rw [hv]; simp
      exact selA_mem this
    obtain ⟨j, hj, rfl⟩ := in_getD hy
    have hj2 : j < k := by simp at hj; omega
    rw [getD_take hj2]
    rw [eqB7_id (pw_at hq hj2 hk).2]
    rw [hs] at hp
    rw [← getD_take (l := R) hj2]
    rw [Bool.false_or]
    refine Eq.trans hp ?_
    simp
theorem que_ready {L : List P7} (h : L.Pairwise QR) (t : Int) : (vReady L t).Pairwise QR := by
  rw [vReady_eq]
  exact h.sublist List.filter_sublist


end Go.Proofs.Ytlackjldopeigaa

/-
  What may go, and the first ones of each, as the laws look at them (plain lists).
-/
namespace Go.Proofs.Ytlackjldopeigaa
open Go.RowKit
set_option linter.unusedVariables false
set_option linter.unusedSimpArgs false

theorem RowedP.fr_ok {k : Nat} {L : List P7} (h : ∀ p ∈ L, RowedP k p) : FrOk L := fun p hp => i64_wf (by have := (h p hp).2.1; omega) (by have := (h p hp).2.1; omega)
theorem selA_sublist (K : List P7 → P7 → Bool) (A l : List P7) : (selA K A l).Sublist l := by
  induction l generalizing A with
  | nil => exact List.Sublist.refl _
  | cons x l ih =>
    simp only [selA]
    split
    · exact (ih _).cons_cons x
    · exact (ih _).cons x
theorem sel_sublist (K : List P7 → P7 → Bool) (L : List P7) : (sel K L).Sublist L := selA_sublist K [] L
theorem vOf_append (A B : List P7) (f : Int) : vOf (A ++ B) f = vOf A f ++ vOf B f := by rw [vOf_eq, vOf_eq, vOf_eq, List.filter_append]
theorem vOf_one (x : P7) (f : Int) : vOf [x] f = if x.fr = f then [x] else [] := by rw [vOf_eq]; by_cases h : x.fr = f <;> simp [h]
theorem vOf_snoc (A : List P7) (x : P7) (f : Int) : vOf (A ++ [x]) f = vOf A f ++ if x.fr = f then [x] else [] := by rw [vOf_append, vOf_one]

theorem vOf_may_to (R : List P7) (f : Int) : ∀ k, k ≤ R.length → vOf (sel (mayK R) (R.take k)) f = if othF R f = 0 then vOf (R.take k) f else (vOf (R.take k) f).take 1
  | 0, _ => by simp [sel, selA, vOf]
  | k + 1, hk => by
    have ih := vOf_may_to R f k (by omega)
    rw [sel_take _ _ (by omega : k < R.length), take_snoc7 R (by omega), vOf_snoc, vOf_append, ih]
    obtain ⟨x, hx⟩ : ∃ x, R.getD k p70 = x := ⟨_, rfl⟩
    rw [hx]
    by_cases hf : x.fr = f
    · rw [if_pos hf]
      by_cases ho : othF R f = 0
      · have hK : mayK R (R.take k) x = true := by unfold mayK; rw [hf, decide_eq_true ho, Bool.or_true]
        rw [hK, if_pos rfl, if_pos ho, if_pos ho, vOf_one, if_pos hf]
      · rw [if_neg ho, if_neg ho]
        cases hv : vOf (R.take k) f with
        | nil =>
          have hK : mayK R (R.take k) x = true := by unfold mayK cntF; rw [hf, hv]; rfl
          rw [hK, if_pos rfl, vOf_one, if_pos hf]
          rfl
        | cons y m =>
          have hK : mayK R (R.take k) x = false := by unfold mayK cntF; rw [hf, hv, decide_eq_false ho]; rfl
          rw [hK]
          simp [vOf_eq]
    · rw [if_neg hf, List.append_nil]
      have : vOf (if mayK R (R.take k) x = true then [x] else []) f = [] := by
        split
        · rw [vOf_one, if_neg hf]
        · rfl
      rw [this, List.append_nil]
theorem vOf_may (R : List P7) (f : Int) : vOf (sel (mayK R) R) f = if othF R f = 0 then vOf R f else (vOf R f).take 1 := by
  have := vOf_may_to R f R.length (Nat.le_refl _)
  rwa [List.take_length] at this

theorem oth_head {R : List P7} {f : Int} {x : P7} {m : List P7} (hq : R.Pairwise QR) (hc : ∀ p ∈ R, p.cl ≤ 3) (hv : vOf R f = x :: m) : x.cl = 3 ↔ othF R f = 0 := by
  have hp := plain_iff R f
  rw [hv] at hp
  have hs : (x :: m).Sublist R := by rw [← hv]; exact sel_sublist _ R
  have hpw := hq.sublist hs
  have hfr : ∀ p ∈ x :: m, p.fr = f := fun p h => by
    rw [← hv, vOf_eq] at h
    simpa using (List.mem_filter.1 h).2
  constructor
  · intro h3
    have : (x :: m).all (fun p => p.cl == 3) = true := by
      rw [List.all_eq_true]
      intro p h
      have h1 := hc p (hs.subset h)
      rcases List.mem_cons.1 h with rfl | h2
      · simpa using h3
      · have h4 := qLe_iff.1 ((List.pairwise_cons.1 hpw).1 p h2).1
        have h5 := hfr x (by simp)
        have h6 := hfr p h
        have : p.cl = 3 := by omega
        simpa using this
    rw [this] at hp
    exact of_decide_eq_true hp.symm
  · intro ho
    rw [decide_eq_true ho, List.all_eq_true] at hp
    simpa using hp x (by simp)

/-- What one sends of all that is ready, and of what may go. -/
theorem may_parts {R : List P7} (hq : R.Pairwise QR) (hc : ∀ p ∈ R, p.cl ≤ 3) (f : Int) :
    (vOf R f = [] ∧ vOf (sel (mayK R) R) f = []) ∨
    ∃ x A B, vOf R f = x :: A ∧ vOf (sel (mayK R) R) f = x :: B ∧ (x.cl = 3 → B.length = A.length) ∧ (¬ x.cl = 3 → B.length = 0) := by
  have hm := vOf_may R f
  cases hv : vOf R f with
  | nil => rw [hv] at hm; left; exact ⟨rfl, by rw [hm]; split <;> rfl⟩
  | cons x A =>
    right
    have ho := oth_head hq hc hv
    rw [hv] at hm
    by_cases h : othF R f = 0
    · rw [if_pos h] at hm
      exact ⟨x, A, A, rfl, hm, fun _ => rfl, fun h3 => absurd (ho.2 h) h3⟩
    · rw [if_neg h] at hm
      exact ⟨x, A, [], rfl, hm, fun h3 => absurd (ho.1 h3) h, fun _ => rfl⟩

/-- They stand as in the row. -/
theorem rising_of {r m : List P7} (hq : r.Pairwise QR) (hs : m.Sublist r) {i : Nat} (hi : i < m.length) (h0 : 0 < i) : ¬ qFind r (m.getD i p70).id ≤ qFind r (m.getD (i - 1) p70).id := by
  have hr : r.Pairwise fun a b => qFind r a.id < qFind r b.id := by
    rw [List.pairwise_iff_getElem]
    intro j k hj hk hjk
    have h1 := at_of hq hj
    have h2 := at_of hq hk
    rw [getD_get hj] at h1
    rw [getD_get hk] at h2
    rw [qFind_yes h1.1, qFind_yes h2.1, h1.2, h2.2]
    omega
  have hm := hr.sublist hs
  have := List.pairwise_iff_getElem.1 hm (i - 1) i (by omega) hi (by omega)
  rw [getD_get hi, getD_get (by omega : i - 1 < m.length)]
  omega
theorem may_ready {r : List P7} {t : Int} {p : P7} (h : p ∈ vMay r t) : readyB p.st p.ti t = true := by
  have h := selA_mem (K := mayK (vReady r t)) h
  rw [vReady_eq] at h
  exact (List.mem_filter.1 h).2

end Go.Proofs.Ytlackjldopeigaa

/-
  Rows of payments that a call owns, each in a block of its own, numbers of which are written.
-/
namespace Go.Proofs.Ytlackjldopeigaa
open Go.RowKit
set_option linter.unusedVariables false
set_option linter.unusedSimpArgs false

/-- Each of these is a row of so many payments in no block below B. -/
def OwnAll (B : Nat) (w : World) (l : List (Value × Nat)) : Prop := ∀ p ∈ l, ∃ xs, w.ownsRow B 51 7 p.1 p.2 xs
/-- No two of them lie in one block. -/
def Asunder (l : List (Value × Nat)) : Prop := l.Pairwise fun p q => ∀ k, p.1.ownBlock = some k → q.1.ownBlock ≠ some k
theorem pw_mem {α : Type} {R : α → α → Prop} {l : List α} (h : l.Pairwise R) {p q : α} (hp : p ∈ l) (hq : q ∈ l) : p = q ∨ R p q ∨ R q p := by
  induction l with
  | nil => simp at hp
  | cons x l ih =>
    obtain ⟨h1, h2⟩ := List.pairwise_cons.1 h
    rcases List.mem_cons.1 hp with e1 | e1
    · rcases List.mem_cons.1 hq with e2 | e2
      · exact .inl (e1.trans e2.symm)
      · exact .inr (.inl (e1 ▸ h1 q e2))
    · rcases List.mem_cons.1 hq with e2 | e2
      · exact .inr (.inr (e2 ▸ h1 p e1))
      · exact ih h2 e1 e2
theorem OwnAll.kept {B : Nat} {w w' : World} {l : List (Value × Nat)} (h : OwnAll B w l) (hb : Below w.heap.size w w') : OwnAll B w' l := fun p hp => let ⟨xs, hx⟩ := h p hp; ⟨xs, own_below hx hb⟩
theorem OwnAll.poke {B : Nat} {w : World} {l : List (Value × Nat)} (h : OwnAll B w l) (hd : Asunder l) {v : Value} {n i : Nat} (hp : (v, n) ∈ l) (hi : i < n) :
    ∃ g cap y, v = .slice (some ⟨g, 0, none⟩) n cap ∧ B ≤ g ∧ w.cell? ⟨g, i * 7, none⟩ = some y ∧ w.frozen? ⟨g, i * 7, none⟩ = false ∧ ∀ u, OwnAll B (w.setCell ⟨g, i * 7, none⟩ u) l := by
  obtain ⟨xs, hx⟩ : ∃ xs, w.ownsRow B 51 7 v n xs := h _ hp
  rcases hx.2 with ⟨_, h0⟩ | ⟨g, cap, cur, rfl, hB, hg, hc, hm, hs, ht⟩
  · omega
  · have hlen : i * 7 < xs.length := by rw [hx.1]; omega
    refine ⟨g, cap, xs[i * 7], rfl, hB, ?_, ?_, fun u p hpl => ?_⟩
    · have := hx.cellAt (i * 7) (by rw [hx.1] at hlen; exact hlen)
      rw [this]
      exact List.getElem?_eq_getElem hlen
    · exact hx.frozenAt (i * 7)
    · by_cases hb : p.1.ownBlock = some g
      · have : p = (.slice (some ⟨g, 0, none⟩) n cap, n) := by
          rcases pw_mem hd hpl hp with e | e | e
          · exact e
          · exact absurd rfl (e g hb)
          · exact absurd hb (e g rfl)
        subst this
        exact ⟨_, (hx.stored (i * 7) u).1⟩
      · obtain ⟨ys, hy⟩ := h p hpl
        exact ⟨ys, hy.kept (hx.stored (i * 7) u).2 (.inr hb)⟩

end Go.Proofs.Ytlackjldopeigaa
