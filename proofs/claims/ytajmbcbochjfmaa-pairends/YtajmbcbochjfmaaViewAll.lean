/-
  Texts of this seat in one: ViewSpec, ViewRef, ViewSuch, ViewReady, MapI, ViewOthers, ViewMay, ViewHeads, ViewRefHeads, ViewRefMay, ViewPure, OwnAll.
-/
import Derived.Test.YtajmbcbochjfmaaRowBase
import Derived.Maps.Range
import Derived.Maps.RangeWalk
import Derived.Maps.OwnOps
import Derived.Maps.Views
import Derived.Test.YtajmbcbochjfmaaRowRefs

/-
  view: what may go, as plain lists.
-/
namespace Go.Proofs.Ytajmbcbochjfmaa
open Go.RowKit
set_option linter.unusedVariables false
set_option linter.unusedSimpArgs false

/-- All that a test lets through, which is told what stood ahead. -/
def selA (K : List P7 → P7 → Bool) : List P7 → List P7 → List P7
  | _, [] => []
  | A, p :: l => (if K A p then [p] else []) ++ selA K (A ++ [p]) l
def sel (K : List P7 → P7 → Bool) (L : List P7) : List P7 := selA K [] L
theorem selA_snoc (K : List P7 → P7 → Bool) (A l : List P7) (p : P7) : selA K A (l ++ [p]) = selA K A l ++ (if K (A ++ l) p then [p] else []) := by
  induction l generalizing A with
  | nil => simp [selA]
  | cons x l ih => simp only [List.cons_append, selA, ih]; simp
theorem sel_nil (K : List P7 → P7 → Bool) : sel K [] = [] := rfl
theorem sel_snoc (K : List P7 → P7 → Bool) (l : List P7) (p : P7) : sel K (l ++ [p]) = sel K l ++ (if K l p then [p] else []) := by
  have := selA_snoc K [] l p
  rw [List.nil_append] at this
  exact this
theorem take_snoc7 (L : List P7) {k : Nat} (h : k < L.length) : L.take (k + 1) = L.take k ++ [L.getD k p70] := take_snocA L p70 k h
theorem sel_take (K : List P7 → P7 → Bool) (L : List P7) {k : Nat} (h : k < L.length) : sel K (L.take (k + 1)) = sel K (L.take k) ++ (if K (L.take k) (L.getD k p70) then [L.getD k p70] else []) := by
  rw [take_snoc7 L h, sel_snoc]
theorem sel_yes {K : List P7 → P7 → Bool} {L : List P7} {k : Nat} {x : P7} (h : k < L.length) (hx : L.getD k p70 = x) (hK : K (L.take k) x = true) : sel K (L.take k) ++ [x] = sel K (L.take (k + 1)) := by
  rw [sel_take K L h, hx, hK]
  rfl
theorem sel_no {K : List P7 → P7 → Bool} {L : List P7} {k : Nat} {x : P7} (h : k < L.length) (hx : L.getD k p70 = x) (hK : K (L.take k) x = false) : sel K (L.take k) = sel K (L.take (k + 1)) := by
  rw [sel_take K L h, hx, hK]
  simp
theorem selA_len (K : List P7 → P7 → Bool) (A l : List P7) : (selA K A l).length ≤ l.length := by
  induction l generalizing A with
  | nil => simp [selA]
  | cons x l ih =>
    have := ih (A ++ [x])
    simp only [selA, List.length_append, List.length_cons]
    split <;> simp <;> omega
theorem sel_len (K : List P7 → P7 → Bool) (L : List P7) : (sel K L).length ≤ L.length := selA_len K [] L
theorem sel_all {K : List P7 → P7 → Bool} {L : List P7} {k : Nat} (h : k = L.length) : sel K (L.take k) = sel K L := by rw [h, List.take_length]
theorem selA_filter (q : P7 → Bool) (A l : List P7) : selA (fun _ p => q p) A l = l.filter q := by
  induction l generalizing A with
  | nil => rfl
  | cons x l ih => simp only [selA, ih, List.filter_cons]; split <;> simp
theorem sel_filter (q : P7 → Bool) (L : List P7) : sel (fun _ p => q p) L = L.filter q := selA_filter q [] L
theorem selA_mem {K : List P7 → P7 → Bool} {A l : List P7} {p : P7} (h : p ∈ selA K A l) : p ∈ l := by
  induction l generalizing A with
  | nil => simp [selA] at h
  | cons x l ih =>
    simp only [selA, List.mem_append] at h
    rcases h with h | h
    · split at h
      · simp at h; simp [h]
      · simp at h
    · exact List.mem_cons_of_mem _ (ih h)

/-- Numbers that an int holds. -/
def FrOk (L : List P7) : Prop := ∀ p ∈ L, IntKind.i64.wrap p.fr = p.fr
theorem FrOk.sel {L : List P7} (h : FrOk L) (K : List P7 → P7 → Bool) : FrOk (sel K L) := fun p hp => h p (selA_mem hp)
theorem FrOk.at {L : List P7} (h : FrOk L) {k : Nat} (hk : k < L.length) : IntKind.i64.wrap (L.getD k p70).fr = (L.getD k p70).fr := h _ (getD_in hk)

/-- What is ready. -/
def readyK (t : Int) (_ : List P7) (p : P7) : Bool := readyB p.st p.ti t
def vReady (L : List P7) (t : Int) : List P7 := sel (readyK t) L
/-- What one sends. -/
def ofK (f : Int) (_ : List P7) (p : P7) : Bool := p.fr == f
def vOf (L : List P7) (f : Int) : List P7 := sel (ofK f) L
theorem vReady_eq (L : List P7) (t : Int) : vReady L t = L.filter fun p => readyB p.st p.ti t := sel_filter _ L
theorem vOf_eq (L : List P7) (f : Int) : vOf L f = L.filter fun p => p.fr == f := sel_filter _ L
/-- How many one sends. -/
def cntF (A : List P7) (f : Int) : Nat := (vOf A f).length
theorem cntF_nil (f : Int) : cntF [] f = 0 := rfl
theorem cntF_snoc (A : List P7) (p : P7) (f : Int) : cntF (A ++ [p]) f = cntF A f + if p.fr = f then 1 else 0 := by
  unfold cntF vOf
  rw [sel_snoc]
  unfold ofK
  by_cases h : p.fr = f <;> simp [h]
theorem cntF_le (A : List P7) (f : Int) : cntF A f ≤ A.length := sel_len _ A
/-- How many of another class than Normal one sends. -/
def othF (A : List P7) (f : Int) : Nat := (A.filter fun p => p.fr == f && p.cl != 3).length
theorem othF_snoc (A : List P7) (p : P7) (f : Int) : othF (A ++ [p]) f = othF A f + if p.fr = f ∧ ¬ p.cl = 3 then 1 else 0 := by
  unfold othF
  rw [List.filter_append]
  by_cases h : p.fr = f <;> by_cases h2 : p.cl = 3 <;> simp [h, h2]
theorem othF_le (A : List P7) (f : Int) : othF A f ≤ A.length := List.length_filter_le _ _
/-- What may go, of what is ready. -/
def mayK (R A : List P7) (p : P7) : Bool := decide (cntF A p.fr = 0) || decide (othF R p.fr = 0)
def vMay (L : List P7) (t : Int) : List P7 := sel (mayK (vReady L t)) (vReady L t)
/-- The first ones of each. -/
def headK (M : List Int) (A : List P7) (p : P7) : Bool := decide (0 ≤ p.fr) && decide (p.fr < M.length) && decide ((cntF A p.fr : Int) < M.getD p.fr.toNat 0)
def vHeads (L : List P7) (M : List Int) : List P7 := sel (headK M) L

end Go.Proofs.Ytajmbcbochjfmaa

/-
  giroref14.Ready, Of.
-/
namespace Go.Proofs.Ytajmbcbochjfmaa
open Go.RowKit
set_option linter.unusedVariables false
set_option linter.unusedSimpArgs false

set_option maxHeartbeats 4000000 in
theorem refVReady_any (a : Option Addr) (n c : Nat) (L : List P7) (t : Int) (w : World) (h : PGood w a n c L) (hm : n ≤ 100000) :
    Calls Try.prog 46 #[.slice a n c, .int .i64 t] w (PEnd w (vReady L t)) := by
  have H : Hid (PGood w a n c L) := h
  have HN : Hid (n = L.length) := h.len
  clear h
  go_enter Try.func46, Try.ntmps46
  go_wp2
  go_loopw [5, 6] (fun tv i wr => ∃ (k z : Nat) (v : Value), k ≤ n ∧ i = .int .i64 k ∧ v = tv ∧ z ≤ k ∧ Hid (wr.ownsRow w.heap.size 31 7 v z (payL (sel (readyK t) (L.take k)))) ∧ Hid (Below w.heap.size w wr)) (fun _ i _ => n - (intOf i).toNat)
  case atStart => exact ⟨0, 0, _, by omega, rfl, rfl, by omega, World.ownsRow_nil _ _ _ _, Below.refl _ _⟩
  case round =>
    obtain ⟨k, z, v, hk, rfl, rfl, hz, HO, HB⟩ := hrel
    by_cases hlt : k < n
    · obtain ⟨b, off, rfl, HC⟩ := H.out.at hlt
      have i1 : (k : Int) < (n : Int) := by omega
      obtain ⟨x, hx⟩ : ∃ x, L.getD k p70 = x := ⟨_, rfl⟩
      have C0 := HC k hlt
      rw [hx] at C0
      obtain ⟨x0, x1, x2, x3, x4, x5, x6⟩ := x
      have C : Hid (At7 w b (off + k * 7) (x0, x1, x2, x3, x4, x5, x6)) := C0
      have HX : Hid (L.getD k p70 = (x0, x1, x2, x3, x4, x5, x6)) := hx
      obtain ⟨p0, p1, p2, p3, p4, p5, p6⟩ := C.out.below HB.out
      simp only [P7.id, P7.fr, P7.to, P7.am, P7.cl, P7.st, P7.ti] at p0 p1 p2 p3 p4 p5 p6
      have R := refReady_any x0 x1 x2 x3 x4 x5 x6 t wr
      clear HC C0 hx H
      cases hr : readyB x5 x6 t with
      | true =>
        rw [hr] at R
        have HS : Hid (sel (readyK t) (L.take k) ++ [(x0, x1, x2, x3, x4, x5, x6)] = sel (readyK t) (L.take (k + 1))) := sel_yes (by have := HN.out; omega) HX.out hr
        clear hr
        go_wp2_with fail
        go_at_call 67
        refine R.mono ?_
        rintro e w1 ⟨rfl, hb⟩
        have B1 : Hid (Below w.heap.size w w1) := HB.out.trans (hb.mono HB.out.size)
        have O1 : Hid (w1.ownsRow w.heap.size 31 7 v z (payL (sel (readyK t) (L.take k)))) := own_below HO.out hb
        clear p0 p1 p2 p3 p4 p5 p6 R hb HO
        obtain ⟨p0, p1, p2, p3, p4, p5, p6⟩ := C.out.below B1.out
        simp only [P7.id, P7.fr, P7.to, P7.am, P7.cl, P7.st, P7.ti] at p0 p1 p2 p3 p4 p5 p6
        go_wp2_with (at_builtin; refine wpList_append_pays rfl _ _ rfl w.heap.size v z _ rfl (own_below O1.out (box_below _ _)) (some ⟨w1.heap.size, 0, none⟩) 1 1 [(x0, x1, x2, x3, x4, x5, x6)] rfl (PGood.lit1 w1 (x0, x1, x2, x3, x4, x5, x6)) (by omega) (by rw [size_alloc]; have := B1.out.size; omega) ?_)
        intro v2 w2 ho hg
        have O2 : Hid (w2.ownsRow w.heap.size 31 7 v2 (z + 1) (payL (sel (readyK t) (L.take (k + 1))))) := by rw [← HS.out]; exact ho
        have B2 : Hid (Below w.heap.size w w2) := (B1.out.alloc B1.out.size _).grown hg (by rw [size_alloc]; have := B1.out.size; omega) (fun j hj => (O1.out.lt j hj).1)
        clear ho hg O1 p0 p1 p2 p3 p4 p5 p6
        go_wp2
        go_roundw
        case rel => exact ⟨k + 1, z + 1, v2, by omega, by go_num, rfl, by omega, O2, B2⟩
        case measure => simp [intOf]; omega
      | false =>
        rw [hr] at R
        have HS : Hid (sel (readyK t) (L.take k) = sel (readyK t) (L.take (k + 1))) := sel_no (by have := HN.out; omega) HX.out hr
        clear hr
        go_wp2_with fail
        go_at_call 67
        refine R.mono ?_
        rintro e w1 ⟨rfl, hb⟩
        have B1 : Hid (Below w.heap.size w w1) := HB.out.trans (hb.mono HB.out.size)
        have O1 : Hid (w1.ownsRow w.heap.size 31 7 v z (payL (sel (readyK t) (L.take (k + 1))))) := by rw [← HS.out]; exact own_below HO.out hb
        clear p0 p1 p2 p3 p4 p5 p6 R hb HO
        go_wp2
        go_roundw
        case rel => exact ⟨k + 1, z, v, by omega, by go_num, rfl, by omega, O1, B1⟩
        case measure => simp [intOf]; omega
    · obtain rfl : k = n := by omega
      have HF : Hid (sel (readyK t) (L.take k) = vReady L t) := sel_all HN.out
      clear H
      go_wp2
      go_ret
      have := HO.out
      rw [HF.out] at this
      obtain ⟨a2, c2, hv, g, hnew⟩ := PGood.own this
      subst hv
      exact ⟨a2, c2, rfl, g, hnew, HB.out⟩

set_option maxHeartbeats 4000000 in
theorem refVOf_any (a : Option Addr) (n c : Nat) (L : List P7) (f : Int) (w : World) (h : PGood w a n c L) (hm : n ≤ 100000) :
    Calls Try.prog 47 #[.slice a n c, .int .i64 f] w (PEnd w (vOf L f)) := by
  have H : Hid (PGood w a n c L) := h
  have HN : Hid (n = L.length) := h.len
  clear h
  go_enter Try.func47, Try.ntmps47
  go_wp2
  go_loopw [5, 6] (fun tv i wr => ∃ (k z : Nat) (v : Value), k ≤ n ∧ i = .int .i64 k ∧ v = tv ∧ z ≤ k ∧ Hid (wr.ownsRow w.heap.size 31 7 v z (payL (sel (ofK f) (L.take k)))) ∧ Hid (Below w.heap.size w wr)) (fun _ i _ => n - (intOf i).toNat)
  case atStart => exact ⟨0, 0, _, by omega, rfl, rfl, by omega, World.ownsRow_nil _ _ _ _, Below.refl _ _⟩
  case round =>
    obtain ⟨k, z, v, hk, rfl, rfl, hz, HO, HB⟩ := hrel
    by_cases hlt : k < n
    · obtain ⟨b, off, rfl, HC⟩ := H.out.at hlt
      have i1 : (k : Int) < (n : Int) := by omega
      obtain ⟨x, hx⟩ : ∃ x, L.getD k p70 = x := ⟨_, rfl⟩
      have C0 := HC k hlt
      rw [hx] at C0
      obtain ⟨x0, x1, x2, x3, x4, x5, x6⟩ := x
      have C : Hid (At7 w b (off + k * 7) (x0, x1, x2, x3, x4, x5, x6)) := C0
      have HX : Hid (L.getD k p70 = (x0, x1, x2, x3, x4, x5, x6)) := hx
      obtain ⟨p0, p1, p2, p3, p4, p5, p6⟩ := C.out.below HB.out
      simp only [P7.id, P7.fr, P7.to, P7.am, P7.cl, P7.st, P7.ti] at p0 p1 p2 p3 p4 p5 p6
      clear HC C0 hx H
      cases hr : (x1 == f) with
      | true =>
        have HS : Hid (sel (ofK f) (L.take k) ++ [(x0, x1, x2, x3, x4, x5, x6)] = sel (ofK f) (L.take (k + 1))) := sel_yes (by have := HN.out; omega) HX.out hr
        go_wp2_with (at_builtin; refine wpList_append_pays rfl _ _ rfl w.heap.size v z _ rfl (own_below HO.out (box_below _ _)) (some ⟨wr.heap.size, 0, none⟩) 1 1 [(x0, x1, x2, x3, x4, x5, x6)] rfl (PGood.lit1 wr (x0, x1, x2, x3, x4, x5, x6)) (by omega) (by rw [size_alloc]; have := HB.out.size; omega) ?_)
        intro v2 w2 ho hg
        have O2 : Hid (w2.ownsRow w.heap.size 31 7 v2 (z + 1) (payL (sel (ofK f) (L.take (k + 1))))) := by rw [← HS.out]; exact ho
        have B2 : Hid (Below w.heap.size w w2) := (HB.out.alloc HB.out.size _).grown hg (by rw [size_alloc]; have := HB.out.size; omega) (fun j hj => (HO.out.lt j hj).1)
        clear ho hg HO p0 p1 p2 p3 p4 p5 p6
        go_wp2
        go_roundw
        case rel => exact ⟨k + 1, z + 1, v2, by omega, by go_num, rfl, by omega, O2, B2⟩
        case measure => simp [intOf]; omega
      | false =>
        have HS : Hid (sel (ofK f) (L.take k) = sel (ofK f) (L.take (k + 1))) := sel_no (by have := HN.out; omega) HX.out hr
        have O1 : Hid (wr.ownsRow w.heap.size 31 7 v z (payL (sel (ofK f) (L.take (k + 1))))) := by rw [← HS.out]; exact HO.out
        clear HO
        go_wp2
        go_roundw
        case rel => exact ⟨k + 1, z, v, by omega, by go_num, rfl, by omega, O1, HB⟩
        case measure => simp [intOf]; omega
    · obtain rfl : k = n := by omega
      have HF : Hid (sel (ofK f) (L.take k) = vOf L f) := sel_all HN.out
      clear H
      go_wp2
      go_ret
      have := HO.out
      rw [HF.out] at this
      obtain ⟨a2, c2, hv, g, hnew⟩ := PGood.own this
      subst hv
      exact ⟨a2, c2, rfl, g, hnew, HB.out⟩

end Go.Proofs.Ytajmbcbochjfmaa

/-
  view.such, with each of the functions that it is handed.
-/
namespace Go.Proofs.Ytajmbcbochjfmaa
open Go.RowKit
set_option linter.unusedVariables false
set_option linter.unusedSimpArgs false

theorem At7.grown {w w' : World} {g o : Nat} {p : P7} {r : Option Nat} (h : At7 w g o p) (hg : w.grownBy w' r) (hne : some g ≠ r) : At7 w' g o p := by
  obtain ⟨h0, h1, h2, h3, h4, h5, h6⟩ := h
  exact ⟨hg.cell h0 hne, hg.cell h1 hne, hg.cell h2 hne, hg.cell h3 hne, hg.cell h4 hne, hg.cell h5 hne, hg.cell h6 hne⟩
theorem grown_below {w w' : World} (h : Below w.heap.size w w') (r : Option Nat) : w.grownBy w' r := ⟨h.os, h.tape, h.output, h.size, fun k hk _ => h.block k hk⟩
theorem below_grown {w w' : World} (h : w.grownBy w' none) : Below w.heap.size w w' := ⟨h.os, h.tape, h.output, h.size, fun k hk => h.block k hk (by simp)⟩
/-- What a call leaves that makes a row of its own, and may write one block. -/
def PMadeO (o : Option Nat) (w : World) (L : List P7) (e : Ending) (w' : World) : Prop := ∃ v, e = .returned v ∧ w'.ownsRow w.heap.size 31 7 v L.length (payL L) ∧ w.grownBy w' o
def PMade (w : World) (L : List P7) (e : Ending) (w' : World) : Prop := ∃ v, e = .returned v ∧ w'.ownsRow w.heap.size 31 7 v L.length (payL L) ∧ Below w.heap.size w w'
theorem PMade.end {w : World} {L : List P7} {e : Ending} {w' : World} (h : PMade w L e w') : PEnd w L e w' := by
  obtain ⟨v, rfl, h2, h3⟩ := h
  obtain ⟨a, c, rfl, g, hn⟩ := PGood.own h2
  exact ⟨a, c, rfl, g, hn, h3⟩

set_option maxHeartbeats 4000000 in
theorem suchReady (g1 : Nat) (o : Option Nat) (K : List P7 → P7 → Bool) (I : List P7 → World → Prop) (a : Option Addr) (n c : Nat) (L : List P7) (w : World) (h : PGood w a n c L) (hm : n ≤ 100000)
    (ho : ∀ x, o = some x → x < w.heap.size) (ha : 0 < n → ∀ x, a = some x → some x.block ≠ o)
    (hI : ∀ A u u' r, (∀ x, r = some x → w.heap.size ≤ x) → I A u → u.grownBy u' r → I A u') (h0 : I [] w)
    (hs : ∀ k u, k < n → w.grownBy u o → I (L.take k) u → Calls Try.prog 64 #[(L.getD k p70).val, .pointer (some ⟨g1, 0, none⟩)] u fun e u' => e = .returned (.bool (K (L.take k) (L.getD k p70))) ∧ I (L.take (k + 1)) u' ∧ u.grownBy u' o) :
    Calls Try.prog 42 #[.slice a n c, .func (.func 64) #[] #[.pointer (some ⟨g1, 0, none⟩)]] w fun e w' => PMadeO o w (sel K L) e w' ∧ I L w' := by
  have H : Hid (PGood w a n c L) := h
  have HN : Hid (n = L.length) := h.len
  have HO : Hid (∀ x, o = some x → x < w.heap.size) := ho
  have HA : Hid (0 < n → ∀ x, a = some x → some x.block ≠ o) := ha
  have HI0 : Hid (∀ A u u' r, (∀ x, r = some x → w.heap.size ≤ x) → I A u → u.grownBy u' r → I A u') := hI
  have H0 : Hid (I [] w) := h0
  have HS : Hid (∀ k u, k < n → w.grownBy u o → I (L.take k) u → Calls Try.prog 64 #[(L.getD k p70).val, .pointer (some ⟨g1, 0, none⟩)] u fun e u' => e = .returned (.bool (K (L.take k) (L.getD k p70))) ∧ I (L.take (k + 1)) u' ∧ u.grownBy u' o) := hs
  clear h ho ha hI h0 hs
  go_enter Try.func42, Try.ntmps42
  go_wp2
  go_loopw [5, 10] (fun tv i wr => ∃ (k z : Nat) (v : Value), k ≤ n ∧ i = .int .i64 k ∧ v = tv ∧ z ≤ k ∧ Hid (wr.ownsRow w.heap.size 31 7 v z (payL (sel K (L.take k)))) ∧ Hid (I (L.take k) wr) ∧ Hid (w.grownBy wr o)) (fun _ i _ => n - (intOf i).toNat)
  case atStart => exact ⟨0, 0, _, by omega, rfl, rfl, by omega, World.ownsRow_nil _ _ _ _, H0, World.grownBy.refl _ _⟩
  case round =>
    obtain ⟨k, z, v, hk, rfl, rfl, hz, HR, HI, HG⟩ := hrel
    by_cases hlt : k < n
    · obtain ⟨b, off, rfl, HC⟩ := H.out.at hlt
      have i1 : (k : Int) < (n : Int) := by omega
      have C0 := (HC k hlt).grown HG.out (HA.out (by omega) _ rfl)
      have S := HS.out k (wr.alloc (.cells #[.int .i64 (L.getD k p70).id, .int .i64 (L.getD k p70).fr, .int .i64 (L.getD k p70).to, .int .i64 (L.getD k p70).am, .int .i64 (L.getD k p70).cl, .int .i64 (L.getD k p70).st, .int .i64 (L.getD k p70).ti] 31)) hlt (HG.out.andThen (World.grownBy_alloc wr _ o) (fun j hj => .inr hj)) (HI0.out _ _ _ none (fun x hx => by cases hx) HI.out (World.grownBy_alloc wr _ none))
      obtain ⟨x, hx⟩ : ∃ x, L.getD k p70 = x := ⟨_, rfl⟩
      rw [hx] at C0 S
      obtain ⟨x0, x1, x2, x3, x4, x5, x6⟩ := x
      have X1 : Hid (At7 (wr.alloc (.cells #[.int .i64 x0, .int .i64 x1, .int .i64 x2, .int .i64 x3, .int .i64 x4, .int .i64 x5, .int .i64 x6] 31)) wr.heap.size 0 (x0, x1, x2, x3, x4, x5, x6)) := At7.new wr (x0, x1, x2, x3, x4, x5, x6) _ _
      have HX : Hid (L.getD k p70 = (x0, x1, x2, x3, x4, x5, x6)) := hx
      obtain ⟨p0, p1, p2, p3, p4, p5, p6⟩ := C0
      simp only [P7.id, P7.fr, P7.to, P7.am, P7.cl, P7.st, P7.ti] at p0 p1 p2 p3 p4 p5 p6
      clear HC hx H HS
      cases hr : K (L.take k) (x0, x1, x2, x3, x4, x5, x6) with
      | true =>
        rw [hr] at S
        have HE : Hid (sel K (L.take k) ++ [(x0, x1, x2, x3, x4, x5, x6)] = sel K (L.take (k + 1))) := sel_yes (by have := HN.out; omega) HX.out hr
        clear hr
        go_wp2_with fail
        go_at_call 64
        refine S.mono ?_
        rintro e w2 ⟨rfl, i2, hg2⟩
        have G2 : Hid (w.grownBy w2 o) := HG.out.andThen ((World.grownBy_alloc wr _ o).trans hg2) (fun j hj => .inr hj)
        have X2 : Hid (At7 w2 wr.heap.size 0 (x0, x1, x2, x3, x4, x5, x6)) := X1.out.grown hg2 (fun e => by have := HO.out _ e.symm; have := HG.out.size; omega)
        have O2 : Hid (w2.ownsRow w.heap.size 31 7 v z (payL (sel K (L.take k)))) := (HR.out.alloc _).kept hg2 (by
          cases hv : v.ownBlock with
          | none => exact .inl rfl
          | some j => exact .inr (fun e => by have := HO.out j e.symm; have := (HR.out.lt j hv).1; omega))
        have I2 : Hid (I (L.take (k + 1)) w2) := i2
        clear i2 hg2 S X1 HR HI HG
        clear p0 p1 p2 p3 p4 p5 p6
        obtain ⟨p0, p1, p2, p3, p4, p5, p6⟩ := X2.out
        simp only [P7.id, P7.fr, P7.to, P7.am, P7.cl, P7.st, P7.ti] at p0 p1 p2 p3 p4 p5 p6
        go_wp2_with (at_builtin; refine wpList_append_pays rfl _ _ rfl w.heap.size v z _ rfl (O2.out.alloc _) (some ⟨w2.heap.size, 0, none⟩) 1 1 [(x0, x1, x2, x3, x4, x5, x6)] rfl (PGood.lit1 w2 (x0, x1, x2, x3, x4, x5, x6)) (by omega) (by rw [size_alloc]; have := G2.out.size; omega) ?_)
        intro v3 w3 ho3 hg3
        have O3 : Hid (w3.ownsRow w.heap.size 31 7 v3 (z + 1) (payL (sel K (L.take (k + 1))))) := by rw [← HE.out]; exact ho3
        have hb := fun j hj => (O2.out.lt j hj).1
        have G3 : Hid (w.grownBy w3 o) := G2.out.andThen ((World.grownBy_alloc w2 _ v.ownBlock).trans hg3) (fun j hj => .inl (hb j hj))
        have I3 : Hid (I (L.take (k + 1)) w3) := HI0.out _ _ _ _ hb I2.out ((World.grownBy_alloc w2 _ v.ownBlock).trans hg3)
        clear ho3 hg3 hb O2 G2 I2 X2 p0 p1 p2 p3 p4 p5 p6
        go_wp2
        go_roundw
        case rel => exact ⟨k + 1, z + 1, v3, by omega, by go_num, rfl, by omega, O3, I3, G3⟩
        case measure => simp [intOf]; omega
      | false =>
        rw [hr] at S
        have HE : Hid (sel K (L.take k) = sel K (L.take (k + 1))) := sel_no (by have := HN.out; omega) HX.out hr
        clear hr
        go_wp2_with fail
        go_at_call 64
        refine S.mono ?_
        rintro e w2 ⟨rfl, i2, hg2⟩
        have G2 : Hid (w.grownBy w2 o) := HG.out.andThen ((World.grownBy_alloc wr _ o).trans hg2) (fun j hj => .inr hj)
        have X2 : Hid (At7 w2 wr.heap.size 0 (x0, x1, x2, x3, x4, x5, x6)) := X1.out.grown hg2 (fun e => by have := HO.out _ e.symm; have := HG.out.size; omega)
        have O2 : Hid (w2.ownsRow w.heap.size 31 7 v z (payL (sel K (L.take k)))) := (HR.out.alloc _).kept hg2 (by
          cases hv : v.ownBlock with
          | none => exact .inl rfl
          | some j => exact .inr (fun e => by have := HO.out j e.symm; have := (HR.out.lt j hv).1; omega))
        have I2 : Hid (I (L.take (k + 1)) w2) := i2
        clear i2 hg2 S X1 HR HI HG
        have O3 : Hid (w2.ownsRow w.heap.size 31 7 v z (payL (sel K (L.take (k + 1))))) := by rw [← HE.out]; exact O2.out
        clear p0 p1 p2 p3 p4 p5 p6 O2 X2
        go_wp2
        go_roundw
        case rel => exact ⟨k + 1, z, v, by omega, by go_num, rfl, by omega, O3, I2, G2⟩
        case measure => simp [intOf]; omega
    · obtain rfl : k = n := by omega
      have HF : Hid (sel K (L.take k) = sel K L) := sel_all HN.out
      have HL : Hid (L.take k = L) := by show _ = _; rw [HN.out, List.take_length]
      clear H HS
      go_wp2
      go_ret
      have hr := HR.out
      have hi := HI.out
      rw [HF.out] at hr
      rw [HL.out] at hi
      have hzl : z = (sel K L).length := by have := hr.1; rw [payL_length] at this; omega
      rw [hzl] at hr
      exact ⟨⟨v, rfl, hr, HG.out⟩, hi⟩


set_option maxHeartbeats 4000000 in
theorem suchMay (g1 g2 : Nat) (o : Option Nat) (K : List P7 → P7 → Bool) (I : List P7 → World → Prop) (a : Option Addr) (n c : Nat) (L : List P7) (w : World) (h : PGood w a n c L) (hm : n ≤ 100000)
    (ho : ∀ x, o = some x → x < w.heap.size) (ha : 0 < n → ∀ x, a = some x → some x.block ≠ o)
    (hI : ∀ A u u' r, (∀ x, r = some x → w.heap.size ≤ x) → I A u → u.grownBy u' r → I A u') (h0 : I [] w)
    (hs : ∀ k u, k < n → w.grownBy u o → I (L.take k) u → Calls Try.prog 43 #[(L.getD k p70).val, .pointer (some ⟨g1, 0, none⟩), .pointer (some ⟨g2, 0, none⟩)] u fun e u' => e = .returned (.bool (K (L.take k) (L.getD k p70))) ∧ I (L.take (k + 1)) u' ∧ u.grownBy u' o) :
    Calls Try.prog 42 #[.slice a n c, .func (.func 43) #[] #[.pointer (some ⟨g1, 0, none⟩), .pointer (some ⟨g2, 0, none⟩)]] w fun e w' => PMadeO o w (sel K L) e w' ∧ I L w' := by
  have H : Hid (PGood w a n c L) := h
  have HN : Hid (n = L.length) := h.len
  have HO : Hid (∀ x, o = some x → x < w.heap.size) := ho
  have HA : Hid (0 < n → ∀ x, a = some x → some x.block ≠ o) := ha
  have HI0 : Hid (∀ A u u' r, (∀ x, r = some x → w.heap.size ≤ x) → I A u → u.grownBy u' r → I A u') := hI
  have H0 : Hid (I [] w) := h0
  have HS : Hid (∀ k u, k < n → w.grownBy u o → I (L.take k) u → Calls Try.prog 43 #[(L.getD k p70).val, .pointer (some ⟨g1, 0, none⟩), .pointer (some ⟨g2, 0, none⟩)] u fun e u' => e = .returned (.bool (K (L.take k) (L.getD k p70))) ∧ I (L.take (k + 1)) u' ∧ u.grownBy u' o) := hs
  clear h ho ha hI h0 hs
  go_enter Try.func42, Try.ntmps42
  go_wp2
  go_loopw [5, 10] (fun tv i wr => ∃ (k z : Nat) (v : Value), k ≤ n ∧ i = .int .i64 k ∧ v = tv ∧ z ≤ k ∧ Hid (wr.ownsRow w.heap.size 31 7 v z (payL (sel K (L.take k)))) ∧ Hid (I (L.take k) wr) ∧ Hid (w.grownBy wr o)) (fun _ i _ => n - (intOf i).toNat)
  case atStart => exact ⟨0, 0, _, by omega, rfl, rfl, by omega, World.ownsRow_nil _ _ _ _, H0, World.grownBy.refl _ _⟩
  case round =>
    obtain ⟨k, z, v, hk, rfl, rfl, hz, HR, HI, HG⟩ := hrel
    by_cases hlt : k < n
    · obtain ⟨b, off, rfl, HC⟩ := H.out.at hlt
      have i1 : (k : Int) < (n : Int) := by omega
      have C0 := (HC k hlt).grown HG.out (HA.out (by omega) _ rfl)
      have S := HS.out k (wr.alloc (.cells #[.int .i64 (L.getD k p70).id, .int .i64 (L.getD k p70).fr, .int .i64 (L.getD k p70).to, .int .i64 (L.getD k p70).am, .int .i64 (L.getD k p70).cl, .int .i64 (L.getD k p70).st, .int .i64 (L.getD k p70).ti] 31)) hlt (HG.out.andThen (World.grownBy_alloc wr _ o) (fun j hj => .inr hj)) (HI0.out _ _ _ none (fun x hx => by cases hx) HI.out (World.grownBy_alloc wr _ none))
      obtain ⟨x, hx⟩ : ∃ x, L.getD k p70 = x := ⟨_, rfl⟩
      rw [hx] at C0 S
      obtain ⟨x0, x1, x2, x3, x4, x5, x6⟩ := x
      have X1 : Hid (At7 (wr.alloc (.cells #[.int .i64 x0, .int .i64 x1, .int .i64 x2, .int .i64 x3, .int .i64 x4, .int .i64 x5, .int .i64 x6] 31)) wr.heap.size 0 (x0, x1, x2, x3, x4, x5, x6)) := At7.new wr (x0, x1, x2, x3, x4, x5, x6) _ _
      have HX : Hid (L.getD k p70 = (x0, x1, x2, x3, x4, x5, x6)) := hx
      obtain ⟨p0, p1, p2, p3, p4, p5, p6⟩ := C0
      simp only [P7.id, P7.fr, P7.to, P7.am, P7.cl, P7.st, P7.ti] at p0 p1 p2 p3 p4 p5 p6
      clear HC hx H HS
      cases hr : K (L.take k) (x0, x1, x2, x3, x4, x5, x6) with
      | true =>
        rw [hr] at S
        have HE : Hid (sel K (L.take k) ++ [(x0, x1, x2, x3, x4, x5, x6)] = sel K (L.take (k + 1))) := sel_yes (by have := HN.out; omega) HX.out hr
        clear hr
        go_wp2_with fail
        go_at_call 43
        refine S.mono ?_
        rintro e w2 ⟨rfl, i2, hg2⟩
        have G2 : Hid (w.grownBy w2 o) := HG.out.andThen ((World.grownBy_alloc wr _ o).trans hg2) (fun j hj => .inr hj)
        have X2 : Hid (At7 w2 wr.heap.size 0 (x0, x1, x2, x3, x4, x5, x6)) := X1.out.grown hg2 (fun e => by have := HO.out _ e.symm; have := HG.out.size; omega)
        have O2 : Hid (w2.ownsRow w.heap.size 31 7 v z (payL (sel K (L.take k)))) := (HR.out.alloc _).kept hg2 (by
          cases hv : v.ownBlock with
          | none => exact .inl rfl
          | some j => exact .inr (fun e => by have := HO.out j e.symm; have := (HR.out.lt j hv).1; omega))
        have I2 : Hid (I (L.take (k + 1)) w2) := i2
        clear i2 hg2 S X1 HR HI HG
        clear p0 p1 p2 p3 p4 p5 p6
        obtain ⟨p0, p1, p2, p3, p4, p5, p6⟩ := X2.out
        simp only [P7.id, P7.fr, P7.to, P7.am, P7.cl, P7.st, P7.ti] at p0 p1 p2 p3 p4 p5 p6
        go_wp2_with (at_builtin; refine wpList_append_pays rfl _ _ rfl w.heap.size v z _ rfl (O2.out.alloc _) (some ⟨w2.heap.size, 0, none⟩) 1 1 [(x0, x1, x2, x3, x4, x5, x6)] rfl (PGood.lit1 w2 (x0, x1, x2, x3, x4, x5, x6)) (by omega) (by rw [size_alloc]; have := G2.out.size; omega) ?_)
        intro v3 w3 ho3 hg3
        have O3 : Hid (w3.ownsRow w.heap.size 31 7 v3 (z + 1) (payL (sel K (L.take (k + 1))))) := by rw [← HE.out]; exact ho3
        have hb := fun j hj => (O2.out.lt j hj).1
        have G3 : Hid (w.grownBy w3 o) := G2.out.andThen ((World.grownBy_alloc w2 _ v.ownBlock).trans hg3) (fun j hj => .inl (hb j hj))
        have I3 : Hid (I (L.take (k + 1)) w3) := HI0.out _ _ _ _ hb I2.out ((World.grownBy_alloc w2 _ v.ownBlock).trans hg3)
        clear ho3 hg3 hb O2 G2 I2 X2 p0 p1 p2 p3 p4 p5 p6
        go_wp2
        go_roundw
        case rel => exact ⟨k + 1, z + 1, v3, by omega, by go_num, rfl, by omega, O3, I3, G3⟩
        case measure => simp [intOf]; omega
      | false =>
        rw [hr] at S
        have HE : Hid (sel K (L.take k) = sel K (L.take (k + 1))) := sel_no (by have := HN.out; omega) HX.out hr
        clear hr
        go_wp2_with fail
        go_at_call 43
        refine S.mono ?_
        rintro e w2 ⟨rfl, i2, hg2⟩
        have G2 : Hid (w.grownBy w2 o) := HG.out.andThen ((World.grownBy_alloc wr _ o).trans hg2) (fun j hj => .inr hj)
        have X2 : Hid (At7 w2 wr.heap.size 0 (x0, x1, x2, x3, x4, x5, x6)) := X1.out.grown hg2 (fun e => by have := HO.out _ e.symm; have := HG.out.size; omega)
        have O2 : Hid (w2.ownsRow w.heap.size 31 7 v z (payL (sel K (L.take k)))) := (HR.out.alloc _).kept hg2 (by
          cases hv : v.ownBlock with
          | none => exact .inl rfl
          | some j => exact .inr (fun e => by have := HO.out j e.symm; have := (HR.out.lt j hv).1; omega))
        have I2 : Hid (I (L.take (k + 1)) w2) := i2
        clear i2 hg2 S X1 HR HI HG
        have O3 : Hid (w2.ownsRow w.heap.size 31 7 v z (payL (sel K (L.take (k + 1))))) := by rw [← HE.out]; exact O2.out
        clear p0 p1 p2 p3 p4 p5 p6 O2 X2
        go_wp2
        go_roundw
        case rel => exact ⟨k + 1, z, v, by omega, by go_num, rfl, by omega, O3, I2, G2⟩
        case measure => simp [intOf]; omega
    · obtain rfl : k = n := by omega
      have HF : Hid (sel K (L.take k) = sel K L) := sel_all HN.out
      have HL : Hid (L.take k = L) := by show _ = _; rw [HN.out, List.take_length]
      clear H HS
      go_wp2
      go_ret
      have hr := HR.out
      have hi := HI.out
      rw [HF.out] at hr
      rw [HL.out] at hi
      have hzl : z = (sel K L).length := by have := hr.1; rw [payL_length] at this; omega
      rw [hzl] at hr
      exact ⟨⟨v, rfl, hr, HG.out⟩, hi⟩


end Go.Proofs.Ytajmbcbochjfmaa

/-
  view.Ready, view.Of.
-/
namespace Go.Proofs.Ytajmbcbochjfmaa
open Go.RowKit
set_option linter.unusedVariables false
set_option linter.unusedSimpArgs false

theorem viewReadyF_any (p : P7) (g : Nat) (t : Int) (w : World) (h : w.cell? ⟨g, 0, none⟩ = some (.int .i64 t)) : Calls Try.prog 64 #[p.val, .pointer (some ⟨g, 0, none⟩)] w fun e w' => e = .returned (.bool (readyB p.st p.ti t)) ∧ Below w.heap.size w w' := by
  obtain ⟨x0, x1, x2, x3, x4, x5, x6⟩ := p
  have hg := block_lt_of_cell h
  have hb := box_below w (.cells #[.int .i64 x0, .int .i64 x1, .int .i64 x2, .int .i64 x3, .int .i64 x4, .int .i64 x5, .int .i64 x6] 31)
  have h' := (hb.cell (p := ⟨g, 0, none⟩) hg).trans h
  have HB : Hid (Below w.heap.size w _) := hb
  have R := ready_any x0 x1 x2 x3 x4 x5 x6 t (w.alloc (.cells #[.int .i64 x0, .int .i64 x1, .int .i64 x2, .int .i64 x3, .int .i64 x4, .int .i64 x5, .int .i64 x6] 31))
  clear hb h hg
  go_enter Try.func64, Try.ntmps64
  go_wp2_with fail
  go_at_call 65
  refine R.mono ?_
  rintro e w1 ⟨rfl, hb⟩
  have B1 : Hid (Below w.heap.size w w1) := HB.out.trans (hb.mono HB.out.size)
  clear hb R HB
  go_wp2
  go_ret
  exact ⟨rfl, B1.out⟩

set_option maxHeartbeats 1000000 in
theorem viewReady_made (a : Option Addr) (n c : Nat) (L : List P7) (t : Int) (w : World) (h : PGood w a n c L) (hm : n ≤ 100000) :
    Calls Try.prog 40 #[.slice a n c, .int .i64 t] w (PMade w (vReady L t)) := by
  have hb : Below w.heap.size w (w.alloc (.cells #[.int .i64 t] 2)) := box_below _ _
  have hs : (w.alloc (.cells #[.int .i64 t] 2)).heap.size = w.heap.size + 1 := size_alloc _ _
  have S := suchReady w.heap.size none (readyK t) (fun _ u => u.cell? ⟨w.heap.size, 0, none⟩ = some (.int .i64 t)) a n c L (w.alloc (.cells #[.int .i64 t] 2)) (h.below hb) hm
    (fun x hx => by cases hx) (fun _ x _ => by simp)
    (fun A u u' r hr hc hg => hg.cell hc (fun e => by have := hr _ e.symm; rw [hs] at this; simp at this; omega))
    (by rw [cell_new]; rfl)
    (fun k u _ _ hc => (viewReadyF_any (L.getD k p70) w.heap.size t u hc).mono fun e u' ⟨h1, h2⟩ => ⟨h1, (h2.cell (p := ⟨w.heap.size, 0, none⟩) (block_lt_of_cell hc)).trans hc, grown_below h2 _⟩)
  have HB : Hid (Below w.heap.size w (w.alloc (.cells #[.int .i64 t] 2))) := hb
  clear h hm hb hs
  go_enter Try.func40, Try.ntmps40
  go_wp2_with fail
  go_at_call 42
  refine S.mono ?_
  rintro e w1 ⟨⟨v1, rfl, o1, hg⟩, -⟩
  have hsz := HB.out.size
  have R : Hid (PMade w (vReady L t) (.returned v1) w1) := ⟨v1, rfl, own_base o1 hsz, HB.out.trans ((below_grown hg).mono hsz)⟩
  clear o1 hg S hsz HB
  go_wp2
  go_ret
  exact R.out
theorem viewReady_any (a : Option Addr) (n c : Nat) (L : List P7) (t : Int) (w : World) (h : PGood w a n c L) (hm : n ≤ 100000) :
    Calls Try.prog 40 #[.slice a n c, .int .i64 t] w (PEnd w (vReady L t)) := (viewReady_made a n c L t w h hm).mono fun _ _ h => h.end


end Go.Proofs.Ytajmbcbochjfmaa

/-
  A map[int]int that the call made, as a function: what stands at each key, 0 where nothing does.
-/
namespace Go.Proofs.Ytajmbcbochjfmaa
open Go.RowKit Go.Maps
set_option linter.unusedVariables false
set_option linter.unusedSimpArgs false

theorem keyedInt : Keyed Try.prog 3 := int_keyed Try.underlying3
theorem zeroInt (w : World) : (zeroValue 3).run Try.prog w = .ok (.int .i64 0) w := by kernel_rfl
theorem wf_lit {n : Int} (h : IntKind.i64.wrap n = n) : (Lit.int .i64 n).wf = true := by
  have := wf_i64 h
  exact WalkArith.wf_i64 (by omega)

/-- Block b is such a map, of at most n keys. -/
def MapI (w : World) (b n : Nat) (f : Int → Int) : Prop :=
  ∃ D : DataW Unit, w.ownsMap Try.prog 3 (plainElem Try.prog 3) b n D ∧ IsMap D ∧ ∀ x, D.atKey (.int .i64 x) (.lit (.int .i64 0)) = .lit (.int .i64 (f x))

theorem MapI.new (w : World) : MapI (w.alloc (.map #[] 0)) w.heap.size 0 (fun _ => 0) :=
  ⟨.map [], World.ownsMap_made _ _ _ _, isMap_empty, fun _ => rfl⟩
theorem MapI.lt {w : World} {b n : Nat} {f : Int → Int} (h : MapI w b n f) : b < w.heap.size := by
  obtain ⟨D, h, _⟩ := h
  exact h.lt
theorem MapI.grown {w w' : World} {b n : Nat} {f : Int → Int} {r : Option Nat} (h : MapI w b n f) (hg : w.grownBy w' r) (hne : some b ≠ r) : MapI w' b n f := by
  obtain ⟨D, h, k⟩ := h
  exact ⟨D, h.kept hg hne, k⟩
theorem MapI.below {w w' : World} {b n : Nat} {f : Int → Int} (h : MapI w b n f) (hb : Below w.heap.size w w') : MapI w' b n f :=
  h.grown (r := none) ⟨hb.os, hb.tape, hb.output, hb.size, fun k hk _ => hb.block k hk⟩ (by simp)
theorem MapI.congr {w : World} {b n : Nat} {f g : Int → Int} (h : MapI w b n f) (e : ∀ x, f x = g x) : MapI w b n g := by
  obtain ⟨D, h, h1, h2⟩ := h
  exact ⟨D, h, h1, fun x => by rw [h2, e]⟩
theorem MapI.mono {w : World} {b n m : Nat} {f : Int → Int} (h : MapI w b n f) (e : n ≤ m) : MapI w b m f := by
  obtain ⟨D, h, k⟩ := h
  exact ⟨D, h.mono e, k⟩
/-- It is no block of cells. -/
theorem MapI.ne {w : World} {b n g o : Nat} {f : Int → Int} {v : Value} (h : MapI w b n f) (hc : w.cell? ⟨g, o, none⟩ = some v) : g ≠ b := by
  rintro rfl
  obtain ⟨D, ⟨es, clock, hm, _⟩, _⟩ := h
  unfold World.cell? at hc
  simp [hm] at hc
/-- One more at a key. -/
def upd (f : Int → Int) (x y : Int) : Int → Int := fun z => if z = x then y else f z

theorem wpList_look {w : World} {ops : Array Oper} {rest : List Oper} {o : Oper} {a : Act} {Q : Exit → Act → World → Prop} (hgd : o.guard = none) (m x : Operand) (hop : o.op = Op.lookup 75 m x false)
    (b n : Nat) (f : Int → Int) (hm : a.eval m = .map (some b)) (h : MapI w b n f) (k : Int) (hx : a.eval x = .int .i64 k) (hk : IntKind.i64.wrap k = k)
    (hK : wpList Try.prog ops Q rest (a.put o.dst (.int .i64 (f k))) w) : wpList Try.prog ops Q (o :: rest) a w := by
  obtain ⟨D, hown, _, hat⟩ := h
  refine wpList_lookup_own_int w hgd m x _ hop 3 3 .i64 keyedInt Try.underlying75 Try.underlying3 (zeroInt w) b n D hm hown _ _ hx (keyOf_int_mk Try.underlying3 (wf_lit hk)) fun c hc _ => ?_
  rw [hat k] at hc
  simp at hc
  rw [← hc]
  exact hK

/-- .. as an equation, for the walk (a guarded look-up). -/
theorem MapI.look {w : World} {b n : Nat} {f : Int → Int} (h : MapI w b n f) {k y : Int} (hk : IntKind.i64.wrap k = k) (hy : f k = y) : (Instr.lookup 75 (.map (some b)) (.int .i64 k) false).run Try.prog w = .ok (.int .i64 y) w := by
  obtain ⟨D, hown, _, hat⟩ := h
  obtain ⟨c, hrun, hc, _⟩ := hown.lookup_int keyedInt Try.underlying75 Try.underlying3 (zeroInt w) (keyOf_int_mk Try.underlying3 (wf_lit hk))
  rw [hat k] at hc
  simp at hc
  rw [hrun, ← hc, hy]

theorem wpList_mapPut {w : World} {ops : Array Oper} {rest : List Oper} {o : Oper} {a : Act} {Q : Exit → Act → World → Prop} (hgd : o.guard = none) (m x v : Operand) (hop : o.op = Op.mapUpdate 75 m x v)
    (b n : Nat) (f : Int → Int) (hm : a.eval m = .map (some b)) (h : MapI w b n f) (hn : n ≤ 1000000) (k y : Int) (hx : a.eval x = .int .i64 k) (hk : IntKind.i64.wrap k = k) (hv : a.eval v = .int .i64 y) (hy : IntKind.i64.wrap y = y)
    (hK : ∀ w', MapI w' b (n + 1) (upd f k y) → w.grownBy w' (some b) → wpList Try.prog ops Q rest (a.put o.dst undef) w') : wpList Try.prog ops Q (o :: rest) a w := by
  obtain ⟨D, hown, hmap, hat⟩ := h
  refine wpList_mapUpdate_own w hgd m x v _ hop 3 3 keyedInt Try.underlying75 _ b n D hm hown (by unfold maxLen; omega) _ _ _ hx hv (keyOf_int_mk Try.underlying3 (wf_lit hk)) _ [] (plainElem_int Try.underlying3 (wf_lit hy)) fun w' h1 h2 => ?_
  refine hK w' ⟨_, h1, hmap.put _ _, fun z => ?_⟩ h2
  unfold upd
  by_cases hz : z = k
  · subst hz
    rw [if_pos rfl]
    exact atKey_put_same hmap (k := .int .i64 z) (show WideAt.IsKeyLit (.int .i64 z) from trivial) _ _
  · rw [if_neg hz]
    rw [atKey_put_other (by simpa using hz)]
    exact hat z

end Go.Proofs.Ytajmbcbochjfmaa

/-
  view.othersOf, view.May and the function in it.
-/
namespace Go.Proofs.Ytajmbcbochjfmaa
open Go.RowKit Go.Maps
set_option linter.unusedVariables false
set_option linter.unusedSimpArgs false

set_option maxHeartbeats 4000000 in
theorem othersOf_any (a : Option Addr) (n c : Nat) (L : List P7) (w : World) (h : PGood w a n c L) (hm : n ≤ 100000) (hf : FrOk L) :
    Calls Try.prog 41 #[.slice a n c] w fun e w' => e = .returned (.map (some w.heap.size)) ∧ MapI w' w.heap.size n (fun f => othF L f) ∧ Below w.heap.size w w' := by
  have H : Hid (PGood w a n c L) := h
  have HN : Hid (n = L.length) := h.len
  have HF : Hid (FrOk L) := hf
  have hmm := @run_makeMap Try.prog
  clear h hf
  go_enter Try.func41, Try.ntmps41
  go_wp2
  go_loopw [9] (fun i wr => ∃ k : Nat, k ≤ n ∧ i = .int .i64 k ∧ Hid (MapI wr w.heap.size k (fun f => othF (L.take k) f)) ∧ Hid (Below w.heap.size w wr)) (fun i _ => n - (intOf i).toNat)
  case atStart => exact ⟨0, by omega, rfl, (MapI.new w).congr (fun x => rfl), box_below _ _⟩
  case round =>
    obtain ⟨k, hk, rfl, HM, HB⟩ := hrel
    by_cases hlt : k < n
    · obtain ⟨b, off, rfl, HC⟩ := H.out.at hlt
      have i1 : (k : Int) < (n : Int) := by omega
      have C0 := (HC k hlt).below HB.out
      have W0 := HF.out.at (k := k) (by have := HN.out; omega)
      have HT := take_snoc7 L (k := k) (by have := HN.out; omega)
      have hle : othF (L.take k) (L.getD k p70).fr ≤ k := Nat.le_trans (othF_le _ _) (by simp; omega)
      obtain ⟨x, hx⟩ : ∃ x, L.getD k p70 = x := ⟨_, rfl⟩
      rw [hx] at C0 W0 HT hle
      obtain ⟨x0, x1, x2, x3, x4, x5, x6⟩ := x
      have HTK : Hid (L.take (k + 1) = L.take k ++ [(x0, x1, x2, x3, x4, x5, x6)]) := HT
      obtain ⟨p0, p1, p2, p3, p4, p5, p6⟩ := C0
      simp only [P7.id, P7.fr, P7.to, P7.am, P7.cl, P7.st, P7.ti] at p0 p1 p2 p3 p4 p5 p6 W0 hle
      obtain ⟨q, hq⟩ : ∃ q : Nat, othF (L.take k) x1 = q := ⟨_, rfl⟩
      rw [hq] at hle
      have HQ : Hid (othF (L.take k) x1 = q) := hq
      have HW : Hid (IntKind.i64.wrap x1 = x1) := W0
      have q1 : (q : Int) ≤ 100000 := by omega
      have HQ2 : Hid (IntKind.i64.wrap ((q : Int) + 1) = (q : Int) + 1) := i64_wf (by omega) (by omega)
      clear HC hx H HT W0 hq hle
      cases hr : (x4 == 3) with
      | true =>
        have hx4 : x4 = 3 := by simpa using hr
        have HM2 : Hid (MapI (wr.alloc (.cells #[.int .i64 x0, .int .i64 x1, .int .i64 x2, .int .i64 x3, .int .i64 x4, .int .i64 x5, .int .i64 x6] 31)) w.heap.size (k + 1) (fun f => othF (L.take (k + 1)) f)) :=
          ((HM.out.below (box_below _ _)).mono (Nat.le_succ k)).congr fun f => by
            rw [HTK.out, othF_snoc]
            simp [P7.cl, hx4]
        have HB2 : Hid (Below w.heap.size w (wr.alloc (.cells #[.int .i64 x0, .int .i64 x1, .int .i64 x2, .int .i64 x3, .int .i64 x4, .int .i64 x5, .int .i64 x6] 31))) := HB.out.alloc HB.out.size _
        clear hr
        subst hx4
        go_wp2
        go_roundw
        case rel => exact ⟨k + 1, by omega, by go_num, HM2, HB2⟩
        case measure => simp [intOf]; omega
      | false =>
        have hx4 : ¬ x4 = 3 := by simpa using hr
        have HX4 : Hid (¬ x4 = 3) := hx4
        clear hx4
        go_wp2_with (first
          | (at_lookup; refine wpList_look rfl _ _ rfl w.heap.size k _ rfl (HM.out.below (box_below _ _)) x1 rfl HW.out ?_; rw [HQ.out])
          | (at_mapUpdate; refine wpList_mapPut rfl _ _ _ rfl w.heap.size k _ rfl (HM.out.below (box_below _ _)) (by omega) x1 ((q : Int) + 1) rfl HW.out rfl HQ2.out ?_; intro w2 hm2 hg2)
          | go_in)
        have M2 : Hid (MapI w2 w.heap.size (k + 1) (fun f => othF (L.take (k + 1)) f)) := hm2.congr fun f => by
          rw [HTK.out, othF_snoc]
          unfold upd
          by_cases hf : f = x1
          · subst hf
            have := HX4.out
            simp [HQ.out, P7.fr, P7.cl, this]
          · rw [if_neg hf, if_neg (fun e => hf e.1.symm)]
            simp
        have B2 : Hid (Below w.heap.size w w2) := (HB.out.alloc HB.out.size _).grown hg2 (by rw [size_alloc]; have := HB.out.size; omega) (fun j hj => by cases hj; exact Nat.le_refl _)
        clear hm2 hg2
        go_wp2
        go_roundw
        case rel => exact ⟨k + 1, by omega, by go_num, M2, B2⟩
        case measure => simp [intOf]; omega
    · obtain rfl : k = n := by omega
      have HL : Hid (L.take k = L) := by show _ = _; rw [HN.out, List.take_length]
      clear H
      go_wp2
      go_ret
      have hm2 := HM.out
      rw [HL.out] at hm2
      exact ⟨rfl, hm2, HB.out⟩

end Go.Proofs.Ytajmbcbochjfmaa

/-
  view.May and the function in it.
-/
namespace Go.Proofs.Ytajmbcbochjfmaa
open Go.RowKit Go.Maps
set_option linter.unusedVariables false
set_option linter.unusedSimpArgs false

set_option maxHeartbeats 4000000 in
theorem viewMayF_any (p : P7) (g1 g2 bA bO nA nO q u : Nat) (fA fO : Int → Int) (w : World) (h1 : w.cell? ⟨g1, 0, none⟩ = some (.map (some bA))) (h2 : w.cell? ⟨g2, 0, none⟩ = some (.map (some bO))) (hA : MapI w bA nA fA) (hO : MapI w bO nO fO) (hne : bO ≠ bA)
    (hw : IntKind.i64.wrap p.fr = p.fr) (hn : nA ≤ 1000000) (hq : fA p.fr = q) (hq1 : q ≤ 100000) (hu : fO p.fr = u) :
    Calls Try.prog 43 #[p.val, .pointer (some ⟨g1, 0, none⟩), .pointer (some ⟨g2, 0, none⟩)] w fun e w' => e = .returned (.bool (decide (q = 0) || decide (u = 0))) ∧ MapI w' bA (nA + 1) (upd fA p.fr ((q : Int) + 1)) ∧ w.grownBy w' (some bA) := by
  obtain ⟨x0, x1, x2, x3, x4, x5, x6⟩ := p
  simp only [P7.fr] at hw hq hu
  have ne1 := hA.ne h1
  have ne2 := hA.ne h2
  have hAlt := hA.lt
  have hb := box_below w (.cells #[.int .i64 x0, .int .i64 x1, .int .i64 x2, .int .i64 x3, .int .i64 x4, .int .i64 x5, .int .i64 x6] 31)
  have HA1 : Hid (MapI (w.alloc (.cells #[.int .i64 x0, .int .i64 x1, .int .i64 x2, .int .i64 x3, .int .i64 x4, .int .i64 x5, .int .i64 x6] 31)) bA nA fA) := hA.below hb
  have HO1 : Hid (MapI (w.alloc (.cells #[.int .i64 x0, .int .i64 x1, .int .i64 x2, .int .i64 x3, .int .i64 x4, .int .i64 x5, .int .i64 x6] 31)) bO nO fO) := hO.below hb
  have c1 := (hb.cell (p := ⟨g1, 0, none⟩) (block_lt_of_cell h1)).trans h1
  have c2 := (hb.cell (p := ⟨g2, 0, none⟩) (block_lt_of_cell h2)).trans h2
  have X1 : Hid (At7 (w.alloc (.cells #[.int .i64 x0, .int .i64 x1, .int .i64 x2, .int .i64 x3, .int .i64 x4, .int .i64 x5, .int .i64 x6] 31)) w.heap.size 0 (x0, x1, x2, x3, x4, x5, x6)) := At7.new w (x0, x1, x2, x3, x4, x5, x6) _ _
  have HG1 : Hid (w.grownBy (w.alloc (.cells #[.int .i64 x0, .int .i64 x1, .int .i64 x2, .int .i64 x3, .int .i64 x4, .int .i64 x5, .int .i64 x6] 31)) (some bA)) := World.grownBy_alloc _ _ _
  have HW : Hid (IntKind.i64.wrap x1 = x1) := hw
  have HQ : Hid (fA x1 = q) := hq
  have HU : Hid (fO x1 = u) := hu
  have HC : Hid ((w.alloc (.cells #[.int .i64 x0, .int .i64 x1, .int .i64 x2, .int .i64 x3, .int .i64 x4, .int .i64 x5, .int .i64 x6] 31)).cell? ⟨g1, 0, none⟩ = some (.map (some bA)) ∧ (w.alloc (.cells #[.int .i64 x0, .int .i64 x1, .int .i64 x2, .int .i64 x3, .int .i64 x4, .int .i64 x5, .int .i64 x6] 31)).cell? ⟨g2, 0, none⟩ = some (.map (some bO)) ∧ g1 ≠ bA ∧ g2 ≠ bA ∧ bO ≠ bA ∧ w.heap.size ≠ bA) := ⟨c1, c2, ne1, ne2, hne, by omega⟩
  have q1 : (q : Int) ≤ 100000 := by omega
  have HQ2 : Hid (IntKind.i64.wrap ((q : Int) + 1) = (q : Int) + 1) := i64_wf (by omega) (by omega)
  have HN : Hid (nA ≤ 1000000) := hn
  clear h1 h2 hA hO hne hw hq hu ne1 ne2 hAlt hb hn
  go_enter Try.func43, Try.ntmps43
  go_wp2_with (first
    | (at_lookup; refine wpList_look rfl _ _ rfl bA nA _ rfl HA1.out x1 rfl HW.out ?_; rw [HQ.out])
    | (at_mapUpdate; refine wpList_mapPut rfl _ _ _ rfl bA nA _ rfl HA1.out HN.out x1 ((q : Int) + 1) rfl HW.out rfl HQ2.out ?_)
    | go_in)
  intro w2 hm2 hg2
  obtain ⟨c1', c2', n1, n2, n3, n4⟩ := HC.out
  have d1 := hg2.cell c1' (by simpa using n1)
  have d2 := hg2.cell c2' (by simpa using n2)
  obtain ⟨z0, z1, z2, z3, z4, z5, z6⟩ := X1.out.grown hg2 (by simpa using n4)
  have M2 : Hid (MapI w2 bA (nA + 1) (upd fA x1 ((q : Int) + 1))) := hm2
  have O2 : Hid (MapI w2 bO nO fO) := HO1.out.grown hg2 (by simpa using n3)
  have G2 : Hid (w.grownBy w2 (some bA)) := HG1.out.trans hg2
  have HV : Hid (upd fA x1 ((q : Int) + 1) x1 = (q : Int) + 1) := by show _ = _; unfold upd; rw [if_pos rfl]
  simp only [P7.id, P7.fr, P7.to, P7.am, P7.cl, P7.st, P7.ti] at z0 z1 z2 z3 z4 z5 z6
  clear c1 c2 c1' c2' n1 n2 n3 n4 hm2 hg2 X1 HA1 HO1 HG1 HC
  have l1 := M2.out.look HW.out HV.out
  have l2 := O2.out.look HW.out HU.out
  by_cases hz : q = 0
  · subst hz
    go_wp2_with (at_lookup; refine wpList_look rfl _ _ rfl bA (nA + 1) _ rfl M2.out x1 rfl HW.out ?_; rw [HV.out])
    go_ret
    exact ⟨rfl, M2.out, G2.out⟩
  · have hz2 : (((q : Int) + 1) == 1) = false := by rw [beq_eq_false_iff_ne]; omega
    have HR : Hid (((u : Int) == 0) = (decide (q = 0) || decide (u = 0))) := by
      show _ = _
      rw [decide_eq_false hz, Bool.false_or, Bool.eq_iff_iff]
      simp
    clear hz
    go_wp2
    go_ret
    exact ⟨rt_bool HR.out, M2.out, G2.out⟩

/-- What stands while such goes on. -/
def MayI (g1 g2 bA bO nr : Nat) (R A : List P7) (u : World) : Prop :=
  u.cell? ⟨g1, 0, none⟩ = some (.map (some bA)) ∧ u.cell? ⟨g2, 0, none⟩ = some (.map (some bO)) ∧ MapI u bA A.length (fun f => cntF A f) ∧ MapI u bO nr (fun f => othF R f)

theorem mayI_grown {g1 g2 bA bO nr : Nat} {R A : List P7} {u u' : World} {r : Option Nat} {B : Nat} (h : MayI g1 g2 bA bO nr R A u) (hB : g1 < B ∧ g2 < B ∧ bA < B ∧ bO < B) (hr : ∀ x, r = some x → B ≤ x) (hg : u.grownBy u' r) : MayI g1 g2 bA bO nr R A u' := by
  obtain ⟨h1, h2, h3, h4⟩ := h
  obtain ⟨b1, b2, b3, b4⟩ := hB
  exact ⟨hg.cell h1 (fun e => by have := hr _ e.symm; simp at this; omega), hg.cell h2 (fun e => by have := hr _ e.symm; simp at this; omega), h3.grown hg (fun e => by have := hr _ e.symm; omega), h4.grown hg (fun e => by have := hr _ e.symm; omega)⟩

theorem mayI_step {g1 g2 bA bO nr k : Nat} {R : List P7} {u : World} (hk : k < R.length) (hm : R.length ≤ 100000) (hf : FrOk R) (hne : bO ≠ bA) (h : MayI g1 g2 bA bO nr R (R.take k) u) :
    Calls Try.prog 43 #[(R.getD k p70).val, .pointer (some ⟨g1, 0, none⟩), .pointer (some ⟨g2, 0, none⟩)] u fun e u' => e = .returned (.bool (mayK R (R.take k) (R.getD k p70))) ∧ MayI g1 g2 bA bO nr R (R.take (k + 1)) u' ∧ u.grownBy u' (some bA) := by
  obtain ⟨h1, h2, h3, h4⟩ := h
  have hl : (R.take k).length = k := by simp; omega
  rw [hl] at h3
  have hc := cntF_le (R.take k) (R.getD k p70).fr
  refine (viewMayF_any (R.getD k p70) g1 g2 bA bO k nr (cntF (R.take k) (R.getD k p70).fr) (othF R (R.getD k p70).fr) _ _ u h1 h2 h3 h4 hne (hf.at hk) (by omega) rfl (by omega) rfl).mono ?_
  rintro e u' ⟨rfl, m, hg⟩
  refine ⟨rfl, ⟨hg.cell h1 (by simpa using h3.ne h1), hg.cell h2 (by simpa using h3.ne h2), ?_, h4.grown hg (by simpa using hne)⟩, hg⟩
  rw [show (R.take (k + 1)).length = k + 1 by simp; omega]
  refine m.congr fun f => ?_
  rw [take_snoc7 R hk, cntF_snoc]
  unfold upd
  by_cases hf : f = (R.getD k p70).fr
  · rw [if_pos hf, if_pos hf.symm, hf]; simp
  · rw [if_neg hf, if_neg (fun e => hf e.symm)]; simp

set_option maxHeartbeats 4000000 in
theorem viewMay_made (a : Option Addr) (n c : Nat) (L : List P7) (t : Int) (w : World) (h : PGood w a n c L) (hm : n ≤ 100000) (hf : FrOk L) :
    Calls Try.prog 21 #[.slice a n c, .int .i64 t] w (PMade w (vMay L t)) := by
  have V := viewReady_any a n c L t w h hm
  have hlen : (vReady L t).length ≤ n := by have := sel_len (readyK t) L; have := h.len; show (sel (readyK t) L).length ≤ n; omega
  have hfr : FrOk (vReady L t) := hf.sel _
  unfold PEnd at V
  unfold vMay
  obtain ⟨R, hR⟩ : ∃ R, vReady L t = R := ⟨_, rfl⟩
  rw [hR] at V hlen hfr ⊢
  obtain ⟨nr, hnr⟩ : ∃ nr, R.length = nr := ⟨_, rfl⟩
  rw [hnr] at V hlen
  have T := fun u a1 c1 (g : PGood u a1 nr c1 R) => othersOf_any a1 nr c1 R u g (by omega) hfr
  have HF : Hid (FrOk R) := hfr
  have HN : Hid (R.length = nr) := hnr
  have hnm : nr ≤ 100000 := by omega
  have hmm := @run_makeMap Try.prog
  clear h hm hf hfr hR hnr hlen
  go_enter Try.func21, Try.ntmps21
  go_wp2_with fail
  go_at_call 40
  refine V.mono ?_
  rintro e w1 ⟨a1, c1, rfl, g1, n1, hb⟩
  have B1 : Hid (Below w.heap.size w w1) := hb
  have G1 : Hid (PGood w1 a1 nr c1 R) := g1
  have T1 := T w1 a1 c1 g1
  clear V T n1 g1 hb
  go_wp2_with fail
  go_at_call 41
  refine T1.mono ?_
  rintro e w2 ⟨rfl, m2, hb⟩
  obtain ⟨w5, hw5⟩ : ∃ w5, w5 = ((w2.alloc (.cells #[.map (some w1.heap.size)] 75)).alloc (.map #[] 0)).alloc (.cells #[.map (some (w2.heap.size + 1))] 75) := ⟨_, rfl⟩
  have hlt := m2.lt
  have B5' : Below w2.heap.size w2 w5 := by rw [hw5]; exact ((box_below _ _).alloc (box_below _ _).size _).alloc ((box_below _ _).alloc (box_below _ _).size _).size _
  have hs5 : w5.heap.size = w2.heap.size + 3 := by rw [hw5]; simp
  have I5 : MayI (w2.heap.size + 2) w2.heap.size (w2.heap.size + 1) w1.heap.size nr R [] w5 := by
    rw [hw5]
    refine ⟨?_, ?_, ?_, ?_⟩
    · have := cell_new ((w2.alloc (.cells #[.map (some w1.heap.size)] 75)).alloc (.map #[] 0)) (#[.map (some (w2.heap.size + 1))]) 75 (0, 0) 0
      rw [size_alloc, size_alloc] at this
      rw [this]
      rfl
    · have := cell_new w2 (#[.map (some w1.heap.size)]) 75 (0, 0) 0
      have b := ((Below.refl (w2.heap.size + 1) (w2.alloc (.cells #[.map (some w1.heap.size)] 75))).alloc (by simp) (.map #[] 0)).alloc (by simp) (.cells #[.map (some (w2.heap.size + 1))] 75)
      rw [b.cell (p := ⟨w2.heap.size, 0, none⟩) (by simp), this]
      rfl
    · have := (MapI.new (w2.alloc (.cells #[.map (some w1.heap.size)] 75))).below (box_below _ (.cells #[.map (some (w2.heap.size + 1))] 75))
      rw [size_alloc] at this
      exact this.congr fun x => by simp [cntF_nil]
    · have := m2.below B5'
      rw [hw5] at this
      exact this
  have S := suchMay (w2.heap.size + 2) w2.heap.size (some (w2.heap.size + 1)) (mayK R) (MayI (w2.heap.size + 2) w2.heap.size (w2.heap.size + 1) w1.heap.size nr R) a1 nr c1 R w5 ((G1.out.below hb).below B5') hnm
    (fun x hx => by cases hx; omega)
    (fun h0 x hx => by
      obtain ⟨bb, off, hab, hcc⟩ := G1.out.at h0
      rw [hx] at hab
      cases hab
      have hbb : bb < w1.heap.size := block_lt_of_cell (hcc 0 h0).1
      have := hb.size
      simp
      omega)
    (fun A u u' r hr hi hg => mayI_grown hi ⟨by omega, by omega, by omega, by omega⟩ hr hg) I5
    (fun k u hk _ hi => mayI_step (by have := HN.out; omega) (by have := HN.out; omega) HF.out (by omega) hi)
  have B5 : Hid (Below w.heap.size w w5) := B1.out.trans ((hb.trans (B5'.mono hb.size)).mono B1.out.size)
  have HW : Hid (w5 = _) := hw5
  have hz : w1.heap.size ≤ w2.heap.size := hb.size
  have HZ : Hid (w.heap.size ≤ w2.heap.size ∧ w5.heap.size = w2.heap.size + 3) := ⟨by have := B1.out.size; omega, hs5⟩
  rw [hw5] at S
  clear m2 hb hlt B5' hs5 I5 G1 hw5 T1 HF hz B1
  go_wp2_with fail
  go_at_call 42
  refine S.mono ?_
  rintro e w6 ⟨⟨v6, rfl, o6, hg⟩, -⟩
  rw [← HW.out] at o6 hg
  have hzz := HZ.out
  have R6 : Hid (PMade w (sel (mayK R) R) (.returned v6) w6) := ⟨v6, rfl, own_base o6 (by omega), B5.out.trans ⟨hg.os, hg.tape, hg.output, hg.size, fun i hi => hg.block i (by omega) (by simp; omega)⟩⟩
  clear o6 hg S hzz HZ HW B5
  go_wp2
  go_ret
  exact R6.out
theorem viewMay_any (a : Option Addr) (n c : Nat) (L : List P7) (t : Int) (w : World) (h : PGood w a n c L) (hm : n ≤ 100000) (hf : FrOk L) :
    Calls Try.prog 21 #[.slice a n c, .int .i64 t] w (PEnd w (vMay L t)) := (viewMay_made a n c L t w h hm hf).mono fun _ _ h => h.end

end Go.Proofs.Ytajmbcbochjfmaa

/-
  view.Heads and the function in it.
-/
namespace Go.Proofs.Ytajmbcbochjfmaa
open Go.RowKit
set_option linter.unusedVariables false
set_option linter.unusedSimpArgs false

theorem infoInt : (Try.prog.info? 3).map (fun i => (i.zero, i.size, i.bytes)) = some (some (.int .i64 0), 1, 8) := by kernel_rfl
/-- Block b holds these ints. -/
def BlkN (w : World) (b : Nat) (zs : List Int) : Prop := w.heap[b]? = some (.cells (zs.map (Value.int .i64)).toArray 3 (0, 0))
theorem BlkN.lt {w : World} {b : Nat} {zs : List Int} (h : BlkN w b zs) : b < w.heap.size := lt_of_block h
theorem BlkN.grown {w w' : World} {b : Nat} {zs : List Int} {r : Option Nat} (h : BlkN w b zs) (hg : w.grownBy w' r) (hne : some b ≠ r) : BlkN w' b zs := (hg.block b h.lt hne).trans h
theorem BlkN.cell {w : World} {b : Nat} {zs : List Int} (h : BlkN w b zs) {k : Nat} (hk : k < zs.length) : w.cell? ⟨b, k, none⟩ = some (.int .i64 (zs.getD k 0)) := by
  rw [cell_of_row w b k _ _ _ h]
  simp [hk]
theorem BlkN.free {w : World} {b : Nat} {zs : List Int} (h : BlkN w b zs) (k : Nat) : w.frozen? ⟨b, k, none⟩ = false := frozen_of_row w b k _ _ h
theorem BlkN.set {w : World} {b : Nat} {zs : List Int} (h : BlkN w b zs) (k : Nat) (x : Int) : BlkN (w.setCell ⟨b, k, none⟩ (.int .i64 x)) b (zs.set k x) := by
  unfold BlkN
  rw [heap_setCell_same w b k _ _ _ h]
  rw [show ((zs.map (Value.int .i64)).toArray.setIfInBounds k (.int .i64 x)) = ((zs.set k x).map (Value.int .i64)).toArray by apply Array.toList_inj.1; simp [List.map_set]]
theorem grown_set (w : World) (b k : Nat) (v : Value) : w.grownBy (w.setCell ⟨b, k, none⟩ v) (some b) := ⟨rfl, rfl, rfl, by simp, fun j _ hj => heap_setCell_other w ⟨b, k, none⟩ j v (fun e => hj (by simp [e]))⟩
theorem makeInts (w : World) (n : Nat) (h : n ≤ 1000000) :
    ∃ w', (Instr.makeSlice 69 (.int .i64 n) (.int .i64 n)).run Try.prog w = .ok (.slice (some ⟨w.heap.size, 0, none⟩) n n) w' ∧ BlkN w' w.heap.size (List.replicate n 0) ∧ Below w.heap.size w w' := by
  obtain ⟨i, hi, hz0, hz1, hz2⟩ := info_parts infoInt
  have hr := run_make (P := Try.prog) w 69 3 i (.int .i64 0) Try.underlying69 hi hz0 .i64 .i64 n n (by omega) (Int.le_refl _) (by rw [hz2]; omega) (by omega)
  simp only [Int.toNat_natCast, hz1, Nat.mul_one] at hr
  refine ⟨_, hr, ?_, (Below.refl _ _).alloc (Nat.le_refl _) _⟩
  have e : madeCells (Value.int .i64 0).cells n = ((List.replicate n 0).map (Value.int .i64)).toArray := by
    apply Array.toList_inj.1
    show (madeCells #[Value.int .i64 0] n).toList = _
    rw [toList_madeCells_one]
    simp
  unfold BlkN
  rw [e]
  exact heap_alloc_new w _
theorem Sl.grown {w w' : World} {a : Option Addr} {n : Nat} {zs : List Int} {r : Option Nat} (h : Sl .i64 w a n zs) (hg : w.grownBy w' r) (hne : ∀ x, a = some x → 0 < n → some x.block ≠ r) : Sl .i64 w' a n zs := by
  refine ⟨h.1, h.2.1, ?_⟩
  rcases h.2.2 with h0 | ⟨b, off, ha, hc⟩
  · exact .inl h0
  · by_cases hn : zs = []
    · exact .inl hn
    · refine .inr ⟨b, off, ha, fun i hi => hg.cell (hc i hi) (by have := hne _ ha (by rw [h.1]; omega); exact this)⟩
theorem Sl.cells_at {w : World} {a : Option Addr} {n : Nat} {zs : List Int} (h : Sl .i64 w a n zs) {k : Nat} (hk : k < n) : ∃ b off, a = some ⟨b, off, none⟩ ∧ ∀ i, i < n → w.cell? ⟨b, off + i, none⟩ = some (.int .i64 (zs.getD i 0)) := by
  have hl := h.1
  rcases h.2.2 with h0 | ⟨b, off, ha, hc⟩
  · subst h0; simp at hl; omega
  · exact ⟨b, off, ha, fun i hi => hc i (by omega)⟩



end Go.Proofs.Ytajmbcbochjfmaa

/-
  giroref14.Heads.
-/
namespace Go.Proofs.Ytajmbcbochjfmaa
open Go.RowKit
set_option linter.unusedVariables false
set_option linter.unusedSimpArgs false


end Go.Proofs.Ytajmbcbochjfmaa

/-
  giroref14.May.
-/
namespace Go.Proofs.Ytajmbcbochjfmaa
open Go.RowKit
set_option linter.unusedVariables false
set_option linter.unusedSimpArgs false

theorem vOf_split {R : List P7} {k : Nat} (hk : k < R.length) : vOf R (R.getD k p70).fr = vOf (R.take k) (R.getD k p70).fr ++ R.getD k p70 :: vOf (R.drop (k + 1)) (R.getD k p70).fr := by
  have e : R = R.take k ++ R.getD k p70 :: R.drop (k + 1) := by
    rw [getD_get hk, List.getElem_cons_drop, List.take_append_drop]
  rw [vOf_eq, vOf_eq, vOf_eq]
  obtain ⟨x, hx⟩ : ∃ x, R.getD k p70 = x := ⟨_, rfl⟩
  rw [hx] at e ⊢
  obtain ⟨A, hA⟩ : ∃ A, R.take k = A := ⟨_, rfl⟩
  obtain ⟨B, hB⟩ : ∃ B, R.drop (k + 1) = B := ⟨_, rfl⟩
  rw [hA, hB] at e ⊢
  rw [e, List.filter_append, List.filter_cons]
  simp
theorem plain_iff (R : List P7) (f : Int) : ((vOf R f).all fun p => p.cl == 3) = decide (othF R f = 0) := by
  rw [Bool.eq_iff_iff, decide_eq_true_eq, vOf_eq, List.all_eq_true]
  unfold othF
  rw [List.length_eq_zero_iff, List.filter_eq_nil_iff]
  constructor
  · intro h p hp hc
    simp at hc
    have := h p (List.mem_filter.2 ⟨hp, by simpa using hc.1⟩)
    simp at this
    exact hc.2 this
  · intro h p hp
    obtain ⟨hp, hc⟩ := List.mem_filter.1 hp
    have := h p hp
    simp at this hc
    simpa using this hc
theorem may_or {R : List P7} {k : Nat} (hq : R.Pairwise QR) (hk : k < R.length) :
    ∃ y m, vOf R (R.getD k p70).fr = y :: m ∧ (eqB7 y (R.getD k p70) || ((y :: m).all fun p => p.cl == 3)) = mayK R (R.take k) (R.getD k p70) := by
  have hs := vOf_split hk
  have hp := plain_iff R (R.getD k p70).fr
  unfold mayK cntF
  cases hv : vOf (R.take k) (R.getD k p70).fr with
  | nil =>
    rw [hv] at hs
    refine ⟨_, _, hs, ?_⟩
    rw [eqB7_self]
    simp
  | cons y m =>
    rw [hv] at hs
    refine ⟨y, _, hs, ?_⟩
    have hy : y ∈ R.take k := by
      have : y ∈ vOf (R.take k) (R.getD k p70).fr := by rw [hv]; simp
      exact selA_mem this
    obtain ⟨j, hj, rfl⟩ := in_getD hy
    have hj2 : j < k := by simp at hj; omega
    rw [getD_take hj2]
    rw [eqB7_id (pw_at hq hj2 hk).2]
    rw [hs] at hp
    rw [← getD_take (l := R) hj2]
    rw [Bool.false_or]
    refine Eq.trans hp ?_
    simp
theorem que_ready {L : List P7} (h : L.Pairwise QR) (t : Int) : (vReady L t).Pairwise QR := by
  rw [vReady_eq]
  exact h.sublist List.filter_sublist

set_option maxHeartbeats 4000000 in
set_option maxRecDepth 100000 in
theorem refVMay_any (a : Option Addr) (n c : Nat) (L : List P7) (t : Int) (w : World) (h : PGood w a n c L) (hm : n ≤ 100000) (hq : L.Pairwise QR) :
    Calls Try.prog 23 #[.slice a n c, .int .i64 t] w (PEnd w (vMay L t)) := by
  have V := refVReady_any a n c L t w h hm
  have hlen : (vReady L t).length ≤ n := by have := sel_len (readyK t) L; have := h.len; show (sel (readyK t) L).length ≤ n; omega
  have hqr := que_ready hq t
  unfold PEnd at V
  unfold vMay
  obtain ⟨R, hR⟩ : ∃ R, vReady L t = R := ⟨_, rfl⟩
  rw [hR] at V hlen hqr ⊢
  obtain ⟨nr, hnr⟩ : ∃ nr, R.length = nr := ⟨_, rfl⟩
  rw [hnr] at V hlen
  have HQR : Hid (R.Pairwise QR) := hqr
  have HN : Hid (nr = R.length) := hnr.symm
  have hnm : nr ≤ 100000 := by omega
  clear h hm hq hqr hR hnr hlen
  go_enter Try.func23, Try.ntmps23
  go_wp2_with fail
  go_at_call 46
  refine V.mono ?_
  rintro e w1 ⟨a1, c1, rfl, g1, n1, hb⟩
  have B1 : Hid (Below w.heap.size w w1) := hb
  have G1 : Hid (PGood w1 a1 nr c1 R) := g1
  clear V n1 g1 hb
  go_wp2
  go_loopw [6, 7] (fun tv i wr => ∃ (k z : Nat) (v : Value), k ≤ nr ∧ i = .int .i64 k ∧ v = tv ∧ z ≤ k ∧ Hid (wr.ownsRow w1.heap.size 31 7 v z (payL (sel (mayK R) (R.take k)))) ∧ Hid (Below w1.heap.size w1 wr)) (fun _ i _ => nr - (intOf i).toNat)
  case atStart => exact ⟨0, 0, _, by omega, rfl, rfl, by omega, World.ownsRow_nil _ _ _ _, Below.refl _ _⟩
  case round =>
    obtain ⟨k, z, v, hk, rfl, rfl, hz, HO, HB⟩ := hrel
    obtain ⟨wo, rfl⟩ : ∃ wo, wo = wr := ⟨wr, rfl⟩
    by_cases hlt : k < nr
    · obtain ⟨b, off, rfl, HC⟩ := G1.out.at hlt
      have i1 : (k : Int) < (nr : Int) := by omega
      obtain ⟨y, m, hv, hor⟩ := may_or HQR.out (k := k) (by have := HN.out; omega)
      have O := refVOf_any (some ⟨b, off, none⟩) nr c1 R (R.getD k p70).fr wo (G1.out.below HB.out) hnm
      obtain ⟨x, hx⟩ : ∃ x, R.getD k p70 = x := ⟨_, rfl⟩
      have C0 := HC k hlt
      rw [hx] at C0 hv hor O
      unfold PEnd at O
      rw [hv] at O
      have hy1 : m.length + 1 ≤ nr := by have := sel_len (ofK x.fr) R; have e : (sel (ofK x.fr) R) = y :: m := hv; rw [e] at this; simp at this; have := HN.out; omega
      obtain ⟨Y, hY⟩ : ∃ Y, Y = y :: m := ⟨_, rfl⟩
      rw [← hY] at O hor
      obtain ⟨mc, hmc⟩ : ∃ mc, Y.length = mc := ⟨_, rfl⟩
      rw [hmc] at O
      have hY0 : Y.getD 0 p70 = y := by rw [hY]; rfl
      have hmc1 : 1 ≤ mc := by rw [← hmc, hY]; simp
      have hmc2 : mc ≤ 100000 := by rw [← hmc, hY]; simp; omega
      have HMC : Hid (Y.length = mc) := hmc
      have HY0 : Hid (Y.getD 0 p70 = y) := hY0
      obtain ⟨x0, x1, x2, x3, x4, x5, x6⟩ := x
      obtain ⟨y0, y1, y2, y3, y4, y5, y6⟩ := y
      have C : Hid (At7 w1 b (off + k * 7) (x0, x1, x2, x3, x4, x5, x6)) := C0
      have HX : Hid (R.getD k p70 = (x0, x1, x2, x3, x4, x5, x6)) := hx
      have HOR : Hid ((eqB7 (y0, y1, y2, y3, y4, y5, y6) (x0, x1, x2, x3, x4, x5, x6) || Y.all fun p => p.cl == 3) = mayK R (R.take k) (x0, x1, x2, x3, x4, x5, x6)) := hor
      obtain ⟨p0, p1, p2, p3, p4, p5, p6⟩ := C.out.below HB.out
      simp only [P7.id, P7.fr, P7.to, P7.am, P7.cl, P7.st, P7.ti] at p0 p1 p2 p3 p4 p5 p6
      clear HC C0 hx hor hv hY hmc hY0 hy1 G1 HQR
      go_wp2_with fail
      go_at_call 47
      refine O.mono ?_
      rintro e w3 ⟨a3, c3, rfl, g3, n3, hb⟩
      obtain ⟨mb, mo, rfl, HC3⟩ := g3.at (i := 0) (by omega)
      have HD : Hid (∀ j, j < mc → At7 w3 mb (mo + j * 7) (Y.getD j p70)) := HC3
      have B3 : Hid (Below w1.heap.size w1 w3) := HB.out.trans (hb.mono HB.out.size)
      have O3 : Hid (w3.ownsRow w1.heap.size 31 7 v z (payL (sel (mayK R) (R.take k)))) := own_below HO.out hb
      clear p0 p1 p2 p3 p4 p5 p6 g3 n3 hb HC3 HO HB O
      go_wp2
      go_loop [9, 10] (fun pv iv => ∃ (j : Nat) (P : Bool), j ≤ mc ∧ iv = .int .i64 j ∧ pv = .bool P ∧ Hid (P = (Y.take j).all fun p => p.cl == 3)) (fun _ iv => mc - (intOf iv).toNat)
      case atStart => exact ⟨0, true, by omega, rfl, rfl, rfl⟩
      case round =>
        obtain ⟨j, P, hj, rfl, rfl, HP⟩ := hrel
        by_cases hjlt : j < mc
        · have j1 : (j : Int) < (mc : Int) := by omega
          have D := HD.out j hjlt
          have HT : Hid (((Y.take (j + 1)).all fun p => p.cl == 3) = (((Y.take j).all fun p => p.cl == 3) && (Y.getD j p70).cl == 3)) := by
            show _ = _
            rw [take_snoc7 Y (by have := HMC.out; omega), List.all_append]
            simp
          obtain ⟨s, hs⟩ : ∃ s, Y.getD j p70 = s := ⟨_, rfl⟩
          rw [hs] at D HT
          obtain ⟨s0, s1, s2, s3, s4, s5, s6⟩ := s
          obtain ⟨p0, p1, p2, p3, p4, p5, p6⟩ := D
          simp only [P7.id, P7.fr, P7.to, P7.am, P7.cl, P7.st, P7.ti] at p0 p1 p2 p3 p4 p5 p6 HT
          clear hs HD
          cases P with
          | false =>
            have HP2 : Hid (false = (Y.take (j + 1)).all fun p => p.cl == 3) := by
              show _ = _
              rw [HT.out, ← HP.out]; rfl
            go_wp2
            go_round
            case rel => exact ⟨j + 1, false, by omega, by go_num, rfl, HP2⟩
            case measure => simp [intOf]; omega
          | true =>
            have HP2 : Hid ((s4 == 3) = (Y.take (j + 1)).all fun p => p.cl == 3) := by
              show _ = _
              rw [HT.out, ← HP.out]; rfl
            go_wp2
            go_round
            case rel => exact ⟨j + 1, (s4 == 3), by omega, by go_num, rfl, HP2⟩
            case measure => simp [intOf]; omega
        · obtain rfl : j = mc := by omega
          have HPE : Hid (P = Y.all fun p => p.cl == 3) := by
            show P = _
            rw [HP.out, ← HMC.out, List.take_length]
          have D := HD.out 0 hmc1
          rw [HY0.out, Nat.zero_mul, Nat.add_zero] at D
          have D0 : Hid (At7 w3 mb mo (y0, y1, y2, y3, y4, y5, y6)) := D
          have m1 : ¬ j = 0 := by omega
          obtain ⟨E, hE⟩ : ∃ E, eqB7 (y0, y1, y2, y3, y4, y5, y6) (x0, x1, x2, x3, x4, x5, x6) = E := ⟨_, rfl⟩
          have HE7 : Hid (eqB7 (y0, y1, y2, y3, y4, y5, y6) (x0, x1, x2, x3, x4, x5, x6) = E) := hE
          have hEP : (E || P) = mayK R (R.take k) (x0, x1, x2, x3, x4, x5, x6) := by rw [← hE, HPE.out]; exact HOR.out
          clear D HD hE HP HPE HOR HY0
          cases hK : mayK R (R.take k) (x0, x1, x2, x3, x4, x5, x6) with
          | false =>
            rw [hK] at hEP
            have HEP : Hid ((E || P) = false) := hEP
            have HS : Hid (sel (mayK R) (R.take k) = sel (mayK R) (R.take (k + 1))) := sel_no (by have := HN.out; omega) HX.out hK
            clear hEP hK
            go_wp2_with fail
            refine region_owes (L := [Fact.is (.slice (some ⟨mb, mo, none⟩) j c3),
              Fact.is (.pointer (some ⟨mb, mo, none⟩)),
              Fact.is (.agg #[.int .i64 y0, .int .i64 y1, .int .i64 y2, .int .i64 y3, .int .i64 y4, .int .i64 y5, .int .i64 y6]),
              Fact.is (.slice (some ⟨b, off, none⟩) nr c1),
              Fact.is (.int .i64 k),
              Fact.is (.pointer (some ⟨b, off + k * 7, none⟩)),
              Fact.is (.agg #[.int .i64 x0, .int .i64 x1, .int .i64 x2, .int .i64 x3, .int .i64 x4, .int .i64 x5, .int .i64 x6]),
              Fact.is (.bool E),
              Fact.is (.bool E),
              Fact.when (E == false) (.bool P),
              Fact.is (.bool false)])
              (T := [42, 43, 44, 45, 46, 47, 48, 49, 50, 51, 52]) (by kernel_rfl) (by kernel_rfl) rfl ?owes ?_
            case owes =>
              refine .cons (owes_move (.tmp 8) (.inl rfl) fun q u lh => ⟨wants_free rfl, lh.old 8 rfl⟩) ?_
              refine .cons (owes_value fun q u lh => ⟨wants_free rfl, .pointer (some ⟨mb, mo, none⟩), by have e42 : q.tmps.getD 42 undef = .slice (some ⟨mb, mo, none⟩) j c3 := lh.dep 0 rfl; simp [execOp, Act.eval, e42, m1, go_sem], rfl⟩) ?_
              refine .cons (owes_value fun q u lh => ⟨wants_free rfl, .agg #[.int .i64 y0, .int .i64 y1, .int .i64 y2, .int .i64 y3, .int .i64 y4, .int .i64 y5, .int .i64 y6], by have e43 : q.tmps.getD 43 undef = .pointer (some ⟨mb, mo, none⟩) := lh.dep 1 rfl; obtain ⟨z0, z1, z2, z3, z4, z5, z6⟩ := D0.out.below lh.below; simp [execOp, Act.eval, e43, z0, z1, z2, z3, z4, z5, z6, go_sem], rfl⟩) ?_
              refine .cons (owes_move (.tmp 5) (.inl rfl) fun q u lh => ⟨wants_free rfl, lh.old 5 rfl⟩) ?_
              refine .cons (owes_move (.tmp 7) (.inl rfl) fun q u lh => ⟨wants_free rfl, lh.old 7 rfl⟩) ?_
              refine .cons (owes_value fun q u lh => ⟨wants_free rfl, .pointer (some ⟨b, off + k * 7, none⟩), by have e45 : q.tmps.getD 45 undef = .slice (some ⟨b, off, none⟩) nr c1 := lh.dep 3 rfl; have e46 : q.tmps.getD 46 undef = .int .i64 k := lh.dep 4 rfl; simp [execOp, Act.eval, e45, e46, i1, go_sem], rfl⟩) ?_
              refine .cons (owes_value fun q u lh => ⟨wants_free rfl, .agg #[.int .i64 x0, .int .i64 x1, .int .i64 x2, .int .i64 x3, .int .i64 x4, .int .i64 x5, .int .i64 x6], by have e47 : q.tmps.getD 47 undef = .pointer (some ⟨b, off + k * 7, none⟩) := lh.dep 5 rfl; obtain ⟨z0, z1, z2, z3, z4, z5, z6⟩ := (C.out.below B3.out).below lh.below; simp [execOp, Act.eval, e47, z0, z1, z2, z3, z4, z5, z6, go_sem], rfl⟩) ?_
              refine .cons (owes_eqlB 31 31 (.tmp 44) (.tmp 48) E rfl rfl fun q u lh => ⟨wants_free rfl, _, _, lh.dep 2 rfl, lh.dep 6 rfl, by rw [← HE7.out]; exact pay_eql y0 y1 y2 y3 y4 y5 y6 x0 x1 x2 x3 x4 x5 x6⟩) ?_
              refine .cons (owes_move (.tmp 49) (.inl rfl) fun q u lh => ⟨wants_free rfl, lh.dep 7 rfl⟩) ?_
              refine .cons (owes_when 8 false E (.bool P) rfl rfl rfl rfl fun hg q u lh => by have e9 : q.tmps.getD 9 undef = .bool P := lh.old 9 rfl; simp [execOp, Act.eval, e9, go_sem]) ?_
              refine .cons (owes_or 50 51 8 9 E P rfl rfl rfl rfl rfl rfl rfl rfl (by rw [HEP.out]; rfl)) ?_
              exact .nil _
            intro q u hb hsz hdf hold hfact
            obtain ⟨v51, e51⟩ : ∃ v, q.tmps.getD 51 undef = v := ⟨_, rfl⟩
            have B4 : Hid (Below w1.heap.size w1 u) := B3.out.trans (hb.mono B3.out.size)
            have O4 : Hid (u.ownsRow w1.heap.size 31 7 v z (payL (sel (mayK R) (R.take k)))) := own_below O3.out hb
            obtain ⟨z0, z1, z2, z3, z4, z5, z6⟩ := C.out.below B4.out
            simp only [P7.id, P7.fr, P7.to, P7.am, P7.cl, P7.st, P7.ti] at z0 z1 z2 z3 z4 z5 z6
            have O5 : Hid (u.ownsRow w1.heap.size 31 7 v z (payL (sel (mayK R) (R.take (k + 1))))) := by rw [← HS.out]; exact O4.out
            obtain rfl := frame_puts hsz hdf [42, 43, 44, 45, 46, 47, 48, 49, 50, 51, 52] hold [(42, Value.slice (some ⟨mb, mo, none⟩) j c3), (43, Value.pointer (some ⟨mb, mo, none⟩)), (44, Value.agg #[.int .i64 y0, .int .i64 y1, .int .i64 y2, .int .i64 y3, .int .i64 y4, .int .i64 y5, .int .i64 y6]), (45, Value.slice (some ⟨b, off, none⟩) nr c1), (46, Value.int .i64 k), (47, Value.pointer (some ⟨b, off + k * 7, none⟩)), (48, Value.agg #[.int .i64 x0, .int .i64 x1, .int .i64 x2, .int .i64 x3, .int .i64 x4, .int .i64 x5, .int .i64 x6]), (49, Value.bool E), (50, Value.bool E), (51, v51), (52, Value.bool false)] ⟨hfact 0 (by decide), hfact 1 (by decide), hfact 2 (by decide), hfact 3 (by decide), hfact 4 (by decide), hfact 5 (by decide), hfact 6 (by decide), hfact 7 (by decide), hfact 8 (by decide), e51, hfact 10 (by decide), trivial⟩ rfl
            clear hsz hdf hold hfact
            clear hb O3 B3 D0 HE7
            simp only [puts, Act.put, List.setIfInBounds_toArray, List.set_cons_zero, List.set_cons_succ]
            go_wp2
            go_roundw
            case rel => exact ⟨k + 1, z, v, by omega, by go_num, rfl, by omega, O5, B4⟩
            case measure => simp [intOf]; omega
          | true =>
            rw [hK] at hEP
            have HEP : Hid ((E || P) = true) := hEP
            have HS : Hid (sel (mayK R) (R.take k) ++ [(x0, x1, x2, x3, x4, x5, x6)] = sel (mayK R) (R.take (k + 1))) := sel_yes (by have := HN.out; omega) HX.out hK
            clear hEP hK
            go_wp2_with fail
            refine region_owes (L := [Fact.is (.slice (some ⟨mb, mo, none⟩) j c3),
              Fact.is (.pointer (some ⟨mb, mo, none⟩)),
              Fact.is (.agg #[.int .i64 y0, .int .i64 y1, .int .i64 y2, .int .i64 y3, .int .i64 y4, .int .i64 y5, .int .i64 y6]),
              Fact.is (.slice (some ⟨b, off, none⟩) nr c1),
              Fact.is (.int .i64 k),
              Fact.is (.pointer (some ⟨b, off + k * 7, none⟩)),
              Fact.is (.agg #[.int .i64 x0, .int .i64 x1, .int .i64 x2, .int .i64 x3, .int .i64 x4, .int .i64 x5, .int .i64 x6]),
              Fact.is (.bool E),
              Fact.is (.bool E),
              Fact.when (E == false) (.bool P),
              Fact.is (.bool true)])
              (T := [42, 43, 44, 45, 46, 47, 48, 49, 50, 51, 52]) (by kernel_rfl) (by kernel_rfl) rfl ?owes ?_
            case owes =>
              refine .cons (owes_move (.tmp 8) (.inl rfl) fun q u lh => ⟨wants_free rfl, lh.old 8 rfl⟩) ?_
              refine .cons (owes_value fun q u lh => ⟨wants_free rfl, .pointer (some ⟨mb, mo, none⟩), by have e42 : q.tmps.getD 42 undef = .slice (some ⟨mb, mo, none⟩) j c3 := lh.dep 0 rfl; simp [execOp, Act.eval, e42, m1, go_sem], rfl⟩) ?_
              refine .cons (owes_value fun q u lh => ⟨wants_free rfl, .agg #[.int .i64 y0, .int .i64 y1, .int .i64 y2, .int .i64 y3, .int .i64 y4, .int .i64 y5, .int .i64 y6], by have e43 : q.tmps.getD 43 undef = .pointer (some ⟨mb, mo, none⟩) := lh.dep 1 rfl; obtain ⟨z0, z1, z2, z3, z4, z5, z6⟩ := D0.out.below lh.below; simp [execOp, Act.eval, e43, z0, z1, z2, z3, z4, z5, z6, go_sem], rfl⟩) ?_
              refine .cons (owes_move (.tmp 5) (.inl rfl) fun q u lh => ⟨wants_free rfl, lh.old 5 rfl⟩) ?_
              refine .cons (owes_move (.tmp 7) (.inl rfl) fun q u lh => ⟨wants_free rfl, lh.old 7 rfl⟩) ?_
              refine .cons (owes_value fun q u lh => ⟨wants_free rfl, .pointer (some ⟨b, off + k * 7, none⟩), by have e45 : q.tmps.getD 45 undef = .slice (some ⟨b, off, none⟩) nr c1 := lh.dep 3 rfl; have e46 : q.tmps.getD 46 undef = .int .i64 k := lh.dep 4 rfl; simp [execOp, Act.eval, e45, e46, i1, go_sem], rfl⟩) ?_
              refine .cons (owes_value fun q u lh => ⟨wants_free rfl, .agg #[.int .i64 x0, .int .i64 x1, .int .i64 x2, .int .i64 x3, .int .i64 x4, .int .i64 x5, .int .i64 x6], by have e47 : q.tmps.getD 47 undef = .pointer (some ⟨b, off + k * 7, none⟩) := lh.dep 5 rfl; obtain ⟨z0, z1, z2, z3, z4, z5, z6⟩ := (C.out.below B3.out).below lh.below; simp [execOp, Act.eval, e47, z0, z1, z2, z3, z4, z5, z6, go_sem], rfl⟩) ?_
              refine .cons (owes_eqlB 31 31 (.tmp 44) (.tmp 48) E rfl rfl fun q u lh => ⟨wants_free rfl, _, _, lh.dep 2 rfl, lh.dep 6 rfl, by rw [← HE7.out]; exact pay_eql y0 y1 y2 y3 y4 y5 y6 x0 x1 x2 x3 x4 x5 x6⟩) ?_
              refine .cons (owes_move (.tmp 49) (.inl rfl) fun q u lh => ⟨wants_free rfl, lh.dep 7 rfl⟩) ?_
              refine .cons (owes_when 8 false E (.bool P) rfl rfl rfl rfl fun hg q u lh => by have e9 : q.tmps.getD 9 undef = .bool P := lh.old 9 rfl; simp [execOp, Act.eval, e9, go_sem]) ?_
              refine .cons (owes_or 50 51 8 9 E P rfl rfl rfl rfl rfl rfl rfl rfl (by rw [HEP.out]; rfl)) ?_
              exact .nil _
            intro q u hb hsz hdf hold hfact
            obtain ⟨v51, e51⟩ : ∃ v, q.tmps.getD 51 undef = v := ⟨_, rfl⟩
            have B4 : Hid (Below w1.heap.size w1 u) := B3.out.trans (hb.mono B3.out.size)
            have O4 : Hid (u.ownsRow w1.heap.size 31 7 v z (payL (sel (mayK R) (R.take k)))) := own_below O3.out hb
            obtain ⟨z0, z1, z2, z3, z4, z5, z6⟩ := C.out.below B4.out
            simp only [P7.id, P7.fr, P7.to, P7.am, P7.cl, P7.st, P7.ti] at z0 z1 z2 z3 z4 z5 z6
            obtain rfl := frame_puts hsz hdf [42, 43, 44, 45, 46, 47, 48, 49, 50, 51, 52] hold [(42, Value.slice (some ⟨mb, mo, none⟩) j c3), (43, Value.pointer (some ⟨mb, mo, none⟩)), (44, Value.agg #[.int .i64 y0, .int .i64 y1, .int .i64 y2, .int .i64 y3, .int .i64 y4, .int .i64 y5, .int .i64 y6]), (45, Value.slice (some ⟨b, off, none⟩) nr c1), (46, Value.int .i64 k), (47, Value.pointer (some ⟨b, off + k * 7, none⟩)), (48, Value.agg #[.int .i64 x0, .int .i64 x1, .int .i64 x2, .int .i64 x3, .int .i64 x4, .int .i64 x5, .int .i64 x6]), (49, Value.bool E), (50, Value.bool E), (51, v51), (52, Value.bool true)] ⟨hfact 0 (by decide), hfact 1 (by decide), hfact 2 (by decide), hfact 3 (by decide), hfact 4 (by decide), hfact 5 (by decide), hfact 6 (by decide), hfact 7 (by decide), hfact 8 (by decide), e51, hfact 10 (by decide), trivial⟩ rfl
            clear hsz hdf hold hfact
            clear hb O3 B3 D0 HE7
            simp only [puts, Act.put, List.setIfInBounds_toArray, List.set_cons_zero, List.set_cons_succ]
            go_wp2_with (at_builtin; refine wpList_append_pays rfl _ _ rfl w1.heap.size v z _ rfl (own_below O4.out (box_below _ _)) (some ⟨u.heap.size, 0, none⟩) 1 1 [(x0, x1, x2, x3, x4, x5, x6)] rfl (PGood.lit1 u (x0, x1, x2, x3, x4, x5, x6)) (by omega) (by rw [size_alloc]; have := B4.out.size; omega) ?_)
            intro v5 w5 ho5 hg5
            have O5 : Hid (w5.ownsRow w1.heap.size 31 7 v5 (z + 1) (payL (sel (mayK R) (R.take (k + 1))))) := by rw [← HS.out]; exact ho5
            have B5 : Hid (Below w1.heap.size w1 w5) := (B4.out.alloc B4.out.size _).grown hg5 (by rw [size_alloc]; have := B4.out.size; omega) (fun i hi => (O4.out.lt i hi).1)
            clear ho5 hg5 O4 B4
            go_wp2
            go_roundw
            case rel => exact ⟨k + 1, z + 1, v5, by omega, by go_num, rfl, by omega, O5, B5⟩
            case measure => simp [intOf]; omega
    · obtain rfl : k = nr := by omega
      have HF : Hid (sel (mayK R) (R.take k) = sel (mayK R) R) := sel_all HN.out
      clear G1 HQR
      go_wp2
      go_ret
      have := HO.out
      rw [HF.out] at this
      obtain ⟨a2, c2, hv, g, hnew⟩ := PGood.own this
      subst hv
      exact ⟨a2, c2, rfl, g, fun x hx => Nat.le_trans B1.out.size (hnew x hx), B1.out.trans (HB.out.mono B1.out.size)⟩

end Go.Proofs.Ytajmbcbochjfmaa

/-
  What may go, and the first ones of each, as the laws look at them (plain lists).
-/
namespace Go.Proofs.Ytajmbcbochjfmaa
open Go.RowKit
set_option linter.unusedVariables false
set_option linter.unusedSimpArgs false

theorem RowedP.fr_ok {k : Nat} {L : List P7} (h : ∀ p ∈ L, RowedP k p) : FrOk L := fun p hp => i64_wf (by have := (h p hp).2.1; omega) (by have := (h p hp).2.1; omega)
theorem selA_sublist (K : List P7 → P7 → Bool) (A l : List P7) : (selA K A l).Sublist l := by
  induction l generalizing A with
  | nil => exact List.Sublist.refl _
  | cons x l ih =>
    simp only [selA]
    split
    · exact (ih _).cons_cons x
    · exact (ih _).cons x
theorem sel_sublist (K : List P7 → P7 → Bool) (L : List P7) : (sel K L).Sublist L := selA_sublist K [] L
theorem vOf_append (A B : List P7) (f : Int) : vOf (A ++ B) f = vOf A f ++ vOf B f := by rw [vOf_eq, vOf_eq, vOf_eq, List.filter_append]
theorem vOf_one (x : P7) (f : Int) : vOf [x] f = if x.fr = f then [x] else [] := by rw [vOf_eq]; by_cases h : x.fr = f <;> simp [h]
theorem vOf_snoc (A : List P7) (x : P7) (f : Int) : vOf (A ++ [x]) f = vOf A f ++ if x.fr = f then [x] else [] := by rw [vOf_append, vOf_one]

theorem vOf_may_to (R : List P7) (f : Int) : ∀ k, k ≤ R.length → vOf (sel (mayK R) (R.take k)) f = if othF R f = 0 then vOf (R.take k) f else (vOf (R.take k) f).take 1
  | 0, _ => by simp [sel, selA, vOf]
  | k + 1, hk => by
    have ih := vOf_may_to R f k (by omega)
    rw [sel_take _ _ (by omega : k < R.length), take_snoc7 R (by omega), vOf_snoc, vOf_append, ih]
    obtain ⟨x, hx⟩ : ∃ x, R.getD k p70 = x := ⟨_, rfl⟩
    rw [hx]
    by_cases hf : x.fr = f
    · rw [if_pos hf]
      by_cases ho : othF R f = 0
      · have hK : mayK R (R.take k) x = true := by unfold mayK; rw [hf, decide_eq_true ho, Bool.or_true]
        rw [hK, if_pos rfl, if_pos ho, if_pos ho, vOf_one, if_pos hf]
      · rw [if_neg ho, if_neg ho]
        cases hv : vOf (R.take k) f with
        | nil =>
          have hK : mayK R (R.take k) x = true := by unfold mayK cntF; rw [hf, hv]; rfl
          rw [hK, if_pos rfl, vOf_one, if_pos hf]
          rfl
        | cons y m =>
          have hK : mayK R (R.take k) x = false := by unfold mayK cntF; rw [hf, hv, decide_eq_false ho]; rfl
          rw [hK]
          simp [vOf_eq]
    · rw [if_neg hf, List.append_nil]
      have : vOf (if mayK R (R.take k) x = true then [x] else []) f = [] := by
        split
        · rw [vOf_one, if_neg hf]
        · rfl
      rw [this, List.append_nil]
theorem vOf_may (R : List P7) (f : Int) : vOf (sel (mayK R) R) f = if othF R f = 0 then vOf R f else (vOf R f).take 1 := by
  have := vOf_may_to R f R.length (Nat.le_refl _)
  rwa [List.take_length] at this

theorem oth_head {R : List P7} {f : Int} {x : P7} {m : List P7} (hq : R.Pairwise QR) (hc : ∀ p ∈ R, p.cl ≤ 3) (hv : vOf R f = x :: m) : x.cl = 3 ↔ othF R f = 0 := by
  have hp := plain_iff R f
  rw [hv] at hp
  have hs : (x :: m).Sublist R := by rw [← hv]; exact sel_sublist _ R
  have hpw := hq.sublist hs
  have hfr : ∀ p ∈ x :: m, p.fr = f := fun p h => by
    rw [← hv, vOf_eq] at h
    simpa using (List.mem_filter.1 h).2
  constructor
  · intro h3
    have : (x :: m).all (fun p => p.cl == 3) = true := by
      rw [List.all_eq_true]
      intro p h
      have h1 := hc p (hs.subset h)
      rcases List.mem_cons.1 h with rfl | h2
      · simpa using h3
      · have h4 := qLe_iff.1 ((List.pairwise_cons.1 hpw).1 p h2).1
        have h5 := hfr x (by simp)
        have h6 := hfr p h
        have : p.cl = 3 := by omega
        simpa using this
    rw [this] at hp
    exact of_decide_eq_true hp.symm
  · intro ho
    rw [decide_eq_true ho, List.all_eq_true] at hp
    simpa using hp x (by simp)

/-- What one sends of all that is ready, and of what may go. -/
theorem may_parts {R : List P7} (hq : R.Pairwise QR) (hc : ∀ p ∈ R, p.cl ≤ 3) (f : Int) :
    (vOf R f = [] ∧ vOf (sel (mayK R) R) f = []) ∨
    ∃ x A B, vOf R f = x :: A ∧ vOf (sel (mayK R) R) f = x :: B ∧ (x.cl = 3 → B.length = A.length) ∧ (¬ x.cl = 3 → B.length = 0) := by
  have hm := vOf_may R f
  cases hv : vOf R f with
  | nil => rw [hv] at hm; left; exact ⟨rfl, by rw [hm]; split <;> rfl⟩
  | cons x A =>
    right
    have ho := oth_head hq hc hv
    rw [hv] at hm
    by_cases h : othF R f = 0
    · rw [if_pos h] at hm
      exact ⟨x, A, A, rfl, hm, fun _ => rfl, fun h3 => absurd (ho.2 h) h3⟩
    · rw [if_neg h] at hm
      exact ⟨x, A, [], rfl, hm, fun h3 => absurd (ho.1 h3) h, fun _ => rfl⟩

/-- They stand as in the row. -/
theorem rising_of {r m : List P7} (hq : r.Pairwise QR) (hs : m.Sublist r) {i : Nat} (hi : i < m.length) (h0 : 0 < i) : ¬ qFind r (m.getD i p70).id ≤ qFind r (m.getD (i - 1) p70).id := by
  have hr : r.Pairwise fun a b => qFind r a.id < qFind r b.id := by
    rw [List.pairwise_iff_getElem]
    intro j k hj hk hjk
    have h1 := at_of hq hj
    have h2 := at_of hq hk
    rw [getD_get hj] at h1
    rw [getD_get hk] at h2
    rw [qFind_yes h1.1, qFind_yes h2.1, h1.2, h2.2]
    omega
  have hm := hr.sublist hs
  have := List.pairwise_iff_getElem.1 hm (i - 1) i (by omega) hi (by omega)
  rw [getD_get hi, getD_get (by omega : i - 1 < m.length)]
  omega
theorem may_ready {r : List P7} {t : Int} {p : P7} (h : p ∈ vMay r t) : readyB p.st p.ti t = true := by
  have h := selA_mem (K := mayK (vReady r t)) h
  rw [vReady_eq] at h
  exact (List.mem_filter.1 h).2

end Go.Proofs.Ytajmbcbochjfmaa

/-
  Rows of payments that a call owns, each in a block of its own, numbers of which are written.
-/
namespace Go.Proofs.Ytajmbcbochjfmaa
open Go.RowKit
set_option linter.unusedVariables false
set_option linter.unusedSimpArgs false

/-- Each of these is a row of so many payments in no block below B. -/
def OwnAll (B : Nat) (w : World) (l : List (Value × Nat)) : Prop := ∀ p ∈ l, ∃ xs, w.ownsRow B 31 7 p.1 p.2 xs
/-- No two of them lie in one block. -/
def Asunder (l : List (Value × Nat)) : Prop := l.Pairwise fun p q => ∀ k, p.1.ownBlock = some k → q.1.ownBlock ≠ some k
theorem pw_mem {α : Type} {R : α → α → Prop} {l : List α} (h : l.Pairwise R) {p q : α} (hp : p ∈ l) (hq : q ∈ l) : p = q ∨ R p q ∨ R q p := by
  induction l with
  | nil => simp at hp
  | cons x l ih =>
    obtain ⟨h1, h2⟩ := List.pairwise_cons.1 h
    rcases List.mem_cons.1 hp with e1 | e1
    · rcases List.mem_cons.1 hq with e2 | e2
      · exact .inl (e1.trans e2.symm)
      · exact .inr (.inl (e1 ▸ h1 q e2))
    · rcases List.mem_cons.1 hq with e2 | e2
      · exact .inr (.inr (e2 ▸ h1 p e1))
      · exact ih h2 e1 e2
theorem OwnAll.kept {B : Nat} {w w' : World} {l : List (Value × Nat)} (h : OwnAll B w l) (hb : Below w.heap.size w w') : OwnAll B w' l := fun p hp => let ⟨xs, hx⟩ := h p hp; ⟨xs, own_below hx hb⟩
theorem OwnAll.poke {B : Nat} {w : World} {l : List (Value × Nat)} (h : OwnAll B w l) (hd : Asunder l) {v : Value} {n i : Nat} (hp : (v, n) ∈ l) (hi : i < n) :
    ∃ g cap y, v = .slice (some ⟨g, 0, none⟩) n cap ∧ B ≤ g ∧ w.cell? ⟨g, i * 7, none⟩ = some y ∧ w.frozen? ⟨g, i * 7, none⟩ = false ∧ ∀ u, OwnAll B (w.setCell ⟨g, i * 7, none⟩ u) l := by
  obtain ⟨xs, hx⟩ : ∃ xs, w.ownsRow B 31 7 v n xs := h _ hp
  rcases hx.2 with ⟨_, h0⟩ | ⟨g, cap, cur, rfl, hB, hg, hc, hm, hs, ht⟩
  · omega
  · have hlen : i * 7 < xs.length := by rw [hx.1]; omega
    refine ⟨g, cap, xs[i * 7], rfl, hB, ?_, ?_, fun u p hpl => ?_⟩
    · have := hx.cellAt (i * 7) (by rw [hx.1] at hlen; exact hlen)
      rw [this]
      exact List.getElem?_eq_getElem hlen
    · exact hx.frozenAt (i * 7)
    · by_cases hb : p.1.ownBlock = some g
      · have : p = (.slice (some ⟨g, 0, none⟩) n cap, n) := by
          rcases pw_mem hd hpl hp with e | e | e
          · exact e
          · exact absurd rfl (e g hb)
          · exact absurd hb (e g rfl)
        subst this
        exact ⟨_, (hx.stored (i * 7) u).1⟩
      · obtain ⟨ys, hy⟩ := h p hpl
        exact ⟨ys, hy.kept (hx.stored (i * 7) u).2 (.inr hb)⟩

end Go.Proofs.Ytajmbcbochjfmaa
