/-
  view.such, with each of the functions that it is handed.
-/
import Derived.Test.YtmfmdicdbjghkaaViewSpec
import Derived.Test.YtmfmdicdbjghkaaPayRows
import Derived.Maps.Range
import Derived.Maps.RangeWalk
namespace Go.Proofs.Ytmfmdicdbjghkaa
open Go.RowKit
set_option linter.unusedVariables false
set_option linter.unusedSimpArgs false

theorem At7.grown {w w' : World} {g o : Nat} {p : P7} {r : Option Nat} (h : At7 w g o p) (hg : w.grownBy w' r) (hne : some g ≠ r) : At7 w' g o p := by
  obtain ⟨h0, h1, h2, h3, h4, h5, h6⟩ := h
  exact ⟨hg.cell h0 hne, hg.cell h1 hne, hg.cell h2 hne, hg.cell h3 hne, hg.cell h4 hne, hg.cell h5 hne, hg.cell h6 hne⟩
theorem grown_below {w w' : World} (h : Below w.heap.size w w') (r : Option Nat) : w.grownBy w' r := ⟨h.os, h.tape, h.output, h.size, fun k hk _ => h.block k hk⟩
theorem below_grown {w w' : World} (h : w.grownBy w' none) : Below w.heap.size w w' := ⟨h.os, h.tape, h.output, h.size, fun k hk => h.block k hk (by simp)⟩
/-- What a call leaves that makes a row of its own, and may write one block. -/
def PMadeO (o : Option Nat) (w : World) (L : List P7) (e : Ending) (w' : World) : Prop := ∃ v, e = .returned v ∧ w'.ownsRow w.heap.size 34 7 v L.length (payL L) ∧ w.grownBy w' o
def PMade (w : World) (L : List P7) (e : Ending) (w' : World) : Prop := ∃ v, e = .returned v ∧ w'.ownsRow w.heap.size 34 7 v L.length (payL L) ∧ Below w.heap.size w w'
theorem PMade.end {w : World} {L : List P7} {e : Ending} {w' : World} (h : PMade w L e w') : PEnd w L e w' := by
  obtain ⟨v, rfl, h2, h3⟩ := h
  obtain ⟨a, c, rfl, g, hn⟩ := PGood.own h2
  exact ⟨a, c, rfl, g, hn, h3⟩

set_option maxHeartbeats 4000000 in
theorem suchReady (g1 : Nat) (o : Option Nat) (K : List P7 → P7 → Bool) (I : List P7 → World → Prop) (a : Option Addr) (n c : Nat) (L : List P7) (w : World) (h : PGood w a n c L) (hm : n ≤ 100000)
    (ho : ∀ x, o = some x → x < w.heap.size) (ha : 0 < n → ∀ x, a = some x → some x.block ≠ o)
    (hI : ∀ A u u' r, (∀ x, r = some x → w.heap.size ≤ x) → I A u → u.grownBy u' r → I A u') (h0 : I [] w)
    (hs : ∀ k u, k < n → w.grownBy u o → I (L.take k) u → Calls Try.prog 23 #[(L.getD k p70).val, .pointer (some ⟨g1, 0, none⟩)] u fun e u' => e = .returned (.bool (K (L.take k) (L.getD k p70))) ∧ I (L.take (k + 1)) u' ∧ u.grownBy u' o) :
    Calls Try.prog 22 #[.slice a n c, .func (.func 23) #[] #[.pointer (some ⟨g1, 0, none⟩)]] w fun e w' => PMadeO o w (sel K L) e w' ∧ I L w' := by
  have H : Hid (PGood w a n c L) := h
  have HN : Hid (n = L.length) := h.len
  have HO : Hid (∀ x, o = some x → x < w.heap.size) := ho
  have HA : Hid (0 < n → ∀ x, a = some x → some x.block ≠ o) := ha
  have HI0 : Hid (∀ A u u' r, (∀ x, r = some x → w.heap.size ≤ x) → I A u → u.grownBy u' r → I A u') := hI
  have H0 : Hid (I [] w) := h0
  have HS : Hid (∀ k u, k < n → w.grownBy u o → I (L.take k) u → Calls Try.prog 23 #[(L.getD k p70).val, .pointer (some ⟨g1, 0, none⟩)] u fun e u' => e = .returned (.bool (K (L.take k) (L.getD k p70))) ∧ I (L.take (k + 1)) u' ∧ u.grownBy u' o) := hs
  clear h ho ha hI h0 hs
  go_enter Try.func22, Try.ntmps22
  go_wp2
  go_loopw [5, 10] (fun tv i wr => ∃ (k z : Nat) (v : Value), k ≤ n ∧ i = .int .i64 k ∧ v = tv ∧ z ≤ k ∧ Hid (wr.ownsRow w.heap.size 34 7 v z (payL (sel K (L.take k)))) ∧ Hid (I (L.take k) wr) ∧ Hid (w.grownBy wr o)) (fun _ i _ => n - (intOf i).toNat)
  case atStart => exact ⟨0, 0, _, by omega, rfl, rfl, by omega, World.ownsRow_nil _ _ _ _, H0, World.grownBy.refl _ _⟩
  case round =>
    obtain ⟨k, z, v, hk, rfl, rfl, hz, HR, HI, HG⟩ := hrel
    by_cases hlt : k < n
    · obtain ⟨b, off, rfl, HC⟩ := H.out.at hlt
      have i1 : (k : Int) < (n : Int) := by omega
      have C0 := (HC k hlt).grown HG.out (HA.out (by omega) _ rfl)
      have S := HS.out k (wr.alloc (.cells #[.int .i64 (L.getD k p70).id, .int .i64 (L.getD k p70).fr, .int .i64 (L.getD k p70).to, .int .i64 (L.getD k p70).am, .int .i64 (L.getD k p70).cl, .int .i64 (L.getD k p70).st, .int .i64 (L.getD k p70).ti] 34)) hlt (HG.out.andThen (World.grownBy_alloc wr _ o) (fun j hj => .inr hj)) (HI0.out _ _ _ none (fun x hx => by cases hx) HI.out (World.grownBy_alloc wr _ none))
      obtain ⟨x, hx⟩ : ∃ x, L.getD k p70 = x := ⟨_, rfl⟩
      rw [hx] at C0 S
      obtain ⟨x0, x1, x2, x3, x4, x5, x6⟩ := x
      have X1 : Hid (At7 (wr.alloc (.cells #[.int .i64 x0, .int .i64 x1, .int .i64 x2, .int .i64 x3, .int .i64 x4, .int .i64 x5, .int .i64 x6] 34)) wr.heap.size 0 (x0, x1, x2, x3, x4, x5, x6)) := At7.new wr (x0, x1, x2, x3, x4, x5, x6) _ _
      have HX : Hid (L.getD k p70 = (x0, x1, x2, x3, x4, x5, x6)) := hx
      obtain ⟨p0, p1, p2, p3, p4, p5, p6⟩ := C0
      simp only [P7.id, P7.fr, P7.to, P7.am, P7.cl, P7.st, P7.ti] at p0 p1 p2 p3 p4 p5 p6
      clear HC hx H HS
      cases hr : K (L.take k) (x0, x1, x2, x3, x4, x5, x6) with
      | true =>
        rw [hr] at S
        have HE : Hid (sel K (L.take k) ++ [(x0, x1, x2, x3, x4, x5, x6)] = sel K (L.take (k + 1))) := sel_yes (by have := HN.out; omega) HX.out hr
        clear hr
        go_wp2_with fail
        go_at_call 23
        refine S.mono ?_
        rintro e w2 ⟨rfl, i2, hg2⟩
        have G2 : Hid (w.grownBy w2 o) := HG.out.andThen ((World.grownBy_alloc wr _ o).trans hg2) (fun j hj => .inr hj)
        have X2 : Hid (At7 w2 wr.heap.size 0 (x0, x1, x2, x3, x4, x5, x6)) := X1.out.grown hg2 (fun e => by have := HO.out _ e.symm; have := HG.out.size; omega)
        have O2 : Hid (w2.ownsRow w.heap.size 34 7 v z (payL (sel K (L.take k)))) := (HR.out.alloc _).kept hg2 (by
          cases hv : v.ownBlock with
          | none => exact .inl rfl
          | some j => exact .inr (fun e => by have := HO.out j e.symm; have := (HR.out.lt j hv).1; omega))
        have I2 : Hid (I (L.take (k + 1)) w2) := i2
        clear i2 hg2 S X1 HR HI HG
        clear p0 p1 p2 p3 p4 p5 p6
        obtain ⟨p0, p1, p2, p3, p4, p5, p6⟩ := X2.out
        simp only [P7.id, P7.fr, P7.to, P7.am, P7.cl, P7.st, P7.ti] at p0 p1 p2 p3 p4 p5 p6
        go_wp2_with (at_builtin; refine wpList_append_pays rfl _ _ rfl w.heap.size v z _ rfl (O2.out.alloc _) (some ⟨w2.heap.size, 0, none⟩) 1 1 [(x0, x1, x2, x3, x4, x5, x6)] rfl (PGood.lit1 w2 (x0, x1, x2, x3, x4, x5, x6)) (by omega) (by rw [size_alloc]; have := G2.out.size; omega) ?_)
        intro v3 w3 ho3 hg3
        have O3 : Hid (w3.ownsRow w.heap.size 34 7 v3 (z + 1) (payL (sel K (L.take (k + 1))))) := by rw [← HE.out]; exact ho3
        have hb := fun j hj => (O2.out.lt j hj).1
        have G3 : Hid (w.grownBy w3 o) := G2.out.andThen ((World.grownBy_alloc w2 _ v.ownBlock).trans hg3) (fun j hj => .inl (hb j hj))
        have I3 : Hid (I (L.take (k + 1)) w3) := HI0.out _ _ _ _ hb I2.out ((World.grownBy_alloc w2 _ v.ownBlock).trans hg3)
        clear ho3 hg3 hb O2 G2 I2 X2 p0 p1 p2 p3 p4 p5 p6
        go_wp2
        go_roundw
        case rel => exact ⟨k + 1, z + 1, v3, by omega, by go_num, rfl, by omega, O3, I3, G3⟩
        case measure => simp [intOf]; omega
      | false =>
        rw [hr] at S
        have HE : Hid (sel K (L.take k) = sel K (L.take (k + 1))) := sel_no (by have := HN.out; omega) HX.out hr
        clear hr
        go_wp2_with fail
        go_at_call 23
        refine S.mono ?_
        rintro e w2 ⟨rfl, i2, hg2⟩
        have G2 : Hid (w.grownBy w2 o) := HG.out.andThen ((World.grownBy_alloc wr _ o).trans hg2) (fun j hj => .inr hj)
        have X2 : Hid (At7 w2 wr.heap.size 0 (x0, x1, x2, x3, x4, x5, x6)) := X1.out.grown hg2 (fun e => by have := HO.out _ e.symm; have := HG.out.size; omega)
        have O2 : Hid (w2.ownsRow w.heap.size 34 7 v z (payL (sel K (L.take k)))) := (HR.out.alloc _).kept hg2 (by
          cases hv : v.ownBlock with
          | none => exact .inl rfl
          | some j => exact .inr (fun e => by have := HO.out j e.symm; have := (HR.out.lt j hv).1; omega))
        have I2 : Hid (I (L.take (k + 1)) w2) := i2
        clear i2 hg2 S X1 HR HI HG
        have O3 : Hid (w2.ownsRow w.heap.size 34 7 v z (payL (sel K (L.take (k + 1))))) := by rw [← HE.out]; exact O2.out
        clear p0 p1 p2 p3 p4 p5 p6 O2 X2
        go_wp2
        go_roundw
        case rel => exact ⟨k + 1, z, v, by omega, by go_num, rfl, by omega, O3, I2, G2⟩
        case measure => simp [intOf]; omega
    · obtain rfl : k = n := by omega
      have HF : Hid (sel K (L.take k) = sel K L) := sel_all HN.out
      have HL : Hid (L.take k = L) := by show _ = _; rw [HN.out, List.take_length]
      clear H HS
      go_wp2
      go_ret
      have hr := HR.out
      have hi := HI.out
      rw [HF.out] at hr
      rw [HL.out] at hi
      have hzl : z = (sel K L).length := by have := hr.1; rw [payL_length] at this; omega
      rw [hzl] at hr
      exact ⟨⟨v, rfl, hr, HG.out⟩, hi⟩

set_option maxHeartbeats 4000000 in
theorem suchOf (g1 : Nat) (o : Option Nat) (K : List P7 → P7 → Bool) (I : List P7 → World → Prop) (a : Option Addr) (n c : Nat) (L : List P7) (w : World) (h : PGood w a n c L) (hm : n ≤ 100000)
    (ho : ∀ x, o = some x → x < w.heap.size) (ha : 0 < n → ∀ x, a = some x → some x.block ≠ o)
    (hI : ∀ A u u' r, (∀ x, r = some x → w.heap.size ≤ x) → I A u → u.grownBy u' r → I A u') (h0 : I [] w)
    (hs : ∀ k u, k < n → w.grownBy u o → I (L.take k) u → Calls Try.prog 25 #[(L.getD k p70).val, .pointer (some ⟨g1, 0, none⟩)] u fun e u' => e = .returned (.bool (K (L.take k) (L.getD k p70))) ∧ I (L.take (k + 1)) u' ∧ u.grownBy u' o) :
    Calls Try.prog 22 #[.slice a n c, .func (.func 25) #[] #[.pointer (some ⟨g1, 0, none⟩)]] w fun e w' => PMadeO o w (sel K L) e w' ∧ I L w' := by
  have H : Hid (PGood w a n c L) := h
  have HN : Hid (n = L.length) := h.len
  have HO : Hid (∀ x, o = some x → x < w.heap.size) := ho
  have HA : Hid (0 < n → ∀ x, a = some x → some x.block ≠ o) := ha
  have HI0 : Hid (∀ A u u' r, (∀ x, r = some x → w.heap.size ≤ x) → I A u → u.grownBy u' r → I A u') := hI
  have H0 : Hid (I [] w) := h0
  have HS : Hid (∀ k u, k < n → w.grownBy u o → I (L.take k) u → Calls Try.prog 25 #[(L.getD k p70).val, .pointer (some ⟨g1, 0, none⟩)] u fun e u' => e = .returned (.bool (K (L.take k) (L.getD k p70))) ∧ I (L.take (k + 1)) u' ∧ u.grownBy u' o) := hs
  clear h ho ha hI h0 hs
  go_enter Try.func22, Try.ntmps22
  go_wp2
  go_loopw [5, 10] (fun tv i wr => ∃ (k z : Nat) (v : Value), k ≤ n ∧ i = .int .i64 k ∧ v = tv ∧ z ≤ k ∧ Hid (wr.ownsRow w.heap.size 34 7 v z (payL (sel K (L.take k)))) ∧ Hid (I (L.take k) wr) ∧ Hid (w.grownBy wr o)) (fun _ i _ => n - (intOf i).toNat)
  case atStart => exact ⟨0, 0, _, by omega, rfl, rfl, by omega, World.ownsRow_nil _ _ _ _, H0, World.grownBy.refl _ _⟩
  case round =>
    obtain ⟨k, z, v, hk, rfl, rfl, hz, HR, HI, HG⟩ := hrel
    by_cases hlt : k < n
    · obtain ⟨b, off, rfl, HC⟩ := H.out.at hlt
      have i1 : (k : Int) < (n : Int) := by omega
      have C0 := (HC k hlt).grown HG.out (HA.out (by omega) _ rfl)
      have S := HS.out k (wr.alloc (.cells #[.int .i64 (L.getD k p70).id, .int .i64 (L.getD k p70).fr, .int .i64 (L.getD k p70).to, .int .i64 (L.getD k p70).am, .int .i64 (L.getD k p70).cl, .int .i64 (L.getD k p70).st, .int .i64 (L.getD k p70).ti] 34)) hlt (HG.out.andThen (World.grownBy_alloc wr _ o) (fun j hj => .inr hj)) (HI0.out _ _ _ none (fun x hx => by cases hx) HI.out (World.grownBy_alloc wr _ none))
      obtain ⟨x, hx⟩ : ∃ x, L.getD k p70 = x := ⟨_, rfl⟩
      rw [hx] at C0 S
      obtain ⟨x0, x1, x2, x3, x4, x5, x6⟩ := x
      have X1 : Hid (At7 (wr.alloc (.cells #[.int .i64 x0, .int .i64 x1, .int .i64 x2, .int .i64 x3, .int .i64 x4, .int .i64 x5, .int .i64 x6] 34)) wr.heap.size 0 (x0, x1, x2, x3, x4, x5, x6)) := At7.new wr (x0, x1, x2, x3, x4, x5, x6) _ _
      have HX : Hid (L.getD k p70 = (x0, x1, x2, x3, x4, x5, x6)) := hx
      obtain ⟨p0, p1, p2, p3, p4, p5, p6⟩ := C0
      simp only [P7.id, P7.fr, P7.to, P7.am, P7.cl, P7.st, P7.ti] at p0 p1 p2 p3 p4 p5 p6
      clear HC hx H HS
      cases hr : K (L.take k) (x0, x1, x2, x3, x4, x5, x6) with
      | true =>
        rw [hr] at S
        have HE : Hid (sel K (L.take k) ++ [(x0, x1, x2, x3, x4, x5, x6)] = sel K (L.take (k + 1))) := sel_yes (by have := HN.out; omega) HX.out hr
        clear hr
        go_wp2_with fail
        go_at_call 25
        refine S.mono ?_
        rintro e w2 ⟨rfl, i2, hg2⟩
        have G2 : Hid (w.grownBy w2 o) := HG.out.andThen ((World.grownBy_alloc wr _ o).trans hg2) (fun j hj => .inr hj)
        have X2 : Hid (At7 w2 wr.heap.size 0 (x0, x1, x2, x3, x4, x5, x6)) := X1.out.grown hg2 (fun e => by have := HO.out _ e.symm; have := HG.out.size; omega)
        have O2 : Hid (w2.ownsRow w.heap.size 34 7 v z (payL (sel K (L.take k)))) := (HR.out.alloc _).kept hg2 (by
          cases hv : v.ownBlock with
          | none => exact .inl rfl
          | some j => exact .inr (fun e => by have := HO.out j e.symm; have := (HR.out.lt j hv).1; omega))
        have I2 : Hid (I (L.take (k + 1)) w2) := i2
        clear i2 hg2 S X1 HR HI HG
        clear p0 p1 p2 p3 p4 p5 p6
        obtain ⟨p0, p1, p2, p3, p4, p5, p6⟩ := X2.out
        simp only [P7.id, P7.fr, P7.to, P7.am, P7.cl, P7.st, P7.ti] at p0 p1 p2 p3 p4 p5 p6
        go_wp2_with (at_builtin; refine wpList_append_pays rfl _ _ rfl w.heap.size v z _ rfl (O2.out.alloc _) (some ⟨w2.heap.size, 0, none⟩) 1 1 [(x0, x1, x2, x3, x4, x5, x6)] rfl (PGood.lit1 w2 (x0, x1, x2, x3, x4, x5, x6)) (by omega) (by rw [size_alloc]; have := G2.out.size; omega) ?_)
        intro v3 w3 ho3 hg3
        have O3 : Hid (w3.ownsRow w.heap.size 34 7 v3 (z + 1) (payL (sel K (L.take (k + 1))))) := by rw [← HE.out]; exact ho3
        have hb := fun j hj => (O2.out.lt j hj).1
        have G3 : Hid (w.grownBy w3 o) := G2.out.andThen ((World.grownBy_alloc w2 _ v.ownBlock).trans hg3) (fun j hj => .inl (hb j hj))
        have I3 : Hid (I (L.take (k + 1)) w3) := HI0.out _ _ _ _ hb I2.out ((World.grownBy_alloc w2 _ v.ownBlock).trans hg3)
        clear ho3 hg3 hb O2 G2 I2 X2 p0 p1 p2 p3 p4 p5 p6
        go_wp2
        go_roundw
        case rel => exact ⟨k + 1, z + 1, v3, by omega, by go_num, rfl, by omega, O3, I3, G3⟩
        case measure => simp [intOf]; omega
      | false =>
        rw [hr] at S
        have HE : Hid (sel K (L.take k) = sel K (L.take (k + 1))) := sel_no (by have := HN.out; omega) HX.out hr
        clear hr
        go_wp2_with fail
        go_at_call 25
        refine S.mono ?_
        rintro e w2 ⟨rfl, i2, hg2⟩
        have G2 : Hid (w.grownBy w2 o) := HG.out.andThen ((World.grownBy_alloc wr _ o).trans hg2) (fun j hj => .inr hj)
        have X2 : Hid (At7 w2 wr.heap.size 0 (x0, x1, x2, x3, x4, x5, x6)) := X1.out.grown hg2 (fun e => by have := HO.out _ e.symm; have := HG.out.size; omega)
        have O2 : Hid (w2.ownsRow w.heap.size 34 7 v z (payL (sel K (L.take k)))) := (HR.out.alloc _).kept hg2 (by
          cases hv : v.ownBlock with
          | none => exact .inl rfl
          | some j => exact .inr (fun e => by have := HO.out j e.symm; have := (HR.out.lt j hv).1; omega))
        have I2 : Hid (I (L.take (k + 1)) w2) := i2
        clear i2 hg2 S X1 HR HI HG
        have O3 : Hid (w2.ownsRow w.heap.size 34 7 v z (payL (sel K (L.take (k + 1))))) := by rw [← HE.out]; exact O2.out
        clear p0 p1 p2 p3 p4 p5 p6 O2 X2
        go_wp2
        go_roundw
        case rel => exact ⟨k + 1, z, v, by omega, by go_num, rfl, by omega, O3, I2, G2⟩
        case measure => simp [intOf]; omega
    · obtain rfl : k = n := by omega
      have HF : Hid (sel K (L.take k) = sel K L) := sel_all HN.out
      have HL : Hid (L.take k = L) := by show _ = _; rw [HN.out, List.take_length]
      clear H HS
      go_wp2
      go_ret
      have hr := HR.out
      have hi := HI.out
      rw [HF.out] at hr
      rw [HL.out] at hi
      have hzl : z = (sel K L).length := by have := hr.1; rw [payL_length] at this; omega
      rw [hzl] at hr
      exact ⟨⟨v, rfl, hr, HG.out⟩, hi⟩

set_option maxHeartbeats 4000000 in
theorem suchMay (g1 g2 : Nat) (o : Option Nat) (K : List P7 → P7 → Bool) (I : List P7 → World → Prop) (a : Option Addr) (n c : Nat) (L : List P7) (w : World) (h : PGood w a n c L) (hm : n ≤ 100000)
    (ho : ∀ x, o = some x → x < w.heap.size) (ha : 0 < n → ∀ x, a = some x → some x.block ≠ o)
    (hI : ∀ A u u' r, (∀ x, r = some x → w.heap.size ≤ x) → I A u → u.grownBy u' r → I A u') (h0 : I [] w)
    (hs : ∀ k u, k < n → w.grownBy u o → I (L.take k) u → Calls Try.prog 27 #[(L.getD k p70).val, .pointer (some ⟨g1, 0, none⟩), .pointer (some ⟨g2, 0, none⟩)] u fun e u' => e = .returned (.bool (K (L.take k) (L.getD k p70))) ∧ I (L.take (k + 1)) u' ∧ u.grownBy u' o) :
    Calls Try.prog 22 #[.slice a n c, .func (.func 27) #[] #[.pointer (some ⟨g1, 0, none⟩), .pointer (some ⟨g2, 0, none⟩)]] w fun e w' => PMadeO o w (sel K L) e w' ∧ I L w' := by
  have H : Hid (PGood w a n c L) := h
  have HN : Hid (n = L.length) := h.len
  have HO : Hid (∀ x, o = some x → x < w.heap.size) := ho
  have HA : Hid (0 < n → ∀ x, a = some x → some x.block ≠ o) := ha
  have HI0 : Hid (∀ A u u' r, (∀ x, r = some x → w.heap.size ≤ x) → I A u → u.grownBy u' r → I A u') := hI
  have H0 : Hid (I [] w) := h0
  have HS : Hid (∀ k u, k < n → w.grownBy u o → I (L.take k) u → Calls Try.prog 27 #[(L.getD k p70).val, .pointer (some ⟨g1, 0, none⟩), .pointer (some ⟨g2, 0, none⟩)] u fun e u' => e = .returned (.bool (K (L.take k) (L.getD k p70))) ∧ I (L.take (k + 1)) u' ∧ u.grownBy u' o) := hs
  clear h ho ha hI h0 hs
  go_enter Try.func22, Try.ntmps22
  go_wp2
  go_loopw [5, 10] (fun tv i wr => ∃ (k z : Nat) (v : Value), k ≤ n ∧ i = .int .i64 k ∧ v = tv ∧ z ≤ k ∧ Hid (wr.ownsRow w.heap.size 34 7 v z (payL (sel K (L.take k)))) ∧ Hid (I (L.take k) wr) ∧ Hid (w.grownBy wr o)) (fun _ i _ => n - (intOf i).toNat)
  case atStart => exact ⟨0, 0, _, by omega, rfl, rfl, by omega, World.ownsRow_nil _ _ _ _, H0, World.grownBy.refl _ _⟩
  case round =>
    obtain ⟨k, z, v, hk, rfl, rfl, hz, HR, HI, HG⟩ := hrel
    by_cases hlt : k < n
    · obtain ⟨b, off, rfl, HC⟩ := H.out.at hlt
      have i1 : (k : Int) < (n : Int) := by omega
      have C0 := (HC k hlt).grown HG.out (HA.out (by omega) _ rfl)
      have S := HS.out k (wr.alloc (.cells #[.int .i64 (L.getD k p70).id, .int .i64 (L.getD k p70).fr, .int .i64 (L.getD k p70).to, .int .i64 (L.getD k p70).am, .int .i64 (L.getD k p70).cl, .int .i64 (L.getD k p70).st, .int .i64 (L.getD k p70).ti] 34)) hlt (HG.out.andThen (World.grownBy_alloc wr _ o) (fun j hj => .inr hj)) (HI0.out _ _ _ none (fun x hx => by cases hx) HI.out (World.grownBy_alloc wr _ none))
      obtain ⟨x, hx⟩ : ∃ x, L.getD k p70 = x := ⟨_, rfl⟩
      rw [hx] at C0 S
      obtain ⟨x0, x1, x2, x3, x4, x5, x6⟩ := x
      have X1 : Hid (At7 (wr.alloc (.cells #[.int .i64 x0, .int .i64 x1, .int .i64 x2, .int .i64 x3, .int .i64 x4, .int .i64 x5, .int .i64 x6] 34)) wr.heap.size 0 (x0, x1, x2, x3, x4, x5, x6)) := At7.new wr (x0, x1, x2, x3, x4, x5, x6) _ _
      have HX : Hid (L.getD k p70 = (x0, x1, x2, x3, x4, x5, x6)) := hx
      obtain ⟨p0, p1, p2, p3, p4, p5, p6⟩ := C0
      simp only [P7.id, P7.fr, P7.to, P7.am, P7.cl, P7.st, P7.ti] at p0 p1 p2 p3 p4 p5 p6
      clear HC hx H HS
      cases hr : K (L.take k) (x0, x1, x2, x3, x4, x5, x6) with
      | true =>
        rw [hr] at S
        have HE : Hid (sel K (L.take k) ++ [(x0, x1, x2, x3, x4, x5, x6)] = sel K (L.take (k + 1))) := sel_yes (by have := HN.out; omega) HX.out hr
        clear hr
        go_wp2_with fail
        go_at_call 27
        refine S.mono ?_
        rintro e w2 ⟨rfl, i2, hg2⟩
        have G2 : Hid (w.grownBy w2 o) := HG.out.andThen ((World.grownBy_alloc wr _ o).trans hg2) (fun j hj => .inr hj)
        have X2 : Hid (At7 w2 wr.heap.size 0 (x0, x1, x2, x3, x4, x5, x6)) := X1.out.grown hg2 (fun e => by have := HO.out _ e.symm; have := HG.out.size; omega)
        have O2 : Hid (w2.ownsRow w.heap.size 34 7 v z (payL (sel K (L.take k)))) := (HR.out.alloc _).kept hg2 (by
          cases hv : v.ownBlock with
          | none => exact .inl rfl
          | some j => exact .inr (fun e => by have := HO.out j e.symm; have := (HR.out.lt j hv).1; omega))
        have I2 : Hid (I (L.take (k + 1)) w2) := i2
        clear i2 hg2 S X1 HR HI HG
        clear p0 p1 p2 p3 p4 p5 p6
        obtain ⟨p0, p1, p2, p3, p4, p5, p6⟩ := X2.out
        simp only [P7.id, P7.fr, P7.to, P7.am, P7.cl, P7.st, P7.ti] at p0 p1 p2 p3 p4 p5 p6
        go_wp2_with (at_builtin; refine wpList_append_pays rfl _ _ rfl w.heap.size v z _ rfl (O2.out.alloc _) (some ⟨w2.heap.size, 0, none⟩) 1 1 [(x0, x1, x2, x3, x4, x5, x6)] rfl (PGood.lit1 w2 (x0, x1, x2, x3, x4, x5, x6)) (by omega) (by rw [size_alloc]; have := G2.out.size; omega) ?_)
        intro v3 w3 ho3 hg3
        have O3 : Hid (w3.ownsRow w.heap.size 34 7 v3 (z + 1) (payL (sel K (L.take (k + 1))))) := by rw [← HE.out]; exact ho3
        have hb := fun j hj => (O2.out.lt j hj).1
        have G3 : Hid (w.grownBy w3 o) := G2.out.andThen ((World.grownBy_alloc w2 _ v.ownBlock).trans hg3) (fun j hj => .inl (hb j hj))
        have I3 : Hid (I (L.take (k + 1)) w3) := HI0.out _ _ _ _ hb I2.out ((World.grownBy_alloc w2 _ v.ownBlock).trans hg3)
        clear ho3 hg3 hb O2 G2 I2 X2 p0 p1 p2 p3 p4 p5 p6
        go_wp2
        go_roundw
        case rel => exact ⟨k + 1, z + 1, v3, by omega, by go_num, rfl, by omega, O3, I3, G3⟩
        case measure => simp [intOf]; omega
      | false =>
        rw [hr] at S
        have HE : Hid (sel K (L.take k) = sel K (L.take (k + 1))) := sel_no (by have := HN.out; omega) HX.out hr
        clear hr
        go_wp2_with fail
        go_at_call 27
        refine S.mono ?_
        rintro e w2 ⟨rfl, i2, hg2⟩
        have G2 : Hid (w.grownBy w2 o) := HG.out.andThen ((World.grownBy_alloc wr _ o).trans hg2) (fun j hj => .inr hj)
        have X2 : Hid (At7 w2 wr.heap.size 0 (x0, x1, x2, x3, x4, x5, x6)) := X1.out.grown hg2 (fun e => by have := HO.out _ e.symm; have := HG.out.size; omega)
        have O2 : Hid (w2.ownsRow w.heap.size 34 7 v z (payL (sel K (L.take k)))) := (HR.out.alloc _).kept hg2 (by
          cases hv : v.ownBlock with
          | none => exact .inl rfl
          | some j => exact .inr (fun e => by have := HO.out j e.symm; have := (HR.out.lt j hv).1; omega))
        have I2 : Hid (I (L.take (k + 1)) w2) := i2
        clear i2 hg2 S X1 HR HI HG
        have O3 : Hid (w2.ownsRow w.heap.size 34 7 v z (payL (sel K (L.take (k + 1))))) := by rw [← HE.out]; exact O2.out
        clear p0 p1 p2 p3 p4 p5 p6 O2 X2
        go_wp2
        go_roundw
        case rel => exact ⟨k + 1, z, v, by omega, by go_num, rfl, by omega, O3, I2, G2⟩
        case measure => simp [intOf]; omega
    · obtain rfl : k = n := by omega
      have HF : Hid (sel K (L.take k) = sel K L) := sel_all HN.out
      have HL : Hid (L.take k = L) := by show _ = _; rw [HN.out, List.take_length]
      clear H HS
      go_wp2
      go_ret
      have hr := HR.out
      have hi := HI.out
      rw [HF.out] at hr
      rw [HL.out] at hi
      have hzl : z = (sel K L).length := by have := hr.1; rw [payL_length] at this; omega
      rw [hzl] at hr
      exact ⟨⟨v, rfl, hr, HG.out⟩, hi⟩

set_option maxHeartbeats 4000000 in
theorem suchHeads (g1 g2 : Nat) (o : Option Nat) (K : List P7 → P7 → Bool) (I : List P7 → World → Prop) (a : Option Addr) (n c : Nat) (L : List P7) (w : World) (h : PGood w a n c L) (hm : n ≤ 100000)
    (ho : ∀ x, o = some x → x < w.heap.size) (ha : 0 < n → ∀ x, a = some x → some x.block ≠ o)
    (hI : ∀ A u u' r, (∀ x, r = some x → w.heap.size ≤ x) → I A u → u.grownBy u' r → I A u') (h0 : I [] w)
    (hs : ∀ k u, k < n → w.grownBy u o → I (L.take k) u → Calls Try.prog 28 #[(L.getD k p70).val, .pointer (some ⟨g1, 0, none⟩), .pointer (some ⟨g2, 0, none⟩)] u fun e u' => e = .returned (.bool (K (L.take k) (L.getD k p70))) ∧ I (L.take (k + 1)) u' ∧ u.grownBy u' o) :
    Calls Try.prog 22 #[.slice a n c, .func (.func 28) #[] #[.pointer (some ⟨g1, 0, none⟩), .pointer (some ⟨g2, 0, none⟩)]] w fun e w' => PMadeO o w (sel K L) e w' ∧ I L w' := by
  have H : Hid (PGood w a n c L) := h
  have HN : Hid (n = L.length) := h.len
  have HO : Hid (∀ x, o = some x → x < w.heap.size) := ho
  have HA : Hid (0 < n → ∀ x, a = some x → some x.block ≠ o) := ha
  have HI0 : Hid (∀ A u u' r, (∀ x, r = some x → w.heap.size ≤ x) → I A u → u.grownBy u' r → I A u') := hI
  have H0 : Hid (I [] w) := h0
  have HS : Hid (∀ k u, k < n → w.grownBy u o → I (L.take k) u → Calls Try.prog 28 #[(L.getD k p70).val, .pointer (some ⟨g1, 0, none⟩), .pointer (some ⟨g2, 0, none⟩)] u fun e u' => e = .returned (.bool (K (L.take k) (L.getD k p70))) ∧ I (L.take (k + 1)) u' ∧ u.grownBy u' o) := hs
  clear h ho ha hI h0 hs
  go_enter Try.func22, Try.ntmps22
  go_wp2
  go_loopw [5, 10] (fun tv i wr => ∃ (k z : Nat) (v : Value), k ≤ n ∧ i = .int .i64 k ∧ v = tv ∧ z ≤ k ∧ Hid (wr.ownsRow w.heap.size 34 7 v z (payL (sel K (L.take k)))) ∧ Hid (I (L.take k) wr) ∧ Hid (w.grownBy wr o)) (fun _ i _ => n - (intOf i).toNat)
  case atStart => exact ⟨0, 0, _, by omega, rfl, rfl, by omega, World.ownsRow_nil _ _ _ _, H0, World.grownBy.refl _ _⟩
  case round =>
    obtain ⟨k, z, v, hk, rfl, rfl, hz, HR, HI, HG⟩ := hrel
    by_cases hlt : k < n
    · obtain ⟨b, off, rfl, HC⟩ := H.out.at hlt
      have i1 : (k : Int) < (n : Int) := by omega
      have C0 := (HC k hlt).grown HG.out (HA.out (by omega) _ rfl)
      have S := HS.out k (wr.alloc (.cells #[.int .i64 (L.getD k p70).id, .int .i64 (L.getD k p70).fr, .int .i64 (L.getD k p70).to, .int .i64 (L.getD k p70).am, .int .i64 (L.getD k p70).cl, .int .i64 (L.getD k p70).st, .int .i64 (L.getD k p70).ti] 34)) hlt (HG.out.andThen (World.grownBy_alloc wr _ o) (fun j hj => .inr hj)) (HI0.out _ _ _ none (fun x hx => by cases hx) HI.out (World.grownBy_alloc wr _ none))
      obtain ⟨x, hx⟩ : ∃ x, L.getD k p70 = x := ⟨_, rfl⟩
      rw [hx] at C0 S
      obtain ⟨x0, x1, x2, x3, x4, x5, x6⟩ := x
      have X1 : Hid (At7 (wr.alloc (.cells #[.int .i64 x0, .int .i64 x1, .int .i64 x2, .int .i64 x3, .int .i64 x4, .int .i64 x5, .int .i64 x6] 34)) wr.heap.size 0 (x0, x1, x2, x3, x4, x5, x6)) := At7.new wr (x0, x1, x2, x3, x4, x5, x6) _ _
      have HX : Hid (L.getD k p70 = (x0, x1, x2, x3, x4, x5, x6)) := hx
      obtain ⟨p0, p1, p2, p3, p4, p5, p6⟩ := C0
      simp only [P7.id, P7.fr, P7.to, P7.am, P7.cl, P7.st, P7.ti] at p0 p1 p2 p3 p4 p5 p6
      clear HC hx H HS
      cases hr : K (L.take k) (x0, x1, x2, x3, x4, x5, x6) with
      | true =>
        rw [hr] at S
        have HE : Hid (sel K (L.take k) ++ [(x0, x1, x2, x3, x4, x5, x6)] = sel K (L.take (k + 1))) := sel_yes (by have := HN.out; omega) HX.out hr
        clear hr
        go_wp2_with fail
        go_at_call 28
        refine S.mono ?_
        rintro e w2 ⟨rfl, i2, hg2⟩
        have G2 : Hid (w.grownBy w2 o) := HG.out.andThen ((World.grownBy_alloc wr _ o).trans hg2) (fun j hj => .inr hj)
        have X2 : Hid (At7 w2 wr.heap.size 0 (x0, x1, x2, x3, x4, x5, x6)) := X1.out.grown hg2 (fun e => by have := HO.out _ e.symm; have := HG.out.size; omega)
        have O2 : Hid (w2.ownsRow w.heap.size 34 7 v z (payL (sel K (L.take k)))) := (HR.out.alloc _).kept hg2 (by
          cases hv : v.ownBlock with
          | none => exact .inl rfl
          | some j => exact .inr (fun e => by have := HO.out j e.symm; have := (HR.out.lt j hv).1; omega))
        have I2 : Hid (I (L.take (k + 1)) w2) := i2
        clear i2 hg2 S X1 HR HI HG
        clear p0 p1 p2 p3 p4 p5 p6
        obtain ⟨p0, p1, p2, p3, p4, p5, p6⟩ := X2.out
        simp only [P7.id, P7.fr, P7.to, P7.am, P7.cl, P7.st, P7.ti] at p0 p1 p2 p3 p4 p5 p6
        go_wp2_with (at_builtin; refine wpList_append_pays rfl _ _ rfl w.heap.size v z _ rfl (O2.out.alloc _) (some ⟨w2.heap.size, 0, none⟩) 1 1 [(x0, x1, x2, x3, x4, x5, x6)] rfl (PGood.lit1 w2 (x0, x1, x2, x3, x4, x5, x6)) (by omega) (by rw [size_alloc]; have := G2.out.size; omega) ?_)
        intro v3 w3 ho3 hg3
        have O3 : Hid (w3.ownsRow w.heap.size 34 7 v3 (z + 1) (payL (sel K (L.take (k + 1))))) := by rw [← HE.out]; exact ho3
        have hb := fun j hj => (O2.out.lt j hj).1
        have G3 : Hid (w.grownBy w3 o) := G2.out.andThen ((World.grownBy_alloc w2 _ v.ownBlock).trans hg3) (fun j hj => .inl (hb j hj))
        have I3 : Hid (I (L.take (k + 1)) w3) := HI0.out _ _ _ _ hb I2.out ((World.grownBy_alloc w2 _ v.ownBlock).trans hg3)
        clear ho3 hg3 hb O2 G2 I2 X2 p0 p1 p2 p3 p4 p5 p6
        go_wp2
        go_roundw
        case rel => exact ⟨k + 1, z + 1, v3, by omega, by go_num, rfl, by omega, O3, I3, G3⟩
        case measure => simp [intOf]; omega
      | false =>
        rw [hr] at S
        have HE : Hid (sel K (L.take k) = sel K (L.take (k + 1))) := sel_no (by have := HN.out; omega) HX.out hr
        clear hr
        go_wp2_with fail
        go_at_call 28
        refine S.mono ?_
        rintro e w2 ⟨rfl, i2, hg2⟩
        have G2 : Hid (w.grownBy w2 o) := HG.out.andThen ((World.grownBy_alloc wr _ o).trans hg2) (fun j hj => .inr hj)
        have X2 : Hid (At7 w2 wr.heap.size 0 (x0, x1, x2, x3, x4, x5, x6)) := X1.out.grown hg2 (fun e => by have := HO.out _ e.symm; have := HG.out.size; omega)
        have O2 : Hid (w2.ownsRow w.heap.size 34 7 v z (payL (sel K (L.take k)))) := (HR.out.alloc _).kept hg2 (by
          cases hv : v.ownBlock with
          | none => exact .inl rfl
          | some j => exact .inr (fun e => by have := HO.out j e.symm; have := (HR.out.lt j hv).1; omega))
        have I2 : Hid (I (L.take (k + 1)) w2) := i2
        clear i2 hg2 S X1 HR HI HG
        have O3 : Hid (w2.ownsRow w.heap.size 34 7 v z (payL (sel K (L.take (k + 1))))) := by rw [← HE.out]; exact O2.out
        clear p0 p1 p2 p3 p4 p5 p6 O2 X2
        go_wp2
        go_roundw
        case rel => exact ⟨k + 1, z, v, by omega, by go_num, rfl, by omega, O3, I2, G2⟩
        case measure => simp [intOf]; omega
    · obtain rfl : k = n := by omega
      have HF : Hid (sel K (L.take k) = sel K L) := sel_all HN.out
      have HL : Hid (L.take k = L) := by show _ = _; rw [HN.out, List.take_length]
      clear H HS
      go_wp2
      go_ret
      have hr := HR.out
      have hi := HI.out
      rw [HF.out] at hr
      rw [HL.out] at hi
      have hzl : z = (sel K L).length := by have := hr.1; rw [payL_length] at this; omega
      rw [hzl] at hr
      exact ⟨⟨v, rfl, hr, HG.out⟩, hi⟩

end Go.Proofs.Ytmfmdicdbjghkaa
