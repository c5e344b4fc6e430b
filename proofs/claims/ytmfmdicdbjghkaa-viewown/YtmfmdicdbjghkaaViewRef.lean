/-
  giroref14.Ready, Of.
-/
import Derived.Test.YtmfmdicdbjghkaaViewSpec
import Derived.Test.YtmfmdicdbjghkaaPayRows
namespace Go.Proofs.Ytmfmdicdbjghkaa
open Go.RowKit
set_option linter.unusedVariables false
set_option linter.unusedSimpArgs false

set_option maxHeartbeats 4000000 in
theorem refVReady_any (a : Option Addr) (n c : Nat) (L : List P7) (t : Int) (w : World) (h : PGood w a n c L) (hm : n ≤ 100000) :
    Calls Try.prog 10 #[.slice a n c, .int .i64 t] w (PEnd w (vReady L t)) := by
  have H : Hid (PGood w a n c L) := h
  have HN : Hid (n = L.length) := h.len
  clear h
  go_enter Try.func10, Try.ntmps10
  go_wp2
  go_loopw [5, 6] (fun tv i wr => ∃ (k z : Nat) (v : Value), k ≤ n ∧ i = .int .i64 k ∧ v = tv ∧ z ≤ k ∧ Hid (wr.ownsRow w.heap.size 34 7 v z (payL (sel (readyK t) (L.take k)))) ∧ Hid (Below w.heap.size w wr)) (fun _ i _ => n - (intOf i).toNat)
  case atStart => exact ⟨0, 0, _, by omega, rfl, rfl, by omega, World.ownsRow_nil _ _ _ _, Below.refl _ _⟩
  case round =>
    obtain ⟨k, z, v, hk, rfl, rfl, hz, HO, HB⟩ := hrel
    by_cases hlt : k < n
    · obtain ⟨b, off, rfl, HC⟩ := H.out.at hlt
      have i1 : (k : Int) < (n : Int) := by omega
      obtain ⟨x, hx⟩ : ∃ x, L.getD k p70 = x := ⟨_, rfl⟩
      have C0 := HC k hlt
      rw [hx] at C0
      obtain ⟨x0, x1, x2, x3, x4, x5, x6⟩ := x
      have C : Hid (At7 w b (off + k * 7) (x0, x1, x2, x3, x4, x5, x6)) := C0
      have HX : Hid (L.getD k p70 = (x0, x1, x2, x3, x4, x5, x6)) := hx
      obtain ⟨p0, p1, p2, p3, p4, p5, p6⟩ := C.out.below HB.out
      simp only [P7.id, P7.fr, P7.to, P7.am, P7.cl, P7.st, P7.ti] at p0 p1 p2 p3 p4 p5 p6
      have R := refReady_any x0 x1 x2 x3 x4 x5 x6 t wr
      clear HC C0 hx H
      cases hr : readyB x5 x6 t with
      | true =>
        rw [hr] at R
        have HS : Hid (sel (readyK t) (L.take k) ++ [(x0, x1, x2, x3, x4, x5, x6)] = sel (readyK t) (L.take (k + 1))) := sel_yes (by have := HN.out; omega) HX.out hr
        clear hr
        go_wp2_with fail
        go_at_call 19
        refine R.mono ?_
        rintro e w1 ⟨rfl, hb⟩
        have B1 : Hid (Below w.heap.size w w1) := HB.out.trans (hb.mono HB.out.size)
        have O1 : Hid (w1.ownsRow w.heap.size 34 7 v z (payL (sel (readyK t) (L.take k)))) := own_below HO.out hb
        clear p0 p1 p2 p3 p4 p5 p6 R hb HO
        obtain ⟨p0, p1, p2, p3, p4, p5, p6⟩ := C.out.below B1.out
        simp only [P7.id, P7.fr, P7.to, P7.am, P7.cl, P7.st, P7.ti] at p0 p1 p2 p3 p4 p5 p6
        go_wp2_with (at_builtin; refine wpList_append_pays rfl _ _ rfl w.heap.size v z _ rfl (own_below O1.out (box_below _ _)) (some ⟨w1.heap.size, 0, none⟩) 1 1 [(x0, x1, x2, x3, x4, x5, x6)] rfl (PGood.lit1 w1 (x0, x1, x2, x3, x4, x5, x6)) (by omega) (by rw [size_alloc]; have := B1.out.size; omega) ?_)
        intro v2 w2 ho hg
        have O2 : Hid (w2.ownsRow w.heap.size 34 7 v2 (z + 1) (payL (sel (readyK t) (L.take (k + 1))))) := by rw [← HS.out]; exact ho
        have B2 : Hid (Below w.heap.size w w2) := (B1.out.alloc B1.out.size _).grown hg (by rw [size_alloc]; have := B1.out.size; omega) (fun j hj => (O1.out.lt j hj).1)
        clear ho hg O1 p0 p1 p2 p3 p4 p5 p6
        go_wp2
        go_roundw
        case rel => exact ⟨k + 1, z + 1, v2, by omega, by go_num, rfl, by omega, O2, B2⟩
        case measure => simp [intOf]; omega
      | false =>
        rw [hr] at R
        have HS : Hid (sel (readyK t) (L.take k) = sel (readyK t) (L.take (k + 1))) := sel_no (by have := HN.out; omega) HX.out hr
        clear hr
        go_wp2_with fail
        go_at_call 19
        refine R.mono ?_
        rintro e w1 ⟨rfl, hb⟩
        have B1 : Hid (Below w.heap.size w w1) := HB.out.trans (hb.mono HB.out.size)
        have O1 : Hid (w1.ownsRow w.heap.size 34 7 v z (payL (sel (readyK t) (L.take (k + 1))))) := by rw [← HS.out]; exact own_below HO.out hb
        clear p0 p1 p2 p3 p4 p5 p6 R hb HO
        go_wp2
        go_roundw
        case rel => exact ⟨k + 1, z, v, by omega, by go_num, rfl, by omega, O1, B1⟩
        case measure => simp [intOf]; omega
    · obtain rfl : k = n := by omega
      have HF : Hid (sel (readyK t) (L.take k) = vReady L t) := sel_all HN.out
      clear H
      go_wp2
      go_ret
      have := HO.out
      rw [HF.out] at this
      obtain ⟨a2, c2, hv, g, hnew⟩ := PGood.own this
      subst hv
      exact ⟨a2, c2, rfl, g, hnew, HB.out⟩

set_option maxHeartbeats 4000000 in
theorem refVOf_any (a : Option Addr) (n c : Nat) (L : List P7) (f : Int) (w : World) (h : PGood w a n c L) (hm : n ≤ 100000) :
    Calls Try.prog 12 #[.slice a n c, .int .i64 f] w (PEnd w (vOf L f)) := by
  have H : Hid (PGood w a n c L) := h
  have HN : Hid (n = L.length) := h.len
  clear h
  go_enter Try.func12, Try.ntmps12
  go_wp2
  go_loopw [5, 6] (fun tv i wr => ∃ (k z : Nat) (v : Value), k ≤ n ∧ i = .int .i64 k ∧ v = tv ∧ z ≤ k ∧ Hid (wr.ownsRow w.heap.size 34 7 v z (payL (sel (ofK f) (L.take k)))) ∧ Hid (Below w.heap.size w wr)) (fun _ i _ => n - (intOf i).toNat)
  case atStart => exact ⟨0, 0, _, by omega, rfl, rfl, by omega, World.ownsRow_nil _ _ _ _, Below.refl _ _⟩
  case round =>
    obtain ⟨k, z, v, hk, rfl, rfl, hz, HO, HB⟩ := hrel
    by_cases hlt : k < n
    · obtain ⟨b, off, rfl, HC⟩ := H.out.at hlt
      have i1 : (k : Int) < (n : Int) := by omega
      obtain ⟨x, hx⟩ : ∃ x, L.getD k p70 = x := ⟨_, rfl⟩
      have C0 := HC k hlt
      rw [hx] at C0
      obtain ⟨x0, x1, x2, x3, x4, x5, x6⟩ := x
      have C : Hid (At7 w b (off + k * 7) (x0, x1, x2, x3, x4, x5, x6)) := C0
      have HX : Hid (L.getD k p70 = (x0, x1, x2, x3, x4, x5, x6)) := hx
      obtain ⟨p0, p1, p2, p3, p4, p5, p6⟩ := C.out.below HB.out
      simp only [P7.id, P7.fr, P7.to, P7.am, P7.cl, P7.st, P7.ti] at p0 p1 p2 p3 p4 p5 p6
      clear HC C0 hx H
      cases hr : (x1 == f) with
      | true =>
        have HS : Hid (sel (ofK f) (L.take k) ++ [(x0, x1, x2, x3, x4, x5, x6)] = sel (ofK f) (L.take (k + 1))) := sel_yes (by have := HN.out; omega) HX.out hr
        go_wp2_with (at_builtin; refine wpList_append_pays rfl _ _ rfl w.heap.size v z _ rfl (own_below HO.out (box_below _ _)) (some ⟨wr.heap.size, 0, none⟩) 1 1 [(x0, x1, x2, x3, x4, x5, x6)] rfl (PGood.lit1 wr (x0, x1, x2, x3, x4, x5, x6)) (by omega) (by rw [size_alloc]; have := HB.out.size; omega) ?_)
        intro v2 w2 ho hg
        have O2 : Hid (w2.ownsRow w.heap.size 34 7 v2 (z + 1) (payL (sel (ofK f) (L.take (k + 1))))) := by rw [← HS.out]; exact ho
        have B2 : Hid (Below w.heap.size w w2) := (HB.out.alloc HB.out.size _).grown hg (by rw [size_alloc]; have := HB.out.size; omega) (fun j hj => (HO.out.lt j hj).1)
        clear ho hg HO p0 p1 p2 p3 p4 p5 p6
        go_wp2
        go_roundw
        case rel => exact ⟨k + 1, z + 1, v2, by omega, by go_num, rfl, by omega, O2, B2⟩
        case measure => simp [intOf]; omega
      | false =>
        have HS : Hid (sel (ofK f) (L.take k) = sel (ofK f) (L.take (k + 1))) := sel_no (by have := HN.out; omega) HX.out hr
        have O1 : Hid (wr.ownsRow w.heap.size 34 7 v z (payL (sel (ofK f) (L.take (k + 1))))) := by rw [← HS.out]; exact HO.out
        clear HO
        go_wp2
        go_roundw
        case rel => exact ⟨k + 1, z, v, by omega, by go_num, rfl, by omega, O1, HB⟩
        case measure => simp [intOf]; omega
    · obtain rfl : k = n := by omega
      have HF : Hid (sel (ofK f) (L.take k) = vOf L f) := sel_all HN.out
      clear H
      go_wp2
      go_ret
      have := HO.out
      rw [HF.out] at this
      obtain ⟨a2, c2, hv, g, hnew⟩ := PGood.own this
      subst hv
      exact ⟨a2, c2, rfl, g, hnew, HB.out⟩

end Go.Proofs.Ytmfmdicdbjghkaa
