/-
  girolaw5.RecPuts.
-/
import Derived.Test.YtjonnheamhlibaaKnown5
import Derived.Test.YtjonnheamhlibaaArgs
namespace Go.Proofs.Ytjonnheamhlibaa
open Go.RowKit
set_option linter.unusedVariables false
set_option linter.unusedSimpArgs false

theorem puts_main (a0 : Option Addr) (L cap0 : Nat) (z : List Int) (w : World) (hS : Sl .u8 w a0 L z) (hn : a0 = none → cap0 = 0) (hc : L ≤ cap0) (hm : cap0 ≤ 9223372036854775807) (h1 : L ≤ 1000) :
    Calls Try.prog 3 #[.slice a0 L cap0] w fun e w' => e = .returned (.bool true) ∧ Below w.heap.size w w' := by
  have HS : Hid (Sl .u8 w a0 L z ∧ (a0 = none → cap0 = 0)) := ⟨hS, hn⟩
  have HB : Hid (Bs (recS z)) := recS_bs hS.2.1 (by have := hS.1; omega)
  have HL : Hid ((recS z).length = L + 2) := by show _ = _; rw [recS_length, hS.1]
  have i1 : (L : Int) ≤ 1000 := by omega
  clear hS hn
  go_enter Try.func3, Try.ntmps3
  go_wp2_with fail
  go_at_call 7
  refine (rec_put a0 L cap0 z w HS.out.1 HS.out.2 (by omega)).mono ?_
  rintro e w1 ⟨v1, rfl, o1, b1⟩
  go_wp2_with fail
  go_at_call 8
  refine (ref_put a0 L cap0 z w1 (HS.out.1.below b1) HS.out.2 (by omega)).mono ?_
  rintro e w2 ⟨v2, rfl, o2, b2⟩
  have B2 : Below w.heap.size w w2 := b1.trans (b2.mono b1.size)
  go_wp2_with fail
  go_at_call 9
  refine (rec_scan a0 L cap0 z w2 (HS.out.1.below B2) hc hm HS.out.2 (by omega)).mono ?_
  rintro e w3 ⟨v3, vs3, rfl, m3, b3⟩
  have B3 : Below w.heap.size w w3 := B2.trans (b3.mono B2.size)
  go_wp2_with fail
  go_at_call 10
  refine (ref_scan a0 L cap0 z w3 (HS.out.1.below B3) hc hm HS.out.2 (by omega)).mono ?_
  rintro e w4 ⟨v4, vs4, rfl, m4, b4⟩
  have B4 : Hid (Below w.heap.size w w4) := B3.trans (b4.mono B3.size)
  have K : Hid (Below w1.heap.size w1 w4 ∧ Below w2.heap.size w2 w4 ∧ Below w3.heap.size w3 w4) := ⟨b2.trans ((b3.trans (b4.mono b3.size)).mono b2.size), b3.trans (b4.mono b3.size), b4⟩
  obtain ⟨x1, c1, rfl⟩ := own_form o1
  obtain ⟨x2, c2, rfl⟩ := own_form o2
  obtain ⟨x3, c3, rfl⟩ := own_form m3.own
  obtain ⟨x4, c4, rfl⟩ := own_form m4.own
  have T1 : Hid (Sl .u8 w1 x1 (L + 2) (recS z)) := by
    have o := o1
    rw [← HL.out] at o
    obtain ⟨a, c, hv, hs, _⟩ := Sl.own o HB.out
    simp at hv
    rw [HL.out] at hs
    rw [hv.1]
    exact hs
  have T2 : Hid (Sl .u8 w2 x2 (L + 2) (recS z)) := by
    have o := o2
    rw [← HL.out] at o
    obtain ⟨a, c, hv, hs, _⟩ := Sl.own o HB.out
    simp at hv
    rw [HL.out] at hs
    rw [hv.1]
    exact hs
  have t1 := (T1.out.below K.out.1).text (P := Try.prog) (cap := c1) 22 9 5 Try.underlying22 Try.underlying5 Try.underlying9
  have t2 := (T2.out.below K.out.2.1).text (P := Try.prog) (cap := c2) 22 9 5 Try.underlying22 Try.underlying5 Try.underlying9
  have hlen : (scanS z).1.length ≤ 1000000 := by have := scanS_count z.length z (Nat.le_refl _); have := HS.out.1.1; omega
  have N := ref_same x3 _ c3 (scanS z).1 x4 _ c4 (scanS z).1 w4 (m3.read.below K.out.2.2) m4.read hlen hlen
  rw [decide_eq_true rfl] at N
  obtain ⟨q, hq⟩ : ∃ q, (scanS z).1.length = q := ⟨_, rfl⟩
  obtain ⟨r, hr⟩ : ∃ r, (scanS z).2 = r := ⟨_, rfl⟩
  rw [hq] at N
  rw [hq, hr]
  clear hq hr hlen o1 o2 m3 m4 b1 b2 b3 b4 T1 T2 B2 B3
  go_wp2_with fail
  go_at_call 11
  refine N.mono ?_
  rintro e w5 ⟨rfl, b5⟩
  have B5 : Hid (Below w.heap.size w w5) := B4.out.trans (b5.mono B4.out.size)
  clear b5
  go_wp2_with fail
  go_at_call 12
  refine (known_true w5).mono ?_
  rintro e w6 ⟨rfl, b6⟩
  go_wp2
  go_ret
  exact ⟨rfl, B5.out.trans (b6.mono B5.out.size)⟩

theorem Walk.recPuts (a0 : Option Addr) (len0 cap0 : Nat) (z0 : List Int) (w : World) (w0 : Walk.IsRow .u8 w a0 len0 cap0 z0) :
    Calls Try.prog 3 #[.slice a0 len0 cap0] w fun e w' => e = .returned (.bool true) ∧ Below w.heap.size w w' := by
  obtain ⟨hS, hc, hm⟩ := w0.sl Walk.wf_u8'
  by_cases h1 : (1000 : Int) < len0
  · go_enter Try.func3, Try.ntmps3
    go_wp2
    go_ret
    exact ⟨rfl, Below.refl _ _⟩
  exact puts_main a0 len0 cap0 _ w hS w0.none hc hm (by omega)

end Go.Proofs.Ytjonnheamhlibaa
