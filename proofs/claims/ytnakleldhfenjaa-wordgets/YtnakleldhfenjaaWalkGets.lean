/-
  The walk of girolaw2.WordGets: it answers true whatever the argument, and writes nothing that was there.
-/
import Derived.Test.YtnakleldhfenjaaWordAll
namespace Go.Proofs.Ytnakleldhfenjaa
open Go.RowKit
set_option linter.unusedVariables false
namespace Walk

set_option maxHeartbeats 400000 in
theorem gets_long (a : Option Addr) (len cap : Nat) (w : World) (h : 400 < len) (hm : len ≤ 9223372036854775807) :
    Calls Try.prog 4 #[.slice a len cap] w fun e w' => e = .returned (.bool true) ∧ Below w.heap.size w w' := by
  have h1 : (400 : Int) < (len : Int) := by omega
  go_enter Try.func4, Try.ntmps4
  go_wp2
  go_ret
  exact ⟨rfl, Below.refl _ _⟩

set_option maxHeartbeats 2000000 in
theorem gets_short (a : Option Addr) (len cap : Nat) (bs : List Int) (w : World) (h : Sl .u8 w a len bs) (hcap : len ≤ cap) (hmx : cap ≤ 9223372036854775807) (hl : len ≤ 400) :
    Calls Try.prog 4 #[.slice a len cap] w fun e w' => e = .returned (.bool true) ∧ Below w.heap.size w w' := by
  have h1 : (len : Int) ≤ 400 := by omega
  go_enter Try.func4, Try.ntmps4
  go_wp2_with fail
  refine (get_any a len cap bs w h hcap hmx (by omega)).mono ?_
  rintro e w1 ⟨a1, c1, rfl, S1, bel1⟩
  go_wp2_with fail
  refine (refGet_any a len cap bs w1 (h.below bel1) hcap hmx (by omega)).mono ?_
  rintro e w2 ⟨a2, c2, rfl, S2, bel2⟩
  have B2 := bel1.trans (bel2.mono bel1.size)
  go_wp2_with fail
  refine (next_all a len cap bs w2 (h.below B2) hcap hmx (by omega)).mono ?_
  rintro e w3 ⟨a3, c3, b3, d3, rfl, S3, T3, _, _, _, bel3⟩
  have B3 := B2.trans (bel3.mono B2.size)
  go_wp2_with fail
  refine (refNext_all a len cap bs w3 (h.below B3) hcap hmx (by omega)).mono ?_
  rintro e w4 ⟨a4, c4, b4, d4, rfl, S4, T4, _, _, _, bel4⟩
  have B4 := B3.trans (bel4.mono B3.size)
  have bel34 := bel3.trans (bel4.mono bel3.size)
  have bel24 := bel2.trans (bel34.mono bel2.size)
  have V1 := S1.below bel24
  have V2 := S2.below bel34
  have V3 := S3.below bel4
  have U3 := T3.below bel34
  have U4 := T4.below bel4
  have l1 := getS_len bs
  obtain ⟨l2, l3⟩ := nextT_len bs
  have l0 := h.1
  have Q1 := fun n => same_any a1 a2 _ _ c1 c2 _ _ (w4.drewN n) (V1.drew n) (V2.drew n) (by omega)
  have Q2 := fun n => same_any a3 a4 _ _ c3 c4 _ _ (w4.drewN n) (V3.drew n) (S4.drew n) (by omega)
  have x1 := fun n => (U3.drew n).text (P := Try.prog) (cap := d3) 23 9 5 Try.underlying23 Try.underlying5 Try.underlying9
  have x2 := fun n => (U4.drew n).text (P := Try.prog) (cap := d4) 23 9 5 Try.underlying23 Try.underlying5 Try.underlying9
  have HB : Hid (Below w.heap.size w w4) := B4
  simp only [decide_true] at Q1 Q2
  clear V1 V2 V3 U3 U4 S1 S2 S3 S4 T3 T4 bel1 bel2 bel3 bel4 B2 B3 B4 bel34 bel24 h l0 l1 l2 l3
  generalize (getS bs).1.length = n1 at *
  generalize (getS bs).2 = E at *
  generalize (nextT bs).1.length = n2 at *
  generalize (nextT bs).2.1.length = n3 at *
  generalize (nextT bs).2.2 = ok at *
  go_wp2_with fail
  refine (Q1 0).mono ?_
  rintro e w5 ⟨rfl, k5, rfl⟩
  go_wp2_with fail
  refine (Q2 _).mono ?_
  rintro e w6 ⟨rfl, k6, rfl⟩
  go_wp2_with (go_at_call 16; refine (known2_any _).mono ?_; rintro e w7 ⟨rfl, bel7⟩)
  go_ret
  exact ⟨rfl, (below_drewN HB.out _).trans (bel7.mono HB.out.size)⟩

theorem wordGets (a0 : Option Addr) (len0 cap0 : Nat) (z0 : List Int) (w : World) (w0 : IsRow .u8 w a0 len0 cap0 z0) :
    Calls Try.prog 4 #[.slice a0 len0 cap0] w fun e w' => e = .returned (.bool true) ∧ Below w.heap.size w w' := by
  obtain ⟨hS, hc, hm⟩ := w0.sl wf_u8'
  by_cases h : 400 < len0
  · exact gets_long a0 len0 cap0 w h (by omega)
  · exact gets_short a0 len0 cap0 _ w hS hc hm (by omega)

end Walk
end Go.Proofs.Ytnakleldhfenjaa
