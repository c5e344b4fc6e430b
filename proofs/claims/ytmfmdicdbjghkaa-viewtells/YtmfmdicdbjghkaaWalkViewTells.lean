/-
  The walk of ViewTells.
-/
import Derived.Test.YtmfmdicdbjghkaaKnown14
import Derived.Test.YtmfmdicdbjghkaaViewRefMay
import Derived.Test.YtmfmdicdbjghkaaRowRefIs
import Derived.Test.YtmfmdicdbjghkaaPaysGood
import Derived.Test.YtmfmdicdbjghkaaArgs
namespace Go.Proofs.Ytmfmdicdbjghkaa
open Go.RowKit
set_option linter.unusedVariables false
set_option linter.unusedSimpArgs false
theorem PaysIn.fr {w : World} {a : Option Addr} {n c : Nat} {L : List P7} (h : PaysIn w a n c L) : FrOk L := fun p hp => Walk.wf_i64' _ (h.2.1 p hp).2.1
namespace Walk

theorem viewTells_out (a am : Option Addr) (n c nm cm : Nat) (t f : Int) (w : World) (h : 60 < n ∨ 10 < nm) : Calls Try.prog 3 #[.slice a n c, .int .i64 t, .int .i64 f, .slice am nm cm] w fun e w' => e = .returned (.bool true) ∧ Below w.heap.size w w' := by
  by_cases h0 : 60 < n
  · have h1 : (60 : Int) < (n : Int) := by omega
    clear h h0
    go_enter Try.func3, Try.ntmps3
    go_wp2
    go_ret
    exact ⟨rfl, Below.refl _ _⟩
  · have h1 : (n : Int) ≤ 60 := by omega
    have h2 : (10 : Int) < (nm : Int) := by omega
    clear h h0
    go_enter Try.func3, Try.ntmps3
    go_wp2
    go_ret
    exact ⟨rfl, Below.refl _ _⟩

theorem viewTells_no (a am : Option Addr) (n c nm cm : Nat) (L : List P7) (t f : Int) (w : World) (h : PGood w a n c L) (h1 : n ≤ 60) (h2 : nm ≤ 10) (hq : qIs L = false) : Calls Try.prog 3 #[.slice a n c, .int .i64 t, .int .i64 f, .slice am nm cm] w fun e w' => e = .returned (.bool true) ∧ Below w.heap.size w w' := by
  have I := refIs_any7 a n c L w h (by omega)
  rw [hq] at I
  have a1 : (n : Int) ≤ 60 := by omega
  have a2 : (nm : Int) ≤ 10 := by omega
  clear h hq h1 h2
  go_enter Try.func3, Try.ntmps3
  go_wp2_with fail
  go_at_call 7
  refine I.mono ?_
  rintro e w1 ⟨rfl, hb⟩
  have B1 : Hid (Below w.heap.size w w1) := hb
  clear hb I
  go_wp2
  go_ret
  exact ⟨rfl, B1.out⟩

set_option maxHeartbeats 4000000 in
set_option maxRecDepth 100000 in
theorem viewTells_yes (a am : Option Addr) (n c nm cm : Nat) (L : List P7) (M : List Int) (t f : Int) (w : World) (h : PGood w a n c L) (hM : Sl .i64 w am nm M) (h1 : n ≤ 60) (h2 : nm ≤ 10) (hq : Que L) (hf : FrOk L) : Calls Try.prog 3 #[.slice a n c, .int .i64 t, .int .i64 f, .slice am nm cm] w fun e w' => e = .returned (.bool true) ∧ Below w.heap.size w w' := by
  have I := refIs_any7 a n c L w h (by omega)
  rw [qIs_iff.2 hq] at I
  have a1 : (n : Int) ≤ 60 := by omega
  have a2 : (nm : Int) ≤ 10 := by omega
  have H0 : Hid (PGood w a n c L) := h
  have HM0 : Hid (Sl .i64 w am nm M) := hM
  have HQ : Hid (L.Pairwise QR) := hq.2
  have HF : Hid (FrOk L) := hf
  have HN : Hid (n ≤ 100000 ∧ nm ≤ 1000000) := ⟨by omega, by omega⟩
  clear h hM hq hf h1 h2
  go_enter Try.func3, Try.ntmps3
  go_wp2_with fail
  go_at_call 7
  refine I.mono ?_
  rintro e w1 ⟨rfl, hb⟩
  have B1 : Hid (Below w.heap.size w w1) := hb
  have H : Hid (PGood w1 a n c L) := H0.out.below hb
  have HM : Hid (Sl .i64 w1 am nm M) := HM0.out.below hb
  have HN1 := HN.out.1
  have HN2 := HN.out.2
  have P0 := fun u (hb : Below w1.heap.size w1 u) => viewReady_any a n c L t u (H.out.below hb) HN1
  have Q0 := fun u (hb : Below w1.heap.size w1 u) => refVReady_any a n c L t u (H.out.below hb) HN1
  obtain ⟨l0, hl0⟩ : ∃ x, vReady L t = x := ⟨_, rfl⟩
  obtain ⟨m0, hm0⟩ : ∃ x, l0.length = x := ⟨_, rfl⟩
  unfold PEnd at P0 Q0
  simp only [hl0, hm0] at P0 Q0
  clear hl0 hm0
  have P1 := fun u (hb : Below w1.heap.size w1 u) => viewOf_any a n c L f u (H.out.below hb) HN1
  have Q1 := fun u (hb : Below w1.heap.size w1 u) => refVOf_any a n c L f u (H.out.below hb) HN1
  obtain ⟨l1, hl1⟩ : ∃ x, vOf L f = x := ⟨_, rfl⟩
  obtain ⟨m1, hm1⟩ : ∃ x, l1.length = x := ⟨_, rfl⟩
  unfold PEnd at P1 Q1
  simp only [hl1, hm1] at P1 Q1
  clear hl1 hm1
  have P2 := fun u (hb : Below w1.heap.size w1 u) => viewMay_any a n c L t u (H.out.below hb) HN1 HF.out
  have Q2 := fun u (hb : Below w1.heap.size w1 u) => refVMay_any a n c L t u (H.out.below hb) HN1 HQ.out
  obtain ⟨l2, hl2⟩ : ∃ x, vMay L t = x := ⟨_, rfl⟩
  obtain ⟨m2, hm2⟩ : ∃ x, l2.length = x := ⟨_, rfl⟩
  unfold PEnd at P2 Q2
  simp only [hl2, hm2] at P2 Q2
  clear hl2 hm2
  have P3 := fun u (hb : Below w1.heap.size w1 u) => viewHeads_any a am n c nm cm L M u (H.out.below hb) (HM.out.below hb) HN1 HN2
  have Q3 := fun u (hb : Below w1.heap.size w1 u) => refVHeads_any a am n c nm cm L M u (H.out.below hb) (HM.out.below hb) HN1 HN2
  obtain ⟨l3, hl3⟩ : ∃ x, vHeads L M = x := ⟨_, rfl⟩
  obtain ⟨m3, hm3⟩ : ∃ x, l3.length = x := ⟨_, rfl⟩
  unfold PEnd at P3 Q3
  simp only [hl3, hm3] at P3 Q3
  clear hl3 hm3
  have B0 : Hid (Below w1.heap.size w1 w1) := Below.refl _ _
  clear hb I H0 HM0 HQ HF HN HN1 HN2 H HM
  go_wp2_with fail
  go_at_call 9
  refine (P0 _ B0.out).mono ?_
  rintro e wa0 ⟨aa0, ca0, rfl, g, -, hb⟩
  have BA0 : Hid (Below w1.heap.size w1 wa0) := B0.out.trans (hb.mono B0.out.size)
  have G0 : Hid (PGood wa0 aa0 m0 ca0 l0) := g
  clear g hb P0 B0
  go_wp2_with fail
  go_at_call 10
  refine (Q0 _ BA0.out).mono ?_
  rintro e wb0 ⟨ab0, cb0, rfl, g, -, hb⟩
  have BB0 : Hid (Below w1.heap.size w1 wb0) := BA0.out.trans (hb.mono BA0.out.size)
  have S0 := same_true aa0 ab0 m0 m0 ca0 cb0 l0 wb0 (G0.out.below hb) g
  clear g hb Q0 G0 BA0
  go_wp2_with fail
  go_at_call 8
  refine S0.mono ?_
  rintro e wc0 ⟨rfl, hb⟩
  have BC0 : Hid (Below w1.heap.size w1 wc0) := BB0.out.trans (hb.mono BB0.out.size)
  clear hb S0 BB0
  go_wp2_with fail
  go_at_call 11
  refine (P1 _ BC0.out).mono ?_
  rintro e wa1 ⟨aa1, ca1, rfl, g, -, hb⟩
  have BA1 : Hid (Below w1.heap.size w1 wa1) := BC0.out.trans (hb.mono BC0.out.size)
  have G1 : Hid (PGood wa1 aa1 m1 ca1 l1) := g
  clear g hb P1 BC0
  go_wp2_with fail
  go_at_call 12
  refine (Q1 _ BA1.out).mono ?_
  rintro e wb1 ⟨ab1, cb1, rfl, g, -, hb⟩
  have BB1 : Hid (Below w1.heap.size w1 wb1) := BA1.out.trans (hb.mono BA1.out.size)
  have S1 := same_true aa1 ab1 m1 m1 ca1 cb1 l1 wb1 (G1.out.below hb) g
  clear g hb Q1 G1 BA1
  go_wp2_with fail
  go_at_call 8
  refine S1.mono ?_
  rintro e wc1 ⟨rfl, hb⟩
  have BC1 : Hid (Below w1.heap.size w1 wc1) := BB1.out.trans (hb.mono BB1.out.size)
  clear hb S1 BB1
  go_wp2_with fail
  go_at_call 13
  refine (P2 _ BC1.out).mono ?_
  rintro e wa2 ⟨aa2, ca2, rfl, g, -, hb⟩
  have BA2 : Hid (Below w1.heap.size w1 wa2) := BC1.out.trans (hb.mono BC1.out.size)
  have G2 : Hid (PGood wa2 aa2 m2 ca2 l2) := g
  clear g hb P2 BC1
  go_wp2_with fail
  go_at_call 14
  refine (Q2 _ BA2.out).mono ?_
  rintro e wb2 ⟨ab2, cb2, rfl, g, -, hb⟩
  have BB2 : Hid (Below w1.heap.size w1 wb2) := BA2.out.trans (hb.mono BA2.out.size)
  have S2 := same_true aa2 ab2 m2 m2 ca2 cb2 l2 wb2 (G2.out.below hb) g
  clear g hb Q2 G2 BA2
  go_wp2_with fail
  go_at_call 8
  refine S2.mono ?_
  rintro e wc2 ⟨rfl, hb⟩
  have BC2 : Hid (Below w1.heap.size w1 wc2) := BB2.out.trans (hb.mono BB2.out.size)
  clear hb S2 BB2
  go_wp2_with fail
  go_at_call 15
  refine (P3 _ BC2.out).mono ?_
  rintro e wa3 ⟨aa3, ca3, rfl, g, -, hb⟩
  have BA3 : Hid (Below w1.heap.size w1 wa3) := BC2.out.trans (hb.mono BC2.out.size)
  have G3 : Hid (PGood wa3 aa3 m3 ca3 l3) := g
  clear g hb P3 BC2
  go_wp2_with fail
  go_at_call 16
  refine (Q3 _ BA3.out).mono ?_
  rintro e wb3 ⟨ab3, cb3, rfl, g, -, hb⟩
  have BB3 : Hid (Below w1.heap.size w1 wb3) := BA3.out.trans (hb.mono BA3.out.size)
  have S3 := same_true aa3 ab3 m3 m3 ca3 cb3 l3 wb3 (G3.out.below hb) g
  clear g hb Q3 G3 BA3
  go_wp2_with fail
  go_at_call 8
  refine S3.mono ?_
  rintro e wc3 ⟨rfl, hb⟩
  have BC3 : Hid (Below w1.heap.size w1 wc3) := BB3.out.trans (hb.mono BB3.out.size)
  clear hb S3 BB3
  go_wp2_with fail
  go_at_call 17
  refine (known14 _).mono ?_
  rintro e w9 ⟨rfl, hb⟩
  have B9 : Hid (Below w.heap.size w w9) := B1.out.trans ((BC3.out.trans (hb.mono BC3.out.size)).mono B1.out.size)
  clear hb
  go_wp2
  go_ret
  exact ⟨rfl, B9.out⟩

theorem viewTells (a : Option Addr) (n c : Nat) (L : List P7) (t f : Int) (am : Option Addr) (nm cm : Nat) (Z : List Int) (w : World) (h : PaysIn w a n c L) (w1 : (Lit.int .i64 t).wf = true) (w2 : (Lit.int .i64 f).wf = true) (hz : IsRow .i64 w am nm cm Z) : Calls Try.prog 3 #[.slice a n c, .int .i64 t, .int .i64 f, .slice am nm cm] w fun e w' => e = .returned (.bool true) ∧ Below w.heap.size w w' := by
  by_cases ho : 60 < n ∨ 10 < nm
  · exact viewTells_out a am n c nm cm t f w ho
  · cases hq : qIs L with
    | false => exact viewTells_no a am n c nm cm L t f w h.good (by omega) (by omega) hq
    | true => exact viewTells_yes a am n c nm cm L _ t f w h.good (hz.sl wf_i64').1 (by omega) (by omega) (qIs_iff.1 hq) h.fr

end Walk
end Go.Proofs.Ytmfmdicdbjghkaa
