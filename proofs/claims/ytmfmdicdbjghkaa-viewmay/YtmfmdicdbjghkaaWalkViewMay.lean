/-
  The walk of ViewMay.
-/
import Derived.Test.YtmfmdicdbjghkaaKnown14
import Derived.Test.YtmfmdicdbjghkaaViewPure
import Derived.Test.YtmfmdicdbjghkaaPaysGood
namespace Go.Proofs.Ytmfmdicdbjghkaa
open Go.RowKit
set_option linter.unusedVariables false
set_option linter.unusedSimpArgs false
namespace Walk

theorem viewMay_out (a : Option Addr) (n c : Nat) (t : Int) (w : World) (h : 40 < n) : Calls Try.prog 4 #[.slice a n c, .int .i64 t] w fun e w' => e = .returned (.bool true) ∧ Below w.heap.size w w' := by
  have h1 : (40 : Int) < (n : Int) := by omega
  clear h
  go_enter Try.func4, Try.ntmps4
  go_wp2
  go_ret
  exact ⟨rfl, Below.refl _ _⟩

set_option maxHeartbeats 8000000 in
set_option maxRecDepth 100000 in
theorem viewMay_in (a : Option Addr) (n c : Nat) (L : List P7) (t : Int) (w : World) (h : PGood w a n c L) (h1 : n ≤ 40) : Calls Try.prog 4 #[.slice a n c, .int .i64 t] w fun e w' => e = .returned (.bool true) ∧ Below w.heap.size w w' := by
  have W := rowed_any a n c L w h (by omega)
  obtain ⟨hq, hrl, hrp⟩ := rowed_ok (L := L) (by have := h.len; omega)
  rw [← h.len] at hrl
  obtain ⟨r, hr⟩ : ∃ r, rowedL L = r := ⟨_, rfl⟩
  unfold PGot at W
  rw [hr] at W hq hrl hrp
  rw [hrl] at W
  have hfr := RowedP.fr_ok hrp
  have hcl : ∀ p ∈ vReady r t, p.cl ≤ 3 := fun p hp => (hrp p (selA_mem hp)).2.2.2.2.2.1.2
  have hqr := que_ready hq.2 t
  have MP := fun f => may_parts hqr hcl f
  have hms : (vMay r t).Sublist r := (sel_sublist _ _).trans (sel_sublist _ _)
  have RI := fun i hi h0 => rising_of (m := vMay r t) hq.2 hms (i := i) hi h0
  have RD := fun p hp => may_ready (r := r) (t := t) (p := p) hp
  have hml : (vMay r t).length ≤ n := by have := hms.length_le; omega
  have M1 := fun u a' c' (g : PGood u a' n c' r) => viewMay_any a' n c' r t u g (by omega) hfr
  have Y1 := fun u a' c' (g : PGood u a' n c' r) => refVReady_any a' n c' r t u g (by omega)
  have FD := fun u a' c' x (g : PGood u a' n c' r) => (refFind_any a' n c' x r u (by omega) g.pays).mono fun e w' (h : e = .returned (.int .i64 (qFind r x)) ∧ w' = u) => (⟨h.1, by rw [h.2]; exact Below.refl _ _⟩ : e = .returned (.int .i64 (qFind r x)) ∧ Below u.heap.size u w')
  have hsel : sel (mayK (vReady r t)) (vReady r t) = vMay r t := rfl
  rw [hsel] at MP
  have hyl : (vReady r t).length ≤ n := by have := sel_len (readyK t) r; have e : (sel (readyK t) r) = vReady r t := rfl; rw [e] at this; omega
  obtain ⟨m, hm⟩ : ∃ m, vMay r t = m := ⟨_, rfl⟩
  obtain ⟨y, hy⟩ : ∃ y, vReady r t = y := ⟨_, rfl⟩
  rw [hm] at MP RI RD hml
  rw [hy] at MP hyl
  unfold PEnd at M1 Y1
  obtain ⟨lm, hlm⟩ : ∃ lm, m.length = lm := ⟨_, rfl⟩
  obtain ⟨ly, hly⟩ : ∃ ly, y.length = ly := ⟨_, rfl⟩
  simp only [hm, hlm] at M1
  simp only [hy, hly] at Y1
  rw [hlm] at hml RI
  rw [hly] at hyl
  have O1 := fun u a' c' f (g : PGood u a' ly c' y) => refVOf_any a' ly c' y f u g (by omega)
  have O2 := fun u a' c' f (g : PGood u a' lm c' m) => refVOf_any a' lm c' m f u g (by omega)
  unfold PEnd at O1 O2
  have HMP : Hid _ := MP
  have HRI : Hid _ := RI
  have HRD : Hid _ := RD
  have HLM : Hid (m.length = lm) := hlm
  have HYL : Hid (ly ≤ 40 ∧ lm ≤ 40) := ⟨by omega, by omega⟩
  have a1 : (n : Int) ≤ 40 := by omega
  clear h hq hrl hrp hr hfr hcl hqr MP hms RI RD hml hyl hsel hm hy hlm hly h1
  go_enter Try.func4, Try.ntmps4
  go_wp2_with fail
  go_at_call 18
  refine W.mono ?_
  rintro e w1 ⟨ar, cr, rfl, gr, hb⟩
  have B1 : Hid (Below w.heap.size w w1) := hb
  have GR1 : Hid (PGood w1 ar n cr r) := gr
  have M1' := M1 w1 ar cr gr
  clear hb W gr M1
  go_wp2_with fail
  go_at_call 13
  refine M1'.mono ?_
  rintro e w2 ⟨am, cm, rfl, gm, -, hb⟩
  have B2 : Hid (Below w.heap.size w w2) := B1.out.trans (hb.mono B1.out.size)
  have GR : Hid (PGood w2 ar n cr r) := GR1.out.below hb
  have GM : Hid (PGood w2 am lm cm m) := gm
  clear hb M1' GR1 gm B1
  go_wp2
  go_loopw [7] (fun i wr => ∃ k : Nat, k ≤ 3 ∧ i = .int .i64 k ∧ Hid (Below w2.heap.size w2 wr)) (fun i _ => 3 - (intOf i).toNat)
  case atStart => exact ⟨0, by omega, rfl, Below.refl _ _⟩
  case round =>
    obtain ⟨k, hk, rfl, HB⟩ := hrel
    by_cases hlt : k < 3
    · have i1 : (k : Int) < 3 := by omega
      have Y := Y1 wr ar cr (GR.out.below HB.out)
      have O1' := fun u a' c' => O1 u a' c' (k : Int)
      have O2' := fun u a' c' => O2 u a' c' (k : Int)
      clear Y1 O1 O2 FD
      rcases HMP.out (k : Int) with ⟨h1, h2⟩ | ⟨x, AA, BB, h1, h2, h3, h4⟩
      · simp only [h1, List.length_nil] at O1'
        simp only [h2, List.length_nil] at O2'
        clear h1 h2
        go_wp2_with fail
        go_at_call 10
        refine Y.mono ?_
        rintro e w3 ⟨a3, c3, rfl, g3, -, hb⟩
        have B3 : Hid (Below w2.heap.size w2 w3) := HB.out.trans (hb.mono HB.out.size)
        have O3 := O1' w3 a3 c3 g3
        clear Y g3 hb O1' HB
        go_wp2_with fail
        go_at_call 12
        refine O3.mono ?_
        rintro e w4 ⟨a4, c4, rfl, g4, -, hb⟩
        have B4 : Hid (Below w2.heap.size w2 w4) := B3.out.trans (hb.mono B3.out.size)
        have G4 : Hid (PGood w4 a4 0 c4 []) := g4
        have O4 := O2' w4 am cm (GM.out.below B4.out)
        clear g4 hb O3 O2' B3
        go_wp2_with fail
        go_at_call 12
        refine O4.mono ?_
        rintro e w5 ⟨a5, c5, rfl, g5, -, hb⟩
        have B5 : Hid (Below w2.heap.size w2 w5) := B4.out.trans (hb.mono B4.out.size)
        have G4' : Hid (PGood w5 a4 0 c4 []) := G4.out.below hb
        have G5 : Hid (PGood w5 a5 0 c5 []) := g5
        clear g5 hb O4 B4 G4
        have B6 : Hid (∀ q, Below w2.heap.size w2 (w5.drewN q)) := fun q => B5.out.trans ((drawn_below _ _).mono B5.out.size)
        clear G4' G5 B5
        go_wp2
        go_quiet (fail)
        go_wp2
        go_roundw
        case rel => exact ⟨k + 1, by omega, by go_num, B6.out _⟩
        case measure => simp [intOf]; omega
      · by_cases hc : x.cl = 3
        · obtain ⟨la, hla⟩ : ∃ la, AA.length = la := ⟨_, rfl⟩
          obtain ⟨lb, hlb⟩ : ∃ lb, BB.length = lb := ⟨_, rfl⟩
          rw [hla, hlb] at h3
          rw [hlb] at h4
          simp only [h1, List.length_cons, hla] at O1'
          simp only [h2, List.length_cons, hlb] at O2'
          obtain ⟨x0, x1, x2, x3, x4, x5, x6⟩ := x
          simp only [P7.cl] at h3 h4 hc
          have he := h3 hc
          subst he hc
          clear h1 h2 h4 hla hlb
          go_wp2_with fail
          go_at_call 10
          refine Y.mono ?_
          rintro e w3 ⟨a3, c3, rfl, g3, -, hb⟩
          have B3 : Hid (Below w2.heap.size w2 w3) := HB.out.trans (hb.mono HB.out.size)
          have O3 := O1' w3 a3 c3 g3
          clear Y g3 hb O1' HB
          go_wp2_with fail
          go_at_call 12
          refine O3.mono ?_
          rintro e w4 ⟨a4, c4, rfl, g4, -, hb⟩
          have B4 : Hid (Below w2.heap.size w2 w4) := B3.out.trans (hb.mono B3.out.size)
          have G4 : Hid (PGood w4 a4 (lb + 1) c4 ((x0, x1, x2, x3, 3, x5, x6) :: AA)) := g4
          have O4 := O2' w4 am cm (GM.out.below B4.out)
          clear g4 hb O3 O2' B3
          go_wp2_with fail
          go_at_call 12
          refine O4.mono ?_
          rintro e w5 ⟨a5, c5, rfl, g5, -, hb⟩
          have B5 : Hid (Below w2.heap.size w2 w5) := B4.out.trans (hb.mono B4.out.size)
          have G4' : Hid (PGood w5 a4 (lb + 1) c4 ((x0, x1, x2, x3, 3, x5, x6) :: AA)) := G4.out.below hb
          have G5 : Hid (PGood w5 a5 (lb + 1) c5 ((x0, x1, x2, x3, 3, x5, x6) :: BB)) := g5
          clear g5 hb O4 B4 G4
          obtain ⟨b4, o4, rfl, C4⟩ := G4'.out.at (i := 0) (by omega)
          obtain ⟨b5, o5, rfl, C5⟩ := G5.out.at (i := 0) (by omega)
          obtain ⟨p0, p1, p2, p3, p4, p5, p6⟩ := C4 0 (by omega)
          obtain ⟨q0, q1, q2, q3, q4, q5, q6⟩ := C5 0 (by omega)
          simp only [Nat.zero_mul, Nat.add_zero, List.getD_cons_zero, P7.id, P7.fr, P7.to, P7.am, P7.cl, P7.st, P7.ti] at p0 p1 p2 p3 p4 p5 p6 q0 q1 q2 q3 q4 q5 q6
          have B6 : Hid (∀ q, Below w2.heap.size w2 (w5.drewN q)) := fun q => B5.out.trans ((drawn_below _ _).mono B5.out.size)
          clear C4 C5 G4' G5 B5
          go_wp2
          go_quiet (fail)
          go_wp2
          go_roundw
          case rel => exact ⟨k + 1, by omega, by go_num, B6.out _⟩
          case measure => simp [intOf]; omega
        · obtain ⟨la, hla⟩ : ∃ la, AA.length = la := ⟨_, rfl⟩
          obtain ⟨lb, hlb⟩ : ∃ lb, BB.length = lb := ⟨_, rfl⟩
          rw [hla, hlb] at h3
          rw [hlb] at h4
          simp only [h1, List.length_cons, hla] at O1'
          simp only [h2, List.length_cons, hlb] at O2'
          obtain ⟨x0, x1, x2, x3, x4, x5, x6⟩ := x
          simp only [P7.cl] at h3 h4 hc
          have he := h4 hc
          subst he
          have hc2 : (x4 == 3) = false := by rw [beq_eq_false_iff_ne]; exact hc
          clear h1 h2 h3 h4 hla hlb hc
          go_wp2_with fail
          go_at_call 10
          refine Y.mono ?_
          rintro e w3 ⟨a3, c3, rfl, g3, -, hb⟩
          have B3 : Hid (Below w2.heap.size w2 w3) := HB.out.trans (hb.mono HB.out.size)
          have O3 := O1' w3 a3 c3 g3
          clear Y g3 hb O1' HB
          go_wp2_with fail
          go_at_call 12
          refine O3.mono ?_
          rintro e w4 ⟨a4, c4, rfl, g4, -, hb⟩
          have B4 : Hid (Below w2.heap.size w2 w4) := B3.out.trans (hb.mono B3.out.size)
          have G4 : Hid (PGood w4 a4 (la + 1) c4 ((x0, x1, x2, x3, x4, x5, x6) :: AA)) := g4
          have O4 := O2' w4 am cm (GM.out.below B4.out)
          clear g4 hb O3 O2' B3
          go_wp2_with fail
          go_at_call 12
          refine O4.mono ?_
          rintro e w5 ⟨a5, c5, rfl, g5, -, hb⟩
          have B5 : Hid (Below w2.heap.size w2 w5) := B4.out.trans (hb.mono B4.out.size)
          have G4' : Hid (PGood w5 a4 (la + 1) c4 ((x0, x1, x2, x3, x4, x5, x6) :: AA)) := G4.out.below hb
          have G5 : Hid (PGood w5 a5 (0 + 1) c5 ((x0, x1, x2, x3, x4, x5, x6) :: BB)) := g5
          clear g5 hb O4 B4 G4
          obtain ⟨b4, o4, rfl, C4⟩ := G4'.out.at (i := 0) (by omega)
          obtain ⟨b5, o5, rfl, C5⟩ := G5.out.at (i := 0) (by omega)
          obtain ⟨p0, p1, p2, p3, p4, p5, p6⟩ := C4 0 (by omega)
          obtain ⟨q0, q1, q2, q3, q4, q5, q6⟩ := C5 0 (by omega)
          simp only [Nat.zero_mul, Nat.add_zero, List.getD_cons_zero, P7.id, P7.fr, P7.to, P7.am, P7.cl, P7.st, P7.ti] at p0 p1 p2 p3 p4 p5 p6 q0 q1 q2 q3 q4 q5 q6
          have B6 : Hid (∀ q, Below w2.heap.size w2 (w5.drewN q)) := fun q => B5.out.trans ((drawn_below _ _).mono B5.out.size)
          clear C4 C5 G4' G5 B5
          go_wp2
          go_quiet (fail)
          go_wp2
          go_roundw
          case rel => exact ⟨k + 1, by omega, by go_num, B6.out _⟩
          case measure => simp [intOf]; omega
    · obtain rfl : k = 3 := by omega
      clear Y1 O1 O2
      go_wp2
      obtain ⟨wo, rfl⟩ : ∃ wo, wo = wr := ⟨wr, rfl⟩
      have BO : Hid (Below w.heap.size w wo) := B2.out.trans (HB.out.mono B2.out.size)
      have GRO : Hid (PGood wo ar n cr r) := GR.out.below HB.out
      have GMO : Hid (PGood wo am lm cm m) := GM.out.below HB.out
      clear HB GR GM B2 HMP
      go_loopw [11] (fun i wr => ∃ k2 : Nat, k2 ≤ lm ∧ i = .int .i64 k2 ∧ Hid (Below wo.heap.size wo wr)) (fun i _ => lm - (intOf i).toNat)
      case atStart => exact ⟨0, by omega, rfl, Below.refl _ _⟩
      case round =>
        obtain ⟨k2, hk2, rfl, HB2⟩ := hrel
        by_cases hlt2 : k2 < lm
        · obtain ⟨bm, om, rfl, CM⟩ := GMO.out.at hlt2
          have i2 : (k2 : Int) < (lm : Int) := by omega
          have i3 : (k2 : Int) ≤ 40 := by have := HYL.out.2; omega
          obtain ⟨x, hx⟩ : ∃ x, m.getD k2 p70 = x := ⟨_, rfl⟩
          obtain ⟨y, hy⟩ : ∃ y, m.getD (k2 - 1) p70 = y := ⟨_, rfl⟩
          have C1 := (CM k2 hlt2).below HB2.out
          have C2 := (CM (k2 - 1) (by omega)).below HB2.out
          have hrd := HRD.out (m.getD k2 p70) (getD_in (by have := HLM.out; omega))
          have hri := HRI.out k2 hlt2
          rw [hx] at C1 hrd hri
          rw [hy] at C2 hri
          obtain ⟨x0, x1, x2, x3, x4, x5, x6⟩ := x
          obtain ⟨y0, y1, y2, y3, y4, y5, y6⟩ := y
          have FX : Hid _ := fun u (hb : Below wr.heap.size wr u) => FD u ar cr x0 ((GRO.out.below HB2.out).below hb)
          have FY : Hid _ := fun u (hb : Below wr.heap.size wr u) => FD u ar cr y0 ((GRO.out.below HB2.out).below hb)
          obtain ⟨kp, hkp⟩ : ∃ kp, k2 - 1 = kp := ⟨_, rfl⟩
          rw [hkp] at C2
          simp only [P7.id] at hri
          obtain ⟨F1, hF1⟩ : ∃ f, qFind r x0 = f := ⟨_, rfl⟩
          obtain ⟨F2, hF2⟩ : ∃ f, qFind r y0 = f := ⟨_, rfl⟩
          rw [hF1, hF2] at hri
          simp only [hF1] at FX
          simp only [hF2] at FY
          obtain ⟨G, kd⟩ : ∃ G, decide (0 < k2) = G := ⟨_, rfl⟩
          have HK : Hid (G = true → IntKind.i64.wrap ((k2 : Int) - 1) = (kp : Int) ∧ (kp : Int) < (lm : Int)) := fun hg => by
            rw [← kd, decide_eq_true_eq] at hg
            exact ⟨(i64_wf (n := (k2 : Int) - 1) (by omega) (by have := HYL.out.2; omega)).trans (by omega), by omega⟩
          have HFF : Hid (G = true → decide (F1 ≤ F2) = false) := fun hg => by
            rw [← kd, decide_eq_true_eq] at hg
            exact decide_eq_false (by have := hri hg; omega)
          have RDY : Hid (∀ u, Calls Try.prog 19 #[.agg #[.int .i64 x0, .int .i64 x1, .int .i64 x2, .int .i64 x3, .int .i64 x4, .int .i64 x5, .int .i64 x6], .int .i64 t] u fun e w' => e = .returned (.bool true) ∧ Below u.heap.size u w') := fun u => by
            have := refReady_any x0 x1 x2 x3 x4 x5 x6 t u
            simp only [P7.st, P7.ti] at hrd
            rw [hrd] at this
            exact this
          have CX : Hid (At7 wr bm (om + k2 * 7) (x0, x1, x2, x3, x4, x5, x6)) := C1
          have CY : Hid (At7 wr bm (om + kp * 7) (y0, y1, y2, y3, y4, y5, y6)) := C2
          clear CM C1 C2 hx hy hrd hri hkp hF1 hF2 GRO GMO FD HRI HRD
          go_wp2_with fail
          refine region_owes (L := [Fact.is (.slice (some ⟨bm, om, none⟩) lm cm),
            Fact.is (.int .i64 k2),
            Fact.is (.pointer (some ⟨bm, om + k2 * 7, none⟩)),
            Fact.is (.agg #[.int .i64 x0, .int .i64 x1, .int .i64 x2, .int .i64 x3, .int .i64 x4, .int .i64 x5, .int .i64 x6]),
            Fact.is (.int .i64 t),
            Fact.is (.bool true),
            Fact.is (.bool false),
            Fact.is (.bool false),
            Fact.is (.int .i64 k2),
            Fact.is (.bool G),
            Fact.is (.bool G),
            Fact.when (G == true) (.slice ar n cr),
            Fact.when (G == true) (.slice (some ⟨bm, om, none⟩) lm cm),
            Fact.when (G == true) (.int .i64 k2),
            Fact.when (G == true) (.pointer (some ⟨bm, om + k2 * 7, none⟩)),
            Fact.when (G == true) (.pointer (some ⟨bm, om + k2 * 7, none⟩)),
            Fact.when (G == true) (.int .i64 x0),
            Fact.when (G == true) (.int .i64 F1),
            Fact.when (G == true) (.slice ar n cr),
            Fact.when (G == true) (.slice (some ⟨bm, om, none⟩) lm cm),
            Fact.when (G == true) (.int .i64 k2),
            Fact.when (G == true) (.int .i64 kp),
            Fact.when (G == true) (.pointer (some ⟨bm, om + kp * 7, none⟩)),
            Fact.when (G == true) (.pointer (some ⟨bm, om + kp * 7, none⟩)),
            Fact.when (G == true) (.int .i64 y0),
            Fact.when (G == true) (.int .i64 F2),
            Fact.when (G == true) (.bool false),
            Fact.is (.bool false),
            Fact.is (.bool false)])
            (T := [86, 87, 88, 89, 90, 91, 92, 93, 94, 95, 96, 97, 98, 99, 100, 101, 102, 103, 104, 105, 106, 107, 108, 109, 110, 111, 112, 113, 114]) (by kernel_rfl) (by kernel_rfl) rfl ?owes ?_
          case owes =>
            refine .cons (owes_move (.tmp 6) (.inl rfl) fun q u lh => ⟨wants_free rfl, lh.old 6 rfl⟩) ?_
            refine .cons (owes_move (.tmp 11) (.inl rfl) fun q u lh => ⟨wants_free rfl, lh.old 11 rfl⟩) ?_
            refine .cons (owes_value fun q u lh => ⟨wants_free rfl, .pointer (some ⟨bm, om + k2 * 7, none⟩), by have e86 : q.tmps.getD 86 undef = .slice (some ⟨bm, om, none⟩) lm cm := lh.dep 0 rfl; have e87 : q.tmps.getD 87 undef = .int .i64 k2 := lh.dep 1 rfl; simp [execOp, Act.eval, e86, e87, i2, go_sem], rfl⟩) ?_
            refine .cons (owes_value fun q u lh => ⟨wants_free rfl, .agg #[.int .i64 x0, .int .i64 x1, .int .i64 x2, .int .i64 x3, .int .i64 x4, .int .i64 x5, .int .i64 x6], by have e88 : q.tmps.getD 88 undef = .pointer (some ⟨bm, om + k2 * 7, none⟩) := lh.dep 2 rfl; obtain ⟨z0, z1, z2, z3, z4, z5, z6⟩ := CX.out.below lh.below; simp [execOp, Act.eval, e88, z0, z1, z2, z3, z4, z5, z6, go_sem], rfl⟩) ?_
            refine .cons (owes_move (.tmp 1) (.inl rfl) fun q u lh => ⟨wants_free rfl, lh.old 1 rfl⟩) ?_
            refine .cons (owes_call 19 Try.func19 (by kernel_rfl) (by kernel_rfl) [.tmp 89, .tmp 90] #[34, 2] rfl fun q u lh => ⟨wants_free rfl, by have e89 : q.tmps.getD 89 undef = .agg #[.int .i64 x0, .int .i64 x1, .int .i64 x2, .int .i64 x3, .int .i64 x4, .int .i64 x5, .int .i64 x6] := lh.dep 3 rfl; have e90 : q.tmps.getD 90 undef = .int .i64 t := lh.dep 4 rfl; show Calls Try.prog 19 #[q.tmps.getD 89 undef, q.tmps.getD 90 undef] u _; rw [e89, e90]; exact bool_fact (RDY.out u)⟩) ?_
            refine .cons (owes_value fun q u lh => ⟨wants_free rfl, .bool false, by have e91 : q.tmps.getD 91 undef = .bool true := lh.dep 5 rfl; simp [execOp, Act.eval, e91, go_sem], rfl⟩) ?_
            refine .cons (owes_move (.tmp 92) (.inl rfl) fun q u lh => ⟨wants_free rfl, lh.dep 6 rfl⟩) ?_
            refine .cons (owes_move (.tmp 11) (.inl rfl) fun q u lh => ⟨lh.wants1 7 false rfl rfl rfl, lh.old 11 rfl⟩) ?_
            refine .cons (owes_value fun q u lh => ⟨lh.wants1 7 false rfl rfl rfl, .bool G, by have e94 : q.tmps.getD 94 undef = .int .i64 k2 := lh.dep 8 rfl; simp [execOp, Act.eval, e94, kd, go_sem], rfl⟩) ?_
            refine .cons (owes_move (.tmp 95) (.inl rfl) fun q u lh => ⟨lh.wants1 7 false rfl rfl rfl, lh.dep 9 rfl⟩) ?_
            refine .cons (owes_when 10 true G (.slice ar n cr) rfl rfl rfl rfl fun hg q u lh => by have e5 : q.tmps.getD 5 undef = .slice ar n cr := lh.old 5 rfl; simp [execOp, Act.eval, e5, go_sem]) ?_
            refine .cons (owes_when 10 true G (.slice (some ⟨bm, om, none⟩) lm cm) rfl rfl rfl rfl fun hg q u lh => by have e6 : q.tmps.getD 6 undef = .slice (some ⟨bm, om, none⟩) lm cm := lh.old 6 rfl; simp [execOp, Act.eval, e6, go_sem]) ?_
            refine .cons (owes_when 10 true G (.int .i64 k2) rfl rfl rfl rfl fun hg q u lh => by have e11 : q.tmps.getD 11 undef = .int .i64 k2 := lh.old 11 rfl; simp [execOp, Act.eval, e11, go_sem]) ?_
            refine .cons (owes_when 10 true G (.pointer (some ⟨bm, om + k2 * 7, none⟩)) rfl rfl rfl rfl fun hg q u lh => by have e98 : q.tmps.getD 98 undef = .slice (some ⟨bm, om, none⟩) lm cm := (lh.dep 12 rfl) hg; have e99 : q.tmps.getD 99 undef = .int .i64 k2 := (lh.dep 13 rfl) hg; simp [execOp, Act.eval, e98, e99, i2, go_sem]) ?_
            refine .cons (owes_when 10 true G (.pointer (some ⟨bm, om + k2 * 7, none⟩)) rfl rfl rfl rfl fun hg q u lh => by have e100 : q.tmps.getD 100 undef = .pointer (some ⟨bm, om + k2 * 7, none⟩) := (lh.dep 14 rfl) hg; simp [execOp, Act.eval, e100, go_sem]) ?_
            refine .cons (owes_when 10 true G (.int .i64 x0) rfl rfl rfl rfl fun hg q u lh => by have e101 : q.tmps.getD 101 undef = .pointer (some ⟨bm, om + k2 * 7, none⟩) := (lh.dep 15 rfl) hg; obtain ⟨z0, -⟩ := CX.out.below lh.below; simp [execOp, Act.eval, e101, z0, go_sem]) ?_
            refine .cons (owes_when_call 10 true G (.int .i64 F1) rfl rfl rfl rfl 20 Try.func20 (by kernel_rfl) (by kernel_rfl) [.tmp 97, .tmp 102] #[22, 2] rfl fun hg q u lh => by have e97 : q.tmps.getD 97 undef = .slice ar n cr := (lh.dep 11 rfl) hg; have e102 : q.tmps.getD 102 undef = .int .i64 x0 := (lh.dep 16 rfl) hg; show Calls Try.prog 20 #[q.tmps.getD 97 undef, q.tmps.getD 102 undef] u _; rw [e97, e102]; exact FX.out u lh.below) ?_
            refine .cons (owes_when 10 true G (.slice ar n cr) rfl rfl rfl rfl fun hg q u lh => by have e5 : q.tmps.getD 5 undef = .slice ar n cr := lh.old 5 rfl; simp [execOp, Act.eval, e5, go_sem]) ?_
            refine .cons (owes_when 10 true G (.slice (some ⟨bm, om, none⟩) lm cm) rfl rfl rfl rfl fun hg q u lh => by have e6 : q.tmps.getD 6 undef = .slice (some ⟨bm, om, none⟩) lm cm := lh.old 6 rfl; simp [execOp, Act.eval, e6, go_sem]) ?_
            refine .cons (owes_when 10 true G (.int .i64 k2) rfl rfl rfl rfl fun hg q u lh => by have e11 : q.tmps.getD 11 undef = .int .i64 k2 := lh.old 11 rfl; simp [execOp, Act.eval, e11, go_sem]) ?_
            refine .cons (owes_when 10 true G (.int .i64 kp) rfl rfl rfl rfl fun hg q u lh => by have e106 : q.tmps.getD 106 undef = .int .i64 k2 := (lh.dep 20 rfl) hg; have hw := (HK.out (by simpa using hg)).1; simp [execOp, Act.eval, e106, hw, go_sem]) ?_
            refine .cons (owes_when 10 true G (.pointer (some ⟨bm, om + kp * 7, none⟩)) rfl rfl rfl rfl fun hg q u lh => by have e105 : q.tmps.getD 105 undef = .slice (some ⟨bm, om, none⟩) lm cm := (lh.dep 19 rfl) hg; have e107 : q.tmps.getD 107 undef = .int .i64 kp := (lh.dep 21 rfl) hg; have hw := (HK.out (by simpa using hg)).2; simp [execOp, Act.eval, e105, e107, hw, go_sem]) ?_
            refine .cons (owes_when 10 true G (.pointer (some ⟨bm, om + kp * 7, none⟩)) rfl rfl rfl rfl fun hg q u lh => by have e108 : q.tmps.getD 108 undef = .pointer (some ⟨bm, om + kp * 7, none⟩) := (lh.dep 22 rfl) hg; simp [execOp, Act.eval, e108, go_sem]) ?_
            refine .cons (owes_when 10 true G (.int .i64 y0) rfl rfl rfl rfl fun hg q u lh => by have e109 : q.tmps.getD 109 undef = .pointer (some ⟨bm, om + kp * 7, none⟩) := (lh.dep 23 rfl) hg; obtain ⟨z0, -⟩ := CY.out.below lh.below; simp [execOp, Act.eval, e109, z0, go_sem]) ?_
            refine .cons (owes_when_call 10 true G (.int .i64 F2) rfl rfl rfl rfl 20 Try.func20 (by kernel_rfl) (by kernel_rfl) [.tmp 104, .tmp 110] #[22, 2] rfl fun hg q u lh => by have e104 : q.tmps.getD 104 undef = .slice ar n cr := (lh.dep 18 rfl) hg; have e110 : q.tmps.getD 110 undef = .int .i64 y0 := (lh.dep 24 rfl) hg; show Calls Try.prog 20 #[q.tmps.getD 104 undef, q.tmps.getD 110 undef] u _; rw [e104, e110]; exact FY.out u lh.below) ?_
            refine .cons (owes_when 10 true G (.bool false) rfl rfl rfl rfl fun hg q u lh => by have e103 : q.tmps.getD 103 undef = .int .i64 F1 := (lh.dep 17 rfl) hg; have e111 : q.tmps.getD 111 undef = .int .i64 F2 := (lh.dep 25 rfl) hg; have hf := HFF.out (by simpa using hg); simp [execOp, Act.eval, e103, e111, hf, go_sem]) ?_
            refine .cons (owes_pick (.tmp 96) (.tmp 112) (.const (.bool false)) rfl fun q u lh => ⟨lh.wants1 7 false rfl rfl rfl, G, lh.dep 10 rfl, by have e := lh.dep 26 rfl; cases G with | false => rfl | true => exact e rfl⟩) ?_
            refine .cons (owes_pick (.tmp 93) (.const (.bool true)) (.tmp 113) rfl fun q u lh => ⟨wants_free rfl, false, lh.dep 7 rfl, lh.dep 27 rfl⟩) ?_
            exact .nil _
          intro q u hb hsz hdf hold hfact
          obtain ⟨v97, e97⟩ : ∃ v, q.tmps.getD 97 undef = v := ⟨_, rfl⟩
          obtain ⟨v98, e98⟩ : ∃ v, q.tmps.getD 98 undef = v := ⟨_, rfl⟩
          obtain ⟨v99, e99⟩ : ∃ v, q.tmps.getD 99 undef = v := ⟨_, rfl⟩
          obtain ⟨v100, e100⟩ : ∃ v, q.tmps.getD 100 undef = v := ⟨_, rfl⟩
          obtain ⟨v101, e101⟩ : ∃ v, q.tmps.getD 101 undef = v := ⟨_, rfl⟩
          obtain ⟨v102, e102⟩ : ∃ v, q.tmps.getD 102 undef = v := ⟨_, rfl⟩
          obtain ⟨v103, e103⟩ : ∃ v, q.tmps.getD 103 undef = v := ⟨_, rfl⟩
          obtain ⟨v104, e104⟩ : ∃ v, q.tmps.getD 104 undef = v := ⟨_, rfl⟩
          obtain ⟨v105, e105⟩ : ∃ v, q.tmps.getD 105 undef = v := ⟨_, rfl⟩
          obtain ⟨v106, e106⟩ : ∃ v, q.tmps.getD 106 undef = v := ⟨_, rfl⟩
          obtain ⟨v107, e107⟩ : ∃ v, q.tmps.getD 107 undef = v := ⟨_, rfl⟩
          obtain ⟨v108, e108⟩ : ∃ v, q.tmps.getD 108 undef = v := ⟨_, rfl⟩
          obtain ⟨v109, e109⟩ : ∃ v, q.tmps.getD 109 undef = v := ⟨_, rfl⟩
          obtain ⟨v110, e110⟩ : ∃ v, q.tmps.getD 110 undef = v := ⟨_, rfl⟩
          obtain ⟨v111, e111⟩ : ∃ v, q.tmps.getD 111 undef = v := ⟨_, rfl⟩
          obtain ⟨v112, e112⟩ : ∃ v, q.tmps.getD 112 undef = v := ⟨_, rfl⟩
          have B7 : Hid (Below wo.heap.size wo u) := HB2.out.trans (hb.mono HB2.out.size)
          obtain rfl := frame_puts hsz hdf [86, 87, 88, 89, 90, 91, 92, 93, 94, 95, 96, 97, 98, 99, 100, 101, 102, 103, 104, 105, 106, 107, 108, 109, 110, 111, 112, 113, 114] hold [(86, Value.slice (some ⟨bm, om, none⟩) lm cm), (87, Value.int .i64 k2), (88, Value.pointer (some ⟨bm, om + k2 * 7, none⟩)), (89, Value.agg #[.int .i64 x0, .int .i64 x1, .int .i64 x2, .int .i64 x3, .int .i64 x4, .int .i64 x5, .int .i64 x6]), (90, Value.int .i64 t), (91, Value.bool true), (92, Value.bool false), (93, Value.bool false), (94, Value.int .i64 k2), (95, Value.bool G), (96, Value.bool G), (97, v97), (98, v98), (99, v99), (100, v100), (101, v101), (102, v102), (103, v103), (104, v104), (105, v105), (106, v106), (107, v107), (108, v108), (109, v109), (110, v110), (111, v111), (112, v112), (113, Value.bool false), (114, Value.bool false)] ⟨hfact 0 (by decide), hfact 1 (by decide), hfact 2 (by decide), hfact 3 (by decide), hfact 4 (by decide), hfact 5 (by decide), hfact 6 (by decide), hfact 7 (by decide), hfact 8 (by decide), hfact 9 (by decide), hfact 10 (by decide), e97, e98, e99, e100, e101, e102, e103, e104, e105, e106, e107, e108, e109, e110, e111, e112, hfact 27 (by decide), hfact 28 (by decide), trivial⟩ rfl
          clear hsz hdf hold hfact
          clear hb HB2 RDY FX FY HK HFF CX CY
          simp only [puts, Act.put, List.setIfInBounds_toArray, List.set_cons_zero, List.set_cons_succ]
          go_wp2
          go_roundw
          case rel => exact ⟨k2 + 1, by omega, by go_num, B7⟩
          case measure => simp [intOf]; omega
        · clear FD HRI HRD GRO GMO
          go_wp2_with fail
          go_at_call 17
          refine (known14 _).mono ?_
          rintro e w9 ⟨rfl, hb⟩
          have B9 : Hid (Below w.heap.size w w9) := BO.out.trans ((HB2.out.trans (hb.mono HB2.out.size)).mono BO.out.size)
          clear hb
          go_wp2
          go_ret
          exact ⟨rfl, B9.out⟩


theorem viewMay (a : Option Addr) (n c : Nat) (L : List P7) (t : Int) (w : World) (h : PaysIn w a n c L) (w1 : (Lit.int .i64 t).wf = true) : Calls Try.prog 4 #[.slice a n c, .int .i64 t] w fun e w' => e = .returned (.bool true) ∧ Below w.heap.size w w' := by
  by_cases ho : 40 < n
  · exact viewMay_out a n c t w ho
  · exact viewMay_in a n c L t w h.good (by omega)

end Walk
end Go.Proofs.Ytmfmdicdbjghkaa
