/-
  The walk of ViewOwn.
-/
import Derived.Test.YtmfmdicdbjghkaaKnown14
import Derived.Test.YtmfmdicdbjghkaaViewPure
import Derived.Test.YtmfmdicdbjghkaaOwnAll
import Derived.Test.YtmfmdicdbjghkaaRowRefIs
import Derived.Test.YtmfmdicdbjghkaaPaysGood
import Derived.Test.YtmfmdicdbjghkaaArgs
import Derived.Deep.CutRange
namespace Go.Proofs.Ytmfmdicdbjghkaa
open Go.RowKit
set_option linter.unusedVariables false
set_option linter.unusedSimpArgs false
namespace Walk

theorem viewOwn_out (a : Option Addr) (n c : Nat) (t f : Int) (w : World) (h : 40 < n) : Calls Try.prog 6 #[.slice a n c, .int .i64 t, .int .i64 f] w fun e w' => e = .returned (.bool true) ∧ Below w.heap.size w w' := by
  have h1 : (40 : Int) < (n : Int) := by omega
  clear h
  go_enter Try.func6, Try.ntmps6
  go_wp2
  go_ret
  exact ⟨rfl, Below.refl _ _⟩

set_option maxHeartbeats 8000000 in
set_option maxRecDepth 100000 in
theorem viewOwn_in (a : Option Addr) (n c : Nat) (L : List P7) (t f : Int) (w : World) (h : PGood w a n c L) (h1 : n ≤ 40) : Calls Try.prog 6 #[.slice a n c, .int .i64 t, .int .i64 f] w fun e w' => e = .returned (.bool true) ∧ Below w.heap.size w w' := by
  have W := rowed_any a n c L w h (by omega)
  obtain ⟨hq, hrl, hrp⟩ := rowed_ok (L := L) (by have := h.len; omega)
  rw [← h.len] at hrl
  obtain ⟨r, hr⟩ : ∃ r, rowedL L = r := ⟨_, rfl⟩
  unfold PGot at W
  rw [hr] at W hq hrl hrp
  rw [hrl] at W
  have hfr := RowedP.fr_ok hrp
  have C3 := fun u a' c' (g : PGood u a' n c' r) => viewReady_made a' n c' r t u g (by omega)
  have C4 := fun u a' c' (g : PGood u a' n c' r) => viewOf_made a' n c' r f u g (by omega)
  have C5 := fun u a' c' (g : PGood u a' n c' r) => viewMay_made a' n c' r t u g (by omega) hfr
  have C6 := fun u a' c' am' (g : PGood u a' n c' r) (s : Sl .i64 u am' 3 [9, 9, 9]) => viewHeads_made a' am' n c' 3 3 r [9, 9, 9] u g s (by omega) (by omega)
  have Y1 := fun u a' c' (g : PGood u a' n c' r) => viewReady_any a' n c' r t u g (by omega)
  have Y2 := fun u a' c' (g : PGood u a' n c' r) => refVReady_any a' n c' r t u g (by omega)
  have IS := fun u a' c' (g : PGood u a' n c' r) => refIs_any7 a' n c' r u g (by omega)
  simp only [qIs_iff.2 hq] at IS
  unfold PMade at C3 C4 C5 C6
  unfold PEnd at Y1 Y2
  obtain ⟨q3, hq3⟩ : ∃ q, vReady r t = q := ⟨_, rfl⟩
  obtain ⟨l3, hl3⟩ : ∃ l, q3.length = l := ⟨_, rfl⟩
  simp only [hq3] at C3
  obtain ⟨q4, hq4⟩ : ∃ q, vOf r f = q := ⟨_, rfl⟩
  obtain ⟨l4, hl4⟩ : ∃ l, q4.length = l := ⟨_, rfl⟩
  simp only [hq4] at C4
  obtain ⟨q5, hq5⟩ : ∃ q, vMay r t = q := ⟨_, rfl⟩
  obtain ⟨l5, hl5⟩ : ∃ l, q5.length = l := ⟨_, rfl⟩
  simp only [hq5] at C5
  obtain ⟨q6, hq6⟩ : ∃ q, vHeads r [9, 9, 9] = q := ⟨_, rfl⟩
  obtain ⟨l6, hl6⟩ : ∃ l, q6.length = l := ⟨_, rfl⟩
  simp only [hq6] at C6
  simp only [hq3, hl3] at Y1 Y2
  have HL : Hid (q3.length = l3 ∧ q4.length = l4 ∧ q5.length = l5 ∧ q6.length = l6) := ⟨hl3, hl4, hl5, hl6⟩
  have HN : Hid (n ≤ 1000000) := by show n ≤ _; omega
  have a1 : (n : Int) ≤ 40 := by omega
  clear h hq hrl hrp hr hfr hq3 hq4 hq5 hq6 hl3 hl4 hl5 hl6 h1
  go_enter Try.func6, Try.ntmps6
  go_wp2_with fail
  go_at_call 18
  refine W.mono ?_
  rintro e w1 ⟨ar, cr, rfl, gr, hb⟩
  have B1 : Hid (Below w.heap.size w w1) := hb
  have GR1 : Hid (PGood w1 ar n cr r) := gr
  have OA : Hid ((w1.alloc (.cells #[] 34)).ownsRow w1.heap.size 34 7 (.slice (some ⟨w1.heap.size, 0, none⟩) 0 0) 0 (payL [])) := litP_own (heap_alloc_new w1 _) (Nat.le_refl _)
  clear hb W gr
  go_wp2_with (at_builtin; refine wpList_append_pays rfl _ _ rfl w1.heap.size (.slice (some ⟨w1.heap.size, 0, none⟩) 0 0) 0 [] rfl OA.out ar n cr r rfl (GR1.out.below (box_below _ _)) (by have := HN.out; omega) (by rw [size_alloc]; omega) ?_)
  intro vw w2 ho hg
  have hb12 : Below w1.heap.size w1 w2 := (box_below w1 _).grown hg (by rw [size_alloc]; omega) (fun j hj => (OA.out.lt j hj).1)
  have B2 : Hid (Below w.heap.size w w2) := B1.out.trans (hb12.mono B1.out.size)
  have GR : Hid (PGood w2 ar n cr r) := GR1.out.below hb12
  obtain ⟨aw, cw, rfl, gw, -⟩ := PGood.own ho
  have hwl : r.length = n := GR.out.len.symm
  rw [hwl] at gw
  have GW : Hid (PGood w2 aw n cw r) := gw
  rw [hwl]
  have S3 := C3 w2 ar cr GR.out
  clear ho hg hb12 OA GR1 gw hwl C3 B1
  go_wp2_with fail
  go_at_call 9
  refine S3.mono ?_
  rintro e w3 ⟨v3, rfl, ho, hb⟩
  obtain ⟨a3, c3, hv, -, -⟩ := PGood.own ho
  rw [HL.out.1] at ho hv
  subst hv
  have O3 : Hid (w3.ownsRow w2.heap.size 34 7 (.slice a3 l3 c3) l3 (payL q3)) := ho
  have B3 : Hid (Below w2.heap.size w2 w3) := hb
  have S4 := C4 w3 ar cr (GR.out.below B3.out)
  clear ho hb S3 C4
  go_wp2_with fail
  go_at_call 11
  refine S4.mono ?_
  rintro e w4 ⟨v4, rfl, ho, hb⟩
  obtain ⟨a4, c4, hv, -, -⟩ := PGood.own ho
  rw [HL.out.2.1] at ho hv
  subst hv
  have O4 : Hid (w4.ownsRow w3.heap.size 34 7 (.slice a4 l4 c4) l4 (payL q4)) := ho
  have B4 : Hid (Below w2.heap.size w2 w4) := B3.out.trans (hb.mono B3.out.size)
  have E4 : Hid (Below w3.heap.size w3 w4) := hb
  have S5 := C5 w4 ar cr (GR.out.below B4.out)
  clear ho hb S4 C5
  go_wp2_with fail
  go_at_call 13
  refine S5.mono ?_
  rintro e w5 ⟨v5, rfl, ho, hb⟩
  obtain ⟨a5, c5, hv, -, -⟩ := PGood.own ho
  rw [HL.out.2.2.1] at ho hv
  subst hv
  have O5 : Hid (w5.ownsRow w4.heap.size 34 7 (.slice a5 l5 c5) l5 (payL q5)) := ho
  have B5 : Hid (Below w2.heap.size w2 w5) := B4.out.trans (hb.mono B4.out.size)
  have E5 : Hid (Below w4.heap.size w4 w5) := hb
  clear ho hb S5
  obtain ⟨w5x, hwx⟩ : ∃ x, x = w5.alloc (.cells #[.int .i64 9, .int .i64 9, .int .i64 9] 3) := ⟨_, rfl⟩
  have B5x : Hid (Below w2.heap.size w2 w5x) := by rw [hwx]; exact B5.out.alloc B5.out.size _
  have hle5 : w5.heap.size ≤ w5x.heap.size := by rw [hwx, size_alloc]; omega
  have EX : Hid (Below w5.heap.size w5 w5x) := by rw [hwx]; exact box_below _ _
  have S6 := C6 w5x ar cr (some ⟨w5.heap.size, 0, none⟩) (GR.out.below B5x.out) (by rw [hwx]; exact Sl.new .i64 w5 3 (0, 0) [9, 9, 9] (by intro x hx; simp at hx; subst hx; rfl))
  rw [hwx] at S6
  have HWX : Hid (w5x = _) := hwx
  clear hwx hle5 C6
  go_wp2_with fail
  go_at_call 15
  refine S6.mono ?_
  rintro e w6 ⟨v6, rfl, ho, hb⟩
  rw [← HWX.out] at ho hb
  obtain ⟨a6, c6, hv, -, -⟩ := PGood.own ho
  rw [HL.out.2.2.2] at ho hv
  subst hv
  have O6 : Hid (w6.ownsRow w5x.heap.size 34 7 (.slice a6 l6 c6) l6 (payL q6)) := ho
  have B6 : Hid (Below w2.heap.size w2 w6) := B5x.out.trans (hb.mono B5x.out.size)
  have E6 : Hid (Below w5x.heap.size w5x w6) := hb
  clear ho hb S6
  have HA : Hid (OwnAll w2.heap.size w6 [(.slice a3 l3 c3, l3), (.slice a4 l4 c4, l4), (.slice a5 l5 c5, l5), (.slice a6 l6 c6, l6)]) := by
    have e4 := E4.out.size
    have e5 := E5.out.size
    have e6 := EX.out.size
    have e3 := B3.out.size
    intro p hp
    simp only [List.mem_cons, List.not_mem_nil, or_false] at hp
    rcases hp with rfl | rfl | rfl | rfl
    · exact ⟨_, own_below (own_below (own_below (own_below O3.out E4.out) E5.out) EX.out) E6.out⟩
    · exact ⟨_, own_base (own_below (own_below (own_below O4.out E5.out) EX.out) E6.out) (by omega)⟩
    · exact ⟨_, own_base (own_below (own_below O5.out EX.out) E6.out) (by omega)⟩
    · exact ⟨_, own_base O6.out (by omega)⟩
  have HD : Hid (Asunder [(.slice a3 l3 c3, l3), (.slice a4 l4 c4, l4), (.slice a5 l5 c5, l5), (.slice a6 l6 c6, l6)]) := by
    have e4 := E4.out.size
    have e5 := E5.out.size
    have e6 := EX.out.size
    have t3 := O3.out.lt
    have t4 := O4.out.lt
    have t5 := O5.out.lt
    have t6 := O6.out.lt
    refine List.Pairwise.cons (fun p hp k hk h2 => ?_) (List.Pairwise.cons (fun p hp k hk h2 => ?_) (List.Pairwise.cons (fun p hp k hk h2 => ?_) (List.Pairwise.cons (fun p hp => by simp at hp) List.Pairwise.nil)))
    · have x := t3 k hk
      simp only [List.mem_cons, List.not_mem_nil, or_false] at hp
      rcases hp with rfl | rfl | rfl
      · have y := t4 k h2; omega
      · have y := t5 k h2; omega
      · have y := t6 k h2; omega
    · have x := t4 k hk
      simp only [List.mem_cons, List.not_mem_nil, or_false] at hp
      rcases hp with rfl | rfl
      · have y := t5 k h2; omega
      · have y := t6 k h2; omega
    · have x := t5 k hk
      simp only [List.mem_cons, List.not_mem_nil, or_false] at hp
      rcases hp with rfl
      have y := t6 k h2; omega
  have B6' : Hid (Below w.heap.size w w6) := B2.out.trans (B6.out.mono B2.out.size)
  clear E4 E5 EX E6 O3 O4 O5 O6 B3 B4 B5 B5x HL HWX HN
  go_wp2
  go_loopw [13] (fun i wr => ∃ k : Nat, k ≤ n ∧ i = .int .i64 k ∧ Hid (OwnAll w2.heap.size wr [(.slice a3 l3 c3, l3), (.slice a4 l4 c4, l4), (.slice a5 l5 c5, l5), (.slice a6 l6 c6, l6)]) ∧ Hid (Below w2.heap.size w2 wr)) (fun i _ => n - (intOf i).toNat)
  case atStart => exact ⟨0, by omega, rfl, HA, B6⟩
  case round =>
    obtain ⟨k, hk, rfl, HO, HB⟩ := hrel
    by_cases hlt : k < n
    · have i1 : (k : Int) < (n : Int) := by omega
      clear Y1 Y2 IS
      go_upto_if 43 with fail
      go_cut [13] from 44 to 47 (fun s wc => s = .int .i64 k ∧ OwnAll w2.heap.size wc [(.slice a3 l3 c3, l3), (.slice a4 l4 c4, l4), (.slice a5 l5 c5, l5), (.slice a6 l6 c6, l6)] ∧ Below w2.heap.size w2 wc)
      case first =>
        by_cases hl : k < l3
        · have i2 : (k : Int) < (l3 : Int) := by omega
          obtain ⟨g, cap, y, hv, hge, hc, hf, hw⟩ := HO.out.poke HD.out (v := .slice a3 l3 c3) (n := l3) (i := k) (by simp) hl
          simp only [Value.slice.injEq] at hv
          obtain ⟨rfl, -, rfl⟩ := hv
          have HW2 : Hid (OwnAll w2.heap.size (wr.setCell ⟨g, k * 7, none⟩ (.int .i64 (-1))) _) := hw _
          have HB2 : Hid (Below w2.heap.size w2 (wr.setCell ⟨g, k * 7, none⟩ (.int .i64 (-1)))) := HB.out.setCell (p := ⟨g, k * 7, none⟩) hge _
          clear hw hl hge
          go_wp2
          go_meet
          case rel => exact ⟨rfl, HW2.out, HB2.out⟩
        · have i2 : decide ((k : Int) < (l3 : Int)) = false := by rw [decide_eq_false_iff_not]; omega
          go_wp2
          go_meet
          case rel => exact ⟨rfl, HO.out, HB.out⟩
      case rest =>
      obtain ⟨rfl, hc2, hc3⟩ := hcut
      obtain ⟨x1, hw5⟩ : ∃ x, x = wc := ⟨_, rfl⟩
      subst hw5
      have HO' : Hid (OwnAll w2.heap.size x1 [(.slice a3 l3 c3, l3), (.slice a4 l4 c4, l4), (.slice a5 l5 c5, l5), (.slice a6 l6 c6, l6)]) := hc2
      have HB' : Hid (Below w2.heap.size w2 x1) := hc3
      clear hc2 hc3 HO HB
      have HO := HO'
      have HB := HB'
      clear HO' HB'
      go_upto_if 51 with fail
      go_cut [13] from 52 to 55 (fun s wc => s = .int .i64 k ∧ OwnAll w2.heap.size wc [(.slice a3 l3 c3, l3), (.slice a4 l4 c4, l4), (.slice a5 l5 c5, l5), (.slice a6 l6 c6, l6)] ∧ Below w2.heap.size w2 wc)
      case first =>
        by_cases hl : k < l4
        · have i2 : (k : Int) < (l4 : Int) := by omega
          obtain ⟨g, cap, y, hv, hge, hc, hf, hw⟩ := HO.out.poke HD.out (v := .slice a4 l4 c4) (n := l4) (i := k) (by simp) hl
          simp only [Value.slice.injEq] at hv
          obtain ⟨rfl, -, rfl⟩ := hv
          have HW2 : Hid (OwnAll w2.heap.size (x1.setCell ⟨g, k * 7, none⟩ (.int .i64 (-1))) _) := hw _
          have HB2 : Hid (Below w2.heap.size w2 (x1.setCell ⟨g, k * 7, none⟩ (.int .i64 (-1)))) := HB.out.setCell (p := ⟨g, k * 7, none⟩) hge _
          clear hw hl hge
          go_wp2
          go_meet
          case rel => exact ⟨rfl, HW2.out, HB2.out⟩
        · have i2 : decide ((k : Int) < (l4 : Int)) = false := by rw [decide_eq_false_iff_not]; omega
          go_wp2
          go_meet
          case rel => exact ⟨rfl, HO.out, HB.out⟩
      case rest =>
      obtain ⟨rfl, hc2, hc3⟩ := hcut
      obtain ⟨x2, hw5⟩ : ∃ x, x = wc := ⟨_, rfl⟩
      subst hw5
      have HO' : Hid (OwnAll w2.heap.size x2 [(.slice a3 l3 c3, l3), (.slice a4 l4 c4, l4), (.slice a5 l5 c5, l5), (.slice a6 l6 c6, l6)]) := hc2
      have HB' : Hid (Below w2.heap.size w2 x2) := hc3
      clear hc2 hc3 HO HB
      have HO := HO'
      have HB := HB'
      clear HO' HB'
      go_upto_if 59 with fail
      go_cut [13] from 60 to 63 (fun s wc => s = .int .i64 k ∧ OwnAll w2.heap.size wc [(.slice a3 l3 c3, l3), (.slice a4 l4 c4, l4), (.slice a5 l5 c5, l5), (.slice a6 l6 c6, l6)] ∧ Below w2.heap.size w2 wc)
      case first =>
        by_cases hl : k < l5
        · have i2 : (k : Int) < (l5 : Int) := by omega
          obtain ⟨g, cap, y, hv, hge, hc, hf, hw⟩ := HO.out.poke HD.out (v := .slice a5 l5 c5) (n := l5) (i := k) (by simp) hl
          simp only [Value.slice.injEq] at hv
          obtain ⟨rfl, -, rfl⟩ := hv
          have HW2 : Hid (OwnAll w2.heap.size (x2.setCell ⟨g, k * 7, none⟩ (.int .i64 (-1))) _) := hw _
          have HB2 : Hid (Below w2.heap.size w2 (x2.setCell ⟨g, k * 7, none⟩ (.int .i64 (-1)))) := HB.out.setCell (p := ⟨g, k * 7, none⟩) hge _
          clear hw hl hge
          go_wp2
          go_meet
          case rel => exact ⟨rfl, HW2.out, HB2.out⟩
        · have i2 : decide ((k : Int) < (l5 : Int)) = false := by rw [decide_eq_false_iff_not]; omega
          go_wp2
          go_meet
          case rel => exact ⟨rfl, HO.out, HB.out⟩
      case rest =>
      obtain ⟨rfl, hc2, hc3⟩ := hcut
      obtain ⟨x3, hw5⟩ : ∃ x, x = wc := ⟨_, rfl⟩
      subst hw5
      have HO' : Hid (OwnAll w2.heap.size x3 [(.slice a3 l3 c3, l3), (.slice a4 l4 c4, l4), (.slice a5 l5 c5, l5), (.slice a6 l6 c6, l6)]) := hc2
      have HB' : Hid (Below w2.heap.size w2 x3) := hc3
      clear hc2 hc3 HO HB
      have HO := HO'
      have HB := HB'
      clear HO' HB'
      by_cases hl : k < l6
      · have i2 : (k : Int) < (l6 : Int) := by omega
        obtain ⟨g, cap, y, hv, hge, hc, hf, hw⟩ := HO.out.poke HD.out (v := .slice a6 l6 c6) (n := l6) (i := k) (by simp) hl
        simp only [Value.slice.injEq] at hv
        obtain ⟨rfl, -, rfl⟩ := hv
        have HW2 : Hid (OwnAll w2.heap.size (x3.setCell ⟨g, k * 7, none⟩ (.int .i64 (-1))) _) := hw _
        have HB2 : Hid (Below w2.heap.size w2 (x3.setCell ⟨g, k * 7, none⟩ (.int .i64 (-1)))) := HB.out.setCell (p := ⟨g, k * 7, none⟩) hge _
        clear hw hl hge
        go_wp2
        go_roundw
        case rel => exact ⟨k + 1, by omega, by go_num, HW2, HB2⟩
        case measure => simp [intOf]; omega
      · have i2 : decide ((k : Int) < (l6 : Int)) = false := by rw [decide_eq_false_iff_not]; omega
        go_wp2
        go_roundw
        case rel => exact ⟨k + 1, by omega, by go_num, HO, HB⟩
        case measure => simp [intOf]; omega
    · obtain rfl : k = n := by omega
      clear HO HA HD
      obtain ⟨wo, rfl⟩ : ∃ wo, wo = wr := ⟨wr, rfl⟩
      have BO : Hid (Below w.heap.size w wo) := B2.out.trans (HB.out.mono B2.out.size)
      have GRO : Hid (PGood wo ar k cr r) := GR.out.below HB.out
      have S := same_true ar aw k k cr cw r wo GRO.out (GW.out.below HB.out)
      clear HB GR GW B2 B6 B6'
      go_wp2_with fail
      go_at_call 8
      refine S.mono ?_
      rintro e x1 ⟨rfl, hb⟩
      have BX1 : Hid (Below wo.heap.size wo x1) := hb
      have I := IS x1 ar cr (GRO.out.below hb)
      clear hb S IS
      go_wp2_with fail
      go_at_call 7
      refine I.mono ?_
      rintro e x2 ⟨rfl, hb⟩
      have BX2 : Hid (Below wo.heap.size wo x2) := BX1.out.trans (hb.mono BX1.out.size)
      have Y1' := Y1 x2 ar cr (GRO.out.below BX2.out)
      clear hb I Y1 BX1
      go_wp2_with fail
      go_at_call 9
      refine Y1'.mono ?_
      rintro e x3 ⟨ay, cy, rfl, gy, -, hb⟩
      have BX3 : Hid (Below wo.heap.size wo x3) := BX2.out.trans (hb.mono BX2.out.size)
      have GY : Hid (PGood x3 ay l3 cy q3) := gy
      have Y2' := Y2 x3 ar cr (GRO.out.below BX3.out)
      clear hb gy Y1' Y2 BX2
      go_wp2_with fail
      go_at_call 10
      refine Y2'.mono ?_
      rintro e x4 ⟨az, cz, rfl, gz, -, hb⟩
      have BX4 : Hid (Below wo.heap.size wo x4) := BX3.out.trans (hb.mono BX3.out.size)
      have S := same_true ay az l3 l3 cy cz q3 x4 (GY.out.below hb) gz
      clear hb gz Y2' GY BX3
      go_wp2_with fail
      go_at_call 8
      refine S.mono ?_
      rintro e x5 ⟨rfl, hb⟩
      have BX5 : Hid (Below wo.heap.size wo x5) := BX4.out.trans (hb.mono BX4.out.size)
      clear hb S BX4 GRO
      go_wp2_with fail
      go_at_call 17
      refine (known14 _).mono ?_
      rintro e w9 ⟨rfl, hb⟩
      have B9 : Hid (Below w.heap.size w w9) := BO.out.trans ((BX5.out.trans (hb.mono BX5.out.size)).mono BO.out.size)
      clear hb
      go_wp2
      go_ret
      exact ⟨rfl, B9.out⟩

theorem viewOwn (a : Option Addr) (n c : Nat) (L : List P7) (t f : Int) (w : World) (h : PaysIn w a n c L) (w1 : (Lit.int .i64 t).wf = true) (w2 : (Lit.int .i64 f).wf = true) : Calls Try.prog 6 #[.slice a n c, .int .i64 t, .int .i64 f] w fun e w' => e = .returned (.bool true) ∧ Below w.heap.size w w' := by
  by_cases ho : 40 < n
  · exact viewOwn_out a n c t f w ho
  · exact viewOwn_in a n c L t f w h.good (by omega)

end Walk
end Go.Proofs.Ytmfmdicdbjghkaa
