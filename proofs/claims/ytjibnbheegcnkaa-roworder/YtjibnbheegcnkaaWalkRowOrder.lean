/-
  The walk of RowOrder.
-/
import Derived.Test.YtjibnbheegcnkaaWalkRowIs
import Derived.Test.YtjibnbheegcnkaaRowMove
import Derived.Test.YtjibnbheegcnkaaRowPure
import Derived.Test.YtjibnbheegcnkaaPayRefSame
namespace Go.Proofs.Ytjibnbheegcnkaa
open Go.RowKit
set_option linter.unusedVariables false
set_option linter.unusedSimpArgs false
namespace Walk

theorem rowOrder_out (a : Option Addr) (n c : Nat) (x : Int) (bk : Bool) (w : World) (h : n < 1 ∨ 40 < n) : Calls Try.prog 5 #[.slice a n c, .int .i64 x, .bool bk] w fun e w' => e = .returned (.bool true) ∧ Below w.heap.size w w' := by
  rcases h with h | h
  · have h0 : (n : Int) < 1 := by omega
    go_enter Try.func5, Try.ntmps5
    go_wp2
    go_ret
    exact ⟨rfl, Below.refl _ _⟩
  · have h0 : 40 < (n : Int) := by omega
    have h1 : ¬ (n : Int) < 1 := by omega
    go_enter Try.func5, Try.ntmps5
    go_wp2
    go_ret
    exact ⟨rfl, Below.refl _ _⟩

theorem rowOrder_no (a : Option Addr) (n c : Nat) (L : List P7) (x : Int) (bk : Bool) (w : World) (h : PGood w a n c L) (h1 : 1 ≤ n) (h4 : n ≤ 40) (hq : qIs L = false) : Calls Try.prog 5 #[.slice a n c, .int .i64 x, .bool bk] w fun e w' => e = .returned (.bool true) ∧ Below w.heap.size w w' := by
  have I := refIs_any7 a n c L w h (by omega)
  rw [hq] at I
  have a1 : (1 : Int) ≤ (n : Int) := by omega
  have a2 : (n : Int) ≤ 40 := by omega
  clear h hq h1 h4
  go_enter Try.func5, Try.ntmps5
  go_wp2_with fail
  go_at_call 23
  refine I.mono ?_
  rintro e w1 ⟨rfl, hb⟩
  have B1 : Hid (Below w.heap.size w w1) := hb
  clear hb I
  go_wp2
  go_ret
  exact ⟨rfl, B1.out⟩

set_option maxHeartbeats 4000000 in
set_option maxRecDepth 100000 in
theorem rowOrder_false (a : Option Addr) (n c : Nat) (L : List P7) (x : Int) (w : World) (h : PGood w a n c L) (h1 : 1 ≤ n) (h4 : n ≤ 40) (hq : Que L) : Calls Try.prog 5 #[.slice a n c, .int .i64 x, .bool false] w fun e w' => e = .returned (.bool true) ∧ Below w.heap.size w w' := by
  have hl := h.len
  obtain ⟨u, k, hu, huk, hkn, a5, a4⟩ := place_of x n h1
  obtain ⟨b, off, rfl, HC⟩ := h.at hkn
  have C0 := HC k hkn
  obtain ⟨p, hp⟩ : ∃ p, L.getD k p70 = p := ⟨_, rfl⟩
  rw [hp] at C0
  obtain ⟨kk, HM⟩ := moved_front hq (k := k) (by omega) hp
  have hhas := (at_of hq.2 (k := k) (by omega)).1
  rw [hp] at hhas
  have hdP := dropP_at hq.2 (k := k) (by omega)
  rw [hp] at hdP
  have I := refIs_any7 (some ⟨b, off, none⟩) n c L w h (by omega)
  rw [qIs_iff.2 hq] at I
  have M1 := fun u (hb : Below w.heap.size w u) => front_any7 (some ⟨b, off, none⟩) n c L p.id u (h.below hb) hq
  have M2 := fun u (hb : Below w.heap.size w u) => back_any7 (some ⟨b, off, none⟩) n c L p.id u (h.below hb) hq
  have D1 := fun u (hb : Below w.heap.size w u) => refDrop_any (some ⟨b, off, none⟩) n c L p.id u (h.below hb) (by omega)
  rw [(drop_yes hhas).2.2] at M1 M2 D1
  unfold PutEnd7 at M1 M2
  unfold RDropEnd at D1
  simp only [front_len, back_len, ← hl] at M1 M2
  simp only [hdP] at D1
  obtain ⟨M, hM⟩ : ∃ M, qFront L p.id = M := ⟨_, rfl⟩
  rw [hM] at HM
  simp only [hM] at M1
  have hml : M.length = n := by rw [HM.len]; exact hl.symm
  have J := fun u a3 c3 (g : PGood u a3 n c3 M) => is_any7 a3 n c3 M u g
  rw [qIs_iff.2 HM.que] at J
  have D2 := fun u a3 c3 (g : PGood u a3 n c3 M) => refDrop_any a3 n c3 M p.id u g (by omega)
  have F := fun u a3 c3 (g : PGood u a3 n c3 M) => refFind_any a3 n c3 p.id M u (by omega) g.pays
  rw [qFind_yes HM.has, HM.spot] at F
  have he2 := (drop_yes HM.has).2.2
  rw [HM.drop, HM.dropP, he2] at D2
  unfold RDropEnd at D2
  obtain ⟨R, hR⟩ : ∃ R, qDrop L p.id = R := ⟨_, rfl⟩
  rw [hR] at D1 D2
  obtain ⟨rl, hrl⟩ : ∃ rl, R.length = rl := ⟨_, rfl⟩
  simp only [hrl] at D1 D2
  have hrn : rl ≤ n := by have := drop_le L p.id; rw [hR] at this; omega
  have E := fun u a6 c6 a8 c8 (g6 : PGood u a6 rl c6 R) (g8 : PGood u a8 rl c8 R) => refPaySame_any a6 a8 rl rl c6 c8 R R u g6.pays g8.pays (by omega)
  rw [eqP_yes (rfl : R = R)] at E
  have HS : Hid (∀ i, i < n → i ≠ kk → (M.getD i p70).fr = p.fr → (M.getD i p70).cl = p.cl → decide (i < kk) = false) := fun i hi => HM.side i (by omega)
  have hkk : kk < n := by have := HM.lt; omega
  have HML : Hid (M.length = n) := hml
  obtain ⟨p0, p1, p2, p3, p4, p5, p6⟩ := p
  have HP : Hid (At7 w b (off + k * 7) (p0, p1, p2, p3, p4, p5, p6)) := C0
  have a1 : (1 : Int) ≤ (n : Int) := by omega
  have a2 : (n : Int) ≤ 40 := by omega
  have a3 : (k : Int) < (n : Int) := by omega
  clear h hl HC C0 hp HM hhas hdP hM hml he2 hR hrl hq h1 h4 hkn
  go_enter Try.func5, Try.ntmps5
  go_wp2_with fail
  go_at_call 23
  refine I.mono ?_
  rintro e w1 ⟨rfl, hb⟩
  have B1 : Hid (Below w.heap.size w w1) := hb
  obtain ⟨z0, z1, z2, z3, z4, z5, z6⟩ := HP.out.below hb
  simp only [P7.id, P7.fr, P7.to, P7.am, P7.cl, P7.st, P7.ti] at z0 z1 z2 z3 z4 z5 z6
  obtain ⟨w2, hw2⟩ : ∃ w2, w2 = w1.alloc (.cells #[.int .i64 p0, .int .i64 p1, .int .i64 p2, .int .i64 p3, .int .i64 p4, .int .i64 p5, .int .i64 p6] 25) := ⟨_, rfl⟩
  have B2 : Hid (Below w.heap.size w w2) := by rw [hw2]; exact hb.alloc hb.size _
  have X2 : Hid (At7 w2 w1.heap.size 0 (p0, p1, p2, p3, p4, p5, p6)) := by rw [hw2]; exact At7.new w1 (p0, p1, p2, p3, p4, p5, p6) _ _
  have M1' := M1 w2 B2.out
  rw [hw2] at M1'
  have HW : Hid (w2 = _) := hw2
  clear hb I hw2 HP M1
  go_wp2_with fail
  go_at_call 12
  refine M1'.mono ?_
  rintro e w3 ⟨a3', c3, rfl, g3, n3, hb⟩
  rw [← HW.out] at hb
  have B3 : Hid (Below w.heap.size w w3) := B2.out.trans (hb.mono B2.out.size)
  have X3 : Hid (At7 w3 w1.heap.size 0 (p0, p1, p2, p3, p4, p5, p6)) := X2.out.below hb
  have G3 : Hid (PGood w3 a3' n c3 _) := g3
  clear z0 z1 z2 z3 z4 z5 z6 hb M1' HW X2 g3 n3 B2
  obtain ⟨z0, z1, z2, z3, z4, z5, z6⟩ := X3.out
  simp only [P7.id, P7.fr, P7.to, P7.am, P7.cl, P7.st, P7.ti] at z0 z1 z2 z3 z4 z5 z6
  obtain ⟨a4', ha4⟩ : ∃ x, x = a3' := ⟨_, rfl⟩
  obtain ⟨c4, hc4⟩ : ∃ x, x = c3 := ⟨_, rfl⟩
  obtain ⟨w4, hw4⟩ : ∃ x, x = w3 := ⟨_, rfl⟩
  rw [← ha4, ← hc4, ← hw4] at G3
  rw [← hw4] at B3 X3 z0 z1 z2 z3 z4 z5 z6 ⊢
  rw [← ha4, ← hc4]
  have B4 := B3
  have X4 := X3
  have G4 : Hid (PGood w4 a4' n c4 M) := G3
  clear ha4 hc4 hw4 B3 X3 G3 M2
  have J' := J w4 a4' c4 G4.out
  clear J
  go_wp2_with fail
  go_at_call 21
  refine J'.mono ?_
  rintro e w5 ⟨rfl, hb⟩
  have B5 : Hid (Below w.heap.size w w5) := B4.out.trans (hb.mono B4.out.size)
  have X5 : Hid (At7 w5 w1.heap.size 0 (p0, p1, p2, p3, p4, p5, p6)) := X4.out.below hb
  have G5 : Hid (PGood w5 a4' n c4 M) := G4.out.below hb
  have D1' := D1 w5 B5.out
  clear z0 z1 z2 z3 z4 z5 z6 hb J' X4 G4 D1 B4
  obtain ⟨z0, z1, z2, z3, z4, z5, z6⟩ := X5.out
  simp only [P7.id, P7.fr, P7.to, P7.am, P7.cl, P7.st, P7.ti] at z0 z1 z2 z3 z4 z5 z6
  go_wp2_with fail
  go_at_call 11
  refine D1'.mono ?_
  rintro e w6 ⟨a6, c6, rfl, g6, hb⟩
  obtain ⟨w7, hw7⟩ : ∃ w7, w7 = w6.alloc (.cells #[.int .i64 p0, .int .i64 p1, .int .i64 p2, .int .i64 p3, .int .i64 p4, .int .i64 p5, .int .i64 p6] 25) := ⟨_, rfl⟩
  have B7 : Hid (Below w.heap.size w w7) := by rw [hw7]; exact B5.out.trans ((hb.alloc hb.size _).mono B5.out.size)
  have X7 : Hid (At7 w7 w1.heap.size 0 (p0, p1, p2, p3, p4, p5, p6)) := by rw [hw7]; exact (X5.out.below hb).below (box_below _ _)
  have G7 : Hid (PGood w7 a4' n c4 M) := by rw [hw7]; exact (G5.out.below hb).below (box_below _ _)
  have R7 : Hid (PGood w7 a6 rl c6 R) := by rw [hw7]; exact g6.below (box_below _ _)
  have D2' := D2 w7 a4' c4 G7.out
  have HW : Hid (w7 = _) := hw7
  obtain ⟨y0, y1, y2, y3, y4, y5, y6⟩ := X7.out
  simp only [P7.id, P7.fr, P7.to, P7.am, P7.cl, P7.st, P7.ti] at y0 y1 y2 y3 y4 y5 y6
  rw [hw7] at D2' y0 y1 y2 y3 y4 y5 y6
  clear z0 z1 z2 z3 z4 z5 z6 hb D1' X5 G5 g6 D2 B5 hw7
  go_wp2_with fail
  go_at_call 11
  refine D2'.mono ?_
  rintro e w8 ⟨a8, c8, rfl, g8, hb⟩
  rw [← HW.out] at hb
  obtain ⟨w9, hw9⟩ : ∃ w9, w9 = w8.alloc (.cells #[.int .i64 p0, .int .i64 p1, .int .i64 p2, .int .i64 p3, .int .i64 p4, .int .i64 p5, .int .i64 p6] 25) := ⟨_, rfl⟩
  have B9 : Hid (Below w.heap.size w w9) := by rw [hw9]; exact B7.out.trans ((hb.alloc hb.size _).mono B7.out.size)
  have X9 : Hid (At7 w9 w1.heap.size 0 (p0, p1, p2, p3, p4, p5, p6)) := by rw [hw9]; exact (X7.out.below hb).below (box_below _ _)
  have G9 : Hid (PGood w9 a4' n c4 M) := by rw [hw9]; exact (G7.out.below hb).below (box_below _ _)
  have E' := E w9 a6 c6 a8 c8 (by rw [hw9]; exact (R7.out.below hb).below (box_below _ _)) (by rw [hw9]; exact g8.below (box_below _ _))
  have HW9 : Hid (w9 = _) := hw9
  rw [hw9] at E'
  clear y0 y1 y2 y3 y4 y5 y6 hb D2' X7 G7 R7 g8 E B7 hw9 HW
  go_wp2_with fail
  go_at_call 20
  refine E'.mono ?_
  rintro e w10 ⟨rfl, q10, hw10⟩
  rw [← HW9.out] at hw10
  have B10 : Hid (Below w.heap.size w w10) := by rw [hw10]; exact B9.out.trans ((drawn_below w9 q10).mono B9.out.size)
  have X10 : Hid (At7 w10 w1.heap.size 0 (p0, p1, p2, p3, p4, p5, p6)) := by rw [hw10]; exact X9.out.below (drawn_below w9 q10)
  have G10 : Hid (PGood w10 a4' n c4 M) := by rw [hw10]; exact G9.out.below (drawn_below w9 q10)
  have F' := F w10 a4' c4 G10.out
  clear E' hw10 X9 G9 B9 HW9 F
  obtain ⟨z0, z1, z2, z3, z4, z5, z6⟩ := X10.out
  simp only [P7.id, P7.fr, P7.to, P7.am, P7.cl, P7.st, P7.ti] at z0 z1 z2 z3 z4 z5 z6
  go_wp2_with fail
  go_at_call 19
  refine F'.mono ?_
  rintro e w11 ⟨rfl, hw11⟩
  obtain rfl := hw11.symm
  clear hw11 F' z0 z1 z2 z3 z4 z5 z6
  go_wp2
  go_loopw [17] (fun i wr => ∃ j : Nat, j ≤ n ∧ i = .int .i64 j ∧ Hid (Below w10.heap.size w10 wr)) (fun i _ => n - (intOf i).toNat)
  case atStart => exact ⟨0, by omega, rfl, Below.refl _ _⟩
  case round =>
    obtain ⟨j, hj, rfl, HB⟩ := hrel
    by_cases hlt : j < n
    · have b1 : (j : Int) < (n : Int) := by omega
      obtain ⟨y0, y1, y2, y3, y4, y5, y6⟩ := X10.out.below HB.out
      simp only [P7.id, P7.fr, P7.to, P7.am, P7.cl, P7.st, P7.ti] at y0 y1 y2 y3 y4 y5 y6
      have g := G10.out.below HB.out
      obtain ⟨b4, o4, rfl, HC⟩ := g.at hlt
      obtain ⟨z0, z1, z2, z3, z4, z5, z6⟩ := HC j hlt
      obtain ⟨m, hm⟩ : ∃ m, M.getD j p70 = m := ⟨_, rfl⟩
      have hs := HS.out j hlt
      rw [hm] at z0 z1 z2 z3 z4 z5 z6 hs
      obtain ⟨m0, m1, m2, m3, m4, m5, m6⟩ := m
      simp only [P7.id, P7.fr, P7.to, P7.am, P7.cl, P7.st, P7.ti] at z0 z1 z2 z3 z4 z5 z6 hs
      have BN : Hid (∀ q, Below w10.heap.size w10 (wr.drewN q)) := fun q => HB.out.trans ((drawn_below wr q).mono HB.out.size)
      clear g HC hm
      by_cases hjk : j = kk
      · have e1 : ((j : Int) != (kk : Int)) = false := by subst hjk; simp
        have e2 : (j : Int) = (kk : Int) := by omega
        clear hs hjk
        go_wp2
        go_quiet (fail)
        go_wp2
        go_roundw
        case rel => exact ⟨j + 1, by omega, by go_num, BN.out _⟩
        case measure => simp [intOf]; omega
      · have e1 : ((j : Int) != (kk : Int)) = true := by simp; omega
        have e2 : ¬ (j : Int) = (kk : Int) := by omega
        by_cases hfr : m1 = p1
        · have e3 : (m1 == p1) = true := by simp [hfr]
          by_cases hcl : m4 = p4
          · have e4 : (m4 == p4) = true := by simp [hcl]
            have hs1 := hs hjk hfr hcl
            have e5 : (decide ((j : Int) < (kk : Int)) != false) = false := by
              have : decide ((j : Int) < (kk : Int)) = decide (j < kk) := by rw [Bool.eq_iff_iff]; simp
              rw [this, hs1]
              rfl
            have e6 : decide ((j : Int) < (kk : Int)) = false := by
              have : decide ((j : Int) < (kk : Int)) = decide (j < kk) := by rw [Bool.eq_iff_iff]; simp
              rw [this, hs1]
            have e7 : decide (j < kk) = false := hs1
            subst hfr hcl
            clear hs hs1 hjk e5
            go_wp2
            go_quiet (fail)
            go_wp2
            go_roundw
            case rel => exact ⟨j + 1, by omega, by go_num, BN.out _⟩
            case measure => simp [intOf]; omega
          · have e4 : (m4 == p4) = false := by simp [hcl]
            subst hfr
            clear hs hjk hcl
            go_wp2
            go_quiet (fail)
            go_wp2
            go_roundw
            case rel => exact ⟨j + 1, by omega, by go_num, BN.out _⟩
            case measure => simp [intOf]; omega
        · have e3 : (m1 == p1) = false := by simp [hfr]
          clear hs hjk hfr
          go_wp2
          go_quiet (fail)
          go_wp2
          go_roundw
          case rel => exact ⟨j + 1, by omega, by go_num, BN.out _⟩
          case measure => simp [intOf]; omega
    · obtain rfl : j = n := by omega
      have B12 : Hid (Below w.heap.size w wr) := B10.out.trans (HB.out.mono B10.out.size)
      clear HS
      go_wp2_with fail
      go_at_call 22
      refine (known13 _).mono ?_
      rintro e w13 ⟨rfl, hb9⟩
      have B13 : Hid (Below w.heap.size w w13) := B12.out.trans (hb9.mono B12.out.size)
      clear hb9
      go_wp2
      go_ret
      exact ⟨rfl, B13.out⟩

set_option maxHeartbeats 4000000 in
set_option maxRecDepth 100000 in
theorem rowOrder_true (a : Option Addr) (n c : Nat) (L : List P7) (x : Int) (w : World) (h : PGood w a n c L) (h1 : 1 ≤ n) (h4 : n ≤ 40) (hq : Que L) : Calls Try.prog 5 #[.slice a n c, .int .i64 x, .bool true] w fun e w' => e = .returned (.bool true) ∧ Below w.heap.size w w' := by
  have hl := h.len
  obtain ⟨u, k, hu, huk, hkn, a5, a4⟩ := place_of x n h1
  obtain ⟨b, off, rfl, HC⟩ := h.at hkn
  have C0 := HC k hkn
  obtain ⟨p, hp⟩ : ∃ p, L.getD k p70 = p := ⟨_, rfl⟩
  rw [hp] at C0
  obtain ⟨kk, HM⟩ := moved_back hq (k := k) (by omega) hp
  have hhas := (at_of hq.2 (k := k) (by omega)).1
  rw [hp] at hhas
  have hdP := dropP_at hq.2 (k := k) (by omega)
  rw [hp] at hdP
  have I := refIs_any7 (some ⟨b, off, none⟩) n c L w h (by omega)
  rw [qIs_iff.2 hq] at I
  have M1 := fun u (hb : Below w.heap.size w u) => front_any7 (some ⟨b, off, none⟩) n c L p.id u (h.below hb) hq
  have M2 := fun u (hb : Below w.heap.size w u) => back_any7 (some ⟨b, off, none⟩) n c L p.id u (h.below hb) hq
  have D1 := fun u (hb : Below w.heap.size w u) => refDrop_any (some ⟨b, off, none⟩) n c L p.id u (h.below hb) (by omega)
  rw [(drop_yes hhas).2.2] at M1 M2 D1
  unfold PutEnd7 at M1 M2
  unfold RDropEnd at D1
  simp only [front_len, back_len, ← hl] at M1 M2
  simp only [hdP] at D1
  obtain ⟨M, hM⟩ : ∃ M, qBack L p.id = M := ⟨_, rfl⟩
  rw [hM] at HM
  simp only [hM] at M2
  have hml : M.length = n := by rw [HM.len]; exact hl.symm
  have J := fun u a3 c3 (g : PGood u a3 n c3 M) => is_any7 a3 n c3 M u g
  rw [qIs_iff.2 HM.que] at J
  have D2 := fun u a3 c3 (g : PGood u a3 n c3 M) => refDrop_any a3 n c3 M p.id u g (by omega)
  have F := fun u a3 c3 (g : PGood u a3 n c3 M) => refFind_any a3 n c3 p.id M u (by omega) g.pays
  rw [qFind_yes HM.has, HM.spot] at F
  have he2 := (drop_yes HM.has).2.2
  rw [HM.drop, HM.dropP, he2] at D2
  unfold RDropEnd at D2
  obtain ⟨R, hR⟩ : ∃ R, qDrop L p.id = R := ⟨_, rfl⟩
  rw [hR] at D1 D2
  obtain ⟨rl, hrl⟩ : ∃ rl, R.length = rl := ⟨_, rfl⟩
  simp only [hrl] at D1 D2
  have hrn : rl ≤ n := by have := drop_le L p.id; rw [hR] at this; omega
  have E := fun u a6 c6 a8 c8 (g6 : PGood u a6 rl c6 R) (g8 : PGood u a8 rl c8 R) => refPaySame_any a6 a8 rl rl c6 c8 R R u g6.pays g8.pays (by omega)
  rw [eqP_yes (rfl : R = R)] at E
  have HS : Hid (∀ i, i < n → i ≠ kk → (M.getD i p70).fr = p.fr → (M.getD i p70).cl = p.cl → decide (i < kk) = true) := fun i hi => HM.side i (by omega)
  have hkk : kk < n := by have := HM.lt; omega
  have HML : Hid (M.length = n) := hml
  obtain ⟨p0, p1, p2, p3, p4, p5, p6⟩ := p
  have HP : Hid (At7 w b (off + k * 7) (p0, p1, p2, p3, p4, p5, p6)) := C0
  have a1 : (1 : Int) ≤ (n : Int) := by omega
  have a2 : (n : Int) ≤ 40 := by omega
  have a3 : (k : Int) < (n : Int) := by omega
  clear h hl HC C0 hp HM hhas hdP hM hml he2 hR hrl hq h1 h4 hkn
  go_enter Try.func5, Try.ntmps5
  go_wp2_with fail
  go_at_call 23
  refine I.mono ?_
  rintro e w1 ⟨rfl, hb⟩
  have B1 : Hid (Below w.heap.size w w1) := hb
  obtain ⟨z0, z1, z2, z3, z4, z5, z6⟩ := HP.out.below hb
  simp only [P7.id, P7.fr, P7.to, P7.am, P7.cl, P7.st, P7.ti] at z0 z1 z2 z3 z4 z5 z6
  obtain ⟨w2, hw2⟩ : ∃ w2, w2 = w1.alloc (.cells #[.int .i64 p0, .int .i64 p1, .int .i64 p2, .int .i64 p3, .int .i64 p4, .int .i64 p5, .int .i64 p6] 25) := ⟨_, rfl⟩
  have B2 : Hid (Below w.heap.size w w2) := by rw [hw2]; exact hb.alloc hb.size _
  have X2 : Hid (At7 w2 w1.heap.size 0 (p0, p1, p2, p3, p4, p5, p6)) := by rw [hw2]; exact At7.new w1 (p0, p1, p2, p3, p4, p5, p6) _ _
  have M1' := M1 w2 B2.out
  rw [hw2] at M1'
  have HW : Hid (w2 = _) := hw2
  clear hb I hw2 HP M1
  go_wp2_with fail
  go_at_call 12
  refine M1'.mono ?_
  rintro e w3 ⟨a3', c3, rfl, g3, n3, hb⟩
  rw [← HW.out] at hb
  have B3 : Hid (Below w.heap.size w w3) := B2.out.trans (hb.mono B2.out.size)
  have X3 : Hid (At7 w3 w1.heap.size 0 (p0, p1, p2, p3, p4, p5, p6)) := X2.out.below hb
  have G3 : Hid (PGood w3 a3' n c3 _) := g3
  clear z0 z1 z2 z3 z4 z5 z6 hb M1' HW X2 g3 n3 B2
  obtain ⟨z0, z1, z2, z3, z4, z5, z6⟩ := X3.out
  simp only [P7.id, P7.fr, P7.to, P7.am, P7.cl, P7.st, P7.ti] at z0 z1 z2 z3 z4 z5 z6
  have M2' := M2 w3 B3.out
  clear M2 G3
  go_wp2_with fail
  go_at_call 14
  refine M2'.mono ?_
  rintro e w4 ⟨a4', c4, rfl, g4, n4, hb⟩
  have B4 : Hid (Below w.heap.size w w4) := B3.out.trans (hb.mono B3.out.size)
  have X4 : Hid (At7 w4 w1.heap.size 0 (p0, p1, p2, p3, p4, p5, p6)) := X3.out.below hb
  have G4 : Hid (PGood w4 a4' n c4 M) := g4
  clear z0 z1 z2 z3 z4 z5 z6 hb M2' X3 g4 n4 B3
  obtain ⟨z0, z1, z2, z3, z4, z5, z6⟩ := X4.out
  simp only [P7.id, P7.fr, P7.to, P7.am, P7.cl, P7.st, P7.ti] at z0 z1 z2 z3 z4 z5 z6
  have J' := J w4 a4' c4 G4.out
  clear J
  go_wp2_with fail
  go_at_call 21
  refine J'.mono ?_
  rintro e w5 ⟨rfl, hb⟩
  have B5 : Hid (Below w.heap.size w w5) := B4.out.trans (hb.mono B4.out.size)
  have X5 : Hid (At7 w5 w1.heap.size 0 (p0, p1, p2, p3, p4, p5, p6)) := X4.out.below hb
  have G5 : Hid (PGood w5 a4' n c4 M) := G4.out.below hb
  have D1' := D1 w5 B5.out
  clear z0 z1 z2 z3 z4 z5 z6 hb J' X4 G4 D1 B4
  obtain ⟨z0, z1, z2, z3, z4, z5, z6⟩ := X5.out
  simp only [P7.id, P7.fr, P7.to, P7.am, P7.cl, P7.st, P7.ti] at z0 z1 z2 z3 z4 z5 z6
  go_wp2_with fail
  go_at_call 11
  refine D1'.mono ?_
  rintro e w6 ⟨a6, c6, rfl, g6, hb⟩
  obtain ⟨w7, hw7⟩ : ∃ w7, w7 = w6.alloc (.cells #[.int .i64 p0, .int .i64 p1, .int .i64 p2, .int .i64 p3, .int .i64 p4, .int .i64 p5, .int .i64 p6] 25) := ⟨_, rfl⟩
  have B7 : Hid (Below w.heap.size w w7) := by rw [hw7]; exact B5.out.trans ((hb.alloc hb.size _).mono B5.out.size)
  have X7 : Hid (At7 w7 w1.heap.size 0 (p0, p1, p2, p3, p4, p5, p6)) := by rw [hw7]; exact (X5.out.below hb).below (box_below _ _)
  have G7 : Hid (PGood w7 a4' n c4 M) := by rw [hw7]; exact (G5.out.below hb).below (box_below _ _)
  have R7 : Hid (PGood w7 a6 rl c6 R) := by rw [hw7]; exact g6.below (box_below _ _)
  have D2' := D2 w7 a4' c4 G7.out
  have HW : Hid (w7 = _) := hw7
  obtain ⟨y0, y1, y2, y3, y4, y5, y6⟩ := X7.out
  simp only [P7.id, P7.fr, P7.to, P7.am, P7.cl, P7.st, P7.ti] at y0 y1 y2 y3 y4 y5 y6
  rw [hw7] at D2' y0 y1 y2 y3 y4 y5 y6
  clear z0 z1 z2 z3 z4 z5 z6 hb D1' X5 G5 g6 D2 B5 hw7
  go_wp2_with fail
  go_at_call 11
  refine D2'.mono ?_
  rintro e w8 ⟨a8, c8, rfl, g8, hb⟩
  rw [← HW.out] at hb
  obtain ⟨w9, hw9⟩ : ∃ w9, w9 = w8.alloc (.cells #[.int .i64 p0, .int .i64 p1, .int .i64 p2, .int .i64 p3, .int .i64 p4, .int .i64 p5, .int .i64 p6] 25) := ⟨_, rfl⟩
  have B9 : Hid (Below w.heap.size w w9) := by rw [hw9]; exact B7.out.trans ((hb.alloc hb.size _).mono B7.out.size)
  have X9 : Hid (At7 w9 w1.heap.size 0 (p0, p1, p2, p3, p4, p5, p6)) := by rw [hw9]; exact (X7.out.below hb).below (box_below _ _)
  have G9 : Hid (PGood w9 a4' n c4 M) := by rw [hw9]; exact (G7.out.below hb).below (box_below _ _)
  have E' := E w9 a6 c6 a8 c8 (by rw [hw9]; exact (R7.out.below hb).below (box_below _ _)) (by rw [hw9]; exact g8.below (box_below _ _))
  have HW9 : Hid (w9 = _) := hw9
  rw [hw9] at E'
  clear y0 y1 y2 y3 y4 y5 y6 hb D2' X7 G7 R7 g8 E B7 hw9 HW
  go_wp2_with fail
  go_at_call 20
  refine E'.mono ?_
  rintro e w10 ⟨rfl, q10, hw10⟩
  rw [← HW9.out] at hw10
  have B10 : Hid (Below w.heap.size w w10) := by rw [hw10]; exact B9.out.trans ((drawn_below w9 q10).mono B9.out.size)
  have X10 : Hid (At7 w10 w1.heap.size 0 (p0, p1, p2, p3, p4, p5, p6)) := by rw [hw10]; exact X9.out.below (drawn_below w9 q10)
  have G10 : Hid (PGood w10 a4' n c4 M) := by rw [hw10]; exact G9.out.below (drawn_below w9 q10)
  have F' := F w10 a4' c4 G10.out
  clear E' hw10 X9 G9 B9 HW9 F
  obtain ⟨z0, z1, z2, z3, z4, z5, z6⟩ := X10.out
  simp only [P7.id, P7.fr, P7.to, P7.am, P7.cl, P7.st, P7.ti] at z0 z1 z2 z3 z4 z5 z6
  go_wp2_with fail
  go_at_call 19
  refine F'.mono ?_
  rintro e w11 ⟨rfl, hw11⟩
  obtain rfl := hw11.symm
  clear hw11 F' z0 z1 z2 z3 z4 z5 z6
  go_wp2
  go_loopw [17] (fun i wr => ∃ j : Nat, j ≤ n ∧ i = .int .i64 j ∧ Hid (Below w10.heap.size w10 wr)) (fun i _ => n - (intOf i).toNat)
  case atStart => exact ⟨0, by omega, rfl, Below.refl _ _⟩
  case round =>
    obtain ⟨j, hj, rfl, HB⟩ := hrel
    by_cases hlt : j < n
    · have b1 : (j : Int) < (n : Int) := by omega
      obtain ⟨y0, y1, y2, y3, y4, y5, y6⟩ := X10.out.below HB.out
      simp only [P7.id, P7.fr, P7.to, P7.am, P7.cl, P7.st, P7.ti] at y0 y1 y2 y3 y4 y5 y6
      have g := G10.out.below HB.out
      obtain ⟨b4, o4, rfl, HC⟩ := g.at hlt
      obtain ⟨z0, z1, z2, z3, z4, z5, z6⟩ := HC j hlt
      obtain ⟨m, hm⟩ : ∃ m, M.getD j p70 = m := ⟨_, rfl⟩
      have hs := HS.out j hlt
      rw [hm] at z0 z1 z2 z3 z4 z5 z6 hs
      obtain ⟨m0, m1, m2, m3, m4, m5, m6⟩ := m
      simp only [P7.id, P7.fr, P7.to, P7.am, P7.cl, P7.st, P7.ti] at z0 z1 z2 z3 z4 z5 z6 hs
      have BN : Hid (∀ q, Below w10.heap.size w10 (wr.drewN q)) := fun q => HB.out.trans ((drawn_below wr q).mono HB.out.size)
      clear g HC hm
      by_cases hjk : j = kk
      · have e1 : ((j : Int) != (kk : Int)) = false := by subst hjk; simp
        have e2 : (j : Int) = (kk : Int) := by omega
        clear hs hjk
        go_wp2
        go_quiet (fail)
        go_wp2
        go_roundw
        case rel => exact ⟨j + 1, by omega, by go_num, BN.out _⟩
        case measure => simp [intOf]; omega
      · have e1 : ((j : Int) != (kk : Int)) = true := by simp; omega
        have e2 : ¬ (j : Int) = (kk : Int) := by omega
        by_cases hfr : m1 = p1
        · have e3 : (m1 == p1) = true := by simp [hfr]
          by_cases hcl : m4 = p4
          · have e4 : (m4 == p4) = true := by simp [hcl]
            have hs1 := hs hjk hfr hcl
            have e5 : (decide ((j : Int) < (kk : Int)) != true) = false := by
              have : decide ((j : Int) < (kk : Int)) = decide (j < kk) := by rw [Bool.eq_iff_iff]; simp
              rw [this, hs1]
              rfl
            have e6 : decide ((j : Int) < (kk : Int)) = true := by
              have : decide ((j : Int) < (kk : Int)) = decide (j < kk) := by rw [Bool.eq_iff_iff]; simp
              rw [this, hs1]
            have e7 : decide (j < kk) = true := hs1
            subst hfr hcl
            clear hs hs1 hjk e5
            go_wp2
            go_quiet (fail)
            go_wp2
            go_roundw
            case rel => exact ⟨j + 1, by omega, by go_num, BN.out _⟩
            case measure => simp [intOf]; omega
          · have e4 : (m4 == p4) = false := by simp [hcl]
            subst hfr
            clear hs hjk hcl
            go_wp2
            go_quiet (fail)
            go_wp2
            go_roundw
            case rel => exact ⟨j + 1, by omega, by go_num, BN.out _⟩
            case measure => simp [intOf]; omega
        · have e3 : (m1 == p1) = false := by simp [hfr]
          clear hs hjk hfr
          go_wp2
          go_quiet (fail)
          go_wp2
          go_roundw
          case rel => exact ⟨j + 1, by omega, by go_num, BN.out _⟩
          case measure => simp [intOf]; omega
    · obtain rfl : j = n := by omega
      have B12 : Hid (Below w.heap.size w wr) := B10.out.trans (HB.out.mono B10.out.size)
      clear HS
      go_wp2_with fail
      go_at_call 22
      refine (known13 _).mono ?_
      rintro e w13 ⟨rfl, hb9⟩
      have B13 : Hid (Below w.heap.size w w13) := B12.out.trans (hb9.mono B12.out.size)
      clear hb9
      go_wp2
      go_ret
      exact ⟨rfl, B13.out⟩

theorem rowOrder (a : Option Addr) (n c : Nat) (L : List P7) (x : Int) (bk : Bool) (w : World) (h : PaysIn w a n c L) (hx : (Lit.int .i64 x).wf = true) : Calls Try.prog 5 #[.slice a n c, .int .i64 x, .bool bk] w fun e w' => e = .returned (.bool true) ∧ Below w.heap.size w w' := by
  by_cases hn : n < 1 ∨ 40 < n
  · exact rowOrder_out a n c x bk w hn
  · cases hq : qIs L with
    | false => exact rowOrder_no a n c L x bk w h.good (by omega) (by omega) hq
    | true =>
      cases bk with
      | false => exact rowOrder_false a n c L x w h.good (by omega) (by omega) (qIs_iff.1 hq)
      | true => exact rowOrder_true a n c L x w h.good (by omega) (by omega) (qIs_iff.1 hq)

end Walk
end Go.Proofs.Ytjibnbheegcnkaa
