/-
  The walk of RowClass.
-/
import Derived.Test.YtjibnbheegcnkaaWalkRowIs
import Derived.Test.YtjibnbheegcnkaaRowMove
import Derived.Test.YtjibnbheegcnkaaRowPure
import Derived.Test.YtjibnbheegcnkaaPayRefSame
namespace Go.Proofs.Ytjibnbheegcnkaa
open Go.RowKit
set_option linter.unusedVariables false
set_option linter.unusedSimpArgs false
namespace Walk

theorem rowClass_out (a : Option Addr) (n c : Nat) (x cl : Int) (w : World) (h : n < 1 ∨ 40 < n) : Calls Try.prog 7 #[.slice a n c, .int .i64 x, .int .i64 cl] w fun e w' => e = .returned (.bool true) ∧ Below w.heap.size w w' := by
  rcases h with h | h
  · have h0 : (n : Int) < 1 := by omega
    go_enter Try.func7, Try.ntmps7
    go_wp2
    go_ret
    exact ⟨rfl, Below.refl _ _⟩
  · have h0 : 40 < (n : Int) := by omega
    have h1 : ¬ (n : Int) < 1 := by omega
    go_enter Try.func7, Try.ntmps7
    go_wp2
    go_ret
    exact ⟨rfl, Below.refl _ _⟩

theorem rowClass_no (a : Option Addr) (n c : Nat) (L : List P7) (x cl : Int) (w : World) (h : PGood w a n c L) (h1 : 1 ≤ n) (h4 : n ≤ 40) (hq : qIs L = false) : Calls Try.prog 7 #[.slice a n c, .int .i64 x, .int .i64 cl] w fun e w' => e = .returned (.bool true) ∧ Below w.heap.size w w' := by
  have I := refIs_any7 a n c L w h (by omega)
  rw [hq] at I
  have a1 : (1 : Int) ≤ (n : Int) := by omega
  have a2 : (n : Int) ≤ 40 := by omega
  clear h hq h1 h4
  go_enter Try.func7, Try.ntmps7
  go_wp2_with fail
  go_at_call 23
  refine I.mono ?_
  rintro e w1 ⟨rfl, hb⟩
  have B1 : Hid (Below w.heap.size w w1) := hb
  clear hb I
  go_wp2
  go_ret
  exact ⟨rfl, B1.out⟩

set_option maxHeartbeats 4000000 in
set_option maxRecDepth 100000 in
theorem rowClass_in (a : Option Addr) (n c : Nat) (L : List P7) (x cl : Int) (w : World) (h : PGood w a n c L) (h1 : 1 ≤ n) (h4 : n ≤ 40) (hq : Que L) : Calls Try.prog 7 #[.slice a n c, .int .i64 x, .int .i64 cl] w fun e w' => e = .returned (.bool true) ∧ Below w.heap.size w w' := by
  have hl := h.len
  obtain ⟨u, k, hu, huk, hkn, a5, a4⟩ := place_of x n h1
  obtain ⟨b, off, rfl, HC⟩ := h.at hkn
  have C0 := HC k hkn
  obtain ⟨p, hp⟩ : ∃ p, L.getD k p70 = p := ⟨_, rfl⟩
  rw [hp] at C0
  obtain ⟨kk, HM⟩ := classed hq (k := k) (by omega) hp cl
  have hhas := (at_of hq.2 (k := k) (by omega)).1
  rw [hp] at hhas
  have hdP := dropP_at hq.2 (k := k) (by omega)
  rw [hp] at hdP
  have I := refIs_any7 (some ⟨b, off, none⟩) n c L w h (by omega)
  rw [qIs_iff.2 hq] at I
  have M1 := fun u (hb : Below w.heap.size w u) => class_any7 (some ⟨b, off, none⟩) n c L p.id cl u (h.below hb) hq
  have D1 := fun u (hb : Below w.heap.size w u) => refDrop_any (some ⟨b, off, none⟩) n c L p.id u (h.below hb) (by omega)
  rw [(drop_yes hhas).2.2] at M1 D1
  unfold PutEnd7 at M1
  unfold RDropEnd at D1
  simp only [class_len, ← hl] at M1
  simp only [hdP] at D1
  obtain ⟨M, hM⟩ : ∃ M, qClass L p.id cl = M := ⟨_, rfl⟩
  rw [hM] at HM
  simp only [hM] at M1
  have hml : M.length = n := by rw [HM.len]; exact hl.symm
  have J := fun u a3 c3 (g : PGood u a3 n c3 M) => is_any7 a3 n c3 M u g
  rw [qIs_iff.2 HM.que] at J
  have D2 := fun u a3 c3 (g : PGood u a3 n c3 M) => refDrop_any a3 n c3 M p.id u g (by omega)
  have F := fun u a3 c3 (g : PGood u a3 n c3 M) => refFind_any a3 n c3 p.id M u (by omega) g.pays
  rw [qFind_yes HM.has, HM.spot] at F
  have he2 := (drop_yes HM.has).2.2
  rw [HM.drop, HM.dropP, he2] at D2
  unfold RDropEnd at D2
  obtain ⟨R, hR⟩ : ∃ R, qDrop L p.id = R := ⟨_, rfl⟩
  have hqR : Que R := by rw [← hR]; exact hq.drop _
  have hnR : qHas R p.id = false := by rw [← hR]; exact HM.rest
  rw [hR] at D1 D2
  obtain ⟨rl, hrl⟩ : ∃ rl, R.length = rl := ⟨_, rfl⟩
  simp only [hrl] at D1 D2
  have hrn : rl ≤ n := by have := drop_le L p.id; rw [hR] at this; omega
  have E := fun u a6 c6 a8 c8 (g6 : PGood u a6 rl c6 R) (g8 : PGood u a8 rl c8 R) => refPaySame_any a6 a8 rl rl c6 c8 R R u g6.pays g8.pays (by omega)
  rw [eqP_yes (rfl : R = R)] at E
  have N := fun u a6 c6 (g6 : PGood u a6 rl c6 R) => class_any7 a6 rl c6 R p.id cl u g6 hqR
  rw [class_no hnR, (drop_no hnR).2.2] at N
  unfold PutEnd7 at N
  simp only [hrl] at N
  have HS : Hid (∀ i, kk < i → i < n → (M.getD i p70).fr = p.fr → ¬ (M.getD i p70).cl = cl) := fun i h1 h2 => HM.side i h1 (by omega)
  have HCL : Hid ((M.getD kk p70).cl = cl) := HM.cl
  have hkk : kk < n := by have := HM.lt; omega
  obtain ⟨p0, p1, p2, p3, p4, p5, p6⟩ := p
  have HP : Hid (At7 w b (off + k * 7) (p0, p1, p2, p3, p4, p5, p6)) := C0
  rw [show setC (p0, p1, p2, p3, p4, p5, p6) cl = (p0, p1, p2, p3, cl, p5, p6) from rfl] at D2
  have a1 : (1 : Int) ≤ (n : Int) := by omega
  have a2 : (n : Int) ≤ 40 := by omega
  have a3 : (k : Int) < (n : Int) := by omega
  have a6 : (kk : Int) < (n : Int) := by omega
  have a7 : (0 : Int) ≤ (kk : Int) := by omega
  clear h hl HC C0 hp HM hhas hdP hM hml he2 hR hrl hq h1 h4 hkn hqR hnR
  go_enter Try.func7, Try.ntmps7
  go_wp2_with fail
  go_at_call 23
  refine I.mono ?_
  rintro e w1 ⟨rfl, hb⟩
  have B1 : Hid (Below w.heap.size w w1) := hb
  obtain ⟨z0, z1, z2, z3, z4, z5, z6⟩ := HP.out.below hb
  simp only [P7.id, P7.fr, P7.to, P7.am, P7.cl, P7.st, P7.ti] at z0 z1 z2 z3 z4 z5 z6
  obtain ⟨w2, hw2⟩ : ∃ w2, w2 = w1.alloc (.cells #[.int .i64 p0, .int .i64 p1, .int .i64 p2, .int .i64 p3, .int .i64 p4, .int .i64 p5, .int .i64 p6] 25) := ⟨_, rfl⟩
  have B2 : Hid (Below w.heap.size w w2) := by rw [hw2]; exact hb.alloc hb.size _
  have X2 : Hid (At7 w2 w1.heap.size 0 (p0, p1, p2, p3, p4, p5, p6)) := by rw [hw2]; exact At7.new w1 (p0, p1, p2, p3, p4, p5, p6) _ _
  have M1' := M1 w2 B2.out
  rw [hw2] at M1'
  have HW : Hid (w2 = _) := hw2
  clear hb I hw2 HP M1
  go_wp2_with fail
  go_at_call 16
  refine M1'.mono ?_
  rintro e w3 ⟨am, cm, rfl, g3, n3, hb⟩
  rw [← HW.out] at hb
  have B3 : Hid (Below w.heap.size w w3) := B2.out.trans (hb.mono B2.out.size)
  have X3 : Hid (At7 w3 w1.heap.size 0 (p0, p1, p2, p3, p4, p5, p6)) := X2.out.below hb
  have G3 : Hid (PGood w3 am n cm M) := g3
  have D1' := D1 w3 B3.out
  clear z0 z1 z2 z3 z4 z5 z6 hb M1' HW X2 g3 n3 B2 D1
  obtain ⟨z0, z1, z2, z3, z4, z5, z6⟩ := X3.out
  simp only [P7.id, P7.fr, P7.to, P7.am, P7.cl, P7.st, P7.ti] at z0 z1 z2 z3 z4 z5 z6
  go_wp2_with fail
  go_at_call 11
  refine D1'.mono ?_
  rintro e w4 ⟨ar, cr, rfl, g4, hb⟩
  obtain ⟨w5, hw5⟩ : ∃ w5, w5 = w4.alloc (.cells #[.int .i64 p0, .int .i64 p1, .int .i64 p2, .int .i64 p3, .int .i64 p4, .int .i64 p5, .int .i64 p6] 25) := ⟨_, rfl⟩
  have B5 : Hid (Below w.heap.size w w5) := by rw [hw5]; exact B3.out.trans ((hb.alloc hb.size _).mono B3.out.size)
  have X5 : Hid (At7 w5 w1.heap.size 0 (p0, p1, p2, p3, p4, p5, p6)) := by rw [hw5]; exact (X3.out.below hb).below (box_below _ _)
  have G5 : Hid (PGood w5 am n cm M) := by rw [hw5]; exact (G3.out.below hb).below (box_below _ _)
  have R5 : Hid (PGood w5 ar rl cr R) := by rw [hw5]; exact g4.below (box_below _ _)
  have F' := F w5 am cm G5.out
  have HW : Hid (w5 = _) := hw5
  obtain ⟨y0, y1, y2, y3, y4, y5, y6⟩ := X5.out
  simp only [P7.id, P7.fr, P7.to, P7.am, P7.cl, P7.st, P7.ti] at y0 y1 y2 y3 y4 y5 y6
  rw [hw5] at F' y0 y1 y2 y3 y4 y5 y6
  clear z0 z1 z2 z3 z4 z5 z6 hb D1' X3 G3 g4 F B3 hw5
  go_wp2_with fail
  go_at_call 19
  refine F'.mono ?_
  rintro e w6 ⟨rfl, hw6⟩
  rw [← HW.out] at hw6
  obtain rfl := hw6.symm
  have J' := J w5 am cm G5.out
  have gk := G5.out
  obtain ⟨bm, om, rfl, HCm⟩ := gk.at hkk
  obtain ⟨-, -, -, -, z4, -, -⟩ := HCm kk hkk
  rw [HCL.out] at z4
  clear y0 y1 y2 y3 y4 y5 y6 F' HW gk HCm HCL J
  go_wp2_with fail
  go_at_call 21
  refine J'.mono ?_
  rintro e w6 ⟨rfl, hb⟩
  have B6 : Hid (Below w.heap.size w w6) := B5.out.trans (hb.mono B5.out.size)
  have X6 : Hid (At7 w6 w1.heap.size 0 (p0, p1, p2, p3, p4, p5, p6)) := X5.out.below hb
  have G6 : Hid (PGood w6 (some ⟨bm, om, none⟩) n cm M) := G5.out.below hb
  have R6 : Hid (PGood w6 ar rl cr R) := R5.out.below hb
  have D2' := D2 w6 _ cm G6.out
  clear z4 hb J' X5 G5 R5 D2 B5
  obtain ⟨z0, z1, z2, z3, z4, z5, z6⟩ := X6.out
  simp only [P7.id, P7.fr, P7.to, P7.am, P7.cl, P7.st, P7.ti] at z0 z1 z2 z3 z4 z5 z6
  go_wp2_with fail
  go_at_call 11
  refine D2'.mono ?_
  rintro e w7 ⟨ao, co, rfl, g7, hb⟩
  obtain ⟨w8, hw8⟩ : ∃ w8, w8 = w7.alloc (.cells #[.int .i64 p0, .int .i64 p1, .int .i64 p2, .int .i64 p3, .int .i64 cl, .int .i64 p5, .int .i64 p6] 25) := ⟨_, rfl⟩
  have B8 : Hid (Below w.heap.size w w8) := by rw [hw8]; exact B6.out.trans ((hb.alloc hb.size _).mono B6.out.size)
  have X8 : Hid (At7 w8 w1.heap.size 0 (p0, p1, p2, p3, p4, p5, p6)) := by rw [hw8]; exact (X6.out.below hb).below (box_below _ _)
  have G8 : Hid (PGood w8 (some ⟨bm, om, none⟩) n cm M) := by rw [hw8]; exact (G6.out.below hb).below (box_below _ _)
  have R8 : Hid (PGood w8 ar rl cr R) := by rw [hw8]; exact (R6.out.below hb).below (box_below _ _)
  have O8 : Hid (PGood w8 ao rl co R) := by rw [hw8]; exact g7.below (box_below _ _)
  have HW : Hid (w8 = _) := hw8
  clear z0 z1 z2 z3 z4 z5 z6 hb D2' X6 G6 R6 g7 B6 hw8
  go_wp2
  rw [← HW.out]
  clear HW
  go_loopw [17] (fun i wr => ∃ j : Nat, kk < j ∧ j ≤ n ∧ i = .int .i64 j ∧ Hid (Below w8.heap.size w8 wr)) (fun i _ => n - (intOf i).toNat)
  case atStart => exact ⟨kk + 1, by omega, by omega, by go_num, Below.refl _ _⟩
  case round =>
    obtain ⟨j, hkj, hj, rfl, HB⟩ := hrel
    by_cases hlt : j < n
    · have b1 : (j : Int) < (n : Int) := by omega
      obtain ⟨y0, y1, y2, y3, y4, y5, y6⟩ := X8.out.below HB.out
      simp only [P7.id, P7.fr, P7.to, P7.am, P7.cl, P7.st, P7.ti] at y0 y1 y2 y3 y4 y5 y6
      have g := G8.out.below HB.out
      obtain ⟨b4, o4, hb4, HC⟩ := g.at hlt
      simp only [Option.some.injEq, Addr.mk.injEq, and_true] at hb4
      obtain ⟨rfl, rfl⟩ := hb4
      obtain ⟨z0, z1, z2, z3, z4, z5, z6⟩ := HC j hlt
      obtain ⟨m, hm⟩ : ∃ m, M.getD j p70 = m := ⟨_, rfl⟩
      have hs := HS.out j hkj hlt
      rw [hm] at z0 z1 z2 z3 z4 z5 z6 hs
      obtain ⟨m0, m1, m2, m3, m4, m5, m6⟩ := m
      simp only [P7.id, P7.fr, P7.to, P7.am, P7.cl, P7.st, P7.ti] at z0 z1 z2 z3 z4 z5 z6 hs
      have BN : Hid (∀ q, Below w8.heap.size w8 (wr.drewN q)) := fun q => HB.out.trans ((drawn_below wr q).mono HB.out.size)
      clear g HC hm
      by_cases hfr : m1 = p1
      · have e3 : (m1 == p1) = true := by simp [hfr]
        have e4 : (m4 == cl) = false := by simp [hs hfr]
        subst hfr
        clear hs
        go_wp2
        go_quiet (fail)
        go_wp2
        go_roundw
        case rel => exact ⟨j + 1, by omega, by omega, by go_num, BN.out _⟩
        case measure => simp [intOf]; omega
      · have e3 : (m1 == p1) = false := by simp [hfr]
        clear hs hfr
        go_wp2
        go_quiet (fail)
        go_wp2
        go_roundw
        case rel => exact ⟨j + 1, by omega, by omega, by go_num, BN.out _⟩
        case measure => simp [intOf]; omega
    · obtain rfl : j = n := by omega
      have BW : Hid (Below w.heap.size w wr) := B8.out.trans (HB.out.mono B8.out.size)
      obtain ⟨y0, y1, y2, y3, y4, y5, y6⟩ := X8.out.below HB.out
      simp only [P7.id, P7.fr, P7.to, P7.am, P7.cl, P7.st, P7.ti] at y0 y1 y2 y3 y4 y5 y6
      have RW : Hid (PGood wr ar rl cr R) := R8.out.below HB.out
      have OW : Hid (PGood wr ao rl co R) := O8.out.below HB.out
      have N' := N wr ar cr RW.out
      clear HS HB X8 G8 R8 O8 N
      go_wp2_with fail
      go_at_call 16
      refine N'.mono ?_
      rintro e w9 ⟨an, cn, rfl, g9, n9, hb⟩
      have B9 : Hid (Below w.heap.size w w9) := BW.out.trans (hb.mono BW.out.size)
      have E' := E w9 ar cr ao co (RW.out.below hb) (OW.out.below hb)
      clear y0 y1 y2 y3 y4 y5 y6 g9 n9 hb N' RW OW E
      go_wp2_with fail
      go_at_call 20
      refine E'.mono ?_
      rintro e w10 ⟨rfl, q10, hw10⟩
      have B10 : Hid (Below w.heap.size w w10) := by rw [hw10]; exact B9.out.trans ((drawn_below w9 q10).mono B9.out.size)
      clear E' hw10
      go_wp2_with fail
      go_at_call 22
      refine (known13 _).mono ?_
      rintro e w13 ⟨rfl, hb9⟩
      have B13 : Hid (Below w.heap.size w w13) := B10.out.trans (hb9.mono B10.out.size)
      clear hb9
      go_wp2
      go_ret
      exact ⟨rfl, B13.out⟩

theorem rowClass (a : Option Addr) (n c : Nat) (L : List P7) (x cl : Int) (w : World) (h : PaysIn w a n c L) (hx : (Lit.int .i64 x).wf = true) (hcl : (Lit.int .i64 cl).wf = true) : Calls Try.prog 7 #[.slice a n c, .int .i64 x, .int .i64 cl] w fun e w' => e = .returned (.bool true) ∧ Below w.heap.size w w' := by
  by_cases hn : n < 1 ∨ 40 < n
  · exact rowClass_out a n c x cl w hn
  · cases hq : qIs L with
    | false => exact rowClass_no a n c L x cl w h.good (by omega) (by omega) hq
    | true => exact rowClass_in a n c L x cl w h.good (by omega) (by omega) (qIs_iff.1 hq)

end Walk
end Go.Proofs.Ytjibnbheegcnkaa
