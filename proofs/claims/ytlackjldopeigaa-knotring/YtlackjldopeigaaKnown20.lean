/-
  girolaw20.known: all go.
-/
import Derived.Test.YtlackjldopeigaaKnotRun
import Derived.Test.YtlackjldopeigaaKnotLit
import Derived.Test.YtlackjldopeigaaLimSome
import Derived.Test.YtlackjldopeigaaSomeGood
namespace Go.Proofs.Ytlackjldopeigaa
open Go.RowKit
set_option linter.unusedVariables false
set_option linter.unusedSimpArgs false

def k20R : Bks × List P7 × List P7 := knotR (someK [] (bitB 0 1) (bitB 0 2) (bitB 0 4)) (ringL 5) 1
theorem k20_que : Que (ringL 5) := qIs_iff.1 (by decide +kernel)
theorem k20_all : allB (someK [] (bitB 0 1) (bitB 0 2) (bitB 0 4)) (ringL 5) = true := by decide +kernel
theorem k20_most : mostK (someK [] (bitB 0 1) (bitB 0 2) (bitB 0 4)) (vReady (ringL 5) 1) = ([1, 1, 1], 1) := by decide +kernel
theorem k20_left : k20R.2.1.length = 0 := by decide +kernel
theorem k20_done : k20R.2.2.length = 3 := by decide +kernel

set_option maxHeartbeats 16000000 in
set_option maxRecDepth 100000 in
theorem known20 (w : World) : Calls Try.prog 16 #[] w fun e w' => e = .returned (.bool true) ∧ Below w.heap.size w w' := by
  have FM : Hid (∀ (y : BA) (a : Option Addr) (c : Nat) (u : World), Bk u y (someK [] (bitB 0 1) (bitB 0 2) (bitB 0 4)) → PGood u a 3 c (ringL 5) → Calls Try.prog 11 #[y.val, .slice a 3 c, .int .i64 1] u (MostEndN u [1, 1, 1] 1 3)) := fun y a c u h1 h2 => (knotMost_any y _ a 3 c _ 1 u h1 (good_some _ _ _ _) h2 (ready_all 1 k20_all) (by omega)).mono fun _ _ h => by
    rw [k20_most] at h
    exact h.num rfl
  have FF : Hid (∀ (y : BA) (a : Option Addr) (c : Nat) (u : World), Bk u y (someK [] (bitB 0 1) (bitB 0 2) (bitB 0 4)) → PGood u a 3 c (ringL 5) → Calls Try.prog 13 #[y.val, .slice a 3 c, .int .i64 1] u (FreeEnd u k20R)) := fun y a c u h1 h2 => knotRun_any y _ a 3 c _ 1 u h1 (good_some _ _ _ _) h2 k20_que k20_all
  have RG : Hid (∀ u : World, Calls Try.prog 27 #[.int .i64 5] u fun e w' => ∃ g c, e = .returned (.slice (some ⟨g, 0, none⟩) 3 c) ∧ w'.ownsRow u.heap.size 51 7 (.slice (some ⟨g, 0, none⟩) 3 c) 3 (payL (ringL 5)) ∧ Below u.heap.size u w') := fun u => ring_any 5 u
  have HR1 : Hid (k20R.2.1.length = 0) := k20_left
  have HR2 : Hid (k20R.2.2.length = 3) := k20_done
  obtain ⟨R, hR⟩ : ∃ R, k20R = R := ⟨_, rfl⟩
  rw [hR] at FF HR1 HR2
  obtain ⟨kb, hkb⟩ : ∃ kb, (someK [] (bitB 0 1) (bitB 0 2) (bitB 0 4)) = kb := ⟨_, rfl⟩
  have SM : Hid (∀ (u : World), Calls Try.prog 9 #[.slice none 0 0, .int .i64 0] u (SomeEnd u kb)) := fun u => by rw [← hkb]; exact some_any none 0 0 [] 0 u (Sl.nil _ _ _) (by decide)
  rw [hkb] at FF FM
  obtain ⟨L, hL⟩ : ∃ L, ringL 5 = L := ⟨_, rfl⟩
  rw [hL] at FF FM RG
  clear hR hkb hL
  have S1 := SM.out w
  go_enter Try.func16, Try.ntmps16
  go_wp2_with fail
  go_at_call 9
  refine S1.mono ?_
  rintro e w1 ⟨y1, rfl, nb, hb⟩
  have B1 : Hid (Below w.heap.size w w1) := hb
  have K1 : Hid (Bk w1 y1 kb) := nb.bk
  have CC := RG.out w1
  clear S1 nb hb
  go_wp2_with fail
  go_at_call 27
  refine CC.mono ?_
  rintro e w2 ⟨g1, c1, rfl, ho, hb⟩
  have B2 : Hid (Below w.heap.size w w2) := B1.out.trans (hb.mono B1.out.size)
  have G2 : PGood w2 (some ⟨g1, 0, none⟩) 3 c1 L := by
    obtain ⟨a', c', hv, hg, -⟩ := PGood.own ho
    simp at hv
    rw [← hv.1, ← hv.2.1, ← hv.2.2] at hg
    exact hg
  have CM := FM.out y1 _ c1 w2 (K1.out.below hb) G2
  clear CC ho hb B1 K1 G2
  go_wp2_with fail
  go_at_call 11
  refine CM.mono ?_
  rintro e w3 ⟨gm, cm, rfl, hm, hb⟩
  have B3 : Hid (Below w.heap.size w w3) := B2.out.trans (hb.mono B2.out.size)
  have M3 : Hid (IGood w3 (some ⟨gm, 0, none⟩) 3 cm [1, 1, 1]) := hm
  have CC := SM.out w3
  clear CM hm hb B2
  go_wp2_with fail
  go_at_call 9
  refine CC.mono ?_
  rintro e w4 ⟨y4, rfl, nb, hb⟩
  have B4 : Hid (Below w.heap.size w w4) := B3.out.trans (hb.mono B3.out.size)
  have K4 : Hid (Bk w4 y4 kb) := nb.bk
  have M4 : Hid (IGood w4 (some ⟨gm, 0, none⟩) 3 cm [1, 1, 1]) := M3.out.below hb
  have CR := RG.out w4
  clear CC nb hb B3 M3
  go_wp2_with fail
  go_at_call 27
  refine CR.mono ?_
  rintro e w5 ⟨g5, c5, rfl, ho, hb⟩
  have B5 : Hid (Below w.heap.size w w5) := B4.out.trans (hb.mono B4.out.size)
  have G5 : PGood w5 (some ⟨g5, 0, none⟩) 3 c5 L := by
    obtain ⟨a', c', hv, hg, -⟩ := PGood.own ho
    simp at hv
    rw [← hv.1, ← hv.2.1, ← hv.2.2] at hg
    exact hg
  have M5 : Hid (IGood w5 (some ⟨gm, 0, none⟩) 3 cm [1, 1, 1]) := M4.out.below hb
  have CC := FF.out y4 _ c5 w5 (K4.out.below hb) G5
  clear CR ho hb B4 K4 G5 M4
  go_wp2_with fail
  go_at_call 13
  refine CC.mono ?_
  rintro e w6 ⟨y, al, nl, cl, ad, nd, cd, rfl, -, -, gl, -, gd, -, hb⟩
  obtain rfl : nl = 0 := gl.len.trans HR1.out
  obtain rfl : nd = 3 := gd.len.trans HR2.out
  obtain ⟨yA, mA, eA, yB, mB, eB, yM, mM, eM, yP, mP, eP⟩ := y
  obtain ⟨w7, hw7⟩ : ∃ w7, w7 = w6.alloc (.cells #[.slice yA mA eA, .slice yB mB eB, .slice yM mM eM, .slice yP mP eP] 27) := ⟨_, rfl⟩
  have b57 : Below w5.heap.size w5 w7 := by rw [hw7]; exact hb.trans ((box_below _ _).mono hb.size)
  have B7 : Hid (Below w.heap.size w w7) := B5.out.trans (b57.mono B5.out.size)
  have M7 := M5.out.below b57
  have m0 := M7.cell0 (k := 0) (by omega)
  have m2 := M7.cell0 (k := 2) (by omega)
  replace m0 : w7.cell? ⟨gm, 0, none⟩ = some (.int .i64 1) := m0
  replace m2 : w7.cell? ⟨gm, 2, none⟩ = some (.int .i64 1) := m2
  have hcap := M7.cap
  clear CC gl gd hb b57 B5 M5 M7
  go_upto_region 3 with fail
  rw [← hw7]
  clear hw7
  go_wp2
  go_ret
  exact ⟨rfl, B7.out⟩

end Go.Proofs.Ytlackjldopeigaa
