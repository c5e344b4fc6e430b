/-
  The walk of KnotPrefix.
-/
import Derived.Test.YtlackjldopeigaaKnotThree
import Derived.Test.YtlackjldopeigaaKnown20
import Derived.Test.YtlackjldopeigaaRowRefs
import Derived.Test.YtlackjldopeigaaRowBase
namespace Go.Proofs.Ytlackjldopeigaa
open Go.RowKit
set_option linter.unusedVariables false
set_option linter.unusedSimpArgs false

set_option maxHeartbeats 16000000 in
set_option maxRecDepth 100000 in
theorem knotPrefix_in (n m : Int) (w : World) (hn : 1 ≤ n ∧ n ≤ 100) (hm : 1 ≤ m ∧ m ≤ 100) :
    Calls Try.prog 8 #[.int .i64 n, .int .i64 m] w fun e w' => e = .returned (.bool true) ∧ Below w.heap.size w w' := by
  have HNM : Hid ((1 ≤ n ∧ n ≤ 100) ∧ (1 ≤ m ∧ m ≤ 100)) := ⟨hn, hm⟩
  have KN : Hid (∀ u, Calls Try.prog 16 #[] u fun e w' => e = .returned (.bool true) ∧ Below u.heap.size u w') := known20
  have GK : Good (threeK 50 0 0) := by
    have := good_some [50] false false false
    exact this
  have HR : Hid ((knotR (threeK 50 0 0) [(1, 0, 1, n, 3, 0, 9), (2, 0, 1, m, 3, 0, 9)] 1).2 = if n + m ≤ 50 then ([], [(1, 0, 1, n, 3, 0, 9), (2, 0, 1, m, 3, 0, 9)]) else if n ≤ 50 then ([(2, 0, 1, m, 3, 0, 9)], [(1, 0, 1, n, 3, 0, 9)]) else ([(1, 0, 1, n, 3, 0, 9), (2, 0, 1, m, 3, 0, 9)], [])) := pf_run hn hm
  have FF : Hid (∀ (z : BA) (g c : Nat) (u : World), Bk u z (threeK 50 0 0) → PGood u (some ⟨g, 0, none⟩) 2 c [(1, 0, 1, n, 3, 0, 9), (2, 0, 1, m, 3, 0, 9)] → Calls Try.prog 13 #[z.val, .slice (some ⟨g, 0, none⟩) 2 c, .int .i64 1] u (FreeEnd u (knotR (threeK 50 0 0) [(1, 0, 1, n, 3, 0, 9), (2, 0, 1, m, 3, 0, 9)] 1))) := fun z g c u h1 h2 => knotRun_any z _ _ 2 c _ 1 u h1 GK h2 (pf_que n m) (pf_all hn hm)
  have SM : Hid (∀ (g : Nat) (u : World), Sl .i64 u (some ⟨g, 0, none⟩) 1 [50] → Calls Try.prog 9 #[.slice (some ⟨g, 0, none⟩) 1 1, .int .i64 0] u (SomeEnd u (threeK 50 0 0))) := fun g u h => some_any _ 1 1 [50] 0 u h (by decide)
  generalize knotR (threeK 50 0 0) [(1, 0, 1, n, 3, 0, 9), (2, 0, 1, m, 3, 0, 9)] 1 = R at FF HR
  generalize threeK 50 0 0 = kb at FF SM
  obtain ⟨RB, RL, RD⟩ := R
  obtain ⟨w2, hw2⟩ : ∃ w2, w2 = w.alloc (.cells #[.int .i64 1, .int .i64 0, .int .i64 1, .int .i64 n, .int .i64 3, .int .i64 0, .int .i64 9, .int .i64 2, .int .i64 0, .int .i64 1, .int .i64 m, .int .i64 3, .int .i64 0, .int .i64 9] 51) := ⟨_, rfl⟩
  obtain ⟨g, hg⟩ : ∃ g, w.heap.size = g := ⟨_, rfl⟩
  have B2 : Hid (Below w.heap.size w w2) := by rw [hw2]; exact box_below _ _
  have G2 : Hid (PGood w2 (some ⟨g, 0, none⟩) 2 2 [(1, 0, 1, n, 3, 0, 9), (2, 0, 1, m, 3, 0, 9)]) := by rw [hw2, ← hg]; exact PGood.lit2 w (1, 0, 1, n, 3, 0, 9) (2, 0, 1, m, 3, 0, 9)
  clear GK
  have n0 : ¬ n < 1 := by omega
  have n1 : ¬ 100 < n := by omega
  have m0 : ¬ m < 1 := by omega
  have m1 : ¬ 100 < m := by omega
  clear hn hm
  go_enter Try.func8, Try.ntmps8
  go_upto_region 4 with fail
  rw [← hw2]
  clear hw2 n0 n1 m0 m1
  try rw [hg]
  have b23 : Below w2.heap.size w2 (w2.alloc (.cells #[.int .i64 50] 2)) := box_below _ _
  have CC := SM.out w2.heap.size _ (Sl.new .i64 w2 2 (0, 0) [50] (fun z hz => by simp at hz; subst hz; rfl))
  go_wp2_with fail
  go_at_call 9
  refine CC.mono ?_
  rintro e w4 ⟨y4, rfl, nb, hb⟩
  have b24 : Below w2.heap.size w2 w4 := b23.trans (hb.mono b23.size)
  have B4 : Hid (Below w.heap.size w w4) := B2.out.trans (b24.mono B2.out.size)
  have G4 : Hid (PGood w4 (some ⟨g, 0, none⟩) 2 2 [(1, 0, 1, n, 3, 0, 9), (2, 0, 1, m, 3, 0, 9)]) := G2.out.below b24
  have CR := FF.out y4 g 2 w4 nb.bk G4.out
  clear CC nb hb b23 b24 B2 G2 SM FF
  go_wp2_with fail
  go_at_call 13
  refine CR.mono ?_
  rintro e w6 ⟨y, al, nl, cl, ad, nd, cd, rfl, -, -, gl, -, gd, -, hb⟩
  obtain ⟨yA, mA, eA, yB, mB, eB, yM, mM, eM, yP, mP, eP⟩ := y
  obtain ⟨w7, hw7⟩ : ∃ w7, w7 = w6.alloc (.cells #[.slice yA mA eA, .slice yB mB eB, .slice yM mM eM, .slice yP mP eP] 27) := ⟨_, rfl⟩
  have b67 : Below w6.heap.size w6 w7 := by rw [hw7]; exact box_below _ _
  have b47 : Below w4.heap.size w4 w7 := hb.trans (b67.mono hb.size)
  have B7 : Hid (Below w.heap.size w w7) := B4.out.trans (b47.mono B4.out.size)
  have G7 : Hid (PGood w7 (some ⟨g, 0, none⟩) 2 2 [(1, 0, 1, n, 3, 0, 9), (2, 0, 1, m, 3, 0, 9)]) := G4.out.below b47
  have L7 : Hid (PGood w7 al nl cl RL) := gl.below b67
  have D7 : Hid (PGood w7 ad nd cd RD) := gd.below b67
  have kw : IntKind.i64.wrap (n + m) = n + m := by have := HNM.out; exact i64_wf (by omega) (by omega)
  clear CR hb b67 b47 gl gd B4 G4 HNM
  go_upto_region 5 with fail
  rw [← hw7]
  clear hw7
  by_cases h1 : n + m ≤ 50
  · have HR := HR.out
    rw [if_pos h1, Prod.mk.injEq] at HR
    obtain ⟨rfl, rfl⟩ := HR
    obtain rfl : nl = 0 := L7.out.len
    obtain rfl : nd = 2 := D7.out.len
    clear L7 D7 G7
    have KK := KN.out w7
    go_wp2_with fail
    go_at_call 16
    refine KK.mono ?_
    rintro e wz ⟨rfl, hb⟩
    have Bz : Hid (Below w.heap.size w wz) := B7.out.trans (hb.mono B7.out.size)
    clear KK hb
    go_wp2
    go_ret
    exact ⟨rfl, Bz.out⟩
  · by_cases h2 : n ≤ 50
    · have HR := HR.out
      rw [if_neg h1, if_pos h2, Prod.mk.injEq] at HR
      obtain ⟨rfl, rfl⟩ := HR
      obtain rfl : nl = 1 := L7.out.len
      obtain rfl : nd = 1 := D7.out.len
      have S1 := same_true ad (some ⟨g, 0, none⟩) 1 1 cd 2 [(1, 0, 1, n, 3, 0, 9)] w7 D7.out (G7.out.take 1 (by omega))
      go_wp2_with fail
      go_at_call 26
      refine S1.mono ?_
      rintro e w8 ⟨rfl, hb⟩
      have B8 : Hid (Below w.heap.size w w8) := B7.out.trans (hb.mono B7.out.size)
      have S2 := same_true al (some ⟨g, 7, none⟩) 1 1 cl 1 [(2, 0, 1, m, 3, 0, 9)] w8 (L7.out.below hb) ((G7.out.from 1 (by omega)).below hb)
      clear S1 hb L7 D7 G7 B7
      go_wp2_with fail
      go_at_call 26
      refine S2.mono ?_
      rintro e w9 ⟨rfl, hb⟩
      have B9 : Hid (Below w.heap.size w w9) := B8.out.trans (hb.mono B8.out.size)
      clear S2 hb B8
      have KK := KN.out w9
      go_wp2_with fail
      go_at_call 16
      refine KK.mono ?_
      rintro e wz ⟨rfl, hb⟩
      have Bz : Hid (Below w.heap.size w wz) := B9.out.trans (hb.mono B9.out.size)
      clear KK hb
      go_wp2
      go_ret
      exact ⟨rfl, Bz.out⟩
    · have HR := HR.out
      rw [if_neg h1, if_neg h2, Prod.mk.injEq] at HR
      obtain ⟨rfl, rfl⟩ := HR
      obtain rfl : nl = 2 := L7.out.len
      obtain rfl : nd = 0 := D7.out.len
      have S1 := same_true al (some ⟨g, 0, none⟩) 2 2 cl 2 [(1, 0, 1, n, 3, 0, 9), (2, 0, 1, m, 3, 0, 9)] w7 L7.out G7.out
      go_wp2_with fail
      go_at_call 26
      refine S1.mono ?_
      rintro e w8 ⟨rfl, hb⟩
      have B8 : Hid (Below w.heap.size w w8) := B7.out.trans (hb.mono B7.out.size)
      clear S1 hb L7 D7 G7 B7
      have KK := KN.out w8
      go_wp2_with fail
      go_at_call 16
      refine KK.mono ?_
      rintro e wz ⟨rfl, hb⟩
      have Bz : Hid (Below w.heap.size w wz) := B8.out.trans (hb.mono B8.out.size)
      clear KK hb
      go_wp2
      go_ret
      exact ⟨rfl, Bz.out⟩

set_option maxHeartbeats 16000000 in
theorem knotPrefix_out (n m : Int) (w : World) (h : ¬ ((1 ≤ n ∧ n ≤ 100) ∧ (1 ≤ m ∧ m ≤ 100))) :
    Calls Try.prog 8 #[.int .i64 n, .int .i64 m] w fun e w' => e = .returned (.bool true) ∧ Below w.heap.size w w' := by
  by_cases n0 : n < 1
  · clear h
    go_enter Try.func8, Try.ntmps8
    go_wp2
    go_ret
    exact ⟨rfl, Below.refl _ _⟩
  by_cases n1 : 100 < n
  · clear h
    go_enter Try.func8, Try.ntmps8
    go_wp2
    go_ret
    exact ⟨rfl, Below.refl _ _⟩
  by_cases m0 : m < 1
  · clear h
    go_enter Try.func8, Try.ntmps8
    go_wp2
    go_ret
    exact ⟨rfl, Below.refl _ _⟩
  by_cases m1 : 100 < m
  · clear h
    go_enter Try.func8, Try.ntmps8
    go_wp2
    go_ret
    exact ⟨rfl, Below.refl _ _⟩
  exact absurd ⟨⟨by omega, by omega⟩, by omega, by omega⟩ h
theorem Walk.knotPrefix (n m : Int) (w : World) (h0 : (Lit.int .i64 n).wf = true) (h1 : (Lit.int .i64 m).wf = true) :
    Calls Try.prog 8 #[.int .i64 n, .int .i64 m] w fun e w' => e = .returned (.bool true) ∧ Below w.heap.size w w' := by
  by_cases h : (1 ≤ n ∧ n ≤ 100) ∧ (1 ≤ m ∧ m ≤ 100)
  · exact knotPrefix_in n m w h.1 h.2
  · exact knotPrefix_out n m w h

end Go.Proofs.Ytlackjldopeigaa
