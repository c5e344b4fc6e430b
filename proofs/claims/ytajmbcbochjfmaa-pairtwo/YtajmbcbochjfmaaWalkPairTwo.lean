/-
  The walk of PairTwo.
-/
import Derived.Test.YtajmbcbochjfmaaPairTwoPure
import Derived.Test.YtajmbcbochjfmaaPairRun
import Derived.Test.YtajmbcbochjfmaaKnown19
import Derived.Test.YtajmbcbochjfmaaRowBase
import Derived.Deep.CutRange
namespace Go.Proofs.Ytajmbcbochjfmaa
open Go.RowKit
set_option linter.unusedVariables false
set_option linter.unusedSimpArgs false

set_option maxHeartbeats 16000000 in
set_option maxRecDepth 100000 in
theorem pairTwo_in (a b x y : Int) (w : World) (ha : 0 ≤ a ∧ a ≤ 60) (hb : 0 ≤ b ∧ b ≤ 60) (hx : 1 ≤ x ∧ x ≤ 200) (hy : 1 ≤ y ∧ y ≤ 200) :
    Calls Try.prog 5 #[.int .i64 a, .int .i64 b, .int .i64 x, .int .i64 y] w fun e w' => e = .returned (.bool true) ∧ Below w.heap.size w w' := by
  have HAB : Hid ((0 ≤ a ∧ a ≤ 60) ∧ (0 ≤ b ∧ b ≤ 60) ∧ (1 ≤ x ∧ x ≤ 200) ∧ (1 ≤ y ∧ y ≤ 200)) := ⟨ha, hb, hx, hy⟩
  have KN : Hid (∀ u, Calls Try.prog 14 #[] u fun e w' => e = .returned (.bool true) ∧ Below u.heap.size u w') := known19 runQ_as
  have HLEN : Hid ((runQ (twoK a b) [twoP x, twoQ y] 3).2.2.length = if x ≤ a + y ∧ y ≤ b + x then 2 else 0) := two_done ha hb hx hy
  have GK : Good (twoK a b) := by rw [← someK_two ha hb]; exact good_some _ _ _ _
  have FF : Hid (∀ (z : BA) (l : Option Addr) (c : Nat) (u : World), Bk u z (twoK a b) → PGood u l 2 c [(1, 0, 1, x, 3, 0, 9), (2, 1, 0, y, 1, 0, 9)] → Calls Try.prog 11 #[z.val, .slice l 2 c, .int .i64 3] u (FreeEnd u (runQ (twoK a b) [twoP x, twoQ y] 3))) := fun z l c u h1 h2 => runQ_any z _ l 2 c _ 3 u h1 GK h2 (two_que x y) (two_fr x y)
  have SM : Hid (∀ (g : Nat) (u : World), Sl .i64 u (some ⟨g, 0, none⟩) 2 [a, b] → Calls Try.prog 7 #[.slice (some ⟨g, 0, none⟩) 2 2, .int .i64 0] u (SomeEnd u (twoK a b))) := fun g u h => by rw [← someK_two ha hb]; exact some_any _ 2 2 [a, b] 0 u h (by decide)
  generalize runQ (twoK a b) [twoP x, twoQ y] 3 = R at FF HLEN
  generalize twoK a b = kb at FF SM
  have WAB : Hid (∀ n ∈ [a, b], IntKind.i64.wrap n = n) := fun n hn => by
    have hn : n = a ∨ n = b := by simpa using hn
    rcases hn with rfl | rfl
    · exact i64_wf (by omega) (by omega)
    · exact i64_wf (by omega) (by omega)
  obtain ⟨w2, hw2⟩ : ∃ w2, w2 = (w.alloc (.cells #[.int .i64 1, .int .i64 0, .int .i64 1, .int .i64 x, .int .i64 3, .int .i64 0, .int .i64 9] 31)).alloc (.cells #[.int .i64 2, .int .i64 1, .int .i64 0, .int .i64 y, .int .i64 1, .int .i64 0, .int .i64 9] 31) := ⟨_, rfl⟩
  have B2 : Hid (Below w.heap.size w w2) := by rw [hw2]; exact (box_below _ _).alloc (box_below _ _).size _
  have X1 : Hid (At7 w2 w.heap.size 0 (1, 0, 1, x, 3, 0, 9)) := by rw [hw2]; exact (At7.new w (1, 0, 1, x, 3, 0, 9) _ _).below (box_below _ _)
  have X2 : Hid (At7 w2 (w.heap.size + 1) 0 (2, 1, 0, y, 1, 0, 9)) := by
    rw [hw2]
    have := At7.new (w.alloc (.cells #[.int .i64 1, .int .i64 0, .int .i64 1, .int .i64 x, .int .i64 3, .int .i64 0, .int .i64 9] 31)) (2, 1, 0, y, 1, 0, 9) 31 (0, 0)
    rw [size_alloc] at this
    exact this
  clear GK
  have a0 : ¬ a < 0 := by omega
  have a1 : ¬ 60 < a := by omega
  have b0 : ¬ b < 0 := by omega
  have b1 : ¬ 60 < b := by omega
  have x0 : ¬ x < 1 := by omega
  have x1 : ¬ 200 < x := by omega
  have y0 : ¬ y < 1 := by omega
  have y1 : ¬ 200 < y := by omega
  clear ha hb hx hy
  go_enter Try.func5, Try.ntmps5
  go_upto_region 4 with fail
  rw [← hw2]
  clear hw2 a0 a1 b0 b1 x0 x1 y0 y1
  go_cut [11, 12, 13] from 48 to 59 (fun s l d wc => ∃ (z : Nat) (k : BA) (l1 : Option Addr) (n c : Nat) (a2 : Option Addr) (n2 c2 : Nat), s = .pointer (some ⟨z, 0, none⟩) ∧ l = .slice l1 n c ∧ d = .slice a2 n2 c2 ∧ Hid (PGood wc a2 n2 c2 R.2.2) ∧ Hid (Below w2.heap.size w2 wc))
  case first =>
    refine region_owes_lates 13 [10, 11] (L := [Fact.is (.int .i64 a),
      Fact.is (.int .i64 b),
      Fact.full .i64 2 [a, b],
      Fact.bk kb,
      Fact.is (.agg #[.int .i64 1, .int .i64 0, .int .i64 1, .int .i64 x, .int .i64 3, .int .i64 0, .int .i64 9]),
      Fact.is (.agg #[.int .i64 2, .int .i64 1, .int .i64 0, .int .i64 y, .int .i64 1, .int .i64 0, .int .i64 9]),
      Fact.pg [(1, 0, 1, x, 3, 0, 9), (2, 1, 0, y, 1, 0, 9)],
      Fact.free R,
      Fact.free R,
      Fact.bk R.1,
      Fact.pg R.2.1,
      Fact.pg R.2.2,
      Fact.bv w2.heap.size])
      (T := [49, 50, 51, 52, 53, 54, 55, 56, 48, 57, 58, 59, 11]) (by kernel_rfl) rfl (Nat.le_of_ble_eq_true rfl) (by kernel_rfl) (by kernel_rfl) (by kernel_rfl) (by decide) (by kernel_rfl) rfl ?owes ?_
    case owes =>
      simp only [List.take_succ_cons, List.take_zero]
      refine .cons (owes_move (.tmp 0) (.inl rfl) fun q u lh => ⟨wants_free rfl, lh.old 0 rfl⟩) ?_
      refine .cons (owes_move (.tmp 1) (.inl rfl) fun q u lh => ⟨wants_free rfl, lh.old 1 rfl⟩) ?_
      refine .cons (owes_make fun q u lh => ⟨wants_free rfl, .slice (some ⟨u.heap.size, 0, none⟩) 2 2, u.alloc (.cells #[.int .i64 a, .int .i64 b] 2), by have e49 : q.tmps[49]?.getD undef = .int .i64 a := (Array.getD_eq_getD_getElem? ..).symm.trans (lh.dep 0 rfl); have e50 : q.tmps[50]?.getD undef = .int .i64 b := (Array.getD_eq_getD_getElem? ..).symm.trans (lh.dep 1 rfl); simp [execOp, Act.eval, e49, e50, go_sem], box_below _ _, ⟨_, rfl, Sl.new .i64 u 2 (0, 0) [a, b] WAB.out⟩⟩) ?_
      refine .cons (owes_call 7 Try.func7 (by kernel_rfl) (by kernel_rfl) [.tmp 51, .const (.int .i64 0)] #[22, 3] rfl fun q u lh => ⟨wants_free rfl, by obtain ⟨g9, e9, s9⟩ := lh.dep 2 rfl; have e9 : q.tmps.getD 51 undef = .slice (some ⟨g9, 0, none⟩) 2 2 := e9; show Calls Try.prog 7 #[q.tmps.getD 51 undef, .int .i64 0] u _; rw [e9]; exact bkF_fact (SM.out g9 u s9)⟩) ?_
      refine .cons (owes_value fun q u lh => ⟨wants_free rfl, .agg #[.int .i64 1, .int .i64 0, .int .i64 1, .int .i64 x, .int .i64 3, .int .i64 0, .int .i64 9], by have e9 : q.tmps.getD 9 undef = .pointer (some ⟨w.heap.size, 0, none⟩) := lh.old 9 rfl; obtain ⟨z0, z1, z2, z3, z4, z5, z6⟩ := X1.out.below lh.below; simp [execOp, Act.eval, e9, z0, z1, z2, z3, z4, z5, z6, go_sem], rfl⟩) ?_
      refine .cons (owes_value fun q u lh => ⟨wants_free rfl, .agg #[.int .i64 2, .int .i64 1, .int .i64 0, .int .i64 y, .int .i64 1, .int .i64 0, .int .i64 9], by have e10 : q.tmps.getD 10 undef = .pointer (some ⟨w.heap.size + 1, 0, none⟩) := lh.old 10 rfl; obtain ⟨z0, z1, z2, z3, z4, z5, z6⟩ := X2.out.below lh.below; simp [execOp, Act.eval, e10, z0, z1, z2, z3, z4, z5, z6, go_sem], rfl⟩) ?_
      refine .cons (owes_make fun q u lh => ⟨wants_free rfl, .slice (some ⟨u.heap.size, 0, none⟩) 2 2, u.alloc (.cells #[.int .i64 1, .int .i64 0, .int .i64 1, .int .i64 x, .int .i64 3, .int .i64 0, .int .i64 9, .int .i64 2, .int .i64 1, .int .i64 0, .int .i64 y, .int .i64 1, .int .i64 0, .int .i64 9] 31), by have e53 : q.tmps[53]?.getD undef = .agg #[.int .i64 1, .int .i64 0, .int .i64 1, .int .i64 x, .int .i64 3, .int .i64 0, .int .i64 9] := (Array.getD_eq_getD_getElem? ..).symm.trans (lh.dep 4 rfl); have e54 : q.tmps[54]?.getD undef = .agg #[.int .i64 2, .int .i64 1, .int .i64 0, .int .i64 y, .int .i64 1, .int .i64 0, .int .i64 9] := (Array.getD_eq_getD_getElem? ..).symm.trans (lh.dep 5 rfl); simp [execOp, Act.eval, e53, e54, go_sem], box_below _ _, ⟨_, _, _, rfl, PGood.lit2 u (1, 0, 1, x, 3, 0, 9) (2, 1, 0, y, 1, 0, 9)⟩⟩) ?_
      refine .cons (owes_call 11 Try.func11 (by kernel_rfl) (by kernel_rfl) [.tmp 52, .tmp 55, .const (.int .i64 3)] #[27, 23, 2] rfl fun q u lh => ⟨wants_free rfl, by obtain ⟨k, e9, h9⟩ := lh.dep 3 rfl; obtain ⟨aa, nn, cc, e12, h12⟩ := lh.dep 6 rfl; have e9 : q.tmps.getD 52 undef = k.val := e9; have e12 : q.tmps.getD 55 undef = .slice aa nn cc := e12; obtain rfl : nn = 2 := h12.len; show Calls Try.prog 11 #[q.tmps.getD 52 undef, q.tmps.getD 55 undef, .int .i64 3] u _; rw [e9, e12]; exact free_fact (FF.out k aa cc u h9 h12)⟩) ?_
      refine .cons (owes_move (.tmp 56) (.inl rfl) fun q u lh => ⟨wants_free rfl, lh.dep 7 rfl⟩) ?_
      refine .cons (owes_value fun q u lh => by obtain ⟨k, a, n, c, a2, n2, c2, e8, h1, h2, h3⟩ := lh.dep 8 rfl; have e8 : q.tmps[48]?.getD undef = _ := (Array.getD_eq_getD_getElem? ..).symm.trans e8; exact ⟨wants_free rfl, k.val, by simp [execOp, Act.eval, e8, go_sem], k, rfl, h1⟩) ?_
      refine .cons (owes_value fun q u lh => by obtain ⟨k, a, n, c, a2, n2, c2, e8, h1, h2, h3⟩ := lh.dep 8 rfl; have e8 : q.tmps[48]?.getD undef = _ := (Array.getD_eq_getD_getElem? ..).symm.trans e8; exact ⟨wants_free rfl, .slice a n c, by simp [execOp, Act.eval, e8, go_sem], a, n, c, rfl, h2⟩) ?_
      refine .cons (owes_value fun q u lh => by obtain ⟨k, a, n, c, a2, n2, c2, e8, h1, h2, h3⟩ := lh.dep 8 rfl; have e8 : q.tmps[48]?.getD undef = _ := (Array.getD_eq_getD_getElem? ..).symm.trans e8; exact ⟨wants_free rfl, .slice a2 n2 c2, by simp [execOp, Act.eval, e8, go_sem], a2, n2, c2, rfl, h3⟩) ?_
      refine .cons (owes_make fun q u lh => ⟨wants_free rfl, .pointer (some ⟨u.heap.size, 0, none⟩), u.alloc (.cells #[.slice none 0 0, .slice none 0 0, .slice none 0 0, .slice none 0 0] 27), by simp [execOp, Act.eval, go_sem], box_below _ _, ⟨_, rfl, lh.below.size, BVar.new u ba0⟩⟩) ?_
      exact .nil _
    intro D q u hb hsz hdf hold hfact
    obtain ⟨g9, e51, s51⟩ : (Fact.full .i64 2 [a, b]).1 u (q.tmps.getD 51 undef) := hfact 2 (by decide) (.inl (by decide))
    obtain ⟨y52, e52, h52⟩ : (Fact.bk kb).1 u (q.tmps.getD 52 undef) := hfact 3 (by decide) (.inl (by decide))
    obtain ⟨a55, n55, c55, e55, h55⟩ : (Fact.pg [(1, 0, 1, x, 3, 0, 9), (2, 1, 0, y, 1, 0, 9)]).1 u (q.tmps.getD 55 undef) := hfact 6 (by decide) (.inl (by decide))
    obtain ⟨y56, a56, n56, c56, b56, m56, k56, e56, -⟩ : (Fact.free R).1 u (q.tmps.getD 56 undef) := hfact 7 (by decide) (.inl (by decide))
    obtain ⟨y8, a8, n8, c8, b8, m8, k8, e8, hk8, hg8, hh8⟩ : (Fact.free R).1 u (q.tmps.getD 48 undef) := hfact 8 (by decide) (.inl (by decide))
    obtain ⟨yx, ex, hx⟩ : (Fact.bk R.1).1 u (q.tmps.getD 57 undef) := hfact 9 (by decide) (.inl (by decide))
    obtain ⟨z, ez, hz, hzc⟩ : (Fact.bv w2.heap.size).1 u (q.tmps.getD 11 undef) := hfact 12 (by decide) (.inl (by decide))
    obtain ⟨gA, hA, iA, gB, hB, iB, gM, hM, iM, gP, hP, iP⟩ := yx
    have BB : Hid (Below w2.heap.size w2 (u.setRow z #[.slice gA hA iA, .slice gB hB iB, .slice gM hM iM, .slice gP hP iP])) := Below.setRow hb hz _
    have g8 : Hid (PGood (u.setRow z #[.slice gA hA iA, .slice gB hB iB, .slice gM hM iM, .slice gP hP iP]) a8 n8 c8 R.2.1) := hg8.apart hzc _
    have h8 : Hid (PGood (u.setRow z #[.slice gA hA iA, .slice gB hB iB, .slice gM hM iM, .slice gP hP iP]) b8 m8 k8 R.2.2) := hh8.apart hzc _
    cases d10 : D 10 <;> cases d11 : D 11
    · obtain ⟨v58, e58⟩ : ∃ v, q.tmps.getD 58 undef = v := ⟨_, rfl⟩
      obtain ⟨v59, e59⟩ : ∃ v, q.tmps.getD 59 undef = v := ⟨_, rfl⟩
      obtain rfl := frame_puts hsz hdf [49, 50, 51, 52, 53, 54, 55, 56, 48, 57, 58, 59, 11] hold [(49, .int .i64 a), (50, .int .i64 b), (51, .slice (some ⟨g9, 0, none⟩) 2 2), (52, y52.val), (53, Value.agg #[.int .i64 1, .int .i64 0, .int .i64 1, .int .i64 x, .int .i64 3, .int .i64 0, .int .i64 9]), (54, Value.agg #[.int .i64 2, .int .i64 1, .int .i64 0, .int .i64 y, .int .i64 1, .int .i64 0, .int .i64 9]), (55, Value.slice a55 n55 c55), (56, Value.tuple #[y56.val, .slice a56 n56 c56, .slice b56 m56 k56]), (48, Value.tuple #[y8.val, .slice a8 n8 c8, .slice b8 m8 k8]), (57, BA.val ⟨gA, hA, iA, gB, hB, iB, gM, hM, iM, gP, hP, iP⟩), (58, v58), (59, v59), (11, Value.pointer (some ⟨z, 0, none⟩))] ⟨hfact 0 (by decide) (.inl (by decide)), hfact 1 (by decide) (.inl (by decide)), e51, e52, hfact 4 (by decide) (.inl (by decide)), hfact 5 (by decide) (.inl (by decide)), e55, e56, e8, ex, e58, e59, ez, trivial⟩ rfl
      clear hsz hdf hold hfact
      simp only [List.filter, d10, d11, Bool.not_true, Bool.not_false, List.drop_succ_cons, List.drop_zero, LatesTop]
      simp only [puts, Act.put, List.setIfInBounds_toArray, List.set_cons_zero, List.set_cons_succ]
      refine wp_store_row 27 (.tmp 11) (.tmp 57) rfl z #[.slice gA hA iA, .slice gB hB iB, .slice gM hM iM, .slice gP hP iP] rfl rfl _ _ hzc booksSize (by simp) (by simp [Value.oneCell']) ?_
      generalize u.setRow z #[.slice gA hA iA, .slice gB hB iB, .slice gM hM iM, .slice gP hP iP] = wf at BB g8 h8 ⊢
      clear hb hzc hx s51 h52 h55 hk8 hg8 hh8
      simp only [List.length_cons, List.length_nil, Nat.zero_add, Nat.add_zero, Nat.reduceAdd, LatesWp, AllF, List.erase_cons_head, List.erase_cons_tail, List.erase_nil, List.getD_cons_zero, List.getD_cons_succ, Bool.false_eq_true, not_false_eq_true, Nat.reduceBEq, reduceCtorEq]
      refine ⟨?_, ?_, ?_, trivial⟩
      · intro hw; exact absurd hw (by decide)
      · refine wp_value (.slice a8 n8 c8) (by simp [execOp, Act.eval, go_sem]) ?_
        simp only [Act.put, List.setIfInBounds_toArray, List.set_cons_zero, List.set_cons_succ]
        refine ⟨?_, ?_, trivial⟩
        · intro _
          refine wp_assign _ rfl ?_
          simp only [Act.put, List.setIfInBounds_toArray, List.set_cons_zero, List.set_cons_succ]
          refine ⟨?_, ?_, trivial⟩
          · intro hw; exact absurd hw (by decide)
          · refine wp_value (.slice b8 m8 k8) (by simp [execOp, Act.eval, go_sem]) ?_
            simp only [Act.put, List.setIfInBounds_toArray, List.set_cons_zero, List.set_cons_succ]
            refine ⟨?_, trivial⟩
            · intro _
              refine wp_assign _ rfl ?_
              simp only [Act.put, List.setIfInBounds_toArray, List.set_cons_zero, List.set_cons_succ]
              go_wp2
              go_meet
              exact ⟨z, ⟨gA, hA, iA, gB, hB, iB, gM, hM, iM, gP, hP, iP⟩, a8, n8, c8, b8, m8, k8, rfl, rfl, rfl, h8, BB⟩
        · refine wp_value (.slice b8 m8 k8) (by simp [execOp, Act.eval, go_sem]) ?_
          simp only [Act.put, List.setIfInBounds_toArray, List.set_cons_zero, List.set_cons_succ]
          refine ⟨?_, trivial⟩
          · intro _
            refine wp_assign _ rfl ?_
            simp only [Act.put, List.setIfInBounds_toArray, List.set_cons_zero, List.set_cons_succ]
            refine ⟨?_, trivial⟩
            · intro _
              refine wp_assign _ rfl ?_
              simp only [Act.put, List.setIfInBounds_toArray, List.set_cons_zero, List.set_cons_succ]
              go_wp2
              go_meet
              exact ⟨z, ⟨gA, hA, iA, gB, hB, iB, gM, hM, iM, gP, hP, iP⟩, a8, n8, c8, b8, m8, k8, rfl, rfl, rfl, h8, BB⟩
      · refine wp_value (.slice b8 m8 k8) (by simp [execOp, Act.eval, go_sem]) ?_
        simp only [Act.put, List.setIfInBounds_toArray, List.set_cons_zero, List.set_cons_succ]
        refine ⟨?_, ?_, trivial⟩
        · intro hw; exact absurd hw (by decide)
        · refine wp_value (.slice a8 n8 c8) (by simp [execOp, Act.eval, go_sem]) ?_
          simp only [Act.put, List.setIfInBounds_toArray, List.set_cons_zero, List.set_cons_succ]
          refine ⟨?_, trivial⟩
          · intro _
            refine wp_assign _ rfl ?_
            simp only [Act.put, List.setIfInBounds_toArray, List.set_cons_zero, List.set_cons_succ]
            refine ⟨?_, trivial⟩
            · intro _
              refine wp_assign _ rfl ?_
              simp only [Act.put, List.setIfInBounds_toArray, List.set_cons_zero, List.set_cons_succ]
              go_wp2
              go_meet
              exact ⟨z, ⟨gA, hA, iA, gB, hB, iB, gM, hM, iM, gP, hP, iP⟩, a8, n8, c8, b8, m8, k8, rfl, rfl, rfl, h8, BB⟩
    · obtain ⟨v58, e58⟩ : ∃ v, q.tmps.getD 58 undef = v := ⟨_, rfl⟩
      obtain ⟨a59, n59, c59, e59, h59⟩ : (Fact.pg R.2.2).1 u (q.tmps.getD 59 undef) := hfact 11 (by decide) (.inr d11)
      have g59 : Hid (PGood (u.setRow z #[.slice gA hA iA, .slice gB hB iB, .slice gM hM iM, .slice gP hP iP]) a59 n59 c59 R.2.2) := h59.apart hzc _
      obtain rfl := frame_puts hsz hdf [49, 50, 51, 52, 53, 54, 55, 56, 48, 57, 58, 59, 11] hold [(49, .int .i64 a), (50, .int .i64 b), (51, .slice (some ⟨g9, 0, none⟩) 2 2), (52, y52.val), (53, Value.agg #[.int .i64 1, .int .i64 0, .int .i64 1, .int .i64 x, .int .i64 3, .int .i64 0, .int .i64 9]), (54, Value.agg #[.int .i64 2, .int .i64 1, .int .i64 0, .int .i64 y, .int .i64 1, .int .i64 0, .int .i64 9]), (55, Value.slice a55 n55 c55), (56, Value.tuple #[y56.val, .slice a56 n56 c56, .slice b56 m56 k56]), (48, Value.tuple #[y8.val, .slice a8 n8 c8, .slice b8 m8 k8]), (57, BA.val ⟨gA, hA, iA, gB, hB, iB, gM, hM, iM, gP, hP, iP⟩), (58, v58), (59, .slice a59 n59 c59), (11, Value.pointer (some ⟨z, 0, none⟩))] ⟨hfact 0 (by decide) (.inl (by decide)), hfact 1 (by decide) (.inl (by decide)), e51, e52, hfact 4 (by decide) (.inl (by decide)), hfact 5 (by decide) (.inl (by decide)), e55, e56, e8, ex, e58, e59, ez, trivial⟩ rfl
      clear hsz hdf hold hfact
      simp only [List.filter, d10, d11, Bool.not_true, Bool.not_false, List.drop_succ_cons, List.drop_zero, LatesTop]
      simp only [puts, Act.put, List.setIfInBounds_toArray, List.set_cons_zero, List.set_cons_succ]
      refine wp_store_row 27 (.tmp 11) (.tmp 57) rfl z #[.slice gA hA iA, .slice gB hB iB, .slice gM hM iM, .slice gP hP iP] rfl rfl _ _ hzc booksSize (by simp) (by simp [Value.oneCell']) ?_
      generalize u.setRow z #[.slice gA hA iA, .slice gB hB iB, .slice gM hM iM, .slice gP hP iP] = wf at BB g8 h8 g59 ⊢
      clear hb hzc hx s51 h52 h55 hk8 hg8 hh8
      simp only [List.length_cons, List.length_nil, Nat.zero_add, Nat.add_zero, Nat.reduceAdd, LatesWp, AllF, List.erase_cons_head, List.erase_cons_tail, List.erase_nil, List.getD_cons_zero, List.getD_cons_succ, Bool.false_eq_true, not_false_eq_true, Nat.reduceBEq, reduceCtorEq]
      refine ⟨?_, ?_, trivial⟩
      · intro hw; exact absurd hw (by decide)
      · refine wp_value (.slice a8 n8 c8) (by simp [execOp, Act.eval, go_sem]) ?_
        simp only [Act.put, List.setIfInBounds_toArray, List.set_cons_zero, List.set_cons_succ]
        refine ⟨?_, trivial⟩
        · intro _
          refine wp_assign _ rfl ?_
          simp only [Act.put, List.setIfInBounds_toArray, List.set_cons_zero, List.set_cons_succ]
          refine ⟨?_, trivial⟩
          · intro _
            refine wp_assign _ rfl ?_
            simp only [Act.put, List.setIfInBounds_toArray, List.set_cons_zero, List.set_cons_succ]
            go_wp2
            go_meet
            exact ⟨z, ⟨gA, hA, iA, gB, hB, iB, gM, hM, iM, gP, hP, iP⟩, a8, n8, c8, a59, n59, c59, rfl, rfl, rfl, g59, BB⟩
    · obtain ⟨a58, n58, c58, e58, h58⟩ : (Fact.pg R.2.1).1 u (q.tmps.getD 58 undef) := hfact 10 (by decide) (.inr d10)
      have g58 : Hid (PGood (u.setRow z #[.slice gA hA iA, .slice gB hB iB, .slice gM hM iM, .slice gP hP iP]) a58 n58 c58 R.2.1) := h58.apart hzc _
      obtain ⟨v59, e59⟩ : ∃ v, q.tmps.getD 59 undef = v := ⟨_, rfl⟩
      obtain rfl := frame_puts hsz hdf [49, 50, 51, 52, 53, 54, 55, 56, 48, 57, 58, 59, 11] hold [(49, .int .i64 a), (50, .int .i64 b), (51, .slice (some ⟨g9, 0, none⟩) 2 2), (52, y52.val), (53, Value.agg #[.int .i64 1, .int .i64 0, .int .i64 1, .int .i64 x, .int .i64 3, .int .i64 0, .int .i64 9]), (54, Value.agg #[.int .i64 2, .int .i64 1, .int .i64 0, .int .i64 y, .int .i64 1, .int .i64 0, .int .i64 9]), (55, Value.slice a55 n55 c55), (56, Value.tuple #[y56.val, .slice a56 n56 c56, .slice b56 m56 k56]), (48, Value.tuple #[y8.val, .slice a8 n8 c8, .slice b8 m8 k8]), (57, BA.val ⟨gA, hA, iA, gB, hB, iB, gM, hM, iM, gP, hP, iP⟩), (58, .slice a58 n58 c58), (59, v59), (11, Value.pointer (some ⟨z, 0, none⟩))] ⟨hfact 0 (by decide) (.inl (by decide)), hfact 1 (by decide) (.inl (by decide)), e51, e52, hfact 4 (by decide) (.inl (by decide)), hfact 5 (by decide) (.inl (by decide)), e55, e56, e8, ex, e58, e59, ez, trivial⟩ rfl
      clear hsz hdf hold hfact
      simp only [List.filter, d10, d11, Bool.not_true, Bool.not_false, List.drop_succ_cons, List.drop_zero, LatesTop]
      simp only [puts, Act.put, List.setIfInBounds_toArray, List.set_cons_zero, List.set_cons_succ]
      refine wp_store_row 27 (.tmp 11) (.tmp 57) rfl z #[.slice gA hA iA, .slice gB hB iB, .slice gM hM iM, .slice gP hP iP] rfl rfl _ _ hzc booksSize (by simp) (by simp [Value.oneCell']) ?_
      generalize u.setRow z #[.slice gA hA iA, .slice gB hB iB, .slice gM hM iM, .slice gP hP iP] = wf at BB g8 h8 g58 ⊢
      clear hb hzc hx s51 h52 h55 hk8 hg8 hh8
      simp only [List.length_cons, List.length_nil, Nat.zero_add, Nat.add_zero, Nat.reduceAdd, LatesWp, AllF, List.erase_cons_head, List.erase_cons_tail, List.erase_nil, List.getD_cons_zero, List.getD_cons_succ, Bool.false_eq_true, not_false_eq_true, Nat.reduceBEq, reduceCtorEq]
      refine ⟨?_, ?_, trivial⟩
      · intro _
        refine wp_assign _ rfl ?_
        simp only [Act.put, List.setIfInBounds_toArray, List.set_cons_zero, List.set_cons_succ]
        refine ⟨?_, ?_, trivial⟩
        · intro hw; exact absurd hw (by decide)
        · refine wp_value (.slice b8 m8 k8) (by simp [execOp, Act.eval, go_sem]) ?_
          simp only [Act.put, List.setIfInBounds_toArray, List.set_cons_zero, List.set_cons_succ]
          refine ⟨?_, trivial⟩
          · intro _
            refine wp_assign _ rfl ?_
            simp only [Act.put, List.setIfInBounds_toArray, List.set_cons_zero, List.set_cons_succ]
            go_wp2
            go_meet
            exact ⟨z, ⟨gA, hA, iA, gB, hB, iB, gM, hM, iM, gP, hP, iP⟩, a58, n58, c58, b8, m8, k8, rfl, rfl, rfl, h8, BB⟩
      · refine wp_value (.slice b8 m8 k8) (by simp [execOp, Act.eval, go_sem]) ?_
        simp only [Act.put, List.setIfInBounds_toArray, List.set_cons_zero, List.set_cons_succ]
        refine ⟨?_, trivial⟩
        · intro _
          refine wp_assign _ rfl ?_
          simp only [Act.put, List.setIfInBounds_toArray, List.set_cons_zero, List.set_cons_succ]
          refine ⟨?_, trivial⟩
          · intro _
            refine wp_assign _ rfl ?_
            simp only [Act.put, List.setIfInBounds_toArray, List.set_cons_zero, List.set_cons_succ]
            go_wp2
            go_meet
            exact ⟨z, ⟨gA, hA, iA, gB, hB, iB, gM, hM, iM, gP, hP, iP⟩, a58, n58, c58, b8, m8, k8, rfl, rfl, rfl, h8, BB⟩
    · obtain ⟨a58, n58, c58, e58, h58⟩ : (Fact.pg R.2.1).1 u (q.tmps.getD 58 undef) := hfact 10 (by decide) (.inr d10)
      have g58 : Hid (PGood (u.setRow z #[.slice gA hA iA, .slice gB hB iB, .slice gM hM iM, .slice gP hP iP]) a58 n58 c58 R.2.1) := h58.apart hzc _
      obtain ⟨a59, n59, c59, e59, h59⟩ : (Fact.pg R.2.2).1 u (q.tmps.getD 59 undef) := hfact 11 (by decide) (.inr d11)
      have g59 : Hid (PGood (u.setRow z #[.slice gA hA iA, .slice gB hB iB, .slice gM hM iM, .slice gP hP iP]) a59 n59 c59 R.2.2) := h59.apart hzc _
      obtain rfl := frame_puts hsz hdf [49, 50, 51, 52, 53, 54, 55, 56, 48, 57, 58, 59, 11] hold [(49, .int .i64 a), (50, .int .i64 b), (51, .slice (some ⟨g9, 0, none⟩) 2 2), (52, y52.val), (53, Value.agg #[.int .i64 1, .int .i64 0, .int .i64 1, .int .i64 x, .int .i64 3, .int .i64 0, .int .i64 9]), (54, Value.agg #[.int .i64 2, .int .i64 1, .int .i64 0, .int .i64 y, .int .i64 1, .int .i64 0, .int .i64 9]), (55, Value.slice a55 n55 c55), (56, Value.tuple #[y56.val, .slice a56 n56 c56, .slice b56 m56 k56]), (48, Value.tuple #[y8.val, .slice a8 n8 c8, .slice b8 m8 k8]), (57, BA.val ⟨gA, hA, iA, gB, hB, iB, gM, hM, iM, gP, hP, iP⟩), (58, .slice a58 n58 c58), (59, .slice a59 n59 c59), (11, Value.pointer (some ⟨z, 0, none⟩))] ⟨hfact 0 (by decide) (.inl (by decide)), hfact 1 (by decide) (.inl (by decide)), e51, e52, hfact 4 (by decide) (.inl (by decide)), hfact 5 (by decide) (.inl (by decide)), e55, e56, e8, ex, e58, e59, ez, trivial⟩ rfl
      clear hsz hdf hold hfact
      simp only [List.filter, d10, d11, Bool.not_true, Bool.not_false, List.drop_succ_cons, List.drop_zero, LatesTop]
      simp only [puts, Act.put, List.setIfInBounds_toArray, List.set_cons_zero, List.set_cons_succ]
      refine wp_store_row 27 (.tmp 11) (.tmp 57) rfl z #[.slice gA hA iA, .slice gB hB iB, .slice gM hM iM, .slice gP hP iP] rfl rfl _ _ hzc booksSize (by simp) (by simp [Value.oneCell']) ?_
      generalize u.setRow z #[.slice gA hA iA, .slice gB hB iB, .slice gM hM iM, .slice gP hP iP] = wf at BB g8 h8 g58 g59 ⊢
      clear hb hzc hx s51 h52 h55 hk8 hg8 hh8
      simp only [List.length_cons, List.length_nil, Nat.zero_add, Nat.add_zero, Nat.reduceAdd, LatesWp, AllF, List.erase_cons_head, List.erase_cons_tail, List.erase_nil, List.getD_cons_zero, List.getD_cons_succ, Bool.false_eq_true, not_false_eq_true, Nat.reduceBEq, reduceCtorEq]
      refine ⟨?_, trivial⟩
      · intro _
        refine wp_assign _ rfl ?_
        simp only [Act.put, List.setIfInBounds_toArray, List.set_cons_zero, List.set_cons_succ]
        refine ⟨?_, trivial⟩
        · intro _
          refine wp_assign _ rfl ?_
          simp only [Act.put, List.setIfInBounds_toArray, List.set_cons_zero, List.set_cons_succ]
          go_wp2
          go_meet
          exact ⟨z, ⟨gA, hA, iA, gB, hB, iB, gM, hM, iM, gP, hP, iP⟩, a58, n58, c58, a59, n59, c59, rfl, rfl, rfl, g59, BB⟩
  case rest =>
  obtain ⟨z, k, l1, n, c, a2, n2, c2, hs, hl, hd, G2, BB⟩ := hcut
  subst hs hl hd
  obtain ⟨w3, rfl⟩ : ∃ z, z = wc := ⟨wc, rfl⟩
  have B3 : Hid (Below w.heap.size w w3) := B2.out.trans (BB.out.mono B2.out.size)
  have hn2 : n2 = if x ≤ a + y ∧ y ≤ b + x then 2 else 0 := by rw [← HLEN.out]; exact G2.out.len
  have kw1 : IntKind.i64.wrap (a + y) = a + y := by have := HAB.out; exact i64_wf (by omega) (by omega)
  have kw2 : IntKind.i64.wrap (b + x) = b + x := by have := HAB.out; exact i64_wf (by omega) (by omega)
  have KK := KN.out w3
  clear X1 X2 BB FF SM B2 HLEN G2 KN HAB WAB
  by_cases h1 : x ≤ a + y
  · by_cases h2 : y ≤ b + x
    · rw [if_pos ⟨h1, h2⟩] at hn2
      subst hn2
      go_wp2_with fail
      go_at_call 14
      refine KK.mono ?_
      rintro e w4 ⟨rfl, hb⟩
      have B4 : Hid (Below w.heap.size w w4) := B3.out.trans (hb.mono B3.out.size)
      clear KK hb
      go_wp2
      go_ret
      exact ⟨rfl, B4.out⟩
    · rw [if_neg (fun h => h2 h.2)] at hn2
      subst hn2
      go_wp2_with fail
      go_at_call 14
      refine KK.mono ?_
      rintro e w4 ⟨rfl, hb⟩
      have B4 : Hid (Below w.heap.size w w4) := B3.out.trans (hb.mono B3.out.size)
      clear KK hb
      go_wp2
      go_ret
      exact ⟨rfl, B4.out⟩
  · rw [if_neg (fun h => h1 h.1)] at hn2
    subst hn2
    go_wp2_with fail
    go_at_call 14
    refine KK.mono ?_
    rintro e w4 ⟨rfl, hb⟩
    have B4 : Hid (Below w.heap.size w w4) := B3.out.trans (hb.mono B3.out.size)
    clear KK hb
    go_wp2
    go_ret
    exact ⟨rfl, B4.out⟩

set_option maxHeartbeats 16000000 in
theorem pairTwo_out (a b x y : Int) (w : World) (h : ¬ ((0 ≤ a ∧ a ≤ 60) ∧ (0 ≤ b ∧ b ≤ 60) ∧ (1 ≤ x ∧ x ≤ 200) ∧ (1 ≤ y ∧ y ≤ 200))) :
    Calls Try.prog 5 #[.int .i64 a, .int .i64 b, .int .i64 x, .int .i64 y] w fun e w' => e = .returned (.bool true) ∧ Below w.heap.size w w' := by
  by_cases a0 : a < 0
  · clear h
    go_enter Try.func5, Try.ntmps5
    go_wp2
    go_ret
    exact ⟨rfl, Below.refl _ _⟩
  by_cases a1 : 60 < a
  · clear h
    go_enter Try.func5, Try.ntmps5
    go_wp2
    go_ret
    exact ⟨rfl, Below.refl _ _⟩
  by_cases b0 : b < 0
  · clear h
    go_enter Try.func5, Try.ntmps5
    go_wp2
    go_ret
    exact ⟨rfl, Below.refl _ _⟩
  by_cases b1 : 60 < b
  · clear h
    go_enter Try.func5, Try.ntmps5
    go_wp2
    go_ret
    exact ⟨rfl, Below.refl _ _⟩
  by_cases x0 : x < 1
  · clear h
    go_enter Try.func5, Try.ntmps5
    go_wp2
    go_ret
    exact ⟨rfl, Below.refl _ _⟩
  by_cases x1 : 200 < x
  · clear h
    go_enter Try.func5, Try.ntmps5
    go_wp2
    go_ret
    exact ⟨rfl, Below.refl _ _⟩
  by_cases y0 : y < 1
  · clear h
    go_enter Try.func5, Try.ntmps5
    go_wp2
    go_ret
    exact ⟨rfl, Below.refl _ _⟩
  by_cases y1 : 200 < y
  · clear h
    go_enter Try.func5, Try.ntmps5
    go_wp2
    go_ret
    exact ⟨rfl, Below.refl _ _⟩
  exact absurd ⟨⟨by omega, by omega⟩, ⟨by omega, by omega⟩, ⟨by omega, by omega⟩, by omega, by omega⟩ h
theorem Walk.pairTwo (a b x y : Int) (w : World) (h0 : (Lit.int .i64 a).wf = true) (h1 : (Lit.int .i64 b).wf = true) (h2 : (Lit.int .i64 x).wf = true) (h3 : (Lit.int .i64 y).wf = true) :
    Calls Try.prog 5 #[.int .i64 a, .int .i64 b, .int .i64 x, .int .i64 y] w fun e w' => e = .returned (.bool true) ∧ Below w.heap.size w w' := by
  by_cases h : (0 ≤ a ∧ a ≤ 60) ∧ (0 ≤ b ∧ b ≤ 60) ∧ (1 ≤ x ∧ x ≤ 200) ∧ (1 ≤ y ∧ y ≤ 200)
  · exact pairTwo_in a b x y w h.1 h.2.1 h.2.2.1 h.2.2.2
  · exact pairTwo_out a b x y w h

end Go.Proofs.Ytajmbcbochjfmaa
