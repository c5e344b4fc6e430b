/-
  girolaw18.known: the four goes.
-/
import Derived.Test.YtgcofidkgohogaaFreeSame
import Derived.Test.YtgcofidkgohogaaBkApart
import Derived.Test.YtgcofidkgohogaaFactsLates
import Derived.Test.YtgcofidkgohogaaSomeGood
import Derived.Test.YtgcofidkgohogaaFitsAll
import Derived.Deep.CutRange
namespace Go.Proofs.Ytgcofidkgohogaa
open Go.RowKit
set_option linter.unusedVariables false
set_option linter.unusedSimpArgs false

def k18R : Bks × List P7 × List P7 := runF (someK [5] (bitB 0 1) (bitB 0 2) (bitB 0 4)) [(1, 0, 1, 7, 3, 0, 9), (2, 0, 1, 4, 3, 0, 9)] 1
theorem k18_que : Que [(1, 0, 1, 7, 3, 0, 9), (2, 0, 1, 4, 3, 0, 9)] := qIs_iff.1 (by decide +kernel)
theorem k18_fr : FrOk [(1, 0, 1, 7, 3, 0, 9), (2, 0, 1, 4, 3, 0, 9)] := by intro p hp; simp at hp; rcases hp with rfl | rfl <;> rfl
theorem k18_left : k18R.2.1 = [(1, 0, 1, 7, 3, 0, 9)] := eqP_iff.1 (by decide +kernel)
theorem k18_done : k18R.2.2 = [(2, 0, 1, 4, 3, 0, 9)] := eqP_iff.1 (by decide +kernel)
theorem k18_len : k18R.1.A.length = 3 := by decide +kernel
theorem k18_bal : (k18R.1.A.getD 0 a30).1 = 1 := by decide +kernel
theorem k18_good : Good k18R.1 := booksB_yes.1 (by decide +kernel)
theorem bk_fact {f : FuncId} {args : Array Value} {w : World} {b : Bks} (h : Calls Try.prog f args w (SomeEnd w b)) : Calls Try.prog f args w fun e w' => ∃ v, e = .returned v ∧ Below w.heap.size w w' ∧ (Fact.bk b).1 w' v :=
  h.mono fun e w' ⟨y, h1, h2, h3⟩ => ⟨_, h1, h3, y, rfl, h2.bk⟩

set_option maxHeartbeats 16000000 in
set_option maxRecDepth 100000 in
theorem known18 (FR : RunsAs 11) (w : World) : Calls Try.prog 14 #[] w fun e w' => e = .returned (.bool true) ∧ Below w.heap.size w w' := by
  have FF : Hid (∀ (y : BA) (a : Option Addr) (c : Nat) (u : World), Bk u y (someK [5] (bitB 0 1) (bitB 0 2) (bitB 0 4)) → PGood u a 2 c [(1, 0, 1, 7, 3, 0, 9), (2, 0, 1, 4, 3, 0, 9)] → Calls Try.prog 11 #[y.val, .slice a 2 c, .int .i64 1] u (FreeEnd u k18R)) := fun y a c u h1 h2 => FR y _ a 2 c _ 1 u h1 (good_some _ _ _ _) h2 k18_que k18_fr
  have HR1 : Hid (k18R.2.1 = [(1, 0, 1, 7, 3, 0, 9)]) := k18_left
  have HR2 : Hid (k18R.2.2 = [(2, 0, 1, 4, 3, 0, 9)]) := k18_done
  have HR3 : Hid (k18R.1.A.length = 3) := k18_len
  have HR4 : Hid ((k18R.1.A.getD 0 a30).1 = 1) := k18_bal
  have HR5 : Hid (Good k18R.1) := k18_good
  obtain ⟨R, hR⟩ : ∃ R, k18R = R := ⟨_, rfl⟩
  rw [hR] at FF HR1 HR2 HR3 HR4 HR5
  obtain ⟨kb, hkb⟩ : ∃ kb, (someK [5] (bitB 0 1) (bitB 0 2) (bitB 0 4)) = kb := ⟨_, rfl⟩
  have SM : Hid (∀ (g : Nat) (u : World), Sl .i64 u (some ⟨g, 0, none⟩) 1 [5] → Calls Try.prog 7 #[.slice (some ⟨g, 0, none⟩) 1 1, .int .i64 0] u (SomeEnd u kb)) := fun g u h => by rw [← hkb]; exact some_any _ 1 1 [5] 0 u h (by decide)
  rw [hkb] at FF
  clear hR hkb FR
  obtain ⟨w2, hw2⟩ : ∃ w2, w2 = (w.alloc (.cells #[.int .i64 1, .int .i64 0, .int .i64 1, .int .i64 7, .int .i64 3, .int .i64 0, .int .i64 9] 31)).alloc (.cells #[.int .i64 2, .int .i64 0, .int .i64 1, .int .i64 4, .int .i64 3, .int .i64 0, .int .i64 9] 31) := ⟨_, rfl⟩
  have B2 : Hid (Below w.heap.size w w2) := by rw [hw2]; exact (box_below _ _).alloc (box_below _ _).size _
  have X1 : Hid (At7 w2 w.heap.size 0 (1, 0, 1, 7, 3, 0, 9)) := by rw [hw2]; exact (At7.new w (1, 0, 1, 7, 3, 0, 9) _ _).below (box_below _ _)
  have X2 : Hid (At7 w2 (w.heap.size + 1) 0 (2, 0, 1, 4, 3, 0, 9)) := by
    rw [hw2]
    have := At7.new (w.alloc (.cells #[.int .i64 1, .int .i64 0, .int .i64 1, .int .i64 7, .int .i64 3, .int .i64 0, .int .i64 9] 31)) (2, 0, 1, 4, 3, 0, 9) 31 (0, 0)
    rw [size_alloc] at this
    exact this
  go_enter Try.func14, Try.ntmps14
  go_upto_region 2 with fail
  rw [← hw2]
  clear hw2
  go_cut [3, 4, 5] from 8 to 17 (fun s l d wc => ∃ (z : Nat) (y : BA) (a : Option Addr) (n c : Nat) (a2 : Option Addr) (n2 c2 : Nat), s = .pointer (some ⟨z, 0, none⟩) ∧ l = .slice a n c ∧ d = .slice a2 n2 c2 ∧ Hid (BVar wc z y) ∧ Hid (Bk wc y R.1) ∧ Hid (PGood wc a n c R.2.1) ∧ Hid (PGood wc a2 n2 c2 R.2.2) ∧ Hid (Below w2.heap.size w2 wc))
  case first =>
    refine region_owes_lates 11 [8, 9] (L := [Fact.full .i64 1 [5],
      Fact.bk kb,
      Fact.is (.agg #[.int .i64 1, .int .i64 0, .int .i64 1, .int .i64 7, .int .i64 3, .int .i64 0, .int .i64 9]),
      Fact.is (.agg #[.int .i64 2, .int .i64 0, .int .i64 1, .int .i64 4, .int .i64 3, .int .i64 0, .int .i64 9]),
      Fact.pg [(1, 0, 1, 7, 3, 0, 9), (2, 0, 1, 4, 3, 0, 9)],
      Fact.free R,
      Fact.free R,
      Fact.bk R.1,
      Fact.pg R.2.1,
      Fact.pg R.2.2,
      Fact.bv w2.heap.size])
      (T := [9, 10, 11, 12, 13, 14, 8, 15, 16, 17, 3]) (by kernel_rfl) rfl (Nat.le_of_ble_eq_true rfl) (by kernel_rfl) (by kernel_rfl) (by kernel_rfl) (by decide) (by kernel_rfl) rfl ?owes ?_
    case owes =>
      simp only [List.take_succ_cons, List.take_zero]
      refine .cons (owes_make fun q u lh => ⟨wants_free rfl, .slice (some ⟨u.heap.size, 0, none⟩) 1 1, u.alloc (.cells #[.int .i64 5] 2), by simp [execOp, Act.eval, go_sem], box_below _ _, ⟨_, rfl, Sl.new .i64 u 2 (0, 0) [5] (by intro n hn; simp at hn; subst hn; rfl)⟩⟩) ?_
      refine .cons (owes_call 7 Try.func7 (by kernel_rfl) (by kernel_rfl) [.tmp 9, .const (.int .i64 0)] #[22, 3] rfl fun q u lh => ⟨wants_free rfl, by obtain ⟨g9, e9, s9⟩ := lh.dep 0 rfl; have e9 : q.tmps.getD 9 undef = .slice (some ⟨g9, 0, none⟩) 1 1 := e9; show Calls Try.prog 7 #[q.tmps.getD 9 undef, .int .i64 0] u _; rw [e9]; exact bk_fact (SM.out g9 u s9)⟩) ?_
      refine .cons (owes_value fun q u lh => ⟨wants_free rfl, .agg #[.int .i64 1, .int .i64 0, .int .i64 1, .int .i64 7, .int .i64 3, .int .i64 0, .int .i64 9], by have e1 : q.tmps.getD 1 undef = .pointer (some ⟨w.heap.size, 0, none⟩) := lh.old 1 rfl; obtain ⟨z0, z1, z2, z3, z4, z5, z6⟩ := X1.out.below lh.below; simp [execOp, Act.eval, e1, z0, z1, z2, z3, z4, z5, z6, go_sem], rfl⟩) ?_
      refine .cons (owes_value fun q u lh => ⟨wants_free rfl, .agg #[.int .i64 2, .int .i64 0, .int .i64 1, .int .i64 4, .int .i64 3, .int .i64 0, .int .i64 9], by have e2 : q.tmps.getD 2 undef = .pointer (some ⟨w.heap.size + 1, 0, none⟩) := lh.old 2 rfl; obtain ⟨z0, z1, z2, z3, z4, z5, z6⟩ := X2.out.below lh.below; simp [execOp, Act.eval, e2, z0, z1, z2, z3, z4, z5, z6, go_sem], rfl⟩) ?_
      refine .cons (owes_make fun q u lh => ⟨wants_free rfl, .slice (some ⟨u.heap.size, 0, none⟩) 2 2, u.alloc (.cells #[.int .i64 1, .int .i64 0, .int .i64 1, .int .i64 7, .int .i64 3, .int .i64 0, .int .i64 9, .int .i64 2, .int .i64 0, .int .i64 1, .int .i64 4, .int .i64 3, .int .i64 0, .int .i64 9] 31), by have e11 : q.tmps[11]?.getD undef = .agg #[.int .i64 1, .int .i64 0, .int .i64 1, .int .i64 7, .int .i64 3, .int .i64 0, .int .i64 9] := (Array.getD_eq_getD_getElem? ..).symm.trans (lh.dep 2 rfl); have e12 : q.tmps[12]?.getD undef = .agg #[.int .i64 2, .int .i64 0, .int .i64 1, .int .i64 4, .int .i64 3, .int .i64 0, .int .i64 9] := (Array.getD_eq_getD_getElem? ..).symm.trans (lh.dep 3 rfl); simp [execOp, Act.eval, e11, e12, go_sem], box_below _ _, ⟨_, _, _, rfl, PGood.lit2 u (1, 0, 1, 7, 3, 0, 9) (2, 0, 1, 4, 3, 0, 9)⟩⟩) ?_
      refine .cons (owes_call 11 Try.func11 (by kernel_rfl) (by kernel_rfl) [.tmp 10, .tmp 13, .const (.int .i64 1)] #[27, 23, 2] rfl fun q u lh => ⟨wants_free rfl, by obtain ⟨y, e10, h10⟩ := lh.dep 1 rfl; obtain ⟨aa, nn, cc, e13, h13⟩ := lh.dep 4 rfl; have e10 : q.tmps.getD 10 undef = y.val := e10; have e13 : q.tmps.getD 13 undef = .slice aa nn cc := e13; obtain rfl : nn = 2 := h13.len; show Calls Try.prog 11 #[q.tmps.getD 10 undef, q.tmps.getD 13 undef, .int .i64 1] u _; rw [e10, e13]; exact free_fact (FF.out y aa cc u h10 h13)⟩) ?_
      refine .cons (owes_move (.tmp 14) (.inl rfl) fun q u lh => ⟨wants_free rfl, lh.dep 5 rfl⟩) ?_
      refine .cons (owes_value fun q u lh => by obtain ⟨y, a, n, c, a2, n2, c2, e8, h1, h2, h3⟩ := lh.dep 6 rfl; have e8 : q.tmps[8]?.getD undef = _ := (Array.getD_eq_getD_getElem? ..).symm.trans e8; exact ⟨wants_free rfl, y.val, by simp [execOp, Act.eval, e8, go_sem], y, rfl, h1⟩) ?_
      refine .cons (owes_value fun q u lh => by obtain ⟨y, a, n, c, a2, n2, c2, e8, h1, h2, h3⟩ := lh.dep 6 rfl; have e8 : q.tmps[8]?.getD undef = _ := (Array.getD_eq_getD_getElem? ..).symm.trans e8; exact ⟨wants_free rfl, .slice a n c, by simp [execOp, Act.eval, e8, go_sem], a, n, c, rfl, h2⟩) ?_
      refine .cons (owes_value fun q u lh => by obtain ⟨y, a, n, c, a2, n2, c2, e8, h1, h2, h3⟩ := lh.dep 6 rfl; have e8 : q.tmps[8]?.getD undef = _ := (Array.getD_eq_getD_getElem? ..).symm.trans e8; exact ⟨wants_free rfl, .slice a2 n2 c2, by simp [execOp, Act.eval, e8, go_sem], a2, n2, c2, rfl, h3⟩) ?_
      refine .cons (owes_make fun q u lh => ⟨wants_free rfl, .pointer (some ⟨u.heap.size, 0, none⟩), u.alloc (.cells #[.slice none 0 0, .slice none 0 0, .slice none 0 0, .slice none 0 0] 27), by simp [execOp, Act.eval, go_sem], box_below _ _, ⟨_, rfl, lh.below.size, BVar.new u ba0⟩⟩) ?_
      exact .nil _
    intro D q u hb hsz hdf hold hfact
    obtain ⟨g9, e9, s9⟩ : (Fact.full .i64 1 [5]).1 u (q.tmps.getD 9 undef) := hfact 0 (by decide) (.inl (by decide))
    obtain ⟨y10, e10, h10⟩ : (Fact.bk kb).1 u (q.tmps.getD 10 undef) := hfact 1 (by decide) (.inl (by decide))
    obtain ⟨a13, n13, c13, e13, h13⟩ : (Fact.pg [(1, 0, 1, 7, 3, 0, 9), (2, 0, 1, 4, 3, 0, 9)]).1 u (q.tmps.getD 13 undef) := hfact 4 (by decide) (.inl (by decide))
    obtain ⟨y14, a14, n14, c14, b14, m14, k14, e14, -⟩ : (Fact.free R).1 u (q.tmps.getD 14 undef) := hfact 5 (by decide) (.inl (by decide))
    obtain ⟨y8, a8, n8, c8, b8, m8, k8, e8, hk8, hg8, hh8⟩ : (Fact.free R).1 u (q.tmps.getD 8 undef) := hfact 6 (by decide) (.inl (by decide))
    obtain ⟨yx, ex, hx⟩ : (Fact.bk R.1).1 u (q.tmps.getD 15 undef) := hfact 7 (by decide) (.inl (by decide))
    obtain ⟨z, ez, hz, hzc⟩ : (Fact.bv w2.heap.size).1 u (q.tmps.getD 3 undef) := hfact 10 (by decide) (.inl (by decide))
    obtain ⟨gA, hA, iA, gB, hB, iB, gM, hM, iM, gP, hP, iP⟩ := yx
    have V : Hid (BVar (u.setRow z #[.slice gA hA iA, .slice gB hB iB, .slice gM hM iM, .slice gP hP iP]) z ⟨gA, hA, iA, gB, hB, iB, gM, hM, iM, gP, hP, iP⟩) := hzc.set ⟨gA, hA, iA, gB, hB, iB, gM, hM, iM, gP, hP, iP⟩
    have K : Hid (Bk (u.setRow z #[.slice gA hA iA, .slice gB hB iB, .slice gM hM iM, .slice gP hP iP]) ⟨gA, hA, iA, gB, hB, iB, gM, hM, iM, gP, hP, iP⟩ R.1) := hx.apart HR5.out hzc _
    have BB : Hid (Below w2.heap.size w2 (u.setRow z #[.slice gA hA iA, .slice gB hB iB, .slice gM hM iM, .slice gP hP iP])) := Below.setRow hb hz _
    have g8 : Hid (PGood (u.setRow z #[.slice gA hA iA, .slice gB hB iB, .slice gM hM iM, .slice gP hP iP]) a8 n8 c8 R.2.1) := hg8.apart hzc _
    have h8 : Hid (PGood (u.setRow z #[.slice gA hA iA, .slice gB hB iB, .slice gM hM iM, .slice gP hP iP]) b8 m8 k8 R.2.2) := hh8.apart hzc _
    cases d8 : D 8 <;> cases d9 : D 9
    · obtain ⟨v16, e16⟩ : ∃ v, q.tmps.getD 16 undef = v := ⟨_, rfl⟩
      obtain ⟨v17, e17⟩ : ∃ v, q.tmps.getD 17 undef = v := ⟨_, rfl⟩
      obtain rfl := frame_puts hsz hdf [9, 10, 11, 12, 13, 14, 8, 15, 16, 17, 3] hold [(9, Value.slice (some ⟨g9, 0, none⟩) 1 1), (10, y10.val), (11, Value.agg #[.int .i64 1, .int .i64 0, .int .i64 1, .int .i64 7, .int .i64 3, .int .i64 0, .int .i64 9]), (12, Value.agg #[.int .i64 2, .int .i64 0, .int .i64 1, .int .i64 4, .int .i64 3, .int .i64 0, .int .i64 9]), (13, Value.slice a13 n13 c13), (14, Value.tuple #[y14.val, .slice a14 n14 c14, .slice b14 m14 k14]), (8, Value.tuple #[y8.val, .slice a8 n8 c8, .slice b8 m8 k8]), (15, BA.val ⟨gA, hA, iA, gB, hB, iB, gM, hM, iM, gP, hP, iP⟩), (16, v16), (17, v17), (3, Value.pointer (some ⟨z, 0, none⟩))] ⟨e9, e10, hfact 2 (by decide) (.inl (by decide)), hfact 3 (by decide) (.inl (by decide)), e13, e14, e8, ex, e16, e17, ez, trivial⟩ rfl
      clear hsz hdf hold hfact
      simp only [List.filter, d8, d9, Bool.not_true, Bool.not_false, List.drop_succ_cons, List.drop_zero, LatesTop]
      simp only [puts, Act.put, List.setIfInBounds_toArray, List.set_cons_zero, List.set_cons_succ]
      refine wp_store_row 27 (.tmp 3) (.tmp 15) rfl z #[.slice gA hA iA, .slice gB hB iB, .slice gM hM iM, .slice gP hP iP] rfl rfl _ _ hzc booksSize (by simp) (by simp [Value.oneCell']) ?_
      generalize u.setRow z #[.slice gA hA iA, .slice gB hB iB, .slice gM hM iM, .slice gP hP iP] = wf at V K BB g8 h8 ⊢
      clear hb hzc hx s9 h10 h13 hk8 hg8 hh8
      simp only [List.length_cons, List.length_nil, Nat.zero_add, Nat.add_zero, Nat.reduceAdd, LatesWp, AllF, List.erase_cons_head, List.erase_cons_tail, List.erase_nil, List.getD_cons_zero, List.getD_cons_succ, Bool.false_eq_true, not_false_eq_true, Nat.reduceBEq, reduceCtorEq]
      refine ⟨?_, ?_, ?_, trivial⟩
      · intro hw; exact absurd hw (by decide)
      · refine wp_value (.slice a8 n8 c8) (by simp [execOp, Act.eval, go_sem]) ?_
        simp only [Act.put, List.setIfInBounds_toArray, List.set_cons_zero, List.set_cons_succ]
        refine ⟨?_, ?_, trivial⟩
        · intro _
          refine wp_assign _ rfl ?_
          simp only [Act.put, List.setIfInBounds_toArray, List.set_cons_zero, List.set_cons_succ]
          refine ⟨?_, ?_, trivial⟩
          · intro hw; exact absurd hw (by decide)
          · refine wp_value (.slice b8 m8 k8) (by simp [execOp, Act.eval, go_sem]) ?_
            simp only [Act.put, List.setIfInBounds_toArray, List.set_cons_zero, List.set_cons_succ]
            refine ⟨?_, trivial⟩
            · intro _
              refine wp_assign _ rfl ?_
              simp only [Act.put, List.setIfInBounds_toArray, List.set_cons_zero, List.set_cons_succ]
              go_wp2
              go_meet
              exact ⟨z, ⟨gA, hA, iA, gB, hB, iB, gM, hM, iM, gP, hP, iP⟩, a8, n8, c8, b8, m8, k8, rfl, rfl, rfl, V, K, g8, h8, BB⟩
        · refine wp_value (.slice b8 m8 k8) (by simp [execOp, Act.eval, go_sem]) ?_
          simp only [Act.put, List.setIfInBounds_toArray, List.set_cons_zero, List.set_cons_succ]
          refine ⟨?_, trivial⟩
          · intro _
            refine wp_assign _ rfl ?_
            simp only [Act.put, List.setIfInBounds_toArray, List.set_cons_zero, List.set_cons_succ]
            refine ⟨?_, trivial⟩
            · intro _
              refine wp_assign _ rfl ?_
              simp only [Act.put, List.setIfInBounds_toArray, List.set_cons_zero, List.set_cons_succ]
              go_wp2
              go_meet
              exact ⟨z, ⟨gA, hA, iA, gB, hB, iB, gM, hM, iM, gP, hP, iP⟩, a8, n8, c8, b8, m8, k8, rfl, rfl, rfl, V, K, g8, h8, BB⟩
      · refine wp_value (.slice b8 m8 k8) (by simp [execOp, Act.eval, go_sem]) ?_
        simp only [Act.put, List.setIfInBounds_toArray, List.set_cons_zero, List.set_cons_succ]
        refine ⟨?_, ?_, trivial⟩
        · intro hw; exact absurd hw (by decide)
        · refine wp_value (.slice a8 n8 c8) (by simp [execOp, Act.eval, go_sem]) ?_
          simp only [Act.put, List.setIfInBounds_toArray, List.set_cons_zero, List.set_cons_succ]
          refine ⟨?_, trivial⟩
          · intro _
            refine wp_assign _ rfl ?_
            simp only [Act.put, List.setIfInBounds_toArray, List.set_cons_zero, List.set_cons_succ]
            refine ⟨?_, trivial⟩
            · intro _
              refine wp_assign _ rfl ?_
              simp only [Act.put, List.setIfInBounds_toArray, List.set_cons_zero, List.set_cons_succ]
              go_wp2
              go_meet
              exact ⟨z, ⟨gA, hA, iA, gB, hB, iB, gM, hM, iM, gP, hP, iP⟩, a8, n8, c8, b8, m8, k8, rfl, rfl, rfl, V, K, g8, h8, BB⟩
    · obtain ⟨v16, e16⟩ : ∃ v, q.tmps.getD 16 undef = v := ⟨_, rfl⟩
      obtain ⟨a17, n17, c17, e17, h17⟩ : (Fact.pg R.2.2).1 u (q.tmps.getD 17 undef) := hfact 9 (by decide) (.inr d9)
      have g17 : Hid (PGood (u.setRow z #[.slice gA hA iA, .slice gB hB iB, .slice gM hM iM, .slice gP hP iP]) a17 n17 c17 R.2.2) := h17.apart hzc _
      obtain rfl := frame_puts hsz hdf [9, 10, 11, 12, 13, 14, 8, 15, 16, 17, 3] hold [(9, Value.slice (some ⟨g9, 0, none⟩) 1 1), (10, y10.val), (11, Value.agg #[.int .i64 1, .int .i64 0, .int .i64 1, .int .i64 7, .int .i64 3, .int .i64 0, .int .i64 9]), (12, Value.agg #[.int .i64 2, .int .i64 0, .int .i64 1, .int .i64 4, .int .i64 3, .int .i64 0, .int .i64 9]), (13, Value.slice a13 n13 c13), (14, Value.tuple #[y14.val, .slice a14 n14 c14, .slice b14 m14 k14]), (8, Value.tuple #[y8.val, .slice a8 n8 c8, .slice b8 m8 k8]), (15, BA.val ⟨gA, hA, iA, gB, hB, iB, gM, hM, iM, gP, hP, iP⟩), (16, v16), (17, .slice a17 n17 c17), (3, Value.pointer (some ⟨z, 0, none⟩))] ⟨e9, e10, hfact 2 (by decide) (.inl (by decide)), hfact 3 (by decide) (.inl (by decide)), e13, e14, e8, ex, e16, e17, ez, trivial⟩ rfl
      clear hsz hdf hold hfact
      simp only [List.filter, d8, d9, Bool.not_true, Bool.not_false, List.drop_succ_cons, List.drop_zero, LatesTop]
      simp only [puts, Act.put, List.setIfInBounds_toArray, List.set_cons_zero, List.set_cons_succ]
      refine wp_store_row 27 (.tmp 3) (.tmp 15) rfl z #[.slice gA hA iA, .slice gB hB iB, .slice gM hM iM, .slice gP hP iP] rfl rfl _ _ hzc booksSize (by simp) (by simp [Value.oneCell']) ?_
      generalize u.setRow z #[.slice gA hA iA, .slice gB hB iB, .slice gM hM iM, .slice gP hP iP] = wf at V K BB g8 h8 g17 ⊢
      clear hb hzc hx s9 h10 h13 hk8 hg8 hh8
      simp only [List.length_cons, List.length_nil, Nat.zero_add, Nat.add_zero, Nat.reduceAdd, LatesWp, AllF, List.erase_cons_head, List.erase_cons_tail, List.erase_nil, List.getD_cons_zero, List.getD_cons_succ, Bool.false_eq_true, not_false_eq_true, Nat.reduceBEq, reduceCtorEq]
      refine ⟨?_, ?_, trivial⟩
      · intro hw; exact absurd hw (by decide)
      · refine wp_value (.slice a8 n8 c8) (by simp [execOp, Act.eval, go_sem]) ?_
        simp only [Act.put, List.setIfInBounds_toArray, List.set_cons_zero, List.set_cons_succ]
        refine ⟨?_, trivial⟩
        · intro _
          refine wp_assign _ rfl ?_
          simp only [Act.put, List.setIfInBounds_toArray, List.set_cons_zero, List.set_cons_succ]
          refine ⟨?_, trivial⟩
          · intro _
            refine wp_assign _ rfl ?_
            simp only [Act.put, List.setIfInBounds_toArray, List.set_cons_zero, List.set_cons_succ]
            go_wp2
            go_meet
            exact ⟨z, ⟨gA, hA, iA, gB, hB, iB, gM, hM, iM, gP, hP, iP⟩, a8, n8, c8, a17, n17, c17, rfl, rfl, rfl, V, K, g8, g17, BB⟩
    · obtain ⟨a16, n16, c16, e16, h16⟩ : (Fact.pg R.2.1).1 u (q.tmps.getD 16 undef) := hfact 8 (by decide) (.inr d8)
      have g16 : Hid (PGood (u.setRow z #[.slice gA hA iA, .slice gB hB iB, .slice gM hM iM, .slice gP hP iP]) a16 n16 c16 R.2.1) := h16.apart hzc _
      obtain ⟨v17, e17⟩ : ∃ v, q.tmps.getD 17 undef = v := ⟨_, rfl⟩
      obtain rfl := frame_puts hsz hdf [9, 10, 11, 12, 13, 14, 8, 15, 16, 17, 3] hold [(9, Value.slice (some ⟨g9, 0, none⟩) 1 1), (10, y10.val), (11, Value.agg #[.int .i64 1, .int .i64 0, .int .i64 1, .int .i64 7, .int .i64 3, .int .i64 0, .int .i64 9]), (12, Value.agg #[.int .i64 2, .int .i64 0, .int .i64 1, .int .i64 4, .int .i64 3, .int .i64 0, .int .i64 9]), (13, Value.slice a13 n13 c13), (14, Value.tuple #[y14.val, .slice a14 n14 c14, .slice b14 m14 k14]), (8, Value.tuple #[y8.val, .slice a8 n8 c8, .slice b8 m8 k8]), (15, BA.val ⟨gA, hA, iA, gB, hB, iB, gM, hM, iM, gP, hP, iP⟩), (16, .slice a16 n16 c16), (17, v17), (3, Value.pointer (some ⟨z, 0, none⟩))] ⟨e9, e10, hfact 2 (by decide) (.inl (by decide)), hfact 3 (by decide) (.inl (by decide)), e13, e14, e8, ex, e16, e17, ez, trivial⟩ rfl
      clear hsz hdf hold hfact
      simp only [List.filter, d8, d9, Bool.not_true, Bool.not_false, List.drop_succ_cons, List.drop_zero, LatesTop]
      simp only [puts, Act.put, List.setIfInBounds_toArray, List.set_cons_zero, List.set_cons_succ]
      refine wp_store_row 27 (.tmp 3) (.tmp 15) rfl z #[.slice gA hA iA, .slice gB hB iB, .slice gM hM iM, .slice gP hP iP] rfl rfl _ _ hzc booksSize (by simp) (by simp [Value.oneCell']) ?_
      generalize u.setRow z #[.slice gA hA iA, .slice gB hB iB, .slice gM hM iM, .slice gP hP iP] = wf at V K BB g8 h8 g16 ⊢
      clear hb hzc hx s9 h10 h13 hk8 hg8 hh8
      simp only [List.length_cons, List.length_nil, Nat.zero_add, Nat.add_zero, Nat.reduceAdd, LatesWp, AllF, List.erase_cons_head, List.erase_cons_tail, List.erase_nil, List.getD_cons_zero, List.getD_cons_succ, Bool.false_eq_true, not_false_eq_true, Nat.reduceBEq, reduceCtorEq]
      refine ⟨?_, ?_, trivial⟩
      · intro _
        refine wp_assign _ rfl ?_
        simp only [Act.put, List.setIfInBounds_toArray, List.set_cons_zero, List.set_cons_succ]
        refine ⟨?_, ?_, trivial⟩
        · intro hw; exact absurd hw (by decide)
        · refine wp_value (.slice b8 m8 k8) (by simp [execOp, Act.eval, go_sem]) ?_
          simp only [Act.put, List.setIfInBounds_toArray, List.set_cons_zero, List.set_cons_succ]
          refine ⟨?_, trivial⟩
          · intro _
            refine wp_assign _ rfl ?_
            simp only [Act.put, List.setIfInBounds_toArray, List.set_cons_zero, List.set_cons_succ]
            go_wp2
            go_meet
            exact ⟨z, ⟨gA, hA, iA, gB, hB, iB, gM, hM, iM, gP, hP, iP⟩, a16, n16, c16, b8, m8, k8, rfl, rfl, rfl, V, K, g16, h8, BB⟩
      · refine wp_value (.slice b8 m8 k8) (by simp [execOp, Act.eval, go_sem]) ?_
        simp only [Act.put, List.setIfInBounds_toArray, List.set_cons_zero, List.set_cons_succ]
        refine ⟨?_, trivial⟩
        · intro _
          refine wp_assign _ rfl ?_
          simp only [Act.put, List.setIfInBounds_toArray, List.set_cons_zero, List.set_cons_succ]
          refine ⟨?_, trivial⟩
          · intro _
            refine wp_assign _ rfl ?_
            simp only [Act.put, List.setIfInBounds_toArray, List.set_cons_zero, List.set_cons_succ]
            go_wp2
            go_meet
            exact ⟨z, ⟨gA, hA, iA, gB, hB, iB, gM, hM, iM, gP, hP, iP⟩, a16, n16, c16, b8, m8, k8, rfl, rfl, rfl, V, K, g16, h8, BB⟩
    · obtain ⟨a16, n16, c16, e16, h16⟩ : (Fact.pg R.2.1).1 u (q.tmps.getD 16 undef) := hfact 8 (by decide) (.inr d8)
      have g16 : Hid (PGood (u.setRow z #[.slice gA hA iA, .slice gB hB iB, .slice gM hM iM, .slice gP hP iP]) a16 n16 c16 R.2.1) := h16.apart hzc _
      obtain ⟨a17, n17, c17, e17, h17⟩ : (Fact.pg R.2.2).1 u (q.tmps.getD 17 undef) := hfact 9 (by decide) (.inr d9)
      have g17 : Hid (PGood (u.setRow z #[.slice gA hA iA, .slice gB hB iB, .slice gM hM iM, .slice gP hP iP]) a17 n17 c17 R.2.2) := h17.apart hzc _
      obtain rfl := frame_puts hsz hdf [9, 10, 11, 12, 13, 14, 8, 15, 16, 17, 3] hold [(9, Value.slice (some ⟨g9, 0, none⟩) 1 1), (10, y10.val), (11, Value.agg #[.int .i64 1, .int .i64 0, .int .i64 1, .int .i64 7, .int .i64 3, .int .i64 0, .int .i64 9]), (12, Value.agg #[.int .i64 2, .int .i64 0, .int .i64 1, .int .i64 4, .int .i64 3, .int .i64 0, .int .i64 9]), (13, Value.slice a13 n13 c13), (14, Value.tuple #[y14.val, .slice a14 n14 c14, .slice b14 m14 k14]), (8, Value.tuple #[y8.val, .slice a8 n8 c8, .slice b8 m8 k8]), (15, BA.val ⟨gA, hA, iA, gB, hB, iB, gM, hM, iM, gP, hP, iP⟩), (16, .slice a16 n16 c16), (17, .slice a17 n17 c17), (3, Value.pointer (some ⟨z, 0, none⟩))] ⟨e9, e10, hfact 2 (by decide) (.inl (by decide)), hfact 3 (by decide) (.inl (by decide)), e13, e14, e8, ex, e16, e17, ez, trivial⟩ rfl
      clear hsz hdf hold hfact
      simp only [List.filter, d8, d9, Bool.not_true, Bool.not_false, List.drop_succ_cons, List.drop_zero, LatesTop]
      simp only [puts, Act.put, List.setIfInBounds_toArray, List.set_cons_zero, List.set_cons_succ]
      refine wp_store_row 27 (.tmp 3) (.tmp 15) rfl z #[.slice gA hA iA, .slice gB hB iB, .slice gM hM iM, .slice gP hP iP] rfl rfl _ _ hzc booksSize (by simp) (by simp [Value.oneCell']) ?_
      generalize u.setRow z #[.slice gA hA iA, .slice gB hB iB, .slice gM hM iM, .slice gP hP iP] = wf at V K BB g8 h8 g16 g17 ⊢
      clear hb hzc hx s9 h10 h13 hk8 hg8 hh8
      simp only [List.length_cons, List.length_nil, Nat.zero_add, Nat.add_zero, Nat.reduceAdd, LatesWp, AllF, List.erase_cons_head, List.erase_cons_tail, List.erase_nil, List.getD_cons_zero, List.getD_cons_succ, Bool.false_eq_true, not_false_eq_true, Nat.reduceBEq, reduceCtorEq]
      refine ⟨?_, trivial⟩
      · intro _
        refine wp_assign _ rfl ?_
        simp only [Act.put, List.setIfInBounds_toArray, List.set_cons_zero, List.set_cons_succ]
        refine ⟨?_, trivial⟩
        · intro _
          refine wp_assign _ rfl ?_
          simp only [Act.put, List.setIfInBounds_toArray, List.set_cons_zero, List.set_cons_succ]
          go_wp2
          go_meet
          exact ⟨z, ⟨gA, hA, iA, gB, hB, iB, gM, hM, iM, gP, hP, iP⟩, a16, n16, c16, a17, n17, c17, rfl, rfl, rfl, V, K, g16, g17, BB⟩
  case rest =>
  obtain ⟨z, y, a, n, c, a2, n2, c2, hs, hl, hd, VZ, K, G1, G2, BB⟩ := hcut
  subst hs hl hd
  obtain ⟨w3, rfl⟩ : ∃ z, z = wc := ⟨wc, rfl⟩
  have B3 : Hid (Below w.heap.size w w3) := B2.out.trans (BB.out.mono B2.out.size)
  have X13 : Hid (At7 w3 w.heap.size 0 (1, 0, 1, 7, 3, 0, 9)) := X1.out.below BB.out
  have X23 : Hid (At7 w3 (w.heap.size + 1) 0 (2, 0, 1, 4, 3, 0, 9)) := X2.out.below BB.out
  have G1 : Hid (PGood w3 a n c [(1, 0, 1, 7, 3, 0, 9)]) := by rw [← HR1.out]; exact G1.out
  have G2 : Hid (PGood w3 a2 n2 c2 [(2, 0, 1, 4, 3, 0, 9)]) := by rw [← HR2.out]; exact G2.out
  clear X1 X2 BB FF SM HR1 HR2 B2
  obtain rfl : n = 1 := G1.out.len
  obtain rfl : n2 = 1 := G2.out.len
  obtain ⟨m0, cA, cB, cM, cP, bA, oA, bB, oB, bM, oM, bP, oP, hy, hm, FL⟩ := K.out.flat HR5.out
  subst hy
  obtain rfl : m0 = 3 := by rw [hm]; exact HR3.out
  have HB0 : Hid (w3.cell? ⟨bA, oA, none⟩ = some (.int .i64 1)) := by
    have := (FL.acc 0 (by omega)).1
    rw [HR4.out] at this
    exact this
  have VB : Hid (w3.cell? ⟨z, 0, none⟩ = some (.slice (some ⟨bA, oA, none⟩) 3 cA)) := VZ.out.box.1
  clear hm FL K VZ HR3 HR4 HR5
  obtain ⟨r0, r1, r2, r3, r4, r5, r6⟩ := X23.out
  simp only [P7.id, P7.fr, P7.to, P7.am, P7.cl, P7.st, P7.ti, Nat.zero_add] at r0 r1 r2 r3 r4 r5 r6
  have S := same_true a2 (some ⟨w3.heap.size, 0, none⟩) 1 1 c2 1 [(2, 0, 1, 4, 3, 0, 9)] _ (G2.out.below (box_below w3 _)) (PGood.lit1 w3 (2, 0, 1, 4, 3, 0, 9))
  go_wp2_with fail
  go_at_call 24
  refine S.mono ?_
  rintro e w4 ⟨rfl, hb⟩
  have b34 : Below w3.heap.size w3 w4 := (box_below _ _).trans (hb.mono (by rw [size_alloc]; omega))
  have B4 : Hid (Below w.heap.size w w4) := B3.out.trans (b34.mono B3.out.size)
  have X14 : Hid (At7 w4 w.heap.size 0 (1, 0, 1, 7, 3, 0, 9)) := X13.out.below b34
  have G4 : Hid (PGood w4 a 1 c [(1, 0, 1, 7, 3, 0, 9)]) := G1.out.below b34
  have V4 : Hid (w4.cell? ⟨z, 0, none⟩ = some (.slice (some ⟨bA, oA, none⟩) 3 cA)) := (b34.cell (p := ⟨z, 0, none⟩) (block_lt_of_cell VB.out)).trans VB.out
  have H4 : Hid (w4.cell? ⟨bA, oA, none⟩ = some (.int .i64 1)) := (b34.cell (p := ⟨bA, oA, none⟩) (block_lt_of_cell HB0.out)).trans HB0.out
  clear S hb b34 r0 r1 r2 r3 r4 r5 r6 X13 X23 G1 G2 VB HB0 B3
  obtain ⟨r0, r1, r2, r3, r4, r5, r6⟩ := X14.out
  simp only [P7.id, P7.fr, P7.to, P7.am, P7.cl, P7.st, P7.ti, Nat.zero_add] at r0 r1 r2 r3 r4 r5 r6
  have S := same_true a (some ⟨w4.heap.size, 0, none⟩) 1 1 c 1 [(1, 0, 1, 7, 3, 0, 9)] _ (G4.out.below (box_below w4 _)) (PGood.lit1 w4 (1, 0, 1, 7, 3, 0, 9))
  go_wp2_with fail
  go_at_call 24
  refine S.mono ?_
  rintro e w5 ⟨rfl, hb⟩
  have b45 : Below w4.heap.size w4 w5 := (box_below _ _).trans (hb.mono (by rw [size_alloc]; omega))
  have B5 : Hid (Below w.heap.size w w5) := B4.out.trans (b45.mono B4.out.size)
  have v5 : w5.cell? ⟨z, 0, none⟩ = some (.slice (some ⟨bA, oA, none⟩) 3 cA) := (b45.cell (p := ⟨z, 0, none⟩) (block_lt_of_cell V4.out)).trans V4.out
  have h5 : w5.cell? ⟨bA, oA, none⟩ = some (.int .i64 1) := (b45.cell (p := ⟨bA, oA, none⟩) (block_lt_of_cell H4.out)).trans H4.out
  clear S hb b45 r0 r1 r2 r3 r4 r5 r6 X14 G4 V4 H4 B4
  go_wp2
  go_ret
  exact ⟨rfl, B5.out⟩

end Go.Proofs.Ytgcofidkgohogaa
