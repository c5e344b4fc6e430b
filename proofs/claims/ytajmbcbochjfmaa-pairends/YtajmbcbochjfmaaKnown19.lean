/-
  girolaw19.known: both go.
-/
import Derived.Test.YtajmbcbochjfmaaPairSt
import Derived.Test.YtajmbcbochjfmaaLawSame
import Derived.Test.YtajmbcbochjfmaaBkApart
import Derived.Test.YtajmbcbochjfmaaFactsLates
import Derived.Test.YtajmbcbochjfmaaSomeGood
import Derived.Deep.CutRange
namespace Go.Proofs.Ytajmbcbochjfmaa
open Go.RowKit
set_option linter.unusedVariables false
set_option linter.unusedSimpArgs false

def k19R : Bks × List P7 × List P7 := runQ (someK [] (bitB 0 1) (bitB 0 2) (bitB 0 4)) [(1, 0, 1, 5, 3, 0, 9), (2, 1, 0, 5, 3, 0, 9)] 1
theorem k19_que : Que [(1, 0, 1, 5, 3, 0, 9), (2, 1, 0, 5, 3, 0, 9)] := qIs_iff.1 (by decide +kernel)
theorem k19_fr : FrOk [(1, 0, 1, 5, 3, 0, 9), (2, 1, 0, 5, 3, 0, 9)] := by intro p hp; simp at hp; rcases hp with rfl | rfl <;> rfl
theorem k19_left : k19R.2.1 = [] := eqP_iff.1 (by decide +kernel)
theorem k19_done : k19R.2.2 = [(1, 0, 1, 5, 3, 0, 9), (2, 1, 0, 5, 3, 0, 9)] := eqP_iff.1 (by decide +kernel)
theorem k19_good : Good k19R.1 := booksB_yes.1 (by decide +kernel)

set_option maxHeartbeats 16000000 in
set_option maxRecDepth 100000 in
theorem known19 (FR : RunsQ 11) (w : World) : Calls Try.prog 14 #[] w fun e w' => e = .returned (.bool true) ∧ Below w.heap.size w w' := by
  have FF : Hid (∀ (y : BA) (a : Option Addr) (c : Nat) (u : World), Bk u y (someK [] (bitB 0 1) (bitB 0 2) (bitB 0 4)) → PGood u a 2 c [(1, 0, 1, 5, 3, 0, 9), (2, 1, 0, 5, 3, 0, 9)] → Calls Try.prog 11 #[y.val, .slice a 2 c, .int .i64 1] u (FreeEnd u k19R)) := fun y a c u h1 h2 => FR y _ a 2 c _ 1 u h1 (good_some _ _ _ _) h2 k19_que k19_fr
  have HR1 : Hid (k19R.2.1 = []) := k19_left
  have HR2 : Hid (k19R.2.2 = [(1, 0, 1, 5, 3, 0, 9), (2, 1, 0, 5, 3, 0, 9)]) := k19_done
  have HR5 : Hid (Good k19R.1) := k19_good
  obtain ⟨R, hR⟩ : ∃ R, k19R = R := ⟨_, rfl⟩
  rw [hR] at FF HR1 HR2 HR5
  obtain ⟨kb, hkb⟩ : ∃ kb, (someK [] (bitB 0 1) (bitB 0 2) (bitB 0 4)) = kb := ⟨_, rfl⟩
  have SM : Hid (∀ (u : World), Calls Try.prog 7 #[.slice none 0 0, .int .i64 0] u (SomeEnd u kb)) := fun u => by rw [← hkb]; exact some_any none 0 0 [] 0 u (Sl.nil _ _ _) (by decide)
  rw [hkb] at FF
  clear hR hkb FR
  obtain ⟨w2, hw2⟩ : ∃ w2, w2 = (w.alloc (.cells #[.int .i64 1, .int .i64 0, .int .i64 1, .int .i64 5, .int .i64 3, .int .i64 0, .int .i64 9] 31)).alloc (.cells #[.int .i64 2, .int .i64 1, .int .i64 0, .int .i64 5, .int .i64 3, .int .i64 0, .int .i64 9] 31) := ⟨_, rfl⟩
  have B2 : Hid (Below w.heap.size w w2) := by rw [hw2]; exact (box_below _ _).alloc (box_below _ _).size _
  have X1 : Hid (At7 w2 w.heap.size 0 (1, 0, 1, 5, 3, 0, 9)) := by rw [hw2]; exact (At7.new w (1, 0, 1, 5, 3, 0, 9) _ _).below (box_below _ _)
  have X2 : Hid (At7 w2 (w.heap.size + 1) 0 (2, 1, 0, 5, 3, 0, 9)) := by
    rw [hw2]
    have := At7.new (w.alloc (.cells #[.int .i64 1, .int .i64 0, .int .i64 1, .int .i64 5, .int .i64 3, .int .i64 0, .int .i64 9] 31)) (2, 1, 0, 5, 3, 0, 9) 31 (0, 0)
    rw [size_alloc] at this
    exact this
  go_enter Try.func14, Try.ntmps14
  go_upto_region 2 with fail
  rw [← hw2]
  clear hw2
  go_cut [3, 4, 5] from 8 to 16 (fun s l d wc => ∃ (z : Nat) (y : BA) (a : Option Addr) (n c : Nat) (a2 : Option Addr) (n2 c2 : Nat), s = .pointer (some ⟨z, 0, none⟩) ∧ l = .slice a n c ∧ d = .slice a2 n2 c2 ∧ Hid (PGood wc a n c R.2.1) ∧ Hid (PGood wc a2 n2 c2 R.2.2) ∧ Hid (Below w2.heap.size w2 wc))
  case first =>
    refine region_owes_lates 10 [7, 8] (L := [Fact.bk kb,
      Fact.is (.agg #[.int .i64 1, .int .i64 0, .int .i64 1, .int .i64 5, .int .i64 3, .int .i64 0, .int .i64 9]),
      Fact.is (.agg #[.int .i64 2, .int .i64 1, .int .i64 0, .int .i64 5, .int .i64 3, .int .i64 0, .int .i64 9]),
      Fact.pg [(1, 0, 1, 5, 3, 0, 9), (2, 1, 0, 5, 3, 0, 9)],
      Fact.free R,
      Fact.free R,
      Fact.bk R.1,
      Fact.pg R.2.1,
      Fact.pg R.2.2,
      Fact.bv w2.heap.size])
      (T := [9, 10, 11, 12, 13, 8, 14, 15, 16, 3]) (by kernel_rfl) rfl (Nat.le_of_ble_eq_true rfl) (by kernel_rfl) (by kernel_rfl) (by kernel_rfl) (by decide) (by kernel_rfl) rfl ?owes ?_
    case owes =>
      simp only [List.take_succ_cons, List.take_zero]
      refine .cons (owes_call 7 Try.func7 (by kernel_rfl) (by kernel_rfl) [.const (.slice none 0 0), .const (.int .i64 0)] #[22, 3] rfl fun q u lh => ⟨wants_free rfl, by show Calls Try.prog 7 #[.slice none 0 0, .int .i64 0] u _; exact bkF_fact (SM.out u)⟩) ?_
      refine .cons (owes_value fun q u lh => ⟨wants_free rfl, .agg #[.int .i64 1, .int .i64 0, .int .i64 1, .int .i64 5, .int .i64 3, .int .i64 0, .int .i64 9], by have e1 : q.tmps.getD 1 undef = .pointer (some ⟨w.heap.size, 0, none⟩) := lh.old 1 rfl; obtain ⟨z0, z1, z2, z3, z4, z5, z6⟩ := X1.out.below lh.below; simp [execOp, Act.eval, e1, z0, z1, z2, z3, z4, z5, z6, go_sem], rfl⟩) ?_
      refine .cons (owes_value fun q u lh => ⟨wants_free rfl, .agg #[.int .i64 2, .int .i64 1, .int .i64 0, .int .i64 5, .int .i64 3, .int .i64 0, .int .i64 9], by have e2 : q.tmps.getD 2 undef = .pointer (some ⟨w.heap.size + 1, 0, none⟩) := lh.old 2 rfl; obtain ⟨z0, z1, z2, z3, z4, z5, z6⟩ := X2.out.below lh.below; simp [execOp, Act.eval, e2, z0, z1, z2, z3, z4, z5, z6, go_sem], rfl⟩) ?_
      refine .cons (owes_make fun q u lh => ⟨wants_free rfl, .slice (some ⟨u.heap.size, 0, none⟩) 2 2, u.alloc (.cells #[.int .i64 1, .int .i64 0, .int .i64 1, .int .i64 5, .int .i64 3, .int .i64 0, .int .i64 9, .int .i64 2, .int .i64 1, .int .i64 0, .int .i64 5, .int .i64 3, .int .i64 0, .int .i64 9] 31), by have e10 : q.tmps[10]?.getD undef = .agg #[.int .i64 1, .int .i64 0, .int .i64 1, .int .i64 5, .int .i64 3, .int .i64 0, .int .i64 9] := (Array.getD_eq_getD_getElem? ..).symm.trans (lh.dep 1 rfl); have e11 : q.tmps[11]?.getD undef = .agg #[.int .i64 2, .int .i64 1, .int .i64 0, .int .i64 5, .int .i64 3, .int .i64 0, .int .i64 9] := (Array.getD_eq_getD_getElem? ..).symm.trans (lh.dep 2 rfl); simp [execOp, Act.eval, e10, e11, go_sem], box_below _ _, ⟨_, _, _, rfl, PGood.lit2 u (1, 0, 1, 5, 3, 0, 9) (2, 1, 0, 5, 3, 0, 9)⟩⟩) ?_
      refine .cons (owes_call 11 Try.func11 (by kernel_rfl) (by kernel_rfl) [.tmp 9, .tmp 12, .const (.int .i64 1)] #[27, 23, 2] rfl fun q u lh => ⟨wants_free rfl, by obtain ⟨y, e9, h9⟩ := lh.dep 0 rfl; obtain ⟨aa, nn, cc, e12, h12⟩ := lh.dep 3 rfl; have e9 : q.tmps.getD 9 undef = y.val := e9; have e12 : q.tmps.getD 12 undef = .slice aa nn cc := e12; obtain rfl : nn = 2 := h12.len; show Calls Try.prog 11 #[q.tmps.getD 9 undef, q.tmps.getD 12 undef, .int .i64 1] u _; rw [e9, e12]; exact free_fact (FF.out y aa cc u h9 h12)⟩) ?_
      refine .cons (owes_move (.tmp 13) (.inl rfl) fun q u lh => ⟨wants_free rfl, lh.dep 4 rfl⟩) ?_
      refine .cons (owes_value fun q u lh => by obtain ⟨y, a, n, c, a2, n2, c2, e8, h1, h2, h3⟩ := lh.dep 5 rfl; have e8 : q.tmps[8]?.getD undef = _ := (Array.getD_eq_getD_getElem? ..).symm.trans e8; exact ⟨wants_free rfl, y.val, by simp [execOp, Act.eval, e8, go_sem], y, rfl, h1⟩) ?_
      refine .cons (owes_value fun q u lh => by obtain ⟨y, a, n, c, a2, n2, c2, e8, h1, h2, h3⟩ := lh.dep 5 rfl; have e8 : q.tmps[8]?.getD undef = _ := (Array.getD_eq_getD_getElem? ..).symm.trans e8; exact ⟨wants_free rfl, .slice a n c, by simp [execOp, Act.eval, e8, go_sem], a, n, c, rfl, h2⟩) ?_
      refine .cons (owes_value fun q u lh => by obtain ⟨y, a, n, c, a2, n2, c2, e8, h1, h2, h3⟩ := lh.dep 5 rfl; have e8 : q.tmps[8]?.getD undef = _ := (Array.getD_eq_getD_getElem? ..).symm.trans e8; exact ⟨wants_free rfl, .slice a2 n2 c2, by simp [execOp, Act.eval, e8, go_sem], a2, n2, c2, rfl, h3⟩) ?_
      refine .cons (owes_make fun q u lh => ⟨wants_free rfl, .pointer (some ⟨u.heap.size, 0, none⟩), u.alloc (.cells #[.slice none 0 0, .slice none 0 0, .slice none 0 0, .slice none 0 0] 27), by simp [execOp, Act.eval, go_sem], box_below _ _, ⟨_, rfl, lh.below.size, BVar.new u ba0⟩⟩) ?_
      exact .nil _
    intro D q u hb hsz hdf hold hfact
    obtain ⟨y9, e9, h9⟩ : (Fact.bk kb).1 u (q.tmps.getD 9 undef) := hfact 0 (by decide) (.inl (by decide))
    obtain ⟨a12, n12, c12, e12, h12⟩ : (Fact.pg [(1, 0, 1, 5, 3, 0, 9), (2, 1, 0, 5, 3, 0, 9)]).1 u (q.tmps.getD 12 undef) := hfact 3 (by decide) (.inl (by decide))
    obtain ⟨y13, a13, n13, c13, b13, m13, k13, e13, -⟩ : (Fact.free R).1 u (q.tmps.getD 13 undef) := hfact 4 (by decide) (.inl (by decide))
    obtain ⟨y8, a8, n8, c8, b8, m8, k8, e8, hk8, hg8, hh8⟩ : (Fact.free R).1 u (q.tmps.getD 8 undef) := hfact 5 (by decide) (.inl (by decide))
    obtain ⟨yx, ex, hx⟩ : (Fact.bk R.1).1 u (q.tmps.getD 14 undef) := hfact 6 (by decide) (.inl (by decide))
    obtain ⟨z, ez, hz, hzc⟩ : (Fact.bv w2.heap.size).1 u (q.tmps.getD 3 undef) := hfact 9 (by decide) (.inl (by decide))
    obtain ⟨gA, hA, iA, gB, hB, iB, gM, hM, iM, gP, hP, iP⟩ := yx
    have BB : Hid (Below w2.heap.size w2 (u.setRow z #[.slice gA hA iA, .slice gB hB iB, .slice gM hM iM, .slice gP hP iP])) := Below.setRow hb hz _
    have g8 : Hid (PGood (u.setRow z #[.slice gA hA iA, .slice gB hB iB, .slice gM hM iM, .slice gP hP iP]) a8 n8 c8 R.2.1) := hg8.apart hzc _
    have h8 : Hid (PGood (u.setRow z #[.slice gA hA iA, .slice gB hB iB, .slice gM hM iM, .slice gP hP iP]) b8 m8 k8 R.2.2) := hh8.apart hzc _
    cases d7 : D 7 <;> cases d8 : D 8
    · obtain ⟨v15, e15⟩ : ∃ v, q.tmps.getD 15 undef = v := ⟨_, rfl⟩
      obtain ⟨v16, e16⟩ : ∃ v, q.tmps.getD 16 undef = v := ⟨_, rfl⟩
      obtain rfl := frame_puts hsz hdf [9, 10, 11, 12, 13, 8, 14, 15, 16, 3] hold [(9, y9.val), (10, Value.agg #[.int .i64 1, .int .i64 0, .int .i64 1, .int .i64 5, .int .i64 3, .int .i64 0, .int .i64 9]), (11, Value.agg #[.int .i64 2, .int .i64 1, .int .i64 0, .int .i64 5, .int .i64 3, .int .i64 0, .int .i64 9]), (12, Value.slice a12 n12 c12), (13, Value.tuple #[y13.val, .slice a13 n13 c13, .slice b13 m13 k13]), (8, Value.tuple #[y8.val, .slice a8 n8 c8, .slice b8 m8 k8]), (14, BA.val ⟨gA, hA, iA, gB, hB, iB, gM, hM, iM, gP, hP, iP⟩), (15, v15), (16, v16), (3, Value.pointer (some ⟨z, 0, none⟩))] ⟨e9, hfact 1 (by decide) (.inl (by decide)), hfact 2 (by decide) (.inl (by decide)), e12, e13, e8, ex, e15, e16, ez, trivial⟩ rfl
      clear hsz hdf hold hfact
      simp only [List.filter, d7, d8, Bool.not_true, Bool.not_false, List.drop_succ_cons, List.drop_zero, LatesTop]
      simp only [puts, Act.put, List.setIfInBounds_toArray, List.set_cons_zero, List.set_cons_succ]
      refine wp_store_row 27 (.tmp 3) (.tmp 14) rfl z #[.slice gA hA iA, .slice gB hB iB, .slice gM hM iM, .slice gP hP iP] rfl rfl _ _ hzc booksSize (by simp) (by simp [Value.oneCell']) ?_
      generalize u.setRow z #[.slice gA hA iA, .slice gB hB iB, .slice gM hM iM, .slice gP hP iP] = wf at BB g8 h8 ⊢
      clear hb hzc hx h9 h12 hk8 hg8 hh8
      simp only [List.length_cons, List.length_nil, Nat.zero_add, Nat.add_zero, Nat.reduceAdd, LatesWp, AllF, List.erase_cons_head, List.erase_cons_tail, List.erase_nil, List.getD_cons_zero, List.getD_cons_succ, Bool.false_eq_true, not_false_eq_true, Nat.reduceBEq, reduceCtorEq]
      refine ⟨?_, ?_, ?_, trivial⟩
      · intro hw; exact absurd hw (by decide)
      · refine wp_value (.slice a8 n8 c8) (by simp [execOp, Act.eval, go_sem]) ?_
        simp only [Act.put, List.setIfInBounds_toArray, List.set_cons_zero, List.set_cons_succ]
        refine ⟨?_, ?_, trivial⟩
        · intro _
          refine wp_assign _ rfl ?_
          simp only [Act.put, List.setIfInBounds_toArray, List.set_cons_zero, List.set_cons_succ]
          refine ⟨?_, ?_, trivial⟩
          · intro hw; exact absurd hw (by decide)
          · refine wp_value (.slice b8 m8 k8) (by simp [execOp, Act.eval, go_sem]) ?_
            simp only [Act.put, List.setIfInBounds_toArray, List.set_cons_zero, List.set_cons_succ]
            refine ⟨?_, trivial⟩
            · intro _
              refine wp_assign _ rfl ?_
              simp only [Act.put, List.setIfInBounds_toArray, List.set_cons_zero, List.set_cons_succ]
              go_wp2
              go_meet
              exact ⟨z, ⟨gA, hA, iA, gB, hB, iB, gM, hM, iM, gP, hP, iP⟩, a8, n8, c8, b8, m8, k8, rfl, rfl, rfl, g8, h8, BB⟩
        · refine wp_value (.slice b8 m8 k8) (by simp [execOp, Act.eval, go_sem]) ?_
          simp only [Act.put, List.setIfInBounds_toArray, List.set_cons_zero, List.set_cons_succ]
          refine ⟨?_, trivial⟩
          · intro _
            refine wp_assign _ rfl ?_
            simp only [Act.put, List.setIfInBounds_toArray, List.set_cons_zero, List.set_cons_succ]
            refine ⟨?_, trivial⟩
            · intro _
              refine wp_assign _ rfl ?_
              simp only [Act.put, List.setIfInBounds_toArray, List.set_cons_zero, List.set_cons_succ]
              go_wp2
              go_meet
              exact ⟨z, ⟨gA, hA, iA, gB, hB, iB, gM, hM, iM, gP, hP, iP⟩, a8, n8, c8, b8, m8, k8, rfl, rfl, rfl, g8, h8, BB⟩
      · refine wp_value (.slice b8 m8 k8) (by simp [execOp, Act.eval, go_sem]) ?_
        simp only [Act.put, List.setIfInBounds_toArray, List.set_cons_zero, List.set_cons_succ]
        refine ⟨?_, ?_, trivial⟩
        · intro hw; exact absurd hw (by decide)
        · refine wp_value (.slice a8 n8 c8) (by simp [execOp, Act.eval, go_sem]) ?_
          simp only [Act.put, List.setIfInBounds_toArray, List.set_cons_zero, List.set_cons_succ]
          refine ⟨?_, trivial⟩
          · intro _
            refine wp_assign _ rfl ?_
            simp only [Act.put, List.setIfInBounds_toArray, List.set_cons_zero, List.set_cons_succ]
            refine ⟨?_, trivial⟩
            · intro _
              refine wp_assign _ rfl ?_
              simp only [Act.put, List.setIfInBounds_toArray, List.set_cons_zero, List.set_cons_succ]
              go_wp2
              go_meet
              exact ⟨z, ⟨gA, hA, iA, gB, hB, iB, gM, hM, iM, gP, hP, iP⟩, a8, n8, c8, b8, m8, k8, rfl, rfl, rfl, g8, h8, BB⟩
    · obtain ⟨v15, e15⟩ : ∃ v, q.tmps.getD 15 undef = v := ⟨_, rfl⟩
      obtain ⟨a16, n16, c16, e16, h16⟩ : (Fact.pg R.2.2).1 u (q.tmps.getD 16 undef) := hfact 8 (by decide) (.inr d8)
      have g16 : Hid (PGood (u.setRow z #[.slice gA hA iA, .slice gB hB iB, .slice gM hM iM, .slice gP hP iP]) a16 n16 c16 R.2.2) := h16.apart hzc _
      obtain rfl := frame_puts hsz hdf [9, 10, 11, 12, 13, 8, 14, 15, 16, 3] hold [(9, y9.val), (10, Value.agg #[.int .i64 1, .int .i64 0, .int .i64 1, .int .i64 5, .int .i64 3, .int .i64 0, .int .i64 9]), (11, Value.agg #[.int .i64 2, .int .i64 1, .int .i64 0, .int .i64 5, .int .i64 3, .int .i64 0, .int .i64 9]), (12, Value.slice a12 n12 c12), (13, Value.tuple #[y13.val, .slice a13 n13 c13, .slice b13 m13 k13]), (8, Value.tuple #[y8.val, .slice a8 n8 c8, .slice b8 m8 k8]), (14, BA.val ⟨gA, hA, iA, gB, hB, iB, gM, hM, iM, gP, hP, iP⟩), (15, v15), (16, .slice a16 n16 c16), (3, Value.pointer (some ⟨z, 0, none⟩))] ⟨e9, hfact 1 (by decide) (.inl (by decide)), hfact 2 (by decide) (.inl (by decide)), e12, e13, e8, ex, e15, e16, ez, trivial⟩ rfl
      clear hsz hdf hold hfact
      simp only [List.filter, d7, d8, Bool.not_true, Bool.not_false, List.drop_succ_cons, List.drop_zero, LatesTop]
      simp only [puts, Act.put, List.setIfInBounds_toArray, List.set_cons_zero, List.set_cons_succ]
      refine wp_store_row 27 (.tmp 3) (.tmp 14) rfl z #[.slice gA hA iA, .slice gB hB iB, .slice gM hM iM, .slice gP hP iP] rfl rfl _ _ hzc booksSize (by simp) (by simp [Value.oneCell']) ?_
      generalize u.setRow z #[.slice gA hA iA, .slice gB hB iB, .slice gM hM iM, .slice gP hP iP] = wf at BB g8 h8 g16 ⊢
      clear hb hzc hx h9 h12 hk8 hg8 hh8
      simp only [List.length_cons, List.length_nil, Nat.zero_add, Nat.add_zero, Nat.reduceAdd, LatesWp, AllF, List.erase_cons_head, List.erase_cons_tail, List.erase_nil, List.getD_cons_zero, List.getD_cons_succ, Bool.false_eq_true, not_false_eq_true, Nat.reduceBEq, reduceCtorEq]
      refine ⟨?_, ?_, trivial⟩
      · intro hw; exact absurd hw (by decide)
      · refine wp_value (.slice a8 n8 c8) (by simp [execOp, Act.eval, go_sem]) ?_
        simp only [Act.put, List.setIfInBounds_toArray, List.set_cons_zero, List.set_cons_succ]
        refine ⟨?_, trivial⟩
        · intro _
          refine wp_assign _ rfl ?_
          simp only [Act.put, List.setIfInBounds_toArray, List.set_cons_zero, List.set_cons_succ]
          refine ⟨?_, trivial⟩
          · intro _
            refine wp_assign _ rfl ?_
            simp only [Act.put, List.setIfInBounds_toArray, List.set_cons_zero, List.set_cons_succ]
            go_wp2
            go_meet
            exact ⟨z, ⟨gA, hA, iA, gB, hB, iB, gM, hM, iM, gP, hP, iP⟩, a8, n8, c8, a16, n16, c16, rfl, rfl, rfl, g8, g16, BB⟩
    · obtain ⟨a15, n15, c15, e15, h15⟩ : (Fact.pg R.2.1).1 u (q.tmps.getD 15 undef) := hfact 7 (by decide) (.inr d7)
      have g15 : Hid (PGood (u.setRow z #[.slice gA hA iA, .slice gB hB iB, .slice gM hM iM, .slice gP hP iP]) a15 n15 c15 R.2.1) := h15.apart hzc _
      obtain ⟨v16, e16⟩ : ∃ v, q.tmps.getD 16 undef = v := ⟨_, rfl⟩
      obtain rfl := frame_puts hsz hdf [9, 10, 11, 12, 13, 8, 14, 15, 16, 3] hold [(9, y9.val), (10, Value.agg #[.int .i64 1, .int .i64 0, .int .i64 1, .int .i64 5, .int .i64 3, .int .i64 0, .int .i64 9]), (11, Value.agg #[.int .i64 2, .int .i64 1, .int .i64 0, .int .i64 5, .int .i64 3, .int .i64 0, .int .i64 9]), (12, Value.slice a12 n12 c12), (13, Value.tuple #[y13.val, .slice a13 n13 c13, .slice b13 m13 k13]), (8, Value.tuple #[y8.val, .slice a8 n8 c8, .slice b8 m8 k8]), (14, BA.val ⟨gA, hA, iA, gB, hB, iB, gM, hM, iM, gP, hP, iP⟩), (15, .slice a15 n15 c15), (16, v16), (3, Value.pointer (some ⟨z, 0, none⟩))] ⟨e9, hfact 1 (by decide) (.inl (by decide)), hfact 2 (by decide) (.inl (by decide)), e12, e13, e8, ex, e15, e16, ez, trivial⟩ rfl
      clear hsz hdf hold hfact
      simp only [List.filter, d7, d8, Bool.not_true, Bool.not_false, List.drop_succ_cons, List.drop_zero, LatesTop]
      simp only [puts, Act.put, List.setIfInBounds_toArray, List.set_cons_zero, List.set_cons_succ]
      refine wp_store_row 27 (.tmp 3) (.tmp 14) rfl z #[.slice gA hA iA, .slice gB hB iB, .slice gM hM iM, .slice gP hP iP] rfl rfl _ _ hzc booksSize (by simp) (by simp [Value.oneCell']) ?_
      generalize u.setRow z #[.slice gA hA iA, .slice gB hB iB, .slice gM hM iM, .slice gP hP iP] = wf at BB g8 h8 g15 ⊢
      clear hb hzc hx h9 h12 hk8 hg8 hh8
      simp only [List.length_cons, List.length_nil, Nat.zero_add, Nat.add_zero, Nat.reduceAdd, LatesWp, AllF, List.erase_cons_head, List.erase_cons_tail, List.erase_nil, List.getD_cons_zero, List.getD_cons_succ, Bool.false_eq_true, not_false_eq_true, Nat.reduceBEq, reduceCtorEq]
      refine ⟨?_, ?_, trivial⟩
      · intro _
        refine wp_assign _ rfl ?_
        simp only [Act.put, List.setIfInBounds_toArray, List.set_cons_zero, List.set_cons_succ]
        refine ⟨?_, ?_, trivial⟩
        · intro hw; exact absurd hw (by decide)
        · refine wp_value (.slice b8 m8 k8) (by simp [execOp, Act.eval, go_sem]) ?_
          simp only [Act.put, List.setIfInBounds_toArray, List.set_cons_zero, List.set_cons_succ]
          refine ⟨?_, trivial⟩
          · intro _
            refine wp_assign _ rfl ?_
            simp only [Act.put, List.setIfInBounds_toArray, List.set_cons_zero, List.set_cons_succ]
            go_wp2
            go_meet
            exact ⟨z, ⟨gA, hA, iA, gB, hB, iB, gM, hM, iM, gP, hP, iP⟩, a15, n15, c15, b8, m8, k8, rfl, rfl, rfl, g15, h8, BB⟩
      · refine wp_value (.slice b8 m8 k8) (by simp [execOp, Act.eval, go_sem]) ?_
        simp only [Act.put, List.setIfInBounds_toArray, List.set_cons_zero, List.set_cons_succ]
        refine ⟨?_, trivial⟩
        · intro _
          refine wp_assign _ rfl ?_
          simp only [Act.put, List.setIfInBounds_toArray, List.set_cons_zero, List.set_cons_succ]
          refine ⟨?_, trivial⟩
          · intro _
            refine wp_assign _ rfl ?_
            simp only [Act.put, List.setIfInBounds_toArray, List.set_cons_zero, List.set_cons_succ]
            go_wp2
            go_meet
            exact ⟨z, ⟨gA, hA, iA, gB, hB, iB, gM, hM, iM, gP, hP, iP⟩, a15, n15, c15, b8, m8, k8, rfl, rfl, rfl, g15, h8, BB⟩
    · obtain ⟨a15, n15, c15, e15, h15⟩ : (Fact.pg R.2.1).1 u (q.tmps.getD 15 undef) := hfact 7 (by decide) (.inr d7)
      have g15 : Hid (PGood (u.setRow z #[.slice gA hA iA, .slice gB hB iB, .slice gM hM iM, .slice gP hP iP]) a15 n15 c15 R.2.1) := h15.apart hzc _
      obtain ⟨a16, n16, c16, e16, h16⟩ : (Fact.pg R.2.2).1 u (q.tmps.getD 16 undef) := hfact 8 (by decide) (.inr d8)
      have g16 : Hid (PGood (u.setRow z #[.slice gA hA iA, .slice gB hB iB, .slice gM hM iM, .slice gP hP iP]) a16 n16 c16 R.2.2) := h16.apart hzc _
      obtain rfl := frame_puts hsz hdf [9, 10, 11, 12, 13, 8, 14, 15, 16, 3] hold [(9, y9.val), (10, Value.agg #[.int .i64 1, .int .i64 0, .int .i64 1, .int .i64 5, .int .i64 3, .int .i64 0, .int .i64 9]), (11, Value.agg #[.int .i64 2, .int .i64 1, .int .i64 0, .int .i64 5, .int .i64 3, .int .i64 0, .int .i64 9]), (12, Value.slice a12 n12 c12), (13, Value.tuple #[y13.val, .slice a13 n13 c13, .slice b13 m13 k13]), (8, Value.tuple #[y8.val, .slice a8 n8 c8, .slice b8 m8 k8]), (14, BA.val ⟨gA, hA, iA, gB, hB, iB, gM, hM, iM, gP, hP, iP⟩), (15, .slice a15 n15 c15), (16, .slice a16 n16 c16), (3, Value.pointer (some ⟨z, 0, none⟩))] ⟨e9, hfact 1 (by decide) (.inl (by decide)), hfact 2 (by decide) (.inl (by decide)), e12, e13, e8, ex, e15, e16, ez, trivial⟩ rfl
      clear hsz hdf hold hfact
      simp only [List.filter, d7, d8, Bool.not_true, Bool.not_false, List.drop_succ_cons, List.drop_zero, LatesTop]
      simp only [puts, Act.put, List.setIfInBounds_toArray, List.set_cons_zero, List.set_cons_succ]
      refine wp_store_row 27 (.tmp 3) (.tmp 14) rfl z #[.slice gA hA iA, .slice gB hB iB, .slice gM hM iM, .slice gP hP iP] rfl rfl _ _ hzc booksSize (by simp) (by simp [Value.oneCell']) ?_
      generalize u.setRow z #[.slice gA hA iA, .slice gB hB iB, .slice gM hM iM, .slice gP hP iP] = wf at BB g8 h8 g15 g16 ⊢
      clear hb hzc hx h9 h12 hk8 hg8 hh8
      simp only [List.length_cons, List.length_nil, Nat.zero_add, Nat.add_zero, Nat.reduceAdd, LatesWp, AllF, List.erase_cons_head, List.erase_cons_tail, List.erase_nil, List.getD_cons_zero, List.getD_cons_succ, Bool.false_eq_true, not_false_eq_true, Nat.reduceBEq, reduceCtorEq]
      refine ⟨?_, trivial⟩
      · intro _
        refine wp_assign _ rfl ?_
        simp only [Act.put, List.setIfInBounds_toArray, List.set_cons_zero, List.set_cons_succ]
        refine ⟨?_, trivial⟩
        · intro _
          refine wp_assign _ rfl ?_
          simp only [Act.put, List.setIfInBounds_toArray, List.set_cons_zero, List.set_cons_succ]
          go_wp2
          go_meet
          exact ⟨z, ⟨gA, hA, iA, gB, hB, iB, gM, hM, iM, gP, hP, iP⟩, a15, n15, c15, a16, n16, c16, rfl, rfl, rfl, g15, g16, BB⟩
  case rest =>
  obtain ⟨z, y, a, n, c, a2, n2, c2, hs, hl, hd, G1, G2, BB⟩ := hcut
  subst hs hl hd
  obtain ⟨w3, rfl⟩ : ∃ z, z = wc := ⟨wc, rfl⟩
  have B3 : Hid (Below w.heap.size w w3) := B2.out.trans (BB.out.mono B2.out.size)
  have X13 : Hid (At7 w3 w.heap.size 0 (1, 0, 1, 5, 3, 0, 9)) := X1.out.below BB.out
  have X23 : Hid (At7 w3 (w.heap.size + 1) 0 (2, 1, 0, 5, 3, 0, 9)) := X2.out.below BB.out
  have G1 : Hid (PGood w3 a n c []) := by rw [← HR1.out]; exact G1.out
  have G2 : Hid (PGood w3 a2 n2 c2 [(1, 0, 1, 5, 3, 0, 9), (2, 1, 0, 5, 3, 0, 9)]) := by rw [← HR2.out]; exact G2.out
  clear X1 X2 BB FF SM HR1 HR2 B2 HR5
  obtain rfl : n = 0 := G1.out.len
  obtain rfl : n2 = 2 := G2.out.len
  obtain ⟨r0, r1, r2, r3, r4, r5, r6⟩ := X13.out
  obtain ⟨s0, s1, s2, s3, s4, s5, s6⟩ := X23.out
  simp only [P7.id, P7.fr, P7.to, P7.am, P7.cl, P7.st, P7.ti, Nat.zero_add] at r0 r1 r2 r3 r4 r5 r6 s0 s1 s2 s3 s4 s5 s6
  have S := same_true a2 (some ⟨w3.heap.size, 0, none⟩) 2 2 c2 2 [(1, 0, 1, 5, 3, 0, 9), (2, 1, 0, 5, 3, 0, 9)] _ (G2.out.below (box_below w3 _)) (PGood.lit2 w3 (1, 0, 1, 5, 3, 0, 9) (2, 1, 0, 5, 3, 0, 9))
  go_wp2_with fail
  go_at_call 19
  refine S.mono ?_
  rintro e w4 ⟨rfl, hb⟩
  have b34 : Below w3.heap.size w3 w4 := (box_below _ _).trans (hb.mono (by rw [size_alloc]; omega))
  have B4 : Hid (Below w.heap.size w w4) := B3.out.trans (b34.mono B3.out.size)
  clear S hb b34 r0 r1 r2 r3 r4 r5 r6 s0 s1 s2 s3 s4 s5 s6 X13 X23 G1 G2 B3
  go_wp2
  go_ret
  exact ⟨rfl, B4.out⟩

end Go.Proofs.Ytajmbcbochjfmaa
