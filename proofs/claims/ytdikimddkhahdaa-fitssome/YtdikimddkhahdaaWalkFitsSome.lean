/-
  The walk of FitsSome.
-/
import Derived.Test.YtdikimddkhahdaaFitsRowed
import Derived.Test.YtdikimddkhahdaaRowBase
namespace Go.Proofs.Ytdikimddkhahdaa
open Go.RowKit
set_option linter.unusedVariables false
set_option linter.unusedSimpArgs false

set_option maxHeartbeats 8000000 in
set_option maxRecDepth 100000 in
theorem Walk.fitsSome (ah : Option Addr) (nh ch : Nat) (zh : List Int) (way : Int) (a : Option Addr) (n c : Nat) (L : List P7) (w : World) (h0 : Walk.IsRow .i64 w ah nh ch zh) (hway : (Lit.int .i64 way).wf = true) (hp : PaysIn w a n c L) :
    Calls Try.prog 4 #[.slice ah nh ch, .int .i64 way, .slice a n c] w fun e w' => e = .returned (.bool true) ∧ Below w.heap.size w w' := by
  rcases Nat.lt_or_ge 30 n with h30 | h30
  · have h1 : (30 : Int) < (n : Int) := by omega
    clear h0 hway hp h30
    go_enter Try.func4, Try.ntmps4
    go_wp2
    go_ret
    exact ⟨rfl, Below.refl _ _⟩
  have h1 : (n : Int) ≤ 30 := by omega
  obtain ⟨hsl, hcap, hmax⟩ := h0.sl fun n hn => by
    simp only [Lit.wf, Bool.and_eq_true, decide_eq_true_eq] at hn
    exact i64_wf hn.1 hn.2
  have S := some_any ah nh ch (zh.take nh) way w hsl (by omega)
  obtain ⟨kb, hkb⟩ : ∃ kb, someK (zh.take nh) (bitB way 1) (bitB way 2) (bitB way 4) = kb := ⟨_, rfl⟩
  rw [hkb] at S
  have GB : Hid (Good kb) := by rw [← hkb]; exact good_some _ _ _ _
  have H3 : Hid (kb.A.length = 3) := by rw [← hkb]; rfl
  have HG : Hid (PGood w a n c L) := hp.good
  have HL : Hid (n = L.length) := hp.good.len
  obtain ⟨hq, hlen, hall⟩ := rowed_ok (L := L) (by have := HL.out; omega)
  have HR : Hid ((rowedL L).length = n) := by show _ = _; rw [hlen, HL.out]
  have HAL : Hid (allB kb (rowedL L) = true) := rowed_all H3.out (by rw [hlen]; have := HL.out; omega) hall
  have RW := fun u (hu : Below w.heap.size w u) => rowed_any a n c L u (HG.out.below hu) (by omega)
  have K := known15
  clear hkb hsl h0 hlen hp
  go_enter Try.func4, Try.ntmps4
  go_wp2_with fail
  go_at_call 19
  refine S.mono ?_
  rintro e w1 ⟨yb, rfl, nb, bel⟩
  have B1 : Hid (Below w.heap.size w w1) := bel
  have N1 : Hid (Bk w1 yb kb) := nb.bk
  have R := RW w1 bel
  clear S nb bel RW
  go_wp2_with fail
  go_at_call 20
  refine R.mono ?_
  rintro e w2 ⟨ar, cr, rfl, gr, hb⟩
  have BW2 : Hid (Below w.heap.size w w2) := B1.out.trans (hb.mono B1.out.size)
  have N2 : Hid (Bk w2 yb kb) := N1.out.below hb
  have G2 : Hid (PGood w2 ar n cr (rowedL L)) := by rw [← HR.out]; exact gr
  rw [HR.out]
  clear hb R N1 B1 gr
  obtain ⟨aA, nA, cA, aB, nB, cB, aM, nM, cM, aP, nP, cP⟩ := yb
  obtain ⟨w3, hw3⟩ : ∃ w3, w3 = w2.alloc (.cells #[.slice aA nA cA, .slice aB nB cB, .slice aM nM cM, .slice aP nP cP] 26) := ⟨_, rfl⟩
  have BW3 : Hid (Below w.heap.size w w3) := by rw [hw3]; exact BW2.out.alloc BW2.out.size _
  have X3 : Hid (Box4 w3 w2.heap.size ⟨aA, nA, cA, aB, nB, cB, aM, nM, cM, aP, nP, cP⟩) := by rw [hw3]; exact Box4.new w2 ⟨aA, nA, cA, aB, nB, cB, aM, nM, cM, aP, nP, cP⟩ _ _
  have N3 : Hid (Bk w3 ⟨aA, nA, cA, aB, nB, cB, aM, nM, cM, aP, nP, cP⟩ kb) := by rw [hw3]; exact N2.out.below (box_below _ _)
  have G3 : Hid (PGood w3 ar n cr (rowedL L)) := by rw [hw3]; exact G2.out.below (box_below _ _)
  clear N2 G2
  have F1 : Hid (∀ u, Below w3.heap.size w3 u → Calls Try.prog 12 #[.agg #[.slice aA nA cA, .slice aB nB cB, .slice aM nM cM, .slice aP nP cP], .slice ar n cr] u fun e w' => e = .returned (.bool (fitsB kb (rowedL L))) ∧ Below u.heap.size u w') := fun u hu => fitsFits_any ⟨aA, nA, cA, aB, nB, cB, aM, nM, cM, aP, nP, cP⟩ kb ar n cr _ u (N3.out.below hu) GB.out (G3.out.below hu)
  have F2 : Hid (∀ u, Below w3.heap.size w3 u → Calls Try.prog 13 #[.agg #[.slice aA nA cA, .slice aB nB cB, .slice aM nM cM, .slice aP nP cP], .slice ar n cr] u fun e w' => e = .returned (.bool (fitsB kb (rowedL L))) ∧ Below u.heap.size u w') := fun u hu => refFFits_any ⟨aA, nA, cA, aB, nB, cB, aM, nM, cM, aP, nP, cP⟩ kb ar n cr _ u (N3.out.below hu) GB.out (G3.out.below hu)
  have F4 : Hid (∀ u, Below w3.heap.size w3 u → Calls Try.prog 16 #[.agg #[.slice aA nA cA, .slice aB nB cB, .slice aM nM cM, .slice aP nP cP], .slice ar n cr] u (IEnd u (shortL kb (rowedL L)))) := fun u hu => short_good ⟨aA, nA, cA, aB, nB, cB, aM, nM, cM, aP, nP, cP⟩ kb ar n cr _ u (N3.out.below hu) GB.out (G3.out.below hu) HAL.out
  have F5 : Hid (∀ u, Below w3.heap.size w3 u → Calls Try.prog 17 #[.agg #[.slice aA nA cA, .slice aB nB cB, .slice aM nM cM, .slice aP nP cP], .slice ar n cr] u (IEnd u (shortL kb (rowedL L)))) := fun u hu => refFShort_any ⟨aA, nA, cA, aB, nB, cB, aM, nM, cM, aP, nP, cP⟩ kb ar n cr _ u (N3.out.below hu) GB.out (G3.out.below hu) (by omega) (allB_mv GB.out HAL.out).2.1
  generalize fitsB kb (rowedL L) = ft at F1 F2
  generalize shortL kb (rowedL L) = sh at F4 F5
  clear hq hall HR HAL HG HL H3 N3 G3
  go_upto_region 4 with fail
  rw [← hw3]
  clear hw3
  refine region_owes (L := [Fact.is (.agg #[.slice aA nA cA, .slice aB nB cB, .slice aM nM cM, .slice aP nP cP]),
    Fact.is (.slice ar n cr),
    Fact.is (.bool ft),
    Fact.is (.agg #[.slice aA nA cA, .slice aB nB cB, .slice aM nM cM, .slice aP nP cP]),
    Fact.is (.slice ar n cr),
    Fact.is (.bool ft),
    Fact.is (.bool true),
    Fact.is (.bool true),
    Fact.is (.agg #[.slice aA nA cA, .slice aB nB cB, .slice aM nM cM, .slice aP nP cP]),
    Fact.is (.slice ar n cr),
    Fact.ints sh,
    Fact.is (.agg #[.slice aA nA cA, .slice aB nB cB, .slice aM nM cM, .slice aP nP cP]),
    Fact.is (.slice ar n cr),
    Fact.ints sh,
    Fact.is (.bool true),
    Fact.is (.bool true),
    Fact.is (.bool true),
    Fact.is (.bool true),
    Fact.is (.bool true),
    Fact.is (.bool true)])
    (T := [17, 18, 19, 20, 21, 22, 23, 24, 25, 26, 27, 28, 29, 30, 31, 32, 33, 34, 35, 6]) (by kernel_rfl) (by kernel_rfl) rfl ?owes ?_
  case owes =>
    refine .cons (owes_value fun q u lh => ⟨wants_free rfl, .agg #[.slice aA nA cA, .slice aB nB cB, .slice aM nM cM, .slice aP nP cP], by have e7 : q.tmps.getD 7 undef = .pointer (some ⟨w2.heap.size, 0, none⟩) := lh.old 7 rfl; obtain ⟨p0, p1, p2, p3⟩ := X3.out.below lh.below; simp [execOp, Act.eval, e7, p0, p1, p2, p3, go_sem], rfl⟩) ?_
    refine .cons (owes_move (.tmp 8) (.inl rfl) fun q u lh => ⟨wants_free rfl, lh.old 8 rfl⟩) ?_
    refine .cons (owes_call 12 Try.func12 (by kernel_rfl) (by kernel_rfl) [.tmp 17, .tmp 18] #[26, 27] rfl fun q u lh => ⟨wants_free rfl, by have e17 : q.tmps.getD 17 undef = .agg #[.slice aA nA cA, .slice aB nB cB, .slice aM nM cM, .slice aP nP cP] := lh.dep 0 rfl; have e18 : q.tmps.getD 18 undef = .slice ar n cr := lh.dep 1 rfl; show Calls Try.prog 12 #[q.tmps.getD 17 undef, q.tmps.getD 18 undef] u _; rw [e17, e18]; exact bool_fact (F1.out u lh.below)⟩) ?_
    refine .cons (owes_value fun q u lh => ⟨wants_free rfl, .agg #[.slice aA nA cA, .slice aB nB cB, .slice aM nM cM, .slice aP nP cP], by have e7 : q.tmps.getD 7 undef = .pointer (some ⟨w2.heap.size, 0, none⟩) := lh.old 7 rfl; obtain ⟨p0, p1, p2, p3⟩ := X3.out.below lh.below; simp [execOp, Act.eval, e7, p0, p1, p2, p3, go_sem], rfl⟩) ?_
    refine .cons (owes_move (.tmp 8) (.inl rfl) fun q u lh => ⟨wants_free rfl, lh.old 8 rfl⟩) ?_
    refine .cons (owes_call 13 Try.func13 (by kernel_rfl) (by kernel_rfl) [.tmp 20, .tmp 21] #[26, 27] rfl fun q u lh => ⟨wants_free rfl, by have e20 : q.tmps.getD 20 undef = .agg #[.slice aA nA cA, .slice aB nB cB, .slice aM nM cM, .slice aP nP cP] := lh.dep 3 rfl; have e21 : q.tmps.getD 21 undef = .slice ar n cr := lh.dep 4 rfl; show Calls Try.prog 13 #[q.tmps.getD 20 undef, q.tmps.getD 21 undef] u _; rw [e20, e21]; exact bool_fact (F2.out u lh.below)⟩) ?_
    refine .cons (owes_eql 4 4 (.tmp 19) (.tmp 22) rfl rfl fun q u lh => ⟨wants_free rfl, .bool ft, lh.dep 2 rfl, lh.dep 5 rfl, eq_bool⟩) ?_
    refine .cons (owes_move (.tmp 23) (.inl rfl) fun q u lh => ⟨wants_free rfl, lh.dep 6 rfl⟩) ?_
    refine .cons (owes_value fun q u lh => ⟨lh.wants1 7 true rfl rfl rfl, .agg #[.slice aA nA cA, .slice aB nB cB, .slice aM nM cM, .slice aP nP cP], by have e7 : q.tmps.getD 7 undef = .pointer (some ⟨w2.heap.size, 0, none⟩) := lh.old 7 rfl; obtain ⟨p0, p1, p2, p3⟩ := X3.out.below lh.below; simp [execOp, Act.eval, e7, p0, p1, p2, p3, go_sem], rfl⟩) ?_
    refine .cons (owes_move (.tmp 8) (.inl rfl) fun q u lh => ⟨lh.wants1 7 true rfl rfl rfl, lh.old 8 rfl⟩) ?_
    refine .cons (owes_call 16 Try.func16 (by kernel_rfl) (by kernel_rfl) [.tmp 25, .tmp 26] #[26, 27] rfl fun q u lh => ⟨lh.wants1 7 true rfl rfl rfl, by have e25 : q.tmps.getD 25 undef = .agg #[.slice aA nA cA, .slice aB nB cB, .slice aM nM cM, .slice aP nP cP] := lh.dep 8 rfl; have e26 : q.tmps.getD 26 undef = .slice ar n cr := lh.dep 9 rfl; show Calls Try.prog 16 #[q.tmps.getD 25 undef, q.tmps.getD 26 undef] u _; rw [e25, e26]; exact ints_fact (F4.out u lh.below)⟩) ?_
    refine .cons (owes_value fun q u lh => ⟨lh.wants1 7 true rfl rfl rfl, .agg #[.slice aA nA cA, .slice aB nB cB, .slice aM nM cM, .slice aP nP cP], by have e7 : q.tmps.getD 7 undef = .pointer (some ⟨w2.heap.size, 0, none⟩) := lh.old 7 rfl; obtain ⟨p0, p1, p2, p3⟩ := X3.out.below lh.below; simp [execOp, Act.eval, e7, p0, p1, p2, p3, go_sem], rfl⟩) ?_
    refine .cons (owes_move (.tmp 8) (.inl rfl) fun q u lh => ⟨lh.wants1 7 true rfl rfl rfl, lh.old 8 rfl⟩) ?_
    refine .cons (owes_call 17 Try.func17 (by kernel_rfl) (by kernel_rfl) [.tmp 28, .tmp 29] #[26, 27] rfl fun q u lh => ⟨lh.wants1 7 true rfl rfl rfl, by have e28 : q.tmps.getD 28 undef = .agg #[.slice aA nA cA, .slice aB nB cB, .slice aM nM cM, .slice aP nP cP] := lh.dep 11 rfl; have e29 : q.tmps.getD 29 undef = .slice ar n cr := lh.dep 12 rfl; show Calls Try.prog 17 #[q.tmps.getD 28 undef, q.tmps.getD 29 undef] u _; rw [e28, e29]; exact ints_fact (F5.out u lh.below)⟩) ?_
    refine .cons (owes_call 15 Try.func15 (by kernel_rfl) (by kernel_rfl) [.tmp 27, .tmp 30] #[35, 35] rfl fun q u lh => ⟨lh.wants1 7 true rfl rfl rfl, by obtain ⟨aa, ca, ea, ga⟩ := lh.dep 10 rfl; obtain ⟨ab, cb, eb, gb⟩ := lh.dep 13 rfl; have ea : q.tmps.getD 27 undef = .slice aa sh.length ca := ea; have eb : q.tmps.getD 30 undef = .slice ab sh.length cb := eb; show Calls Try.prog 15 #[q.tmps.getD 27 undef, q.tmps.getD 30 undef] u _; rw [ea, eb]; exact ints_one ga gb⟩) ?_
    refine .cons (owes_pick (.tmp 24) (.tmp 31) (.const (.bool false)) rfl fun q u lh => ⟨wants_free rfl, true, lh.dep 7 rfl, lh.dep 14 rfl⟩) ?_
    refine .cons (owes_move (.tmp 32) (.inl rfl) fun q u lh => ⟨wants_free rfl, lh.dep 15 rfl⟩) ?_
    refine .cons (owes_call 18 Try.func18 (by kernel_rfl) (by kernel_rfl) [] #[] rfl fun q u lh => ⟨lh.wants1 16 true rfl rfl rfl, by show Calls Try.prog 18 #[] u _; exact bool_fact (K u)⟩) ?_
    refine .cons (owes_pick (.tmp 33) (.tmp 34) (.const (.bool false)) rfl fun q u lh => ⟨wants_free rfl, true, lh.dep 16 rfl, lh.dep 17 rfl⟩) ?_
    refine .cons (owes_move (.tmp 35) (.inr rfl) fun q u lh => ⟨wants_free rfl, lh.dep 18 rfl⟩) ?_
    exact .nil _
  intro q u hb hsz hdf hold hfact
  obtain ⟨v27, e27⟩ : ∃ v, q.tmps.getD 27 undef = v := ⟨_, rfl⟩
  have f27 : (Fact.ints sh).1 u v27 := by rw [← e27]; exact hfact 10 (by decide)
  obtain ⟨v30, e30⟩ : ∃ v, q.tmps.getD 30 undef = v := ⟨_, rfl⟩
  have f30 : (Fact.ints sh).1 u v30 := by rw [← e30]; exact hfact 13 (by decide)
  have B9 : Hid (Below w.heap.size w u) := BW3.out.trans (hb.mono BW3.out.size)
  obtain rfl := frame_puts hsz hdf [17, 18, 19, 20, 21, 22, 23, 24, 25, 26, 27, 28, 29, 30, 31, 32, 33, 34, 35, 6] hold [(17, Value.agg #[.slice aA nA cA, .slice aB nB cB, .slice aM nM cM, .slice aP nP cP]), (18, Value.slice ar n cr), (19, Value.bool ft), (20, Value.agg #[.slice aA nA cA, .slice aB nB cB, .slice aM nM cM, .slice aP nP cP]), (21, Value.slice ar n cr), (22, Value.bool ft), (23, Value.bool true), (24, Value.bool true), (25, Value.agg #[.slice aA nA cA, .slice aB nB cB, .slice aM nM cM, .slice aP nP cP]), (26, Value.slice ar n cr), (27, v27), (28, Value.agg #[.slice aA nA cA, .slice aB nB cB, .slice aM nM cM, .slice aP nP cP]), (29, Value.slice ar n cr), (30, v30), (31, Value.bool true), (32, Value.bool true), (33, Value.bool true), (34, Value.bool true), (35, Value.bool true), (6, Value.bool true)] ⟨hfact 0 (by decide), hfact 1 (by decide), hfact 2 (by decide), hfact 3 (by decide), hfact 4 (by decide), hfact 5 (by decide), hfact 6 (by decide), hfact 7 (by decide), hfact 8 (by decide), hfact 9 (by decide), e27, hfact 11 (by decide), hfact 12 (by decide), e30, hfact 14 (by decide), hfact 15 (by decide), hfact 16 (by decide), hfact 17 (by decide), hfact 18 (by decide), hfact 19 (by decide), trivial⟩ rfl
  clear hsz hdf hold hfact
  clear hb
  simp only [puts, Act.put, List.setIfInBounds_toArray, List.set_cons_zero, List.set_cons_succ]
  go_wp2
  go_ret
  exact ⟨rfl, B9.out⟩

end Go.Proofs.Ytdikimddkhahdaa
