/-
  girolaw10.known: two rows of two; books of three accounts.
-/
import Derived.Test.YtpaieecbedgeaaaSome
import Derived.Test.YtpaieecbedgeaaaLimNet
import Derived.Test.YtpaieecbedgeaaaLimIsAll
import Derived.Test.YtpaieecbedgeaaaFactK
namespace Go.Proofs.Ytpaieecbedgeaaa
open Go.RowKit
set_option linter.unusedVariables false
set_option linter.unusedSimpArgs false

def Fact.row64 (zs : List Int) : Fact := ⟨fun w v => ∃ a c, v = .slice a zs.length c ∧ Sl .i64 w a zs.length zs ∧ (a = none → c = 0), fun _ _ _ hb ⟨a, c, h1, h2, h3⟩ => ⟨a, c, h1, h2.below hb, h3⟩⟩
def Fact.rowsI (R : List (List Int)) : Fact := ⟨fun w v => ∃ a c, v = .slice a R.length c ∧ RowsI w a R.length R, fun _ _ _ hb ⟨a, c, h1, h2⟩ => ⟨a, c, h1, h2.below hb⟩⟩
theorem row_lit (u : World) (zs : List Int) (h : ∀ n ∈ zs, IntKind.i64.wrap n = n) : (Fact.row64 zs).1 (u.alloc (.cells (zs.map (Value.int .i64)).toArray 2)) (.slice (some ⟨u.heap.size, 0, none⟩) zs.length zs.length) :=
  ⟨_, _, rfl, Sl.new .i64 u 2 (0, 0) zs h, fun h => by simp at h⟩
theorem rows_lit (u : World) {a5 a6 : Option Addr} {c5 c6 : Nat} {x y : List Int} (h5 : Sl .i64 u a5 x.length x ∧ (a5 = none → c5 = 0)) (h6 : Sl .i64 u a6 y.length y ∧ (a6 = none → c6 = 0)) :
    (Fact.rowsI [x, y]).1 (u.alloc (.cells #[.slice a5 x.length c5, .slice a6 y.length c6] 24)) (.slice (some ⟨u.heap.size, 0, none⟩) 2 2) := by
  refine ⟨_, _, rfl, rfl, ?_, .inr ⟨u.heap.size, 0, rfl, ?_⟩⟩
  · intro z hz
    simp at hz
    rcases hz with rfl | rfl
    · exact h5.1.2.1
    · exact h6.1.2.1
  · intro i hi
    rcases (show i = 0 ∨ i = 1 by simp at hi; omega) with rfl | rfl
    · exact ⟨a5, c5, by rw [cell_new]; rfl, h5.1.below (box_below _ _), h5.2⟩
    · exact ⟨a6, c6, by rw [cell_new]; rfl, h6.1.below (box_below _ _), h6.2⟩
theorem rows_same {u : World} {B : Nat} {v1 v2 : Value} {R : List (List Int)} (h1 : (Fact.rows64 B R).1 u v1) (h2 : (Fact.rowsI R).1 u v2) :
    Calls Try.prog 16 #[v1, v2] u fun e w' => ∃ v, e = .returned v ∧ Below u.heap.size u w' ∧ (Fact.is (.bool true)).1 w' v := by
  obtain ⟨vs, h1⟩ := h1
  obtain ⟨a, c, rfl, h2⟩ := h2
  obtain ⟨a1, c1, rfl⟩ := own_slice h1.own
  have := refRows_any a1 a _ _ c1 c R R u h1.read h2 (own_len h1.own).2.1 (short_made h1)
  rw [decide_eq_true rfl] at this
  refine this.mono ?_
  rintro e w' ⟨rfl, n, rfl⟩
  exact ⟨_, rfl, below_drewN _ _, rfl⟩
theorem books_fact {f : FuncId} {args : Array Value} {w : World} {b : Bks} {B : Nat} (hB : B ≤ w.heap.size) (h : Calls Try.prog f args w (BooksEnd w b)) :
    Calls Try.prog f args w fun e w' => ∃ v, e = .returned v ∧ Below w.heap.size w w' ∧ (Fact.books B b).1 w' v :=
  h.mono fun e w' ⟨y, h1, h2, h3⟩ => ⟨_, h1, h3, y, rfl, h2.base hB⟩
theorem books_same {u : World} {B : Nat} {v1 : Value} {x : BA} {b : Bks} (h1 : (Fact.books B b).1 u v1) (h2 : Bk u x b) :
    Calls Try.prog 12 #[v1, x.val] u fun e w' => ∃ v, e = .returned v ∧ Below u.heap.size u w' ∧ (Fact.is (.bool true)).1 w' v := by
  obtain ⟨y, rfl, nb⟩ := h1
  have := limSame_any y x b b u nb.bk h2
  rw [sameB_yes.2 rfl] at this
  exact bool_fact this

theorem small_some (zs : List Int) (z1 z2 z4 : Bool) : Small (someK zs z1 z2 z4) := by
  refine ⟨by simp [someK, someA], by simp [someK, someB], by simp [someK, someM], by simp [someK, someP], ?_, ?_⟩
  · intro z hz
    simp [someK, someB] at hz
    rcases hz with rfl | rfl | rfl <;> simp
  · intro z hz
    simp [someK, someP] at hz
    rcases hz with rfl | rfl | rfl <;> simp

set_option maxHeartbeats 4000000 in
set_option maxRecDepth 100000 in
theorem known10 (w : World) : Calls Try.prog 9 #[] w fun e w' => e = .returned (.bool true) ∧ Below w.heap.size w w' := by
  have S := some_any (some ⟨w.heap.size, 0, none⟩) 3 3 [5, 6, 7] 4 (w.alloc (.cells #[.int .i64 5, .int .i64 6, .int .i64 7] 2)) (Sl.new .i64 w 2 (0, 0) [5, 6, 7] (by decide)) (by decide)
  obtain ⟨bk, hbk⟩ : ∃ bk, someK [5, 6, 7] (bitB 4 1) (bitB 4 2) (bitB 4 4) = bk := ⟨_, rfl⟩
  rw [hbk] at S
  have HG : Hid (booksB bk = true) := by rw [← hbk]; show _ = _; decide +kernel
  have HN : Hid (netTo bk.P 0 3 = 3) := by rw [← hbk]; show _ = _; decide +kernel
  have HL : Hid (bk.A.length = 3) := by rw [← hbk]; rfl
  have HS : Hid (Small bk) := by rw [← hbk]; exact small_some _ _ _ _
  clear hbk
  go_enter Try.func9, Try.ntmps9
  go_wp2_with fail
  go_at_call 10
  refine S.mono ?_
  rintro e w1 ⟨y, rfl, nb, bel⟩
  clear S
  have B1 : Hid (Below w.heap.size w w1) := (box_below _ _).trans (bel.mono (by simp))
  have N1 : Hid (Bk w1 y bk) := nb.bk
  clear nb bel
  obtain ⟨aA, nA, cA, aB, nB, cB, aM, nM, cM, aP, nP, cP⟩ := y
  obtain ⟨w2, hw2⟩ : ∃ w2, w2 = w1.alloc (.cells #[.slice aA nA cA, .slice aB nB cB, .slice aM nM cM, .slice aP nP cP] 26) := ⟨_, rfl⟩
  have B2 : Hid (Below w.heap.size w w2) := by rw [hw2]; exact B1.out.alloc B1.out.size _
  have X2 : Hid (Box4 w2 w1.heap.size ⟨aA, nA, cA, aB, nB, cB, aM, nM, cM, aP, nP, cP⟩) := by rw [hw2]; exact Box4.new w1 ⟨aA, nA, cA, aB, nB, cB, aM, nM, cM, aP, nP, cP⟩ _ _
  have BK : Hid (Bk w2 ⟨aA, nA, cA, aB, nB, cB, aM, nM, cM, aP, nP, cP⟩ bk) := by rw [hw2]; exact N1.out.below (box_below _ _)
  have G := booksB_yes.1 HG.out
  have HP : Hid (squareB bk.P 3 = true) := by
    have := squareB_yes.2 ⟨G.pos, G.poss⟩
    rw [HL.out] at this
    exact this
  have SQ : Hid (∀ u, Calls Try.prog 15 #[.int .i64 2, .int .i64 7] u (RowsEnd u [[7, 7], [7, 7]])) := fun u => limSquare_any 2 7 (by decide) u
  have IS : Hid (∀ u, Below w2.heap.size w2 u → Calls Try.prog 22 #[BA.val ⟨aA, nA, cA, aB, nB, cB, aM, nM, cM, aP, nP, cP⟩] u fun e w' => e = .returned (.bool true) ∧ Below u.heap.size u w') := fun u hu => by
    have := limIs_any ⟨aA, nA, cA, aB, nB, cB, aM, nM, cM, aP, nP, cP⟩ bk u (BK.out.below hu)
    rw [HG.out] at this
    exact this
  have NE : Hid (∀ u, Below w2.heap.size w2 u → Calls Try.prog 7 #[BA.val ⟨aA, nA, cA, aB, nB, cB, aM, nM, cM, aP, nP, cP⟩, .int .i64 0] u fun e w' => e = .returned (.int .i64 3) ∧ Below u.heap.size u w') := fun u hu => by
    have := limNet_any ⟨aA, nA, cA, aB, nB, cB, aM, nM, cM, aP, nP, cP⟩ bk 0 3 u (BK.out.below hu) (by decide) HP.out (by decide) (fun k hk => G.may 0 k (by rw [HL.out]; decide) (by rw [HL.out]; exact hk))
    rw [HN.out] at this
    exact this
  have CO : Hid (∀ u, Below w2.heap.size w2 u → Calls Try.prog 11 #[BA.val ⟨aA, nA, cA, aB, nB, cB, aM, nM, cM, aP, nP, cP⟩] u (BooksEnd u bk)) := fun u hu => limCopy_any ⟨aA, nA, cA, aB, nB, cB, aM, nM, cM, aP, nP, cP⟩ bk u (BK.out.below hu) HS.out
  clear G HG HN HL HS HP N1 B1
  go_wp2
  rw [← hw2]
  clear hw2
  refine region_owes (L := [Fact.rows64 w2.heap.size [[7, 7], [7, 7]],
    Fact.row64 [7, 7],
    Fact.row64 [7, 7],
    Fact.rowsI [[7, 7], [7, 7]],
    Fact.is (.bool true),
    Fact.is (.bool true),
    Fact.is (.agg #[.slice aA nA cA, .slice aB nB cB, .slice aM nM cM, .slice aP nP cP]),
    Fact.is (.bool true),
    Fact.is (.bool true),
    Fact.is (.bool true),
    Fact.is (.agg #[.slice aA nA cA, .slice aB nB cB, .slice aM nM cM, .slice aP nP cP]),
    Fact.is (.int .i64 3),
    Fact.is (.bool true),
    Fact.is (.bool true),
    Fact.is (.bool true),
    Fact.is (.agg #[.slice aA nA cA, .slice aB nB cB, .slice aM nM cM, .slice aP nP cP]),
    Fact.books w2.heap.size bk,
    Fact.is (.agg #[.slice aA nA cA, .slice aB nB cB, .slice aM nM cM, .slice aP nP cP]),
    Fact.is (.bool true),
    Fact.is (.bool true),
    Fact.is (.bool true)])
    (T := [4, 5, 6, 7, 8, 9, 10, 11, 12, 13, 14, 15, 16, 17, 18, 19, 20, 21, 22, 23, 0]) (by kernel_rfl) (by kernel_rfl) rfl ?owes ?_
  case owes =>
    refine .cons (owes_call 15 Try.func15 (by kernel_rfl) (by kernel_rfl) [.const (.int .i64 2), .const (.int .i64 7)] #[3, 2] rfl fun q u lh => ⟨wants_free rfl, by show Calls Try.prog 15 #[(.int .i64 2), (.int .i64 7)] u _; exact rows_fact lh.below.size (SQ.out u)⟩) ?_
    refine .cons (owes_make fun q u lh => ⟨wants_free rfl, .slice (some ⟨u.heap.size, 0, none⟩) 2 2, u.alloc (.cells #[.int .i64 7, .int .i64 7] 2), by simp [execOp, Act.eval, go_sem], box_below _ _, row_lit u [7, 7] (by decide)⟩) ?_
    refine .cons (owes_make fun q u lh => ⟨wants_free rfl, .slice (some ⟨u.heap.size, 0, none⟩) 2 2, u.alloc (.cells #[.int .i64 7, .int .i64 7] 2), by simp [execOp, Act.eval, go_sem], box_below _ _, row_lit u [7, 7] (by decide)⟩) ?_
    refine .cons (owes_make fun q u lh => by obtain ⟨a5, c5, e5, s5⟩ := lh.dep 1 rfl; obtain ⟨a6, c6, e6, s6⟩ := lh.dep 2 rfl; exact ⟨wants_free rfl, .slice (some ⟨u.heap.size, 0, none⟩) 2 2, u.alloc (.cells #[.slice a5 2 c5, .slice a6 2 c6] 24), by have e5 : q.tmps[5]?.getD undef = _ := (Array.getD_eq_getD_getElem? ..).symm.trans e5; have e6 : q.tmps[6]?.getD undef = _ := (Array.getD_eq_getD_getElem? ..).symm.trans e6; simp [execOp, Act.eval, e5, e6, go_sem], box_below _ _, rows_lit u s5 s6⟩) ?_
    refine .cons (owes_call 16 Try.func16 (by kernel_rfl) (by kernel_rfl) [.tmp 4, .tmp 7] #[23, 23] rfl fun q u lh => ⟨wants_free rfl, by have f4 := lh.dep 0 rfl; have f7 := lh.dep 3 rfl; show Calls Try.prog 16 #[q.tmps.getD 4 undef, q.tmps.getD 7 undef] u _; exact rows_same f4 f7⟩) ?_
    refine .cons (owes_move (.tmp 8) (.inl rfl) fun q u lh => ⟨wants_free rfl, lh.dep 4 rfl⟩) ?_
    refine .cons (owes_value fun q u lh => ⟨lh.wants1 5 true rfl rfl rfl, .agg #[.slice aA nA cA, .slice aB nB cB, .slice aM nM cM, .slice aP nP cP], by have e1 : q.tmps.getD 1 undef = .pointer (some ⟨w1.heap.size, 0, none⟩) := lh.old 1 rfl; obtain ⟨p0, p1, p2, p3⟩ := X2.out.below lh.below; simp [execOp, Act.eval, e1, p0, p1, p2, p3, go_sem], rfl⟩) ?_
    refine .cons (owes_call 22 Try.func22 (by kernel_rfl) (by kernel_rfl) [.tmp 10] #[26] rfl fun q u lh => ⟨lh.wants1 5 true rfl rfl rfl, by have e10 : q.tmps.getD 10 undef = .agg #[.slice aA nA cA, .slice aB nB cB, .slice aM nM cM, .slice aP nP cP] := lh.dep 6 rfl; show Calls Try.prog 22 #[q.tmps.getD 10 undef] u _; rw [e10]; exact bool_fact (IS.out u lh.below)⟩) ?_
    refine .cons (owes_pick (.tmp 9) (.tmp 11) (.const (.bool false)) rfl fun q u lh => ⟨wants_free rfl, true, lh.dep 5 rfl, lh.dep 7 rfl⟩) ?_
    refine .cons (owes_move (.tmp 12) (.inl rfl) fun q u lh => ⟨wants_free rfl, lh.dep 8 rfl⟩) ?_
    refine .cons (owes_value fun q u lh => ⟨lh.wants1 9 true rfl rfl rfl, .agg #[.slice aA nA cA, .slice aB nB cB, .slice aM nM cM, .slice aP nP cP], by have e1 : q.tmps.getD 1 undef = .pointer (some ⟨w1.heap.size, 0, none⟩) := lh.old 1 rfl; obtain ⟨p0, p1, p2, p3⟩ := X2.out.below lh.below; simp [execOp, Act.eval, e1, p0, p1, p2, p3, go_sem], rfl⟩) ?_
    refine .cons (owes_call 7 Try.func7 (by kernel_rfl) (by kernel_rfl) [.tmp 14, .const (.int .i64 0)] #[26, 3] rfl fun q u lh => ⟨lh.wants1 9 true rfl rfl rfl, by have e14 : q.tmps.getD 14 undef = .agg #[.slice aA nA cA, .slice aB nB cB, .slice aM nM cM, .slice aP nP cP] := lh.dep 10 rfl; show Calls Try.prog 7 #[q.tmps.getD 14 undef, (.int .i64 0)] u _; rw [e14]; exact int_fact (NE.out u lh.below)⟩) ?_
    refine .cons (owes_eql 2 2 (.tmp 15) (.const (.int .i64 3)) rfl rfl fun q u lh => ⟨lh.wants1 9 true rfl rfl rfl, .int .i64 3, lh.dep 11 rfl, rfl, eq_i64⟩) ?_
    refine .cons (owes_pick (.tmp 13) (.tmp 16) (.const (.bool false)) rfl fun q u lh => ⟨wants_free rfl, true, lh.dep 9 rfl, lh.dep 12 rfl⟩) ?_
    refine .cons (owes_move (.tmp 17) (.inl rfl) fun q u lh => ⟨wants_free rfl, lh.dep 13 rfl⟩) ?_
    refine .cons (owes_value fun q u lh => ⟨lh.wants1 14 true rfl rfl rfl, .agg #[.slice aA nA cA, .slice aB nB cB, .slice aM nM cM, .slice aP nP cP], by have e1 : q.tmps.getD 1 undef = .pointer (some ⟨w1.heap.size, 0, none⟩) := lh.old 1 rfl; obtain ⟨p0, p1, p2, p3⟩ := X2.out.below lh.below; simp [execOp, Act.eval, e1, p0, p1, p2, p3, go_sem], rfl⟩) ?_
    refine .cons (owes_call 11 Try.func11 (by kernel_rfl) (by kernel_rfl) [.tmp 19] #[26] rfl fun q u lh => ⟨lh.wants1 14 true rfl rfl rfl, by have e19 : q.tmps.getD 19 undef = .agg #[.slice aA nA cA, .slice aB nB cB, .slice aM nM cM, .slice aP nP cP] := lh.dep 15 rfl; show Calls Try.prog 11 #[q.tmps.getD 19 undef] u _; rw [e19]; exact books_fact lh.below.size (CO.out u lh.below)⟩) ?_
    refine .cons (owes_value fun q u lh => ⟨lh.wants1 14 true rfl rfl rfl, .agg #[.slice aA nA cA, .slice aB nB cB, .slice aM nM cM, .slice aP nP cP], by have e1 : q.tmps.getD 1 undef = .pointer (some ⟨w1.heap.size, 0, none⟩) := lh.old 1 rfl; obtain ⟨p0, p1, p2, p3⟩ := X2.out.below lh.below; simp [execOp, Act.eval, e1, p0, p1, p2, p3, go_sem], rfl⟩) ?_
    refine .cons (owes_call 12 Try.func12 (by kernel_rfl) (by kernel_rfl) [.tmp 20, .tmp 21] #[26, 26] rfl fun q u lh => ⟨lh.wants1 14 true rfl rfl rfl, by have e21 : q.tmps.getD 21 undef = .agg #[.slice aA nA cA, .slice aB nB cB, .slice aM nM cM, .slice aP nP cP] := lh.dep 17 rfl; have f20 := lh.dep 16 rfl; show Calls Try.prog 12 #[q.tmps.getD 20 undef, q.tmps.getD 21 undef] u _; rw [e21]; exact books_same (x := ⟨aA, nA, cA, aB, nB, cB, aM, nM, cM, aP, nP, cP⟩) f20 (BK.out.below lh.below)⟩) ?_
    refine .cons (owes_pick (.tmp 18) (.tmp 22) (.const (.bool false)) rfl fun q u lh => ⟨wants_free rfl, true, lh.dep 14 rfl, lh.dep 18 rfl⟩) ?_
    refine .cons (owes_move (.tmp 23) (.inr rfl) fun q u lh => ⟨wants_free rfl, lh.dep 19 rfl⟩) ?_
    exact .nil _
  intro q u hb hsz hdf hold hfact
  obtain ⟨v4, e4⟩ : ∃ v, q.tmps.getD 4 undef = v := ⟨_, rfl⟩
  have f4 : (Fact.rows64 w2.heap.size [[7, 7], [7, 7]]).1 u v4 := by rw [← e4]; exact hfact 0 (by decide)
  obtain ⟨v5, e5⟩ : ∃ v, q.tmps.getD 5 undef = v := ⟨_, rfl⟩
  have f5 : (Fact.row64 [7, 7]).1 u v5 := by rw [← e5]; exact hfact 1 (by decide)
  obtain ⟨v6, e6⟩ : ∃ v, q.tmps.getD 6 undef = v := ⟨_, rfl⟩
  have f6 : (Fact.row64 [7, 7]).1 u v6 := by rw [← e6]; exact hfact 2 (by decide)
  obtain ⟨v7, e7⟩ : ∃ v, q.tmps.getD 7 undef = v := ⟨_, rfl⟩
  have f7 : (Fact.rowsI [[7, 7], [7, 7]]).1 u v7 := by rw [← e7]; exact hfact 3 (by decide)
  obtain ⟨v20, e20⟩ : ∃ v, q.tmps.getD 20 undef = v := ⟨_, rfl⟩
  have f20 : (Fact.books w2.heap.size bk).1 u v20 := by rw [← e20]; exact hfact 16 (by decide)
  obtain rfl := frame_puts hsz hdf [4, 5, 6, 7, 8, 9, 10, 11, 12, 13, 14, 15, 16, 17, 18, 19, 20, 21, 22, 23, 0] hold [(4, v4), (5, v5), (6, v6), (7, v7), (8, Value.bool true), (9, Value.bool true), (10, Value.agg #[.slice aA nA cA, .slice aB nB cB, .slice aM nM cM, .slice aP nP cP]), (11, Value.bool true), (12, Value.bool true), (13, Value.bool true), (14, Value.agg #[.slice aA nA cA, .slice aB nB cB, .slice aM nM cM, .slice aP nP cP]), (15, Value.int .i64 3), (16, Value.bool true), (17, Value.bool true), (18, Value.bool true), (19, Value.agg #[.slice aA nA cA, .slice aB nB cB, .slice aM nM cM, .slice aP nP cP]), (20, v20), (21, Value.agg #[.slice aA nA cA, .slice aB nB cB, .slice aM nM cM, .slice aP nP cP]), (22, Value.bool true), (23, Value.bool true), (0, Value.bool true)] ⟨e4, e5, e6, e7, hfact 4 (by decide), hfact 5 (by decide), hfact 6 (by decide), hfact 7 (by decide), hfact 8 (by decide), hfact 9 (by decide), hfact 10 (by decide), hfact 11 (by decide), hfact 12 (by decide), hfact 13 (by decide), hfact 14 (by decide), hfact 15 (by decide), e20, hfact 17 (by decide), hfact 18 (by decide), hfact 19 (by decide), hfact 20 (by decide), trivial⟩ rfl
  clear hsz hdf hold hfact
  simp only [puts, Act.put, List.setIfInBounds_toArray, List.set_cons_zero, List.set_cons_succ]
  have B3 : Hid (Below w.heap.size w u) := B2.out.trans (hb.mono B2.out.size)
  clear hb
  go_wp2
  go_ret
  exact ⟨rfl, B3.out⟩

end Go.Proofs.Ytpaieecbedgeaaa
