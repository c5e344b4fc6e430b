/-
  row.with, row.Put.
-/
import Derived.Test.YtjibnbheegcnkaaRowFind
import Derived.Test.YtjibnbheegcnkaaRowSearch
import Derived.Test.YtjibnbheegcnkaaPFacts
namespace Go.Proofs.Ytjibnbheegcnkaa
open Go.RowKit
set_option linter.unusedVariables false
set_option linter.unusedSimpArgs false

set_option maxHeartbeats 4000000 in
set_option maxRecDepth 100000 in
theorem with_any (a : Option Addr) (n c k : Nat) (L : List P7) (p : P7) (w : World) (h : PGood w a n c L) (hm : n ≤ 100000) (hk : k ≤ n) :
    Calls Try.prog 25 #[.slice a n c, .int .i64 k, p.val] w (PEnd w (qIns L k p)) := by
  obtain ⟨p0, p1, p2, p3, p4, p5, p6⟩ := p
  obtain ⟨w1, hw1⟩ : ∃ w1, w1 = w.alloc (.cells #[.int .i64 p0, .int .i64 p1, .int .i64 p2, .int .i64 p3, .int .i64 p4, .int .i64 p5, .int .i64 p6] 25) := ⟨_, rfl⟩
  have HB : Hid (Below w.heap.size w w1) := by rw [hw1]; exact box_below _ _
  have HX : Hid (At7 w1 w.heap.size 0 (p0, p1, p2, p3, p4, p5, p6)) := by rw [hw1]; exact At7.new w (p0, p1, p2, p3, p4, p5, p6) _ _
  have H : Hid (PGood w1 a n c L) := h.below HB.out
  have hc := h.cap
  have hmx := h.max
  have hl := h.len
  have k0 : (0 : Int) ≤ (k : Int) := by omega
  have k1 : (k : Int) ≤ (n : Int) := by omega
  have k2 : (k : Int) ≤ (c : Int) := by omega
  have k3 : (n : Int) ≤ (c : Int) := by omega
  have HE : Hid ([L.take k, [(p0, p1, p2, p3, p4, p5, p6)], L.drop k].flatten = qIns L k (p0, p1, p2, p3, p4, p5, p6)) := by simp [Hid, qIns]
  have HL : Hid ([L.take k, [(p0, p1, p2, p3, p4, p5, p6)], L.drop k].flatten.length ≤ 1000000) := by
    show _ ≤ _
    rw [HE.out, qIns_len (by omega)]
    omega
  have HKn : Hid (k ≤ n) := hk
  have HT : Hid ((L.take k).length = k ∧ (L.drop k).length = n - k) := ⟨by simp; omega, by simp; omega⟩
  have HW : Hid (w1 = _) := hw1
  clear h hw1 hl
  go_enter Try.func25, Try.ntmps25
  go_wp2_with fail
  rw [← HW.out]
  refine region_owes (L := [Fact.is (.slice a n c),
    Fact.is (.int .i64 k),
    Fact.is (.slice a k c),
    Fact.is (.agg #[.int .i64 p0, .int .i64 p1, .int .i64 p2, .int .i64 p3, .int .i64 p4, .int .i64 p5, .int .i64 p6]),
    Fact.pnew w.heap.size [(p0, p1, p2, p3, p4, p5, p6)],
    Fact.is (.slice a n c),
    Fact.is (.int .i64 k),
    Fact.is (.slice (pcut a c k) (n - k) (c - k)),
    Fact.spine [L.take k, [(p0, p1, p2, p3, p4, p5, p6)], L.drop k],
    Fact.pnew w.heap.size (qIns L k (p0, p1, p2, p3, p4, p5, p6)),
    Fact.pnew w.heap.size (qIns L k (p0, p1, p2, p3, p4, p5, p6))])
    (T := [7, 8, 9, 10, 11, 12, 13, 14, 15, 16, 6]) (by kernel_rfl) (by kernel_rfl) rfl ?owes ?_
  case owes =>
    refine .cons (owes_move (.tmp 0) (.inl rfl) fun q u lh => ⟨wants_free rfl, lh.old 0 rfl⟩) ?_
    refine .cons (owes_move (.tmp 1) (.inl rfl) fun q u lh => ⟨wants_free rfl, lh.old 1 rfl⟩) ?_
    refine .cons (owes_value fun q u lh => ⟨wants_free rfl, .slice a k c, by have e7 : q.tmps.getD 7 undef = .slice a n c := lh.dep 0 rfl; have e8 : q.tmps.getD 8 undef = .int .i64 k := lh.dep 1 rfl; have z1 : k ≤ c := (by omega); have z2 : ¬ c < k := (by omega); simp [execOp, Act.eval, e7, e8, z1, z2, go_sem], rfl⟩) ?_
    refine .cons (owes_value fun q u lh => ⟨wants_free rfl, .agg #[.int .i64 p0, .int .i64 p1, .int .i64 p2, .int .i64 p3, .int .i64 p4, .int .i64 p5, .int .i64 p6], by have e5 : q.tmps.getD 5 undef = .pointer (some ⟨w.heap.size, 0, none⟩) := lh.old 5 rfl; obtain ⟨z0, z1, z2, z3, z4, z5, z6⟩ := HX.out.below lh.below; simp [execOp, Act.eval, e5, z0, z1, z2, z3, z4, z5, z6, go_sem], rfl⟩) ?_
    refine .cons (owes_make fun q u lh => ⟨wants_free rfl, .slice (some ⟨u.heap.size, 0, none⟩) 1 1, u.alloc (.cells #[.int .i64 p0, .int .i64 p1, .int .i64 p2, .int .i64 p3, .int .i64 p4, .int .i64 p5, .int .i64 p6] 25), by have e10 : q.tmps[10]?.getD undef = .agg #[.int .i64 p0, .int .i64 p1, .int .i64 p2, .int .i64 p3, .int .i64 p4, .int .i64 p5, .int .i64 p6] := (Array.getD_eq_getD_getElem? ..).symm.trans (lh.dep 3 rfl); simp [execOp, Act.eval, e10, go_sem], box_below _ _, ⟨_, _, rfl, PGood.lit1 u (p0, p1, p2, p3, p4, p5, p6), fun x hx => by cases hx; exact Nat.le_trans HB.out.size lh.below.size⟩⟩) ?_
    refine .cons (owes_move (.tmp 0) (.inl rfl) fun q u lh => ⟨wants_free rfl, lh.old 0 rfl⟩) ?_
    refine .cons (owes_move (.tmp 1) (.inl rfl) fun q u lh => ⟨wants_free rfl, lh.old 1 rfl⟩) ?_
    refine .cons (owes_value fun q u lh => ⟨wants_free rfl, .slice (pcut a c k) (n - k) (c - k), by have e12 : q.tmps.getD 12 undef = .slice a n c := lh.dep 5 rfl; have e13 : q.tmps.getD 13 undef = .int .i64 k := lh.dep 6 rfl; have z1 : k ≤ n := (by omega); simp [execOp, Act.eval, e12, e13, z1, pcut, go_sem], rfl⟩) ?_
    refine .cons (owes_make fun q u lh => by obtain ⟨a2, c2, e11, g2, -⟩ := lh.dep 4 rfl; have e9 : q.tmps[9]?.getD undef = .slice a k c := (Array.getD_eq_getD_getElem? ..).symm.trans (lh.dep 2 rfl); have e14 : q.tmps[14]?.getD undef = .slice (pcut a c k) (n - k) (c - k) := (Array.getD_eq_getD_getElem? ..).symm.trans (lh.dep 7 rfl); have e11 : q.tmps[11]?.getD undef = .slice a2 1 c2 := (Array.getD_eq_getD_getElem? ..).symm.trans e11; exact ⟨wants_free rfl, .slice (some ⟨u.heap.size, 0, none⟩) 3 3, u.alloc (.cells #[.slice a k c, .slice a2 1 c2, .slice (pcut a c k) (n - k) (c - k)] 23), by simp [execOp, Act.eval, e9, e11, e14, go_sem], box_below _ _, ⟨_, rfl, Spine.new3 ((H.out.below lh.below).take k HKn.out) g2 ((H.out.below lh.below).from k HKn.out) _⟩⟩) ?_
    refine .cons (owes_call 29 Try.func29 (by kernel_rfl) (by kernel_rfl) [.tmp 15] #[58] rfl fun q u lh => ⟨wants_free rfl, by obtain ⟨b, e15, th⟩ := lh.dep 8 rfl; have e15 : q.tmps.getD 15 undef = .slice (some ⟨b, 0, none⟩) 3 3 := e15; show Calls Try.prog 29 #[q.tmps.getD 15 undef] u _; rw [e15, ← HE.out]; exact pend_fact (Nat.le_trans HB.out.size lh.below.size) (concatP_any b 3 3 _ u th rfl (by omega) HL.out)⟩) ?_
    refine .cons (owes_move (.tmp 16) (.inr rfl) fun q u lh => ⟨wants_free rfl, lh.dep 9 rfl⟩) ?_
    exact .nil _
  intro q u hb hsz hdf hold hfact
  obtain ⟨v11, e11⟩ : ∃ v, q.tmps.getD 11 undef = v := ⟨_, rfl⟩
  have f11 : (Fact.pnew w.heap.size [(p0, p1, p2, p3, p4, p5, p6)]).1 u v11 := by rw [← e11]; exact hfact 4 (by decide)
  obtain ⟨v15, e15⟩ : ∃ v, q.tmps.getD 15 undef = v := ⟨_, rfl⟩
  have f15 : (Fact.spine [L.take k, [(p0, p1, p2, p3, p4, p5, p6)], L.drop k]).1 u v15 := by rw [← e15]; exact hfact 8 (by decide)
  obtain ⟨v16, e16⟩ : ∃ v, q.tmps.getD 16 undef = v := ⟨_, rfl⟩
  have f16 : (Fact.pnew w.heap.size (qIns L k (p0, p1, p2, p3, p4, p5, p6))).1 u v16 := by rw [← e16]; exact hfact 9 (by decide)
  obtain ⟨a6, c6, e6, g6, n6⟩ : (Fact.pnew w.heap.size (qIns L k (p0, p1, p2, p3, p4, p5, p6))).1 u (q.tmps.getD 6 undef) := hfact 10 (by decide)
  obtain rfl := frame_puts hsz hdf [7, 8, 9, 10, 11, 12, 13, 14, 15, 16, 6] hold [(7, Value.slice a n c), (8, Value.int .i64 k), (9, Value.slice a k c), (10, Value.agg #[.int .i64 p0, .int .i64 p1, .int .i64 p2, .int .i64 p3, .int .i64 p4, .int .i64 p5, .int .i64 p6]), (11, v11), (12, Value.slice a n c), (13, Value.int .i64 k), (14, Value.slice (pcut a c k) (n - k) (c - k)), (15, v15), (16, v16), (6, Value.slice a6 (qIns L k (p0, p1, p2, p3, p4, p5, p6)).length c6)] ⟨hfact 0 (by decide), hfact 1 (by decide), hfact 2 (by decide), hfact 3 (by decide), e11, hfact 5 (by decide), hfact 6 (by decide), hfact 7 (by decide), e15, e16, e6, trivial⟩ rfl
  clear hsz hdf hold hfact
  have B3 : Hid (Below w.heap.size w u) := HB.out.trans (hb.mono HB.out.size)
  clear hb
  go_wp2
  simp only [puts, Act.put, List.setIfInBounds_toArray, List.set_cons_zero, List.set_cons_succ]
  go_ret
  exact ⟨a6, c6, rfl, g6, n6, B3.out⟩

/-- What Put leaves. -/
def PutEnd7 (w : World) (L : List P7) (n : Int) (e : Ending) (w' : World) : Prop := ∃ a c, e = .returned (.tuple #[.slice a L.length c, .int .i64 n]) ∧ PGood w' a L.length c L ∧ (∀ x, a = some x → w.heap.size ≤ x.block) ∧ Below w.heap.size w w'

set_option maxHeartbeats 4000000 in
theorem put_no (a : Option Addr) (n c : Nat) (L : List P7) (p : P7) (w : World) (h : PGood w a n c L) (hm : n ≤ 100000) (hh : qHas L p.id = true ∨ 40 ≤ L.length) :
    Calls Try.prog 8 #[.slice a n c, p.val] w (PutEnd7 w (qPut L p) (qPutE L p)) := by
  have F := fun u (hb : Below w.heap.size w u) => find_any a n c p.id L u (by omega) (h.below hb).pays
  have C := fun u (hb : Below w.heap.size w u) => copyP_any a n c L u (h.below hb) (by omega)
  have hl := h.len
  obtain ⟨nl, hnl⟩ : ∃ nl, L.length = nl := ⟨_, rfl⟩
  have hn2 : nl = n := by omega
  cases hq : qHas L p.id with
  | true =>
    unfold PutEnd7
    rw [(put_has hq).1, (put_has hq).2]
    have r1 := qFind_nn L p.id
    rw [hq] at r1
    obtain ⟨r, hr⟩ : ∃ r, qFind L p.id = r := ⟨_, rfl⟩
    rw [hr] at r1
    simp only [hr] at F
    have r2 : 0 ≤ r := of_decide_eq_true r1
    unfold PEnd at C
    simp only [hnl] at C
    rw [hnl]
    obtain ⟨p0, p1, p2, p3, p4, p5, p6⟩ := p
    have B0 : Hid (Below w.heap.size w (w.alloc (.cells #[.int .i64 p0, .int .i64 p1, .int .i64 p2, .int .i64 p3, .int .i64 p4, .int .i64 p5, .int .i64 p6] 25))) := box_below _ _
    have F1 := F _ B0.out
    clear hq hh r1 hl hnl h hr F hn2
    go_enter Try.func8, Try.ntmps8
    go_wp2_with fail
    go_at_call 18
    refine F1.mono ?_
    rintro e w1 ⟨rfl, hb⟩
    have B1 : Hid (Below w.heap.size w w1) := B0.out.trans (hb.mono B0.out.size)
    have C1 := C w1 B1.out
    clear hb F1 C B0
    go_wp2_with fail
    go_at_call 24
    refine C1.mono ?_
    rintro e w2 ⟨a2, c2, rfl, g2, hn2, hb⟩
    have B2 : Hid (Below w.heap.size w w2) := B1.out.trans (hb.mono B1.out.size)
    have N2 : Hid (∀ x, a2 = some x → w.heap.size ≤ x.block) := fun x hx => Nat.le_trans B1.out.size (hn2 x hx)
    clear hn2
    clear hb C1 B1
    go_wp2
    go_ret2
    exact ⟨a2, c2, rfl, g2, N2.out, B2.out⟩
  | false =>
    have hf : 40 ≤ L.length := by
      rcases hh with hh | hh
      · rw [hq] at hh; cases hh
      · exact hh
    unfold PutEnd7
    rw [(put_full hq hf).1, (put_full hq hf).2]
    have r1 := qFind_nn L p.id
    rw [hq] at r1
    obtain ⟨r, hr⟩ : ∃ r, qFind L p.id = r := ⟨_, rfl⟩
    rw [hr] at r1
    simp only [hr] at F
    have r2 : ¬ 0 ≤ r := of_decide_eq_false r1
    unfold PEnd at C
    simp only [hnl] at C
    rw [hnl]
    obtain ⟨p0, p1, p2, p3, p4, p5, p6⟩ := p
    have B0 : Hid (Below w.heap.size w (w.alloc (.cells #[.int .i64 p0, .int .i64 p1, .int .i64 p2, .int .i64 p3, .int .i64 p4, .int .i64 p5, .int .i64 p6] 25))) := box_below _ _
    have F1 := F _ B0.out
    have hn4 : (40 : Int) ≤ (n : Int) := by omega
    clear hq hh r1 hl hnl h hr F hn2 hf
    go_enter Try.func8, Try.ntmps8
    go_wp2_with fail
    go_at_call 18
    refine F1.mono ?_
    rintro e w1 ⟨rfl, hb⟩
    have B1 : Hid (Below w.heap.size w w1) := B0.out.trans (hb.mono B0.out.size)
    have C1 := C w1 B1.out
    clear hb F1 C B0
    go_wp2_with fail
    go_at_call 24
    refine C1.mono ?_
    rintro e w2 ⟨a2, c2, rfl, g2, hn2, hb⟩
    have B2 : Hid (Below w.heap.size w w2) := B1.out.trans (hb.mono B1.out.size)
    have N2 : Hid (∀ x, a2 = some x → w.heap.size ≤ x.block) := fun x hx => Nat.le_trans B1.out.size (hn2 x hx)
    clear hn2
    clear hb C1 B1
    go_wp2
    go_ret2
    exact ⟨a2, c2, rfl, g2, N2.out, B2.out⟩

set_option maxHeartbeats 4000000 in
set_option maxRecDepth 100000 in
theorem put_ins_any (a : Option Addr) (n c : Nat) (L : List P7) (p : P7) (w : World) (h : PGood w a n c L) (hq : L.Pairwise QR) (hh : qHas L p.id = false) (hf : L.length < 40) :
    Calls Try.prog 8 #[.slice a n c, p.val] w (PutEnd7 w (qPut L p) (qPutE L p)) := by
  have hl := h.len
  have F := fun u (hb : Below w.heap.size w u) => find_any a n c p.id L u (by omega) (h.below hb).pays
  have S := fun u (hb : Below w.heap.size w u) => beh_any a n c L p u (h.below hb).pays (by omega) hq
  have W := fun u (hb : Below w.heap.size w u) => with_any a n c (qBeh L p) L p u (h.below hb) (by omega) (by have := qBeh_le L p; omega)
  unfold PutEnd7
  rw [(put_ins hh hf).1, (put_ins hh hf).2]
  have r1 := qFind_nn L p.id
  rw [hh] at r1
  obtain ⟨r, hr⟩ : ∃ r, qFind L p.id = r := ⟨_, rfl⟩
  rw [hr] at r1
  simp only [hr] at F
  have r2 : ¬ 0 ≤ r := of_decide_eq_false r1
  obtain ⟨k, hk⟩ : ∃ k, qBeh L p = k := ⟨_, rfl⟩
  rw [hk] at S W ⊢
  have hn4 : (n : Int) < (40 : Int) := by omega
  obtain ⟨p0, p1, p2, p3, p4, p5, p6⟩ := p
  obtain ⟨w1, hw1⟩ : ∃ w1, w1 = w.alloc (.cells #[.int .i64 p0, .int .i64 p1, .int .i64 p2, .int .i64 p3, .int .i64 p4, .int .i64 p5, .int .i64 p6] 25) := ⟨_, rfl⟩
  have HB : Hid (Below w.heap.size w w1) := by rw [hw1]; exact box_below _ _
  have HX : Hid (At7 w1 w.heap.size 0 (p0, p1, p2, p3, p4, p5, p6)) := by rw [hw1]; exact At7.new w (p0, p1, p2, p3, p4, p5, p6) _ _
  have F1 := F w1 HB.out
  rw [hw1] at F1
  have HW : Hid (w1 = _) := hw1
  clear hq hh r1 hl h hr F hf hk hw1
  go_enter Try.func8, Try.ntmps8
  go_wp2_with fail
  go_at_call 18
  refine F1.mono ?_
  rintro e w2 ⟨rfl, hb⟩
  rw [← HW.out] at hb
  have B2 : Hid (Below w.heap.size w w2) := HB.out.trans (hb.mono HB.out.size)
  have X2 : Hid (At7 w2 w.heap.size 0 (p0, p1, p2, p3, p4, p5, p6)) := HX.out.below hb
  clear hb F1 HX HW HB
  go_wp2_with fail
  refine region_owes (L := [Fact.is (.slice a n c),
    Fact.is (.slice a n c),
    Fact.is (.agg #[.int .i64 p0, .int .i64 p1, .int .i64 p2, .int .i64 p3, .int .i64 p4, .int .i64 p5, .int .i64 p6]),
    Fact.is (.int .i64 k),
    Fact.is (.agg #[.int .i64 p0, .int .i64 p1, .int .i64 p2, .int .i64 p3, .int .i64 p4, .int .i64 p5, .int .i64 p6]),
    Fact.pnew w.heap.size (qIns L k (p0, p1, p2, p3, p4, p5, p6)),
    Fact.pnew w.heap.size (qIns L k (p0, p1, p2, p3, p4, p5, p6)),
    Fact.is (.int .i64 0)])
    (T := [18, 19, 20, 21, 22, 23, 4, 5]) (by kernel_rfl) (by kernel_rfl) rfl ?owes ?_
  case owes =>
    refine .cons (owes_move (.tmp 0) (.inl rfl) fun q u lh => ⟨wants_free rfl, lh.old 0 rfl⟩) ?_
    refine .cons (owes_move (.tmp 0) (.inl rfl) fun q u lh => ⟨wants_free rfl, lh.old 0 rfl⟩) ?_
    refine .cons (owes_value fun q u lh => ⟨wants_free rfl, .agg #[.int .i64 p0, .int .i64 p1, .int .i64 p2, .int .i64 p3, .int .i64 p4, .int .i64 p5, .int .i64 p6], by have e3 : q.tmps.getD 3 undef = .pointer (some ⟨w.heap.size, 0, none⟩) := lh.old 3 rfl; obtain ⟨z0, z1, z2, z3, z4, z5, z6⟩ := X2.out.below lh.below; simp [execOp, Act.eval, e3, z0, z1, z2, z3, z4, z5, z6, go_sem], rfl⟩) ?_
    refine .cons (owes_call 26 Try.func26 (by kernel_rfl) (by kernel_rfl) [.tmp 19, .tmp 20] #[23, 25] rfl fun q u lh => ⟨wants_free rfl, by have e19 : q.tmps.getD 19 undef = .slice a n c := lh.dep 1 rfl; have e20 : q.tmps.getD 20 undef = .agg #[.int .i64 p0, .int .i64 p1, .int .i64 p2, .int .i64 p3, .int .i64 p4, .int .i64 p5, .int .i64 p6] := lh.dep 2 rfl; show Calls Try.prog 26 #[q.tmps.getD 19 undef, q.tmps.getD 20 undef] u _; rw [e19, e20]; exact int_fact (S u (B2.out.trans (lh.below.mono B2.out.size)))⟩) ?_
    refine .cons (owes_value fun q u lh => ⟨wants_free rfl, .agg #[.int .i64 p0, .int .i64 p1, .int .i64 p2, .int .i64 p3, .int .i64 p4, .int .i64 p5, .int .i64 p6], by have e3 : q.tmps.getD 3 undef = .pointer (some ⟨w.heap.size, 0, none⟩) := lh.old 3 rfl; obtain ⟨z0, z1, z2, z3, z4, z5, z6⟩ := X2.out.below lh.below; simp [execOp, Act.eval, e3, z0, z1, z2, z3, z4, z5, z6, go_sem], rfl⟩) ?_
    refine .cons (owes_call 25 Try.func25 (by kernel_rfl) (by kernel_rfl) [.tmp 18, .tmp 21, .tmp 22] #[23, 3, 25] rfl fun q u lh => ⟨wants_free rfl, by have e18 : q.tmps.getD 18 undef = .slice a n c := lh.dep 0 rfl; have e21 : q.tmps.getD 21 undef = .int .i64 k := lh.dep 3 rfl; have e22 : q.tmps.getD 22 undef = .agg #[.int .i64 p0, .int .i64 p1, .int .i64 p2, .int .i64 p3, .int .i64 p4, .int .i64 p5, .int .i64 p6] := lh.dep 4 rfl; show Calls Try.prog 25 #[q.tmps.getD 18 undef, q.tmps.getD 21 undef, q.tmps.getD 22 undef] u _; rw [e18, e21, e22]; exact pend_fact (Nat.le_trans B2.out.size lh.below.size) (W u (B2.out.trans (lh.below.mono B2.out.size)))⟩) ?_
    refine .cons (owes_move (.tmp 23) (.inr rfl) fun q u lh => ⟨wants_free rfl, lh.dep 5 rfl⟩) ?_
    refine .cons (owes_value fun q u lh => ⟨wants_free rfl, .int .i64 0, by simp [execOp, Act.eval, go_sem], rfl⟩) ?_
    exact .nil _
  intro q u hb hsz hdf hold hfact
  obtain ⟨v23, e23⟩ : ∃ v, q.tmps.getD 23 undef = v := ⟨_, rfl⟩
  have f23 : (Fact.pnew w.heap.size (qIns L k (p0, p1, p2, p3, p4, p5, p6))).1 u v23 := by rw [← e23]; exact hfact 5 (by decide)
  obtain ⟨a4, c4, e4, g4, n4⟩ : (Fact.pnew w.heap.size (qIns L k (p0, p1, p2, p3, p4, p5, p6))).1 u (q.tmps.getD 4 undef) := hfact 6 (by decide)
  obtain rfl := frame_puts hsz hdf [18, 19, 20, 21, 22, 23, 4, 5] hold [(18, Value.slice a n c), (19, Value.slice a n c), (20, Value.agg #[.int .i64 p0, .int .i64 p1, .int .i64 p2, .int .i64 p3, .int .i64 p4, .int .i64 p5, .int .i64 p6]), (21, Value.int .i64 k), (22, Value.agg #[.int .i64 p0, .int .i64 p1, .int .i64 p2, .int .i64 p3, .int .i64 p4, .int .i64 p5, .int .i64 p6]), (23, v23), (4, Value.slice a4 (qIns L k (p0, p1, p2, p3, p4, p5, p6)).length c4), (5, Value.int .i64 0)] ⟨hfact 0 (by decide), hfact 1 (by decide), hfact 2 (by decide), hfact 3 (by decide), hfact 4 (by decide), e23, e4, hfact 7 (by decide), trivial⟩ rfl
  clear hsz hdf hold hfact
  have B3 : Hid (Below w.heap.size w u) := B2.out.trans (hb.mono B2.out.size)
  clear hb S W X2 B2
  go_wp2
  simp only [puts, Act.put, List.setIfInBounds_toArray, List.set_cons_zero, List.set_cons_succ]
  go_ret2
  exact ⟨a4, c4, rfl, g4, n4, B3.out⟩

/-- Put on a row. -/
theorem put_any7 (a : Option Addr) (n c : Nat) (L : List P7) (p : P7) (w : World) (h : PGood w a n c L) (hq : Que L) :
    Calls Try.prog 8 #[.slice a n c, p.val] w (PutEnd7 w (qPut L p) (qPutE L p)) := by
  have hl := h.len
  have h4 := hq.1
  cases hh : qHas L p.id with
  | true => exact put_no a n c L p w h (by omega) (.inl hh)
  | false =>
    by_cases hf : 40 ≤ L.length
    · exact put_no a n c L p w h (by omega) (.inr hf)
    · exact put_ins_any a n c L p w h hq.2 hh (by omega)

end Go.Proofs.Ytjibnbheegcnkaa
