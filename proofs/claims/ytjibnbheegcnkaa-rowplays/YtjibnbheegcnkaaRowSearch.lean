/-
  row.behind, row.ahead; sort.Search.
-/
import Derived.Test.YtjibnbheegcnkaaRowCmp
import Derived.Test.YtjibnbheegcnkaaPayRows
namespace Go.Proofs.Ytjibnbheegcnkaa
open Go.RowKit
set_option linter.unusedVariables false
set_option linter.unusedSimpArgs false

set_option maxHeartbeats 4000000 in
set_option maxRecDepth 100000 in
theorem behF_any (g1 g2 b off n c k : Nat) (x p : P7) (w : World) (hs : w.cell? ⟨g1, 0, none⟩ = some (.slice (some ⟨b, off, none⟩) n c)) (hp : At7 w g2 0 p) (hx : At7 w b (off + k * 7) x) (hk : k < n) :
    Calls Try.prog 36 #[.int .i64 k, .pointer (some ⟨g1, 0, none⟩), .pointer (some ⟨g2, 0, none⟩)] w fun e w' => e = .returned (.bool (!qLe x p)) ∧ Below w.heap.size w w' := by
  have O := fun u => order_any x p u
  have HD := qOrd_pos x p
  obtain ⟨r, hr⟩ : ∃ r, qOrd x p = r := ⟨_, rfl⟩
  rw [hr] at O HD
  have HR : Hid (decide (0 < r) = !qLe x p) := HD
  have HS : Hid (w.cell? ⟨g1, 0, none⟩ = some (.slice (some ⟨b, off, none⟩) n c)) := hs
  have HP : Hid (At7 w g2 0 p) := hp
  have HX : Hid (At7 w b (off + k * 7) x) := hx
  have i1 : (k : Int) < (n : Int) := by omega
  clear hs hp hx hr HD hk
  obtain ⟨x0, x1, x2, x3, x4, x5, x6⟩ := x
  obtain ⟨p0, p1, p2, p3, p4, p5, p6⟩ := p
  go_enter Try.func36, Try.ntmps36
  go_wp2_with fail
  refine region_owes (L := [Fact.is (.slice (some ⟨b, off, none⟩) n c),
    Fact.is (.int .i64 k),
    Fact.is (.pointer (some ⟨b, off + k * 7, none⟩)),
    Fact.is (.agg #[.int .i64 x0, .int .i64 x1, .int .i64 x2, .int .i64 x3, .int .i64 x4, .int .i64 x5, .int .i64 x6]),
    Fact.is (.agg #[.int .i64 p0, .int .i64 p1, .int .i64 p2, .int .i64 p3, .int .i64 p4, .int .i64 p5, .int .i64 p6]),
    Fact.is (.int .i64 r),
    Fact.is (.bool (decide (0 < r))),
    Fact.is (.bool (decide (0 < r)))])
    (T := [5, 6, 7, 8, 9, 10, 11, 4]) (by kernel_rfl) (by kernel_rfl) rfl ?owes ?_
  case owes =>
    refine .cons (owes_value fun q u lh => ⟨wants_free rfl, .slice (some ⟨b, off, none⟩) n c, by have e1 : q.tmps.getD 1 undef = .pointer (some ⟨g1, 0, none⟩) := lh.old 1 rfl; have z1 := (lh.below.cell (p := ⟨g1, 0, none⟩) (block_lt_of_cell HS.out)).trans HS.out; simp [execOp, Act.eval, e1, z1, go_sem], rfl⟩) ?_
    refine .cons (owes_move (.tmp 0) (.inl rfl) fun q u lh => ⟨wants_free rfl, lh.old 0 rfl⟩) ?_
    refine .cons (owes_value fun q u lh => ⟨wants_free rfl, .pointer (some ⟨b, off + k * 7, none⟩), by have e5 : q.tmps.getD 5 undef = .slice (some ⟨b, off, none⟩) n c := lh.dep 0 rfl; have e6 : q.tmps.getD 6 undef = .int .i64 k := lh.dep 1 rfl; simp [execOp, Act.eval, e5, e6, i1, go_sem], rfl⟩) ?_
    refine .cons (owes_value fun q u lh => ⟨wants_free rfl, .agg #[.int .i64 x0, .int .i64 x1, .int .i64 x2, .int .i64 x3, .int .i64 x4, .int .i64 x5, .int .i64 x6], by have e7 : q.tmps.getD 7 undef = .pointer (some ⟨b, off + k * 7, none⟩) := lh.dep 2 rfl; obtain ⟨z0, z1, z2, z3, z4, z5, z6⟩ := HX.out.below lh.below; simp [execOp, Act.eval, e7, z0, z1, z2, z3, z4, z5, z6, go_sem], rfl⟩) ?_
    refine .cons (owes_value fun q u lh => ⟨wants_free rfl, .agg #[.int .i64 p0, .int .i64 p1, .int .i64 p2, .int .i64 p3, .int .i64 p4, .int .i64 p5, .int .i64 p6], by have e2 : q.tmps.getD 2 undef = .pointer (some ⟨g2, 0, none⟩) := lh.old 2 rfl; obtain ⟨z0, z1, z2, z3, z4, z5, z6⟩ := HP.out.below lh.below; simp [execOp, Act.eval, e2, z0, z1, z2, z3, z4, z5, z6, go_sem], rfl⟩) ?_
    refine .cons (owes_call 34 Try.func34 (by kernel_rfl) (by kernel_rfl) [.tmp 8, .tmp 9] #[25, 25] rfl fun q u lh => ⟨wants_free rfl, by have e8 : q.tmps.getD 8 undef = .agg #[.int .i64 x0, .int .i64 x1, .int .i64 x2, .int .i64 x3, .int .i64 x4, .int .i64 x5, .int .i64 x6] := lh.dep 3 rfl; have e9 : q.tmps.getD 9 undef = .agg #[.int .i64 p0, .int .i64 p1, .int .i64 p2, .int .i64 p3, .int .i64 p4, .int .i64 p5, .int .i64 p6] := lh.dep 4 rfl; show Calls Try.prog 34 #[q.tmps.getD 8 undef, q.tmps.getD 9 undef] u _; rw [e8, e9]; exact int_fact (O u)⟩) ?_
    refine .cons (owes_value fun q u lh => ⟨wants_free rfl, .bool (decide (0 < r)), by have e10 : q.tmps.getD 10 undef = .int .i64 r := lh.dep 5 rfl; simp [execOp, Act.eval, e10, go_sem], rfl⟩) ?_
    refine .cons (owes_move (.tmp 11) (.inr rfl) fun q u lh => ⟨wants_free rfl, lh.dep 6 rfl⟩) ?_
    exact .nil _
  intro q u hb hsz hdf hold hfact
  obtain rfl := frame_puts hsz hdf [5, 6, 7, 8, 9, 10, 11, 4] hold [(5, Value.slice (some ⟨b, off, none⟩) n c), (6, Value.int .i64 k), (7, Value.pointer (some ⟨b, off + k * 7, none⟩)), (8, Value.agg #[.int .i64 x0, .int .i64 x1, .int .i64 x2, .int .i64 x3, .int .i64 x4, .int .i64 x5, .int .i64 x6]), (9, Value.agg #[.int .i64 p0, .int .i64 p1, .int .i64 p2, .int .i64 p3, .int .i64 p4, .int .i64 p5, .int .i64 p6]), (10, Value.int .i64 r), (11, Value.bool (decide (0 < r))), (4, Value.bool (decide (0 < r)))] ⟨hfact 0 (by decide), hfact 1 (by decide), hfact 2 (by decide), hfact 3 (by decide), hfact 4 (by decide), hfact 5 (by decide), hfact 6 (by decide), hfact 7 (by decide), trivial⟩ rfl
  clear hsz hdf hold hfact
  clear O HS HP HX i1
  have HB : Hid (Below w.heap.size w u) := hb
  clear hb
  go_wp2
  simp only [puts, Act.put, List.setIfInBounds_toArray, List.set_cons_zero, List.set_cons_succ]
  go_ret
  exact ⟨rt_bool HR.out, HB.out⟩

theorem behSearch_none (f : Value) (w : World) : Calls Try.prog 35 #[.int .i64 0, f] w fun e w' => e = .returned (.int .i64 0) ∧ w' = w := by
  go_enter Try.func35, Try.ntmps35
  go_wp2
  refine wp_loop_rounds 1 ?_
  rw [rounds_succ]
  go_wp2
  go_ret
  exact ⟨rfl, rfl⟩

set_option maxHeartbeats 4000000 in
theorem behSearch_row (g1 g2 b off n c : Nat) (L : List P7) (p : P7) (w : World) (hs : w.cell? ⟨g1, 0, none⟩ = some (.slice (some ⟨b, off, none⟩) n c)) (hp : At7 w g2 0 p) (hc : ∀ i, i < n → At7 w b (off + i * 7) (L.getD i p70)) (hn : n = L.length) (hm : n ≤ 1000000) (hq : L.Pairwise QR) :
    Calls Try.prog 35 #[.int .i64 n, .func (.func 36) #[] #[.pointer (some ⟨g1, 0, none⟩), .pointer (some ⟨g2, 0, none⟩)]] w fun e w' => e = .returned (.int .i64 (qBeh L p : Nat)) ∧ Below w.heap.size w w' := by
  have HS : Hid (w.cell? ⟨g1, 0, none⟩ = some (.slice (some ⟨b, off, none⟩) n c)) := hs
  have HP : Hid (At7 w g2 0 p) := hp
  have HC : Hid (∀ i, i < n → At7 w b (off + i * 7) (L.getD i p70)) := hc
  have HN : Hid (n = L.length) := hn
  have HQ : Hid (L.Pairwise QR) := hq
  clear hs hp hc hn hq
  go_enter Try.func35, Try.ntmps35
  go_wp2
  go_loopw [5, 6] (fun i j wr => ∃ lo hi : Nat, i = .int .i64 lo ∧ j = .int .i64 hi ∧ lo ≤ hi ∧ hi ≤ n ∧ Hid ((∀ t, t < lo → (!qLe (L.getD t p70) p) = false) ∧ (∀ t, hi ≤ t → t < n → (!qLe (L.getD t p70) p) = true)) ∧ Hid (Below w.heap.size w wr)) (fun i j _ => (intOf j).toNat - (intOf i).toNat)
  case atStart => exact ⟨0, n, rfl, rfl, Nat.zero_le _, Nat.le_refl _, ⟨fun t ht => absurd ht (Nat.not_lt_zero _), fun t h1 h2 => by omega⟩, Below.refl _ _⟩
  case round =>
    obtain ⟨lo, hi, rfl, rfl, hlh, hin, HI, HB⟩ := hrel
    by_cases hlt : lo < hi
    · have F := behF_any g1 g2 b off n c ((lo + hi) / 2) (L.getD ((lo + hi) / 2) p70) p wr ((HB.out.cell (p := ⟨g1, 0, none⟩) (block_lt_of_cell HS.out)).trans HS.out) (HP.out.below HB.out) ((HC.out ((lo + hi) / 2) (by omega)).below HB.out) (by omega)
      have ek : (((lo + hi) / 2 : Nat) : Int) = ((lo : Int) + (hi : Int)) / 2 := by omega
      rw [ek] at F
      have hlo : ((lo : Int) + (hi : Int)) / 2 + 1 = (((lo + hi) / 2 + 1 : Nat) : Int) := by omega
      have HLO : Hid (((lo : Int) + (hi : Int)) / 2 + 1 = (((lo + hi) / 2 + 1 : Nat) : Int)) := hlo
      have HEK : Hid (((lo : Int) + (hi : Int)) / 2 = (((lo + hi) / 2 : Nat) : Int)) := ek.symm
      obtain ⟨x, hx⟩ : ∃ x, L.getD ((lo + hi) / 2) p70 = x := ⟨_, rfl⟩
      rw [hx] at F
      have HX : Hid (L.getD ((lo + hi) / 2) p70 = x) := hx
      clear hx ek hlo
      cases hy : (!qLe x p) with
      | false =>
        have HY : Hid ((!qLe x p) = false) := hy
        rw [hy] at F
        clear hy
        go_wp2_with fail
        go_at_call 36
        refine F.mono ?_
        rintro e w1 ⟨rfl, hb1⟩
        have B1 : Hid (Below w.heap.size w w1) := HB.out.trans (hb1.mono HB.out.size)
        clear hb1 F
        go_wp2
        go_roundw
        case rel =>
          refine ⟨(lo + hi) / 2 + 1, hi, by rw [HLO.out], rfl, by omega, hin, ⟨fun t ht => ?_, HI.out.2⟩, B1⟩
          have h1 := HY.out
          rw [← HX.out] at h1
          exact by rw [Bool.not_eq_false'] at h1 ⊢; exact qLe_trans (pw_le HQ.out (i := t) (j := (lo + hi) / 2) (by omega) (by have := HN.out; omega)) h1
        case measure => simp [intOf]; omega
      | true =>
        have HY : Hid ((!qLe x p) = true) := hy
        rw [hy] at F
        clear hy
        go_wp2_with fail
        go_at_call 36
        refine F.mono ?_
        rintro e w1 ⟨rfl, hb1⟩
        have B1 : Hid (Below w.heap.size w w1) := HB.out.trans (hb1.mono HB.out.size)
        clear hb1 F
        go_wp2
        go_roundw
        case rel =>
          refine ⟨lo, (lo + hi) / 2, rfl, by rw [HEK.out], by omega, by omega, ⟨HI.out.1, fun t ht htn => ?_⟩, B1⟩
          have h1 := HY.out
          rw [← HX.out] at h1
          exact by rw [Bool.not_eq_true'] at h1 ⊢; exact le_no_mono HQ.out (i := (lo + hi) / 2) (j := t) ht (by have := HN.out; omega) h1
        case measure => simp [intOf]; omega
    · obtain rfl : hi = lo := by omega
      have HD : Hid ((hi : Int) = (qBeh L p : Nat)) := by
        have : qBeh L p = hi := findIdx_of (by have := HN.out; omega) HI.out.1 (fun h => HI.out.2 hi (Nat.le_refl _) (by have := HN.out; omega))
        show (hi : Int) = _
        rw [this]
      go_wp2
      go_ret
      exact ⟨rt_int HD.out, HB.out⟩

set_option maxHeartbeats 4000000 in
theorem beh_any (a : Option Addr) (n c : Nat) (L : List P7) (p : P7) (w : World) (h : Pays w a n L) (hm : n ≤ 1000000) (hq : L.Pairwise QR) :
    Calls Try.prog 26 #[.slice a n c, p.val] w fun e w' => e = .returned (.int .i64 (qBeh L p : Nat)) ∧ Below w.heap.size w w' := by
  obtain ⟨i1, f1, o1, m1, c1, s1, u1⟩ := p
  obtain ⟨w2, hw2, B2, X1, X2⟩ : ∃ w2, w2 = (w.alloc (.cells #[.slice a n c] 23)).alloc (.cells #[.int .i64 i1, .int .i64 f1, .int .i64 o1, .int .i64 m1, .int .i64 c1, .int .i64 s1, .int .i64 u1] 25) ∧ Below w.heap.size w w2 ∧ w2.cell? ⟨w.heap.size, 0, none⟩ = some (.slice a n c) ∧ At7 w2 (w.heap.size + 1) 0 (i1, f1, o1, m1, c1, s1, u1) := by
    refine ⟨_, rfl, (box_below _ _).alloc (box_below _ _).size _, ?_, ?_⟩
    · rw [(box_below (w.alloc (.cells #[.slice a n c] 23)) _).cell (p := ⟨w.heap.size, 0, none⟩) (by rw [size_alloc]; simp), cell_new]
      rfl
    · have := At7.new (w.alloc (.cells #[.slice a n c] 23)) (i1, f1, o1, m1, c1, s1, u1) 25 (0, 0)
      rw [size_alloc] at this
      exact this
  have S : Calls Try.prog 35 #[.int .i64 n, .func (.func 36) #[] #[.pointer (some ⟨w.heap.size, 0, none⟩), .pointer (some ⟨w.heap.size + 1, 0, none⟩)]] w2 fun e w' => e = .returned (.int .i64 (qBeh L (i1, f1, o1, m1, c1, s1, u1) : Nat)) ∧ Below w2.heap.size w2 w' := by
    have hl := h.1
    rcases h.2 with h0 | ⟨b, off, rfl, hc⟩
    · subst h0
      have : n = 0 := by simpa using hl
      subst this
      refine (behSearch_none _ w2).mono ?_
      rintro e w' ⟨rfl, rfl⟩
      exact ⟨rfl, Below.refl _ _⟩
    · exact behSearch_row w.heap.size (w.heap.size + 1) b off n c L _ w2 X1 X2 (fun i hi => (hc i (by omega)).below B2) hl hm hq
  have HB : Hid (Below w.heap.size w w2) := B2
  clear h hq B2 X2
  rw [hw2] at S X1
  have HW : Hid (w2 = _) := hw2
  clear hw2
  go_enter Try.func26, Try.ntmps26
  go_wp2_with fail
  go_at_call 35
  refine S.mono ?_
  rintro e w1 ⟨rfl, hb⟩
  have B1 : Hid (Below w.heap.size w w1) := by rw [← HW.out] at hb; exact HB.out.trans (hb.mono HB.out.size)
  clear hb S HW HB X1
  go_wp2
  go_ret
  exact ⟨rfl, B1.out⟩

set_option maxHeartbeats 4000000 in
set_option maxRecDepth 100000 in
theorem ahdF_any (g1 g2 b off n c k : Nat) (x p : P7) (w : World) (hs : w.cell? ⟨g1, 0, none⟩ = some (.slice (some ⟨b, off, none⟩) n c)) (hp : At7 w g2 0 p) (hx : At7 w b (off + k * 7) x) (hk : k < n) :
    Calls Try.prog 38 #[.int .i64 k, .pointer (some ⟨g1, 0, none⟩), .pointer (some ⟨g2, 0, none⟩)] w fun e w' => e = .returned (.bool (qLe p x)) ∧ Below w.heap.size w w' := by
  have O := fun u => order_any x p u
  have HD := qOrd_nn x p
  obtain ⟨r, hr⟩ : ∃ r, qOrd x p = r := ⟨_, rfl⟩
  rw [hr] at O HD
  have HR : Hid (decide (0 ≤ r) = qLe p x) := HD
  have HS : Hid (w.cell? ⟨g1, 0, none⟩ = some (.slice (some ⟨b, off, none⟩) n c)) := hs
  have HP : Hid (At7 w g2 0 p) := hp
  have HX : Hid (At7 w b (off + k * 7) x) := hx
  have i1 : (k : Int) < (n : Int) := by omega
  clear hs hp hx hr HD hk
  obtain ⟨x0, x1, x2, x3, x4, x5, x6⟩ := x
  obtain ⟨p0, p1, p2, p3, p4, p5, p6⟩ := p
  go_enter Try.func38, Try.ntmps38
  go_wp2_with fail
  refine region_owes (L := [Fact.is (.slice (some ⟨b, off, none⟩) n c),
    Fact.is (.int .i64 k),
    Fact.is (.pointer (some ⟨b, off + k * 7, none⟩)),
    Fact.is (.agg #[.int .i64 x0, .int .i64 x1, .int .i64 x2, .int .i64 x3, .int .i64 x4, .int .i64 x5, .int .i64 x6]),
    Fact.is (.agg #[.int .i64 p0, .int .i64 p1, .int .i64 p2, .int .i64 p3, .int .i64 p4, .int .i64 p5, .int .i64 p6]),
    Fact.is (.int .i64 r),
    Fact.is (.bool (decide (0 ≤ r))),
    Fact.is (.bool (decide (0 ≤ r)))])
    (T := [5, 6, 7, 8, 9, 10, 11, 4]) (by kernel_rfl) (by kernel_rfl) rfl ?owes ?_
  case owes =>
    refine .cons (owes_value fun q u lh => ⟨wants_free rfl, .slice (some ⟨b, off, none⟩) n c, by have e1 : q.tmps.getD 1 undef = .pointer (some ⟨g1, 0, none⟩) := lh.old 1 rfl; have z1 := (lh.below.cell (p := ⟨g1, 0, none⟩) (block_lt_of_cell HS.out)).trans HS.out; simp [execOp, Act.eval, e1, z1, go_sem], rfl⟩) ?_
    refine .cons (owes_move (.tmp 0) (.inl rfl) fun q u lh => ⟨wants_free rfl, lh.old 0 rfl⟩) ?_
    refine .cons (owes_value fun q u lh => ⟨wants_free rfl, .pointer (some ⟨b, off + k * 7, none⟩), by have e5 : q.tmps.getD 5 undef = .slice (some ⟨b, off, none⟩) n c := lh.dep 0 rfl; have e6 : q.tmps.getD 6 undef = .int .i64 k := lh.dep 1 rfl; simp [execOp, Act.eval, e5, e6, i1, go_sem], rfl⟩) ?_
    refine .cons (owes_value fun q u lh => ⟨wants_free rfl, .agg #[.int .i64 x0, .int .i64 x1, .int .i64 x2, .int .i64 x3, .int .i64 x4, .int .i64 x5, .int .i64 x6], by have e7 : q.tmps.getD 7 undef = .pointer (some ⟨b, off + k * 7, none⟩) := lh.dep 2 rfl; obtain ⟨z0, z1, z2, z3, z4, z5, z6⟩ := HX.out.below lh.below; simp [execOp, Act.eval, e7, z0, z1, z2, z3, z4, z5, z6, go_sem], rfl⟩) ?_
    refine .cons (owes_value fun q u lh => ⟨wants_free rfl, .agg #[.int .i64 p0, .int .i64 p1, .int .i64 p2, .int .i64 p3, .int .i64 p4, .int .i64 p5, .int .i64 p6], by have e2 : q.tmps.getD 2 undef = .pointer (some ⟨g2, 0, none⟩) := lh.old 2 rfl; obtain ⟨z0, z1, z2, z3, z4, z5, z6⟩ := HP.out.below lh.below; simp [execOp, Act.eval, e2, z0, z1, z2, z3, z4, z5, z6, go_sem], rfl⟩) ?_
    refine .cons (owes_call 34 Try.func34 (by kernel_rfl) (by kernel_rfl) [.tmp 8, .tmp 9] #[25, 25] rfl fun q u lh => ⟨wants_free rfl, by have e8 : q.tmps.getD 8 undef = .agg #[.int .i64 x0, .int .i64 x1, .int .i64 x2, .int .i64 x3, .int .i64 x4, .int .i64 x5, .int .i64 x6] := lh.dep 3 rfl; have e9 : q.tmps.getD 9 undef = .agg #[.int .i64 p0, .int .i64 p1, .int .i64 p2, .int .i64 p3, .int .i64 p4, .int .i64 p5, .int .i64 p6] := lh.dep 4 rfl; show Calls Try.prog 34 #[q.tmps.getD 8 undef, q.tmps.getD 9 undef] u _; rw [e8, e9]; exact int_fact (O u)⟩) ?_
    refine .cons (owes_value fun q u lh => ⟨wants_free rfl, .bool (decide (0 ≤ r)), by have e10 : q.tmps.getD 10 undef = .int .i64 r := lh.dep 5 rfl; simp [execOp, Act.eval, e10, go_sem], rfl⟩) ?_
    refine .cons (owes_move (.tmp 11) (.inr rfl) fun q u lh => ⟨wants_free rfl, lh.dep 6 rfl⟩) ?_
    exact .nil _
  intro q u hb hsz hdf hold hfact
  obtain rfl := frame_puts hsz hdf [5, 6, 7, 8, 9, 10, 11, 4] hold [(5, Value.slice (some ⟨b, off, none⟩) n c), (6, Value.int .i64 k), (7, Value.pointer (some ⟨b, off + k * 7, none⟩)), (8, Value.agg #[.int .i64 x0, .int .i64 x1, .int .i64 x2, .int .i64 x3, .int .i64 x4, .int .i64 x5, .int .i64 x6]), (9, Value.agg #[.int .i64 p0, .int .i64 p1, .int .i64 p2, .int .i64 p3, .int .i64 p4, .int .i64 p5, .int .i64 p6]), (10, Value.int .i64 r), (11, Value.bool (decide (0 ≤ r))), (4, Value.bool (decide (0 ≤ r)))] ⟨hfact 0 (by decide), hfact 1 (by decide), hfact 2 (by decide), hfact 3 (by decide), hfact 4 (by decide), hfact 5 (by decide), hfact 6 (by decide), hfact 7 (by decide), trivial⟩ rfl
  clear hsz hdf hold hfact
  clear O HS HP HX i1
  have HB : Hid (Below w.heap.size w u) := hb
  clear hb
  go_wp2
  simp only [puts, Act.put, List.setIfInBounds_toArray, List.set_cons_zero, List.set_cons_succ]
  go_ret
  exact ⟨rt_bool HR.out, HB.out⟩

theorem ahdSearch_none (f : Value) (w : World) : Calls Try.prog 35 #[.int .i64 0, f] w fun e w' => e = .returned (.int .i64 0) ∧ w' = w := by
  go_enter Try.func35, Try.ntmps35
  go_wp2
  refine wp_loop_rounds 1 ?_
  rw [rounds_succ]
  go_wp2
  go_ret
  exact ⟨rfl, rfl⟩

set_option maxHeartbeats 4000000 in
theorem ahdSearch_row (g1 g2 b off n c : Nat) (L : List P7) (p : P7) (w : World) (hs : w.cell? ⟨g1, 0, none⟩ = some (.slice (some ⟨b, off, none⟩) n c)) (hp : At7 w g2 0 p) (hc : ∀ i, i < n → At7 w b (off + i * 7) (L.getD i p70)) (hn : n = L.length) (hm : n ≤ 1000000) (hq : L.Pairwise QR) :
    Calls Try.prog 35 #[.int .i64 n, .func (.func 38) #[] #[.pointer (some ⟨g1, 0, none⟩), .pointer (some ⟨g2, 0, none⟩)]] w fun e w' => e = .returned (.int .i64 (qAhd L p : Nat)) ∧ Below w.heap.size w w' := by
  have HS : Hid (w.cell? ⟨g1, 0, none⟩ = some (.slice (some ⟨b, off, none⟩) n c)) := hs
  have HP : Hid (At7 w g2 0 p) := hp
  have HC : Hid (∀ i, i < n → At7 w b (off + i * 7) (L.getD i p70)) := hc
  have HN : Hid (n = L.length) := hn
  have HQ : Hid (L.Pairwise QR) := hq
  clear hs hp hc hn hq
  go_enter Try.func35, Try.ntmps35
  go_wp2
  go_loopw [5, 6] (fun i j wr => ∃ lo hi : Nat, i = .int .i64 lo ∧ j = .int .i64 hi ∧ lo ≤ hi ∧ hi ≤ n ∧ Hid ((∀ t, t < lo → (qLe p (L.getD t p70)) = false) ∧ (∀ t, hi ≤ t → t < n → (qLe p (L.getD t p70)) = true)) ∧ Hid (Below w.heap.size w wr)) (fun i j _ => (intOf j).toNat - (intOf i).toNat)
  case atStart => exact ⟨0, n, rfl, rfl, Nat.zero_le _, Nat.le_refl _, ⟨fun t ht => absurd ht (Nat.not_lt_zero _), fun t h1 h2 => by omega⟩, Below.refl _ _⟩
  case round =>
    obtain ⟨lo, hi, rfl, rfl, hlh, hin, HI, HB⟩ := hrel
    by_cases hlt : lo < hi
    · have F := ahdF_any g1 g2 b off n c ((lo + hi) / 2) (L.getD ((lo + hi) / 2) p70) p wr ((HB.out.cell (p := ⟨g1, 0, none⟩) (block_lt_of_cell HS.out)).trans HS.out) (HP.out.below HB.out) ((HC.out ((lo + hi) / 2) (by omega)).below HB.out) (by omega)
      have ek : (((lo + hi) / 2 : Nat) : Int) = ((lo : Int) + (hi : Int)) / 2 := by omega
      rw [ek] at F
      have hlo : ((lo : Int) + (hi : Int)) / 2 + 1 = (((lo + hi) / 2 + 1 : Nat) : Int) := by omega
      have HLO : Hid (((lo : Int) + (hi : Int)) / 2 + 1 = (((lo + hi) / 2 + 1 : Nat) : Int)) := hlo
      have HEK : Hid (((lo : Int) + (hi : Int)) / 2 = (((lo + hi) / 2 : Nat) : Int)) := ek.symm
      obtain ⟨x, hx⟩ : ∃ x, L.getD ((lo + hi) / 2) p70 = x := ⟨_, rfl⟩
      rw [hx] at F
      have HX : Hid (L.getD ((lo + hi) / 2) p70 = x) := hx
      clear hx ek hlo
      cases hy : (qLe p x) with
      | false =>
        have HY : Hid ((qLe p x) = false) := hy
        rw [hy] at F
        clear hy
        go_wp2_with fail
        go_at_call 38
        refine F.mono ?_
        rintro e w1 ⟨rfl, hb1⟩
        have B1 : Hid (Below w.heap.size w w1) := HB.out.trans (hb1.mono HB.out.size)
        clear hb1 F
        go_wp2
        go_roundw
        case rel =>
          refine ⟨(lo + hi) / 2 + 1, hi, by rw [HLO.out], rfl, by omega, hin, ⟨fun t ht => ?_, HI.out.2⟩, B1⟩
          have h1 := HY.out
          rw [← HX.out] at h1
          exact ahd_no_mono HQ.out (i := t) (j := (lo + hi) / 2) (by omega) (by have := HN.out; omega) h1
        case measure => simp [intOf]; omega
      | true =>
        have HY : Hid ((qLe p x) = true) := hy
        rw [hy] at F
        clear hy
        go_wp2_with fail
        go_at_call 38
        refine F.mono ?_
        rintro e w1 ⟨rfl, hb1⟩
        have B1 : Hid (Below w.heap.size w w1) := HB.out.trans (hb1.mono HB.out.size)
        clear hb1 F
        go_wp2
        go_roundw
        case rel =>
          refine ⟨lo, (lo + hi) / 2, rfl, by rw [HEK.out], by omega, by omega, ⟨HI.out.1, fun t ht htn => ?_⟩, B1⟩
          have h1 := HY.out
          rw [← HX.out] at h1
          exact qLe_trans h1 (pw_le HQ.out (i := (lo + hi) / 2) (j := t) ht (by have := HN.out; omega))
        case measure => simp [intOf]; omega
    · obtain rfl : hi = lo := by omega
      have HD : Hid ((hi : Int) = (qAhd L p : Nat)) := by
        have : qAhd L p = hi := findIdx_of (by have := HN.out; omega) HI.out.1 (fun h => HI.out.2 hi (Nat.le_refl _) (by have := HN.out; omega))
        show (hi : Int) = _
        rw [this]
      go_wp2
      go_ret
      exact ⟨rt_int HD.out, HB.out⟩

set_option maxHeartbeats 4000000 in
theorem ahd_any (a : Option Addr) (n c : Nat) (L : List P7) (p : P7) (w : World) (h : Pays w a n L) (hm : n ≤ 1000000) (hq : L.Pairwise QR) :
    Calls Try.prog 30 #[.slice a n c, p.val] w fun e w' => e = .returned (.int .i64 (qAhd L p : Nat)) ∧ Below w.heap.size w w' := by
  obtain ⟨i1, f1, o1, m1, c1, s1, u1⟩ := p
  obtain ⟨w2, hw2, B2, X1, X2⟩ : ∃ w2, w2 = (w.alloc (.cells #[.slice a n c] 23)).alloc (.cells #[.int .i64 i1, .int .i64 f1, .int .i64 o1, .int .i64 m1, .int .i64 c1, .int .i64 s1, .int .i64 u1] 25) ∧ Below w.heap.size w w2 ∧ w2.cell? ⟨w.heap.size, 0, none⟩ = some (.slice a n c) ∧ At7 w2 (w.heap.size + 1) 0 (i1, f1, o1, m1, c1, s1, u1) := by
    refine ⟨_, rfl, (box_below _ _).alloc (box_below _ _).size _, ?_, ?_⟩
    · rw [(box_below (w.alloc (.cells #[.slice a n c] 23)) _).cell (p := ⟨w.heap.size, 0, none⟩) (by rw [size_alloc]; simp), cell_new]
      rfl
    · have := At7.new (w.alloc (.cells #[.slice a n c] 23)) (i1, f1, o1, m1, c1, s1, u1) 25 (0, 0)
      rw [size_alloc] at this
      exact this
  have S : Calls Try.prog 35 #[.int .i64 n, .func (.func 38) #[] #[.pointer (some ⟨w.heap.size, 0, none⟩), .pointer (some ⟨w.heap.size + 1, 0, none⟩)]] w2 fun e w' => e = .returned (.int .i64 (qAhd L (i1, f1, o1, m1, c1, s1, u1) : Nat)) ∧ Below w2.heap.size w2 w' := by
    have hl := h.1
    rcases h.2 with h0 | ⟨b, off, rfl, hc⟩
    · subst h0
      have : n = 0 := by simpa using hl
      subst this
      refine (ahdSearch_none _ w2).mono ?_
      rintro e w' ⟨rfl, rfl⟩
      exact ⟨rfl, Below.refl _ _⟩
    · exact ahdSearch_row w.heap.size (w.heap.size + 1) b off n c L _ w2 X1 X2 (fun i hi => (hc i (by omega)).below B2) hl hm hq
  have HB : Hid (Below w.heap.size w w2) := B2
  clear h hq B2 X2
  rw [hw2] at S X1
  have HW : Hid (w2 = _) := hw2
  clear hw2
  go_enter Try.func30, Try.ntmps30
  go_wp2_with fail
  go_at_call 35
  refine S.mono ?_
  rintro e w1 ⟨rfl, hb⟩
  have B1 : Hid (Below w.heap.size w w1) := by rw [← HW.out] at hb; exact HB.out.trans (hb.mono HB.out.size)
  clear hb S HW HB X1
  go_wp2
  go_ret
  exact ⟨rfl, B1.out⟩

end Go.Proofs.Ytjibnbheegcnkaa
