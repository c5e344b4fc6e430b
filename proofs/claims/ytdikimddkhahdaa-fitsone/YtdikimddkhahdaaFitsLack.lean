/-
  fits: what is left on an account; is it above a limit?
-/
import Derived.Test.YtdikimddkhahdaaFitsMv
import Derived.Test.YtdikimddkhahdaaFitsSpec
import Derived.Test.YtdikimddkhahdaaRowBase
namespace Go.Proofs.Ytdikimddkhahdaa
open Go.RowKit
set_option linter.unusedVariables false
set_option linter.unusedSimpArgs false

/-- Is too little left? -/
def lackZ (b c r : Int) (z : List Int) (i : Nat) : Bool :=
  if z.getD (36 + i) 0 < outZ z i then decide (b + c + inZ z i - outZ z i < keptV r (z.getD (36 + i) 0)) else decide (b + c + inZ z i - outZ z i < 0)
def aboveB (p m : Int) : Bool := decide (¬ m = -1) && decide (m < p)

theorem isAbove_any (p m : Int) (w : World) : Calls Try.prog 56 #[.int .i64 p, .int .i64 m] w fun e w' => e = .returned (.bool (aboveB p m)) ∧ w' = w := by
  unfold aboveB
  by_cases h : m = -1
  · subst h
    go_enter Try.func56, Try.ntmps56
    go_wp2
    go_ret
    exact ⟨rt_bool (by simp), rfl⟩
  · have h2 : (m == -1) = false := by simpa using h
    have H : Hid (¬ m = -1) := h
    clear h
    go_enter Try.func56, Try.ntmps56
    go_wp2
    go_ret
    exact ⟨rt_bool (by simp [H.out]), rfl⟩

set_option maxHeartbeats 4000000 in
set_option maxRecDepth 100000 in
theorem lacks_any (b c r : Int) (z : List Int) (i : Nat) (w : World) (hA : acctB b c r = true) (h : MvOk z) (hi : i < 6) :
    Calls Try.prog 38 #[.agg #[.int .i64 b, .int .i64 c, .int .i64 r], .agg (mvA z), .int .i64 i] w fun e w' => e = .returned (.bool (lackZ b c r z i)) ∧ Below w.heap.size w w' := by
  obtain ⟨b0, b1, c0, c1, r0, r1⟩ := acctB_yes.1 hA
  have IN := fun u => in_any z i u h hi
  have OUT := fun u => out_any z i u h hi
  have HO := outZ_range h i
  have HI := inZ_range h i
  have HS := h.le (36 + i)
  have HZ : Hid (z.length = 42) := h.len
  obtain ⟨w2, hw2⟩ : ∃ w2, w2 = (w.alloc (.cells #[.int .i64 b, .int .i64 c, .int .i64 r] 47)).alloc (.cells (mvA z) 60) := ⟨_, rfl⟩
  have B2 : Hid (Below w.heap.size w w2) := by rw [hw2]; exact (box_below _ _).alloc (box_below _ _).size _
  have X2 : Hid (At3 w2 w.heap.size b c r) := by rw [hw2]; exact (At3.new w b c r _ _).below (box_below _ _)
  have M2 : Hid (MvAt w2 (w.heap.size + 1) z) := by
    rw [hw2, ← size_alloc w (.cells #[.int .i64 b, .int .i64 c, .int .i64 r] 47)]
    exact MvAt.new _ z h.len _ _
  have K := fun u => kept_any b c r (z.getD (36 + i) 0) (by omega) (by omega) (by omega) (by omega) u
  unfold lackZ
  have MS := fun (u : World) (H : MvAt u (w.heap.size + 1) z) => H (36 + i) (by omega)
  generalize z.getD (36 + i) 0 = sp at HS MS K ⊢
  generalize outZ z i = O at HO OUT ⊢
  generalize inZ z i = I at HI IN ⊢
  generalize keptV r sp = V at K ⊢
  obtain ⟨x, hx⟩ : ∃ x, b + c = x := ⟨_, rfl⟩
  obtain ⟨y, hy⟩ : ∃ y, x + I = y := ⟨_, rfl⟩
  obtain ⟨l, hl⟩ : ∃ l, y - O = l := ⟨_, rfl⟩
  have W1 : Hid (IntKind.i64.wrap (b + c) = x) := by show _ = _; rw [hx]; exact i64_wf (by omega) (by omega)
  have W2 : Hid (IntKind.i64.wrap (x + I) = y) := by show _ = _; rw [hy]; exact i64_wf (by omega) (by omega)
  have W3 : Hid (IntKind.i64.wrap (y - O) = l) := by show _ = _; rw [hl]; exact i64_wf (by omega) (by omega)
  rw [hx, hy, hl]
  have i1 : (i : Int) < 6 := by omega
  have HM : Hid (∀ u, MvAt u (w.heap.size + 1) z → u.cell? ⟨w.heap.size + 1, 36 + i, none⟩ = some (.int .i64 sp)) := MS
  clear hA h hx hy hl b0 b1 c0 c1 r0 r1 HO HI HS MS
  rcases Int.lt_or_le sp O with hc | hc
  · rw [if_pos hc]
    obtain ⟨R, hR⟩ : ∃ R, decide (l < V) = R := ⟨_, rfl⟩
    have HR : Hid (decide (l < V) = R) := hR
    rw [hR]
    have HC : Hid (decide (sp < O) = true) := decide_eq_true hc
    clear hR hc
    go_enter Try.func38, Try.ntmps38
    go_wp2_with fail
    rw [← hw2]
    clear hw2
    refine region_owes (L := [Fact.is (.pointer (some ⟨w.heap.size, 0, none⟩)),
      Fact.is (.int .i64 b),
      Fact.is (.pointer (some ⟨w.heap.size, 1, none⟩)),
      Fact.is (.int .i64 c),
      Fact.is (.int .i64 x),
      Fact.is (.agg (mvA z)),
      Fact.is (.int .i64 i),
      Fact.is (.int .i64 I),
      Fact.is (.int .i64 y),
      Fact.is (.agg (mvA z)),
      Fact.is (.int .i64 i),
      Fact.is (.int .i64 O),
      Fact.is (.int .i64 l),
      Fact.is (.int .i64 l)])
      (T := [8, 9, 10, 11, 12, 13, 14, 15, 16, 17, 18, 19, 20, 7]) (by kernel_rfl) (by kernel_rfl) rfl ?owes ?_
    case owes =>
      refine .cons (owes_value fun q u lh => ⟨wants_free rfl, .pointer (some ⟨w.heap.size, 0, none⟩), by have e3 : q.tmps.getD 3 undef = .pointer (some ⟨w.heap.size, 0, none⟩) := lh.old 3 rfl; simp [execOp, Act.eval, e3, go_sem], rfl⟩) ?_
      refine .cons (owes_value fun q u lh => ⟨wants_free rfl, .int .i64 b, by have e8 : q.tmps.getD 8 undef = .pointer (some ⟨w.heap.size, 0, none⟩) := lh.dep 0 rfl; obtain ⟨p0, p1, p2⟩ := X2.out.below lh.below; simp [execOp, Act.eval, e8, p0, go_sem], rfl⟩) ?_
      refine .cons (owes_value fun q u lh => ⟨wants_free rfl, .pointer (some ⟨w.heap.size, 1, none⟩), by have e3 : q.tmps.getD 3 undef = .pointer (some ⟨w.heap.size, 0, none⟩) := lh.old 3 rfl; simp [execOp, Act.eval, e3, go_sem], rfl⟩) ?_
      refine .cons (owes_value fun q u lh => ⟨wants_free rfl, .int .i64 c, by have e10 : q.tmps.getD 10 undef = .pointer (some ⟨w.heap.size, 1, none⟩) := lh.dep 2 rfl; obtain ⟨p0, p1, p2⟩ := X2.out.below lh.below; simp [execOp, Act.eval, e10, p1, go_sem], rfl⟩) ?_
      refine .cons (owes_value fun q u lh => ⟨wants_free rfl, .int .i64 x, by have e9 : q.tmps.getD 9 undef = .int .i64 b := lh.dep 1 rfl; have e11 : q.tmps.getD 11 undef = .int .i64 c := lh.dep 3 rfl; simp [execOp, Act.eval, e9, e11, W1.out, go_sem], rfl⟩) ?_
      refine .cons (owes_value fun q u lh => ⟨wants_free rfl, .agg (mvA z), exec_load_mv (.tmp 4) rfl (w.heap.size + 1) (lh.old 4 rfl) z HZ.out (M2.out.below lh.below), rfl⟩) ?_
      refine .cons (owes_move (.tmp 2) (.inl rfl) fun q u lh => ⟨wants_free rfl, lh.old 2 rfl⟩) ?_
      refine .cons (owes_call 54 Try.func54 (by kernel_rfl) (by kernel_rfl) [.tmp 13, .tmp 14] #[60, 3] rfl fun q u lh => ⟨wants_free rfl, by have e13 : q.tmps.getD 13 undef = .agg (mvA z) := lh.dep 5 rfl; have e14 : q.tmps.getD 14 undef = .int .i64 i := lh.dep 6 rfl; show Calls Try.prog 54 #[q.tmps.getD 13 undef, q.tmps.getD 14 undef] u _; rw [e13, e14]; exact int_fact (IN u)⟩) ?_
      refine .cons (owes_value fun q u lh => ⟨wants_free rfl, .int .i64 y, by have e12 : q.tmps.getD 12 undef = .int .i64 x := lh.dep 4 rfl; have e15 : q.tmps.getD 15 undef = .int .i64 I := lh.dep 7 rfl; simp [execOp, Act.eval, e12, e15, W2.out, go_sem], rfl⟩) ?_
      refine .cons (owes_value fun q u lh => ⟨wants_free rfl, .agg (mvA z), exec_load_mv (.tmp 4) rfl (w.heap.size + 1) (lh.old 4 rfl) z HZ.out (M2.out.below lh.below), rfl⟩) ?_
      refine .cons (owes_move (.tmp 2) (.inl rfl) fun q u lh => ⟨wants_free rfl, lh.old 2 rfl⟩) ?_
      refine .cons (owes_call 37 Try.func37 (by kernel_rfl) (by kernel_rfl) [.tmp 17, .tmp 18] #[60, 3] rfl fun q u lh => ⟨wants_free rfl, by have e17 : q.tmps.getD 17 undef = .agg (mvA z) := lh.dep 9 rfl; have e18 : q.tmps.getD 18 undef = .int .i64 i := lh.dep 10 rfl; show Calls Try.prog 37 #[q.tmps.getD 17 undef, q.tmps.getD 18 undef] u _; rw [e17, e18]; exact int_fact (OUT u)⟩) ?_
      refine .cons (owes_value fun q u lh => ⟨wants_free rfl, .int .i64 l, by have e16 : q.tmps.getD 16 undef = .int .i64 y := lh.dep 8 rfl; have e19 : q.tmps.getD 19 undef = .int .i64 O := lh.dep 11 rfl; simp [execOp, Act.eval, e16, e19, W3.out, go_sem], rfl⟩) ?_
      refine .cons (owes_move (.tmp 20) (.inr rfl) fun q u lh => ⟨wants_free rfl, lh.dep 12 rfl⟩) ?_
      exact .nil _
    intro q u hb hsz hdf hold hfact
    have B3 : Hid (Below w.heap.size w u) := B2.out.trans (hb.mono B2.out.size)
    have X3 : Hid (At3 u w.heap.size b c r) := X2.out.below hb
    have M3 : Hid (MvAt u (w.heap.size + 1) z) := M2.out.below hb
    obtain ⟨u1, rfl⟩ : ∃ z, z = u := ⟨u, rfl⟩
    obtain rfl := frame_puts hsz hdf [8, 9, 10, 11, 12, 13, 14, 15, 16, 17, 18, 19, 20, 7] hold [(8, Value.pointer (some ⟨w.heap.size, 0, none⟩)), (9, Value.int .i64 b), (10, Value.pointer (some ⟨w.heap.size, 1, none⟩)), (11, Value.int .i64 c), (12, Value.int .i64 x), (13, Value.agg (mvA z)), (14, Value.int .i64 i), (15, Value.int .i64 I), (16, Value.int .i64 y), (17, Value.agg (mvA z)), (18, Value.int .i64 i), (19, Value.int .i64 O), (20, Value.int .i64 l), (7, Value.int .i64 l)] ⟨hfact 0 (by decide), hfact 1 (by decide), hfact 2 (by decide), hfact 3 (by decide), hfact 4 (by decide), hfact 5 (by decide), hfact 6 (by decide), hfact 7 (by decide), hfact 8 (by decide), hfact 9 (by decide), hfact 10 (by decide), hfact 11 (by decide), hfact 12 (by decide), hfact 13 (by decide), trivial⟩ rfl
    clear hsz hdf hold hfact
    clear hb X2 M2
    simp only [puts, Act.put, List.setIfInBounds_toArray, List.set_cons_zero, List.set_cons_succ]
    go_wp2_with fail
    refine region_owes (L := [Fact.is (.agg (mvA z)),
      Fact.is (.int .i64 i),
      Fact.is (.int .i64 O),
      Fact.is (.int .i64 i),
      Fact.is (.pointer (some ⟨w.heap.size + 1, 36, none⟩)),
      Fact.is (.pointer (some ⟨w.heap.size + 1, 36 + i, none⟩)),
      Fact.is (.int .i64 sp),
      Fact.is (.bool true)])
      (T := [21, 22, 23, 24, 25, 26, 27, 28]) (by kernel_rfl) (by kernel_rfl) rfl ?owes ?_
    case owes =>
      refine .cons (owes_value fun q u lh => ⟨wants_free rfl, .agg (mvA z), exec_load_mv (.tmp 4) rfl (w.heap.size + 1) (lh.old 4 rfl) z HZ.out (M3.out.below lh.below), rfl⟩) ?_
      refine .cons (owes_move (.tmp 2) (.inl rfl) fun q u lh => ⟨wants_free rfl, lh.old 2 rfl⟩) ?_
      refine .cons (owes_call 37 Try.func37 (by kernel_rfl) (by kernel_rfl) [.tmp 21, .tmp 22] #[60, 3] rfl fun q u lh => ⟨wants_free rfl, by have e21 : q.tmps.getD 21 undef = .agg (mvA z) := lh.dep 0 rfl; have e22 : q.tmps.getD 22 undef = .int .i64 i := lh.dep 1 rfl; show Calls Try.prog 37 #[q.tmps.getD 21 undef, q.tmps.getD 22 undef] u _; rw [e21, e22]; exact int_fact (OUT u)⟩) ?_
      refine .cons (owes_move (.tmp 2) (.inl rfl) fun q u lh => ⟨wants_free rfl, lh.old 2 rfl⟩) ?_
      refine .cons (owes_value fun q u lh => ⟨wants_free rfl, .pointer (some ⟨w.heap.size + 1, 36, none⟩), by have e4 : q.tmps.getD 4 undef = .pointer (some ⟨w.heap.size + 1, 0, none⟩) := lh.old 4 rfl; simp [execOp, Act.eval, e4, go_sem], rfl⟩) ?_
      refine .cons (owes_value fun q u lh => ⟨wants_free rfl, .pointer (some ⟨w.heap.size + 1, 36 + i, none⟩), by have e24 : q.tmps.getD 24 undef = .int .i64 i := lh.dep 3 rfl; have e25 : q.tmps.getD 25 undef = .pointer (some ⟨w.heap.size + 1, 36, none⟩) := lh.dep 4 rfl; simp [execOp, Act.eval, e24, e25, i1, go_sem], rfl⟩) ?_
      refine .cons (owes_value fun q u lh => ⟨wants_free rfl, .int .i64 sp, by have e26 : q.tmps.getD 26 undef = .pointer (some ⟨w.heap.size + 1, 36 + i, none⟩) := lh.dep 5 rfl; have z1 := HM.out u (M3.out.below lh.below); simp [execOp, Act.eval, e26, z1, go_sem], rfl⟩) ?_
      refine .cons (owes_value fun q u lh => ⟨wants_free rfl, .bool true, by have e23 : q.tmps.getD 23 undef = .int .i64 O := lh.dep 2 rfl; have e27 : q.tmps.getD 27 undef = .int .i64 sp := lh.dep 6 rfl; simp [execOp, Act.eval, e23, e27, HC.out, go_sem], rfl⟩) ?_
      exact .nil _
    intro q u hb hsz hdf hold hfact
    have B4 : Hid (Below w.heap.size w u) := B3.out.trans (hb.mono B3.out.size)
    have X4 : Hid (At3 u w.heap.size b c r) := X3.out.below hb
    have M4 : Hid (MvAt u (w.heap.size + 1) z) := M3.out.below hb
    obtain ⟨u2, rfl⟩ : ∃ z, z = u := ⟨u, rfl⟩
    obtain rfl := frame_puts hsz hdf [21, 22, 23, 24, 25, 26, 27, 28] hold [(21, Value.agg (mvA z)), (22, Value.int .i64 i), (23, Value.int .i64 O), (24, Value.int .i64 i), (25, Value.pointer (some ⟨w.heap.size + 1, 36, none⟩)), (26, Value.pointer (some ⟨w.heap.size + 1, 36 + i, none⟩)), (27, Value.int .i64 sp), (28, Value.bool true)] ⟨hfact 0 (by decide), hfact 1 (by decide), hfact 2 (by decide), hfact 3 (by decide), hfact 4 (by decide), hfact 5 (by decide), hfact 6 (by decide), hfact 7 (by decide), trivial⟩ rfl
    clear hsz hdf hold hfact
    clear hb X3 M3
    simp only [puts, Act.put, List.setIfInBounds_toArray, List.set_cons_zero, List.set_cons_succ]
    go_wp2_with fail
    refine region_owes (L := [Fact.is (.int .i64 l),
      Fact.is (.agg #[.int .i64 b, .int .i64 c, .int .i64 r]),
      Fact.is (.int .i64 i),
      Fact.is (.pointer (some ⟨w.heap.size + 1, 36, none⟩)),
      Fact.is (.pointer (some ⟨w.heap.size + 1, 36 + i, none⟩)),
      Fact.is (.int .i64 sp),
      Fact.is (.int .i64 V),
      Fact.is (.bool R),
      Fact.is (.bool R)])
      (T := [29, 30, 31, 32, 33, 34, 35, 36, 6]) (by kernel_rfl) (by kernel_rfl) rfl ?owes ?_
    case owes =>
      refine .cons (owes_move (.tmp 7) (.inl rfl) fun q u lh => ⟨wants_free rfl, lh.old 7 rfl⟩) ?_
      refine .cons (owes_value fun q u lh => ⟨wants_free rfl, .agg #[.int .i64 b, .int .i64 c, .int .i64 r], by have e3 : q.tmps.getD 3 undef = .pointer (some ⟨w.heap.size, 0, none⟩) := lh.old 3 rfl; obtain ⟨p0, p1, p2⟩ := X4.out.below lh.below; simp [execOp, Act.eval, e3, p0, p1, p2, go_sem], rfl⟩) ?_
      refine .cons (owes_move (.tmp 2) (.inl rfl) fun q u lh => ⟨wants_free rfl, lh.old 2 rfl⟩) ?_
      refine .cons (owes_value fun q u lh => ⟨wants_free rfl, .pointer (some ⟨w.heap.size + 1, 36, none⟩), by have e4 : q.tmps.getD 4 undef = .pointer (some ⟨w.heap.size + 1, 0, none⟩) := lh.old 4 rfl; simp [execOp, Act.eval, e4, go_sem], rfl⟩) ?_
      refine .cons (owes_value fun q u lh => ⟨wants_free rfl, .pointer (some ⟨w.heap.size + 1, 36 + i, none⟩), by have e31 : q.tmps.getD 31 undef = .int .i64 i := lh.dep 2 rfl; have e32 : q.tmps.getD 32 undef = .pointer (some ⟨w.heap.size + 1, 36, none⟩) := lh.dep 3 rfl; simp [execOp, Act.eval, e31, e32, i1, go_sem], rfl⟩) ?_
      refine .cons (owes_value fun q u lh => ⟨wants_free rfl, .int .i64 sp, by have e33 : q.tmps.getD 33 undef = .pointer (some ⟨w.heap.size + 1, 36 + i, none⟩) := lh.dep 4 rfl; have z1 := HM.out u (M4.out.below lh.below); simp [execOp, Act.eval, e33, z1, go_sem], rfl⟩) ?_
      refine .cons (owes_call 55 Try.func55 (by kernel_rfl) (by kernel_rfl) [.tmp 30, .tmp 34] #[47, 2] rfl fun q u lh => ⟨wants_free rfl, by have e30 : q.tmps.getD 30 undef = .agg #[.int .i64 b, .int .i64 c, .int .i64 r] := lh.dep 1 rfl; have e34 : q.tmps.getD 34 undef = .int .i64 sp := lh.dep 5 rfl; show Calls Try.prog 55 #[q.tmps.getD 30 undef, q.tmps.getD 34 undef] u _; rw [e30, e34]; exact int_fact (K u)⟩) ?_
      refine .cons (owes_value fun q u lh => ⟨wants_free rfl, .bool R, by have e29 : q.tmps.getD 29 undef = .int .i64 l := lh.dep 0 rfl; have e35 : q.tmps.getD 35 undef = .int .i64 V := lh.dep 6 rfl; simp [execOp, Act.eval, e29, e35, HR.out, go_sem], rfl⟩) ?_
      refine .cons (owes_move (.tmp 36) (.inr rfl) fun q u lh => ⟨wants_free rfl, lh.dep 7 rfl⟩) ?_
      exact .nil _
    intro q u hb hsz hdf hold hfact
    have B5 : Hid (Below w.heap.size w u) := B4.out.trans (hb.mono B4.out.size)
    obtain ⟨u3, rfl⟩ : ∃ z, z = u := ⟨u, rfl⟩
    obtain rfl := frame_puts hsz hdf [29, 30, 31, 32, 33, 34, 35, 36, 6] hold [(29, Value.int .i64 l), (30, Value.agg #[.int .i64 b, .int .i64 c, .int .i64 r]), (31, Value.int .i64 i), (32, Value.pointer (some ⟨w.heap.size + 1, 36, none⟩)), (33, Value.pointer (some ⟨w.heap.size + 1, 36 + i, none⟩)), (34, Value.int .i64 sp), (35, Value.int .i64 V), (36, Value.bool R), (6, Value.bool R)] ⟨hfact 0 (by decide), hfact 1 (by decide), hfact 2 (by decide), hfact 3 (by decide), hfact 4 (by decide), hfact 5 (by decide), hfact 6 (by decide), hfact 7 (by decide), hfact 8 (by decide), trivial⟩ rfl
    clear hsz hdf hold hfact
    clear hb X4 M4
    simp only [puts, Act.put, List.setIfInBounds_toArray, List.set_cons_zero, List.set_cons_succ]
    go_wp2
    go_ret
    exact ⟨rfl, B5.out⟩
  · rw [if_neg (by omega)]
    have HC : Hid (decide (sp < O) = false) := decide_eq_false (by omega)
    clear hc K
    go_enter Try.func38, Try.ntmps38
    go_wp2_with fail
    rw [← hw2]
    clear hw2
    refine region_owes (L := [Fact.is (.pointer (some ⟨w.heap.size, 0, none⟩)),
      Fact.is (.int .i64 b),
      Fact.is (.pointer (some ⟨w.heap.size, 1, none⟩)),
      Fact.is (.int .i64 c),
      Fact.is (.int .i64 x),
      Fact.is (.agg (mvA z)),
      Fact.is (.int .i64 i),
      Fact.is (.int .i64 I),
      Fact.is (.int .i64 y),
      Fact.is (.agg (mvA z)),
      Fact.is (.int .i64 i),
      Fact.is (.int .i64 O),
      Fact.is (.int .i64 l),
      Fact.is (.int .i64 l)])
      (T := [8, 9, 10, 11, 12, 13, 14, 15, 16, 17, 18, 19, 20, 7]) (by kernel_rfl) (by kernel_rfl) rfl ?owes ?_
    case owes =>
      refine .cons (owes_value fun q u lh => ⟨wants_free rfl, .pointer (some ⟨w.heap.size, 0, none⟩), by have e3 : q.tmps.getD 3 undef = .pointer (some ⟨w.heap.size, 0, none⟩) := lh.old 3 rfl; simp [execOp, Act.eval, e3, go_sem], rfl⟩) ?_
      refine .cons (owes_value fun q u lh => ⟨wants_free rfl, .int .i64 b, by have e8 : q.tmps.getD 8 undef = .pointer (some ⟨w.heap.size, 0, none⟩) := lh.dep 0 rfl; obtain ⟨p0, p1, p2⟩ := X2.out.below lh.below; simp [execOp, Act.eval, e8, p0, go_sem], rfl⟩) ?_
      refine .cons (owes_value fun q u lh => ⟨wants_free rfl, .pointer (some ⟨w.heap.size, 1, none⟩), by have e3 : q.tmps.getD 3 undef = .pointer (some ⟨w.heap.size, 0, none⟩) := lh.old 3 rfl; simp [execOp, Act.eval, e3, go_sem], rfl⟩) ?_
      refine .cons (owes_value fun q u lh => ⟨wants_free rfl, .int .i64 c, by have e10 : q.tmps.getD 10 undef = .pointer (some ⟨w.heap.size, 1, none⟩) := lh.dep 2 rfl; obtain ⟨p0, p1, p2⟩ := X2.out.below lh.below; simp [execOp, Act.eval, e10, p1, go_sem], rfl⟩) ?_
      refine .cons (owes_value fun q u lh => ⟨wants_free rfl, .int .i64 x, by have e9 : q.tmps.getD 9 undef = .int .i64 b := lh.dep 1 rfl; have e11 : q.tmps.getD 11 undef = .int .i64 c := lh.dep 3 rfl; simp [execOp, Act.eval, e9, e11, W1.out, go_sem], rfl⟩) ?_
      refine .cons (owes_value fun q u lh => ⟨wants_free rfl, .agg (mvA z), exec_load_mv (.tmp 4) rfl (w.heap.size + 1) (lh.old 4 rfl) z HZ.out (M2.out.below lh.below), rfl⟩) ?_
      refine .cons (owes_move (.tmp 2) (.inl rfl) fun q u lh => ⟨wants_free rfl, lh.old 2 rfl⟩) ?_
      refine .cons (owes_call 54 Try.func54 (by kernel_rfl) (by kernel_rfl) [.tmp 13, .tmp 14] #[60, 3] rfl fun q u lh => ⟨wants_free rfl, by have e13 : q.tmps.getD 13 undef = .agg (mvA z) := lh.dep 5 rfl; have e14 : q.tmps.getD 14 undef = .int .i64 i := lh.dep 6 rfl; show Calls Try.prog 54 #[q.tmps.getD 13 undef, q.tmps.getD 14 undef] u _; rw [e13, e14]; exact int_fact (IN u)⟩) ?_
      refine .cons (owes_value fun q u lh => ⟨wants_free rfl, .int .i64 y, by have e12 : q.tmps.getD 12 undef = .int .i64 x := lh.dep 4 rfl; have e15 : q.tmps.getD 15 undef = .int .i64 I := lh.dep 7 rfl; simp [execOp, Act.eval, e12, e15, W2.out, go_sem], rfl⟩) ?_
      refine .cons (owes_value fun q u lh => ⟨wants_free rfl, .agg (mvA z), exec_load_mv (.tmp 4) rfl (w.heap.size + 1) (lh.old 4 rfl) z HZ.out (M2.out.below lh.below), rfl⟩) ?_
      refine .cons (owes_move (.tmp 2) (.inl rfl) fun q u lh => ⟨wants_free rfl, lh.old 2 rfl⟩) ?_
      refine .cons (owes_call 37 Try.func37 (by kernel_rfl) (by kernel_rfl) [.tmp 17, .tmp 18] #[60, 3] rfl fun q u lh => ⟨wants_free rfl, by have e17 : q.tmps.getD 17 undef = .agg (mvA z) := lh.dep 9 rfl; have e18 : q.tmps.getD 18 undef = .int .i64 i := lh.dep 10 rfl; show Calls Try.prog 37 #[q.tmps.getD 17 undef, q.tmps.getD 18 undef] u _; rw [e17, e18]; exact int_fact (OUT u)⟩) ?_
      refine .cons (owes_value fun q u lh => ⟨wants_free rfl, .int .i64 l, by have e16 : q.tmps.getD 16 undef = .int .i64 y := lh.dep 8 rfl; have e19 : q.tmps.getD 19 undef = .int .i64 O := lh.dep 11 rfl; simp [execOp, Act.eval, e16, e19, W3.out, go_sem], rfl⟩) ?_
      refine .cons (owes_move (.tmp 20) (.inr rfl) fun q u lh => ⟨wants_free rfl, lh.dep 12 rfl⟩) ?_
      exact .nil _
    intro q u hb hsz hdf hold hfact
    have B3 : Hid (Below w.heap.size w u) := B2.out.trans (hb.mono B2.out.size)
    have M3 : Hid (MvAt u (w.heap.size + 1) z) := M2.out.below hb
    obtain ⟨u1, rfl⟩ : ∃ z, z = u := ⟨u, rfl⟩
    obtain rfl := frame_puts hsz hdf [8, 9, 10, 11, 12, 13, 14, 15, 16, 17, 18, 19, 20, 7] hold [(8, Value.pointer (some ⟨w.heap.size, 0, none⟩)), (9, Value.int .i64 b), (10, Value.pointer (some ⟨w.heap.size, 1, none⟩)), (11, Value.int .i64 c), (12, Value.int .i64 x), (13, Value.agg (mvA z)), (14, Value.int .i64 i), (15, Value.int .i64 I), (16, Value.int .i64 y), (17, Value.agg (mvA z)), (18, Value.int .i64 i), (19, Value.int .i64 O), (20, Value.int .i64 l), (7, Value.int .i64 l)] ⟨hfact 0 (by decide), hfact 1 (by decide), hfact 2 (by decide), hfact 3 (by decide), hfact 4 (by decide), hfact 5 (by decide), hfact 6 (by decide), hfact 7 (by decide), hfact 8 (by decide), hfact 9 (by decide), hfact 10 (by decide), hfact 11 (by decide), hfact 12 (by decide), hfact 13 (by decide), trivial⟩ rfl
    clear hsz hdf hold hfact
    clear hb X2 M2
    simp only [puts, Act.put, List.setIfInBounds_toArray, List.set_cons_zero, List.set_cons_succ]
    go_wp2_with fail
    refine region_owes (L := [Fact.is (.agg (mvA z)),
      Fact.is (.int .i64 i),
      Fact.is (.int .i64 O),
      Fact.is (.int .i64 i),
      Fact.is (.pointer (some ⟨w.heap.size + 1, 36, none⟩)),
      Fact.is (.pointer (some ⟨w.heap.size + 1, 36 + i, none⟩)),
      Fact.is (.int .i64 sp),
      Fact.is (.bool false)])
      (T := [21, 22, 23, 24, 25, 26, 27, 28]) (by kernel_rfl) (by kernel_rfl) rfl ?owes ?_
    case owes =>
      refine .cons (owes_value fun q u lh => ⟨wants_free rfl, .agg (mvA z), exec_load_mv (.tmp 4) rfl (w.heap.size + 1) (lh.old 4 rfl) z HZ.out (M3.out.below lh.below), rfl⟩) ?_
      refine .cons (owes_move (.tmp 2) (.inl rfl) fun q u lh => ⟨wants_free rfl, lh.old 2 rfl⟩) ?_
      refine .cons (owes_call 37 Try.func37 (by kernel_rfl) (by kernel_rfl) [.tmp 21, .tmp 22] #[60, 3] rfl fun q u lh => ⟨wants_free rfl, by have e21 : q.tmps.getD 21 undef = .agg (mvA z) := lh.dep 0 rfl; have e22 : q.tmps.getD 22 undef = .int .i64 i := lh.dep 1 rfl; show Calls Try.prog 37 #[q.tmps.getD 21 undef, q.tmps.getD 22 undef] u _; rw [e21, e22]; exact int_fact (OUT u)⟩) ?_
      refine .cons (owes_move (.tmp 2) (.inl rfl) fun q u lh => ⟨wants_free rfl, lh.old 2 rfl⟩) ?_
      refine .cons (owes_value fun q u lh => ⟨wants_free rfl, .pointer (some ⟨w.heap.size + 1, 36, none⟩), by have e4 : q.tmps.getD 4 undef = .pointer (some ⟨w.heap.size + 1, 0, none⟩) := lh.old 4 rfl; simp [execOp, Act.eval, e4, go_sem], rfl⟩) ?_
      refine .cons (owes_value fun q u lh => ⟨wants_free rfl, .pointer (some ⟨w.heap.size + 1, 36 + i, none⟩), by have e24 : q.tmps.getD 24 undef = .int .i64 i := lh.dep 3 rfl; have e25 : q.tmps.getD 25 undef = .pointer (some ⟨w.heap.size + 1, 36, none⟩) := lh.dep 4 rfl; simp [execOp, Act.eval, e24, e25, i1, go_sem], rfl⟩) ?_
      refine .cons (owes_value fun q u lh => ⟨wants_free rfl, .int .i64 sp, by have e26 : q.tmps.getD 26 undef = .pointer (some ⟨w.heap.size + 1, 36 + i, none⟩) := lh.dep 5 rfl; have z1 := HM.out u (M3.out.below lh.below); simp [execOp, Act.eval, e26, z1, go_sem], rfl⟩) ?_
      refine .cons (owes_value fun q u lh => ⟨wants_free rfl, .bool false, by have e23 : q.tmps.getD 23 undef = .int .i64 O := lh.dep 2 rfl; have e27 : q.tmps.getD 27 undef = .int .i64 sp := lh.dep 6 rfl; simp [execOp, Act.eval, e23, e27, HC.out, go_sem], rfl⟩) ?_
      exact .nil _
    intro q u hb hsz hdf hold hfact
    have B4 : Hid (Below w.heap.size w u) := B3.out.trans (hb.mono B3.out.size)
    obtain ⟨u2, rfl⟩ : ∃ z, z = u := ⟨u, rfl⟩
    obtain rfl := frame_puts hsz hdf [21, 22, 23, 24, 25, 26, 27, 28] hold [(21, Value.agg (mvA z)), (22, Value.int .i64 i), (23, Value.int .i64 O), (24, Value.int .i64 i), (25, Value.pointer (some ⟨w.heap.size + 1, 36, none⟩)), (26, Value.pointer (some ⟨w.heap.size + 1, 36 + i, none⟩)), (27, Value.int .i64 sp), (28, Value.bool false)] ⟨hfact 0 (by decide), hfact 1 (by decide), hfact 2 (by decide), hfact 3 (by decide), hfact 4 (by decide), hfact 5 (by decide), hfact 6 (by decide), hfact 7 (by decide), trivial⟩ rfl
    clear hsz hdf hold hfact
    clear hb M3
    simp only [puts, Act.put, List.setIfInBounds_toArray, List.set_cons_zero, List.set_cons_succ]
    go_wp2
    go_ret
    exact ⟨rfl, B4.out⟩

end Go.Proofs.Ytdikimddkhahdaa
