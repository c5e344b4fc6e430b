/-
  most.Of: the program's answer.
-/
import Derived.Test.YtcdahjkngejkeaaMostSpec
import Derived.Test.YtcdahjkngejkeaaFitsAll
import Derived.Test.YtcdahjkngejkeaaLimTwo
import Derived.Lib.MinMax
namespace Go.Proofs.Ytcdahjkngejkeaa
open Go.RowKit
set_option linter.unusedVariables false
set_option linter.unusedSimpArgs false

theorem limB_range {v : Int} (h : limB v = true) : -1 ≤ v ∧ v ≤ 2305843009213693952 := by unfold limB at h; rw [decide_eq_true_iff] at h; omega
/-- How much a position may rise. -/
def tillV (p l : Int) : Int := if l = -1 then 1099511627776 else l - p
theorem mayB_most (n : Nat) (f t cl : Int) : mayB n (0, f, t, 1, cl, 0, 0) = mostOk n f t cl := by
  rw [Bool.eq_iff_iff, mayB_yes, mostOk_yes]
  constructor
  · rintro ⟨h1, h2, h3, h4, h5⟩; exact ⟨h1, h2, h3, h5⟩
  · rintro ⟨h1, h2, h3, h5⟩; exact ⟨h1, h2, h3, ⟨by show (1 : Int) ≤ 1; omega, by show (1 : Int) ≤ 1099511627776; omega⟩, h5⟩
theorem mostV_is (b : Bks) {f t : Nat} {cl : Int} (h : mostOk b.A.length f t cl = true) :
    max (min (min (min 1099511627776 (roomV (b.A.getD f a30).1 (b.A.getD f a30).2.1 (b.A.getD f a30).2.2 cl)) (tillV (at2 b.P f t) (at2 b.B f t))) (tillV (netTo b.P f b.A.length) (b.M.getD f 0))) 0 = mostV b f t cl := by
  have e1 : roomV (b.A.getD f a30).1 (b.A.getD f a30).2.1 (b.A.getD f a30).2.2 cl = capA b f cl := by
    unfold roomV capA
    split <;> omega
  have e2 : tillV (at2 b.P f t) (at2 b.B f t) = capL b f t := rfl
  have e3 : tillV (netTo b.P f b.A.length) (b.M.getD f 0) = capM b f := rfl
  rw [e1, e2, e3]
  unfold mostV capV
  rw [if_pos h]
  simp only [Int.toNat_natCast]
  omega
theorem mostV_not {b : Bks} {f t cl : Int} (h : mostOk b.A.length f t cl = false) : mostV b f t cl = 0 := by
  unfold mostV
  rw [h]
  rfl

theorem till_any (p l : Int) (w : World) (h0 : -9223372036854775808 ≤ l - p) (h1 : l - p ≤ 9223372036854775807) : Calls Try.prog 19 #[.int .i64 p, .int .i64 l] w fun e w' => e = .returned (.int .i64 (tillV p l)) ∧ Below w.heap.size w w' := by
  have HW : Hid (IntKind.i64.wrap (l - p) = l - p) := i64_wf h0 h1
  clear h0 h1
  unfold tillV
  by_cases h : l = -1
  · subst h
    rw [if_pos rfl]
    clear HW
    go_enter Try.func19, Try.ntmps19
    go_wp2
    go_ret
    exact ⟨rfl, Below.refl _ _⟩
  · rw [if_neg h]
    have h2 : (l == -1) = false := by simpa using h
    obtain ⟨d, hd⟩ : ∃ d, l - p = d := ⟨_, rfl⟩
    have W1 : IntKind.i64.wrap (l - p) = d := by rw [HW.out]; exact hd
    rw [hd]
    clear h HW hd
    go_enter Try.func19, Try.ntmps19
    go_wp2
    go_ret
    exact ⟨rfl, Below.refl _ _⟩

set_option maxHeartbeats 4000000 in
set_option maxRecDepth 100000 in
theorem most_in (x : BA) (b : Bks) (f t : Nat) (cl : Int) (w : World) (hk : Bk w x b) (g : Good b) (ho : mostOk b.A.length f t cl = true) :
    Calls Try.prog 7 #[x.val, .int .i64 f, .int .i64 t, .int .i64 cl] w fun e w' => e = .returned (.int .i64 (mostV b f t cl)) ∧ Below w.heap.size w w' := by
  rw [← mostV_is b ho]
  have IS := fun u (hu : Below w.heap.size w u) => limIs_any x b u (hk.below hu)
  rw [booksB_yes.2 g] at IS
  have MY := fun u => fitsMay_any x (0, (f : Int), (t : Int), 1, cl, 0, 0) u
  have hx : x.nA = b.A.length := hk.acc.1
  rw [hx, mayB_most, ho] at MY
  obtain ⟨hf, ht, hne, hc⟩ := mostOk_yes.1 ho
  have hf : f < b.A.length := by omega
  have ht : t < b.A.length := by omega
  have NT := fun u (hu : Below w.heap.size w u) => limNet_any x b f b.A.length u (hk.below hu) g.n6 (squareB_yes.2 ⟨g.pos, g.poss⟩) hf (fun k hk => g.may f k hf hk)
  have nb := netTo_bound (R := b.P) (i := f) (fun k hk => g.may f k hf hk) b.A.length (Nat.le_refl _)
  have hA : acctB (b.A.getD f a30).1 (b.A.getD f a30).2.1 (b.A.getD f a30).2.2 = true := g.acc f hf
  have RM := fun u => room_any _ _ _ cl hA u
  have l1 := limB_range (g.lim f t hf ht)
  have l2 := limB_range (g.muls f hf)
  have pr := posB_yes (g.may f t hf ht)
  have n6 := g.n6
  obtain ⟨m, cA, cB, cM, cP, bA, oA, bB, oB, bM, oM, bP, oP, hxx, hm, FL⟩ := hk.flat g
  subst hxx
  rw [← hm] at NT nb n6 hf ht
  obtain ⟨a0, a1, a2⟩ := FL.acc f hf
  have m0 := FL.mul f hf
  obtain ⟨g1, o1, d1, bb0, bb1⟩ := FL.bil f hf
  obtain ⟨g2, o2, d2, pp0, pp1⟩ := FL.pos f hf
  have q1 := bb1 t ht
  have r1 := pp1 t ht
  have nb : -432345564227567616 ≤ netTo b.P f m ∧ netTo b.P f m ≤ 432345564227567616 := by omega
  rw [← hm]
  generalize (b.A.getD f a30).1 = y0 at RM a0 ⊢
  generalize (b.A.getD f a30).2.1 = y1 at RM a1 ⊢
  generalize (b.A.getD f a30).2.2 = y2 at RM a2 ⊢
  generalize roomV y0 y1 y2 cl = R at RM ⊢
  generalize at2 b.P f t = p at r1 pr ⊢
  generalize at2 b.B f t = l at q1 l1 ⊢
  generalize b.M.getD f 0 = mu at m0 l2 ⊢
  generalize netTo b.P f m = N at NT nb ⊢
  have TL1 := fun u => till_any p l u (by omega) (by omega)
  have TL2 := fun u => till_any N mu u (by omega) (by omega)
  generalize tillV p l = T1 at TL1 ⊢
  generalize tillV N mu = T2 at TL2 ⊢
  obtain ⟨v1, hv1⟩ : ∃ v, min 1099511627776 R = v := ⟨_, rfl⟩
  obtain ⟨v2, hv2⟩ : ∃ v, min v1 T1 = v := ⟨_, rfl⟩
  obtain ⟨v3, hv3⟩ : ∃ v, min v2 T2 = v := ⟨_, rfl⟩
  obtain ⟨v4, hv4⟩ : ∃ v, max v3 0 = v := ⟨_, rfl⟩
  rw [hv1, hv2, hv3, hv4]
  have E1 : Hid (min 1099511627776 R = v1) := hv1
  have E2 : Hid (min v1 T1 = v2) := hv2
  have E3 : Hid (min v2 T2 = v3) := hv3
  have E4 : Hid (max v3 0 = v4) := hv4
  clear hv1 hv2 hv3 hv4
  have f1 : (f : Int) < (m : Int) := by omega
  have t1 : (t : Int) < (m : Int) := by omega
  obtain ⟨w2, hw2⟩ : ∃ w2, w2 = w.alloc (.cells #[.slice (some ⟨bA, oA, none⟩) m cA, .slice (some ⟨bB, oB, none⟩) m cB, .slice (some ⟨bM, oM, none⟩) m cM, .slice (some ⟨bP, oP, none⟩) m cP] 26) := ⟨_, rfl⟩
  have B2 : Hid (Below w.heap.size w w2) := by rw [hw2]; exact box_below _ _
  have X2 : Hid (Box4 w2 w.heap.size ⟨some ⟨bA, oA, none⟩, m, cA, some ⟨bB, oB, none⟩, m, cB, some ⟨bM, oM, none⟩, m, cM, some ⟨bP, oP, none⟩, m, cP⟩) := by rw [hw2]; exact Box4.new w ⟨some ⟨bA, oA, none⟩, m, cA, some ⟨bB, oB, none⟩, m, cB, some ⟨bM, oM, none⟩, m, cM, some ⟨bP, oP, none⟩, m, cP⟩ _ _
  have A0 : Hid (w.cell? ⟨bA, oA + f * 3, none⟩ = some (.int .i64 y0)) := a0
  have A1 : Hid (w.cell? ⟨bA, oA + f * 3 + 1, none⟩ = some (.int .i64 y1)) := a1
  have A2 : Hid (w.cell? ⟨bA, oA + f * 3 + 2, none⟩ = some (.int .i64 y2)) := a2
  have M0 : Hid (w.cell? ⟨bM, oM + f, none⟩ = some (.int .i64 mu)) := m0
  have Q0 : Hid (w.cell? ⟨bB, oB + f, none⟩ = some (.slice (some ⟨g1, o1, none⟩) m d1)) := bb0
  have R0 : Hid (w.cell? ⟨bP, oP + f, none⟩ = some (.slice (some ⟨g2, o2, none⟩) m d2)) := pp0
  have Q1 : Hid (w.cell? ⟨g1, o1 + t, none⟩ = some (.int .i64 l)) := q1
  have R1 : Hid (w.cell? ⟨g2, o2 + t, none⟩ = some (.int .i64 p)) := r1
  have NTT : Hid (∀ u, Below w.heap.size w u → Calls Try.prog 20 #[.agg #[.slice (some ⟨bA, oA, none⟩) m cA, .slice (some ⟨bB, oB, none⟩) m cB, .slice (some ⟨bM, oM, none⟩) m cM, .slice (some ⟨bP, oP, none⟩) m cP], .int .i64 f] u fun e w' => e = .returned (.int .i64 N) ∧ Below u.heap.size u w') := NT
  have T1H : Hid (∀ u, Calls Try.prog 19 #[.int .i64 p, .int .i64 l] u fun e w' => e = .returned (.int .i64 T1) ∧ Below u.heap.size u w') := TL1
  have T2H : Hid (∀ u, Calls Try.prog 19 #[.int .i64 N, .int .i64 mu] u fun e w' => e = .returned (.int .i64 T2) ∧ Below u.heap.size u w') := TL2
  have I := IS w2 B2.out
  obtain ⟨p0, p1, p2, p3⟩ := X2.out
  replace p0 : w2.cell? ⟨w.heap.size, 0, none⟩ = some (.slice (some ⟨bA, oA, none⟩) m cA) := p0
  replace p1 : w2.cell? ⟨w.heap.size, 1, none⟩ = some (.slice (some ⟨bB, oB, none⟩) m cB) := p1
  replace p2 : w2.cell? ⟨w.heap.size, 2, none⟩ = some (.slice (some ⟨bM, oM, none⟩) m cM) := p2
  replace p3 : w2.cell? ⟨w.heap.size, 3, none⟩ = some (.slice (some ⟨bP, oP, none⟩) m cP) := p3
  clear IS hk g ho hx hf ht hne hc hA nb l1 l2 pr n6 hm FL a0 a1 a2 m0 bb0 bb1 pp0 pp1 q1 r1 NT TL1 TL2
  go_enter Try.func7, Try.ntmps7
  go_upto_region 1 with fail
  rw [← hw2]
  clear hw2
  go_wp2_with fail
  go_at_call 16
  refine I.mono ?_
  rintro e w3 ⟨rfl, hb⟩
  have B3 : Hid (Below w.heap.size w w3) := B2.out.trans (hb.mono B2.out.size)
  have X3 : Hid (Box4 w3 w.heap.size ⟨some ⟨bA, oA, none⟩, m, cA, some ⟨bB, oB, none⟩, m, cB, some ⟨bM, oM, none⟩, m, cM, some ⟨bP, oP, none⟩, m, cP⟩) := X2.out.below hb
  clear hb I X2 B2 p0 p1 p2 p3
  obtain ⟨p0, p1, p2, p3⟩ := X3.out
  replace p0 : w3.cell? ⟨w.heap.size, 0, none⟩ = some (.slice (some ⟨bA, oA, none⟩) m cA) := p0
  replace p1 : w3.cell? ⟨w.heap.size, 1, none⟩ = some (.slice (some ⟨bB, oB, none⟩) m cB) := p1
  replace p2 : w3.cell? ⟨w.heap.size, 2, none⟩ = some (.slice (some ⟨bM, oM, none⟩) m cM) := p2
  replace p3 : w3.cell? ⟨w.heap.size, 3, none⟩ = some (.slice (some ⟨bP, oP, none⟩) m cP) := p3
  go_wp2_with fail
  go_at_call 17
  refine (MY _).mono ?_
  rintro e w4 ⟨rfl, hb⟩
  have B4 : Hid (Below w.heap.size w w4) := B3.out.trans (hb.mono B3.out.size)
  have X4 : Hid (Box4 w4 w.heap.size ⟨some ⟨bA, oA, none⟩, m, cA, some ⟨bB, oB, none⟩, m, cB, some ⟨bM, oM, none⟩, m, cM, some ⟨bP, oP, none⟩, m, cP⟩) := X3.out.below hb
  clear hb MY X3 B3 p0 p1 p2 p3
  obtain ⟨p0, p1, p2, p3⟩ := X4.out
  replace p0 : w4.cell? ⟨w.heap.size, 0, none⟩ = some (.slice (some ⟨bA, oA, none⟩) m cA) := p0
  have c0 := (B4.out.cell (p := ⟨bA, oA + f * 3, none⟩) (block_lt_of_cell A0.out)).trans A0.out
  have c1 := (B4.out.cell (p := ⟨bA, oA + f * 3 + 1, none⟩) (block_lt_of_cell A1.out)).trans A1.out
  have c2 := (B4.out.cell (p := ⟨bA, oA + f * 3 + 2, none⟩) (block_lt_of_cell A2.out)).trans A2.out
  clear p1 p2 p3
  go_wp2_with fail
  go_at_call 18
  refine (RM _).mono ?_
  rintro e w5 ⟨rfl, hb⟩
  have B5 : Hid (Below w.heap.size w w5) := B4.out.trans (hb.mono B4.out.size)
  have X5 : Hid (Box4 w5 w.heap.size ⟨some ⟨bA, oA, none⟩, m, cA, some ⟨bB, oB, none⟩, m, cB, some ⟨bM, oM, none⟩, m, cM, some ⟨bP, oP, none⟩, m, cP⟩) := X4.out.below hb
  clear hb RM X4 B4 p0 c0 c1 c2
  have hv1 := E1.out
  go_wp2_with fail
  clear hv1
  refine region_owesY (L := [Fact.is (.int .i64 v1),
    Fact.is (.pointer (some ⟨w.heap.size, 3, none⟩)),
    Fact.is (.slice (some ⟨bP, oP, none⟩) m cP),
    Fact.is (.int .i64 f),
    Fact.is (.pointer (some ⟨bP, oP + f, none⟩)),
    Fact.is (.slice (some ⟨g2, o2, none⟩) m d2),
    Fact.is (.int .i64 t),
    Fact.is (.pointer (some ⟨g2, o2 + t, none⟩)),
    Fact.is (.int .i64 p),
    Fact.is (.pointer (some ⟨w.heap.size, 1, none⟩)),
    Fact.is (.slice (some ⟨bB, oB, none⟩) m cB),
    Fact.is (.int .i64 f),
    Fact.is (.pointer (some ⟨bB, oB + f, none⟩)),
    Fact.is (.slice (some ⟨g1, o1, none⟩) m d1),
    Fact.is (.int .i64 t),
    Fact.is (.pointer (some ⟨g1, o1 + t, none⟩)),
    Fact.is (.int .i64 l),
    Fact.is (.int .i64 T1),
    Fact.is (.int .i64 v2),
    Fact.is (.int .i64 v2)])
    (T := [30, 31, 32, 33, 34, 35, 36, 37, 38, 39, 40, 41, 42, 43, 44, 45, 46, 47, 48, 9]) (by kernel_rfl) (by kernel_rfl) rfl ?owes ?_
  case owes =>
    refine .cons (owesY_move 9 (.int .i64 v1) rfl rfl (by kernel_rfl) rfl rfl) ?_
    refine .cons (OwesT.y (owes_value fun q u lh => ⟨wants_free rfl, .pointer (some ⟨w.heap.size, 3, none⟩), by have e4 : q.tmps.getD 4 undef = .pointer (some ⟨w.heap.size, 0, none⟩) := lh.old 4 rfl; simp [execOp, Act.eval, e4, go_sem], rfl⟩)) ?_
    refine .cons (OwesT.y (owes_value fun q u lh => ⟨wants_free rfl, .slice (some ⟨bP, oP, none⟩) m cP, by have e31 : q.tmps.getD 31 undef = .pointer (some ⟨w.heap.size, 3, none⟩) := lh.dep 1 rfl; obtain ⟨p0, p1, p2, p3⟩ := X5.out.below lh.below; simp [execOp, Act.eval, e31, p3, go_sem], rfl⟩)) ?_
    refine .cons (OwesT.y (owes_move (.tmp 1) (.inl rfl) fun q u lh => ⟨wants_free rfl, lh.old 1 rfl⟩)) ?_
    refine .cons (OwesT.y (owes_value fun q u lh => ⟨wants_free rfl, .pointer (some ⟨bP, oP + f, none⟩), by have e32 : q.tmps.getD 32 undef = .slice (some ⟨bP, oP, none⟩) m cP := lh.dep 2 rfl; have e33 : q.tmps.getD 33 undef = .int .i64 f := lh.dep 3 rfl; simp [execOp, Act.eval, e32, e33, f1, go_sem], rfl⟩)) ?_
    refine .cons (OwesT.y (owes_value fun q u lh => ⟨wants_free rfl, .slice (some ⟨g2, o2, none⟩) m d2, by have e34 : q.tmps.getD 34 undef = .pointer (some ⟨bP, oP + f, none⟩) := lh.dep 4 rfl; have hbw := B5.out.trans (lh.below.mono B5.out.size); have z1 := (hbw.cell (p := ⟨bP, oP + f, none⟩) (block_lt_of_cell R0.out)).trans R0.out; simp [execOp, Act.eval, e34, z1, go_sem], rfl⟩)) ?_
    refine .cons (OwesT.y (owes_move (.tmp 2) (.inl rfl) fun q u lh => ⟨wants_free rfl, lh.old 2 rfl⟩)) ?_
    refine .cons (OwesT.y (owes_value fun q u lh => ⟨wants_free rfl, .pointer (some ⟨g2, o2 + t, none⟩), by have e35 : q.tmps.getD 35 undef = .slice (some ⟨g2, o2, none⟩) m d2 := lh.dep 5 rfl; have e36 : q.tmps.getD 36 undef = .int .i64 t := lh.dep 6 rfl; simp [execOp, Act.eval, e35, e36, t1, go_sem], rfl⟩)) ?_
    refine .cons (OwesT.y (owes_value fun q u lh => ⟨wants_free rfl, .int .i64 p, by have e37 : q.tmps.getD 37 undef = .pointer (some ⟨g2, o2 + t, none⟩) := lh.dep 7 rfl; have hbw := B5.out.trans (lh.below.mono B5.out.size); have z1 := (hbw.cell (p := ⟨g2, o2 + t, none⟩) (block_lt_of_cell R1.out)).trans R1.out; simp [execOp, Act.eval, e37, z1, go_sem], rfl⟩)) ?_
    refine .cons (OwesT.y (owes_value fun q u lh => ⟨wants_free rfl, .pointer (some ⟨w.heap.size, 1, none⟩), by have e4 : q.tmps.getD 4 undef = .pointer (some ⟨w.heap.size, 0, none⟩) := lh.old 4 rfl; simp [execOp, Act.eval, e4, go_sem], rfl⟩)) ?_
    refine .cons (OwesT.y (owes_value fun q u lh => ⟨wants_free rfl, .slice (some ⟨bB, oB, none⟩) m cB, by have e39 : q.tmps.getD 39 undef = .pointer (some ⟨w.heap.size, 1, none⟩) := lh.dep 9 rfl; obtain ⟨p0, p1, p2, p3⟩ := X5.out.below lh.below; simp [execOp, Act.eval, e39, p1, go_sem], rfl⟩)) ?_
    refine .cons (OwesT.y (owes_move (.tmp 1) (.inl rfl) fun q u lh => ⟨wants_free rfl, lh.old 1 rfl⟩)) ?_
    refine .cons (OwesT.y (owes_value fun q u lh => ⟨wants_free rfl, .pointer (some ⟨bB, oB + f, none⟩), by have e40 : q.tmps.getD 40 undef = .slice (some ⟨bB, oB, none⟩) m cB := lh.dep 10 rfl; have e41 : q.tmps.getD 41 undef = .int .i64 f := lh.dep 11 rfl; simp [execOp, Act.eval, e40, e41, f1, go_sem], rfl⟩)) ?_
    refine .cons (OwesT.y (owes_value fun q u lh => ⟨wants_free rfl, .slice (some ⟨g1, o1, none⟩) m d1, by have e42 : q.tmps.getD 42 undef = .pointer (some ⟨bB, oB + f, none⟩) := lh.dep 12 rfl; have hbw := B5.out.trans (lh.below.mono B5.out.size); have z1 := (hbw.cell (p := ⟨bB, oB + f, none⟩) (block_lt_of_cell Q0.out)).trans Q0.out; simp [execOp, Act.eval, e42, z1, go_sem], rfl⟩)) ?_
    refine .cons (OwesT.y (owes_move (.tmp 2) (.inl rfl) fun q u lh => ⟨wants_free rfl, lh.old 2 rfl⟩)) ?_
    refine .cons (OwesT.y (owes_value fun q u lh => ⟨wants_free rfl, .pointer (some ⟨g1, o1 + t, none⟩), by have e43 : q.tmps.getD 43 undef = .slice (some ⟨g1, o1, none⟩) m d1 := lh.dep 13 rfl; have e44 : q.tmps.getD 44 undef = .int .i64 t := lh.dep 14 rfl; simp [execOp, Act.eval, e43, e44, t1, go_sem], rfl⟩)) ?_
    refine .cons (OwesT.y (owes_value fun q u lh => ⟨wants_free rfl, .int .i64 l, by have e45 : q.tmps.getD 45 undef = .pointer (some ⟨g1, o1 + t, none⟩) := lh.dep 15 rfl; have hbw := B5.out.trans (lh.below.mono B5.out.size); have z1 := (hbw.cell (p := ⟨g1, o1 + t, none⟩) (block_lt_of_cell Q1.out)).trans Q1.out; simp [execOp, Act.eval, e45, z1, go_sem], rfl⟩)) ?_
    refine .cons (OwesT.y (owes_call 19 Try.func19 (by kernel_rfl) (by kernel_rfl) [.tmp 38, .tmp 46] #[2, 2] rfl fun q u lh => ⟨wants_free rfl, by have e38 : q.tmps.getD 38 undef = .int .i64 p := lh.dep 8 rfl; have e46 : q.tmps.getD 46 undef = .int .i64 l := lh.dep 16 rfl; show Calls Try.prog 19 #[q.tmps.getD 38 undef, q.tmps.getD 46 undef] u _; rw [e38, e46]; exact int_fact (T1H.out u)⟩)) ?_
    refine .cons (OwesT.y (owes_value fun q u lh => ⟨wants_free rfl, .int .i64 v2, by have e30 : q.tmps.getD 30 undef = .int .i64 v1 := lh.dep 0 rfl; have e47 : q.tmps.getD 47 undef = .int .i64 T1 := lh.dep 17 rfl; simp [execOp, Act.eval, e30, e47, E2.out, go_sem], rfl⟩)) ?_
    refine .cons (OwesT.y (owes_move (.tmp 48) (.inr rfl) fun q u lh => ⟨wants_free rfl, lh.dep 18 rfl⟩)) ?_
    exact .nil _
  intro q u hb hsz hdf hold hfact
  have B6 : Hid (Below w.heap.size w u) := B5.out.trans (hb.mono B5.out.size)
  have X6 : Hid (Box4 u w.heap.size ⟨some ⟨bA, oA, none⟩, m, cA, some ⟨bB, oB, none⟩, m, cB, some ⟨bM, oM, none⟩, m, cM, some ⟨bP, oP, none⟩, m, cP⟩) := X5.out.below hb
  obtain ⟨u6, rfl⟩ : ∃ z, z = u := ⟨u, rfl⟩
  obtain rfl := frame_puts hsz hdf [30, 31, 32, 33, 34, 35, 36, 37, 38, 39, 40, 41, 42, 43, 44, 45, 46, 47, 48, 9] hold [(30, Value.int .i64 v1), (31, Value.pointer (some ⟨w.heap.size, 3, none⟩)), (32, Value.slice (some ⟨bP, oP, none⟩) m cP), (33, Value.int .i64 f), (34, Value.pointer (some ⟨bP, oP + f, none⟩)), (35, Value.slice (some ⟨g2, o2, none⟩) m d2), (36, Value.int .i64 t), (37, Value.pointer (some ⟨g2, o2 + t, none⟩)), (38, Value.int .i64 p), (39, Value.pointer (some ⟨w.heap.size, 1, none⟩)), (40, Value.slice (some ⟨bB, oB, none⟩) m cB), (41, Value.int .i64 f), (42, Value.pointer (some ⟨bB, oB + f, none⟩)), (43, Value.slice (some ⟨g1, o1, none⟩) m d1), (44, Value.int .i64 t), (45, Value.pointer (some ⟨g1, o1 + t, none⟩)), (46, Value.int .i64 l), (47, Value.int .i64 T1), (48, Value.int .i64 v2), (9, Value.int .i64 v2)] ⟨hfact 0 (by decide), hfact 1 (by decide), hfact 2 (by decide), hfact 3 (by decide), hfact 4 (by decide), hfact 5 (by decide), hfact 6 (by decide), hfact 7 (by decide), hfact 8 (by decide), hfact 9 (by decide), hfact 10 (by decide), hfact 11 (by decide), hfact 12 (by decide), hfact 13 (by decide), hfact 14 (by decide), hfact 15 (by decide), hfact 16 (by decide), hfact 17 (by decide), hfact 18 (by decide), hfact 19 (by decide), trivial⟩ rfl
  clear hsz hdf hold hfact
  clear hb X5 B5
  simp only [puts, Act.put, List.setIfInBounds_toArray, List.set_cons_zero, List.set_cons_succ]
  go_wp2_with fail
  refine region_owesY (L := [Fact.is (.int .i64 v2),
    Fact.is (.agg #[.slice (some ⟨bA, oA, none⟩) m cA, .slice (some ⟨bB, oB, none⟩) m cB, .slice (some ⟨bM, oM, none⟩) m cM, .slice (some ⟨bP, oP, none⟩) m cP]),
    Fact.is (.int .i64 f),
    Fact.is (.int .i64 N),
    Fact.is (.pointer (some ⟨w.heap.size, 2, none⟩)),
    Fact.is (.slice (some ⟨bM, oM, none⟩) m cM),
    Fact.is (.int .i64 f),
    Fact.is (.pointer (some ⟨bM, oM + f, none⟩)),
    Fact.is (.int .i64 mu),
    Fact.is (.int .i64 T2),
    Fact.is (.int .i64 v3),
    Fact.is (.int .i64 v3)])
    (T := [49, 50, 51, 52, 53, 54, 55, 56, 57, 58, 59, 9]) (by kernel_rfl) (by kernel_rfl) rfl ?owes ?_
  case owes =>
    refine .cons (owesY_move 9 (.int .i64 v2) rfl rfl (by kernel_rfl) rfl rfl) ?_
    refine .cons (OwesT.y (owes_value fun q u lh => ⟨wants_free rfl, .agg #[.slice (some ⟨bA, oA, none⟩) m cA, .slice (some ⟨bB, oB, none⟩) m cB, .slice (some ⟨bM, oM, none⟩) m cM, .slice (some ⟨bP, oP, none⟩) m cP], by have e4 : q.tmps.getD 4 undef = .pointer (some ⟨w.heap.size, 0, none⟩) := lh.old 4 rfl; obtain ⟨p0, p1, p2, p3⟩ := X6.out.below lh.below; simp [execOp, Act.eval, e4, p0, p1, p2, p3, go_sem], rfl⟩)) ?_
    refine .cons (OwesT.y (owes_move (.tmp 1) (.inl rfl) fun q u lh => ⟨wants_free rfl, lh.old 1 rfl⟩)) ?_
    refine .cons (OwesT.y (owes_call 20 Try.func20 (by kernel_rfl) (by kernel_rfl) [.tmp 50, .tmp 51] #[26, 3] rfl fun q u lh => ⟨wants_free rfl, by have e50 : q.tmps.getD 50 undef = .agg #[.slice (some ⟨bA, oA, none⟩) m cA, .slice (some ⟨bB, oB, none⟩) m cB, .slice (some ⟨bM, oM, none⟩) m cM, .slice (some ⟨bP, oP, none⟩) m cP] := lh.dep 1 rfl; have e51 : q.tmps.getD 51 undef = .int .i64 f := lh.dep 2 rfl; show Calls Try.prog 20 #[q.tmps.getD 50 undef, q.tmps.getD 51 undef] u _; rw [e50, e51]; exact int_fact (NTT.out u (B6.out.trans (lh.below.mono B6.out.size)))⟩)) ?_
    refine .cons (OwesT.y (owes_value fun q u lh => ⟨wants_free rfl, .pointer (some ⟨w.heap.size, 2, none⟩), by have e4 : q.tmps.getD 4 undef = .pointer (some ⟨w.heap.size, 0, none⟩) := lh.old 4 rfl; simp [execOp, Act.eval, e4, go_sem], rfl⟩)) ?_
    refine .cons (OwesT.y (owes_value fun q u lh => ⟨wants_free rfl, .slice (some ⟨bM, oM, none⟩) m cM, by have e53 : q.tmps.getD 53 undef = .pointer (some ⟨w.heap.size, 2, none⟩) := lh.dep 4 rfl; obtain ⟨p0, p1, p2, p3⟩ := X6.out.below lh.below; simp [execOp, Act.eval, e53, p2, go_sem], rfl⟩)) ?_
    refine .cons (OwesT.y (owes_move (.tmp 1) (.inl rfl) fun q u lh => ⟨wants_free rfl, lh.old 1 rfl⟩)) ?_
    refine .cons (OwesT.y (owes_value fun q u lh => ⟨wants_free rfl, .pointer (some ⟨bM, oM + f, none⟩), by have e54 : q.tmps.getD 54 undef = .slice (some ⟨bM, oM, none⟩) m cM := lh.dep 5 rfl; have e55 : q.tmps.getD 55 undef = .int .i64 f := lh.dep 6 rfl; simp [execOp, Act.eval, e54, e55, f1, go_sem], rfl⟩)) ?_
    refine .cons (OwesT.y (owes_value fun q u lh => ⟨wants_free rfl, .int .i64 mu, by have e56 : q.tmps.getD 56 undef = .pointer (some ⟨bM, oM + f, none⟩) := lh.dep 7 rfl; have hbw := B6.out.trans (lh.below.mono B6.out.size); have z1 := (hbw.cell (p := ⟨bM, oM + f, none⟩) (block_lt_of_cell M0.out)).trans M0.out; simp [execOp, Act.eval, e56, z1, go_sem], rfl⟩)) ?_
    refine .cons (OwesT.y (owes_call 19 Try.func19 (by kernel_rfl) (by kernel_rfl) [.tmp 52, .tmp 57] #[2, 2] rfl fun q u lh => ⟨wants_free rfl, by have e52 : q.tmps.getD 52 undef = .int .i64 N := lh.dep 3 rfl; have e57 : q.tmps.getD 57 undef = .int .i64 mu := lh.dep 8 rfl; show Calls Try.prog 19 #[q.tmps.getD 52 undef, q.tmps.getD 57 undef] u _; rw [e52, e57]; exact int_fact (T2H.out u)⟩)) ?_
    refine .cons (OwesT.y (owes_value fun q u lh => ⟨wants_free rfl, .int .i64 v3, by have e49 : q.tmps.getD 49 undef = .int .i64 v2 := lh.dep 0 rfl; have e58 : q.tmps.getD 58 undef = .int .i64 T2 := lh.dep 9 rfl; simp [execOp, Act.eval, e49, e58, E3.out, go_sem], rfl⟩)) ?_
    refine .cons (OwesT.y (owes_move (.tmp 59) (.inr rfl) fun q u lh => ⟨wants_free rfl, lh.dep 10 rfl⟩)) ?_
    exact .nil _
  intro q u hb hsz hdf hold hfact
  have B7 : Hid (Below w.heap.size w u) := B6.out.trans (hb.mono B6.out.size)
  obtain ⟨u7, rfl⟩ : ∃ z, z = u := ⟨u, rfl⟩
  obtain rfl := frame_puts hsz hdf [49, 50, 51, 52, 53, 54, 55, 56, 57, 58, 59, 9] hold [(49, Value.int .i64 v2), (50, Value.agg #[.slice (some ⟨bA, oA, none⟩) m cA, .slice (some ⟨bB, oB, none⟩) m cB, .slice (some ⟨bM, oM, none⟩) m cM, .slice (some ⟨bP, oP, none⟩) m cP]), (51, Value.int .i64 f), (52, Value.int .i64 N), (53, Value.pointer (some ⟨w.heap.size, 2, none⟩)), (54, Value.slice (some ⟨bM, oM, none⟩) m cM), (55, Value.int .i64 f), (56, Value.pointer (some ⟨bM, oM + f, none⟩)), (57, Value.int .i64 mu), (58, Value.int .i64 T2), (59, Value.int .i64 v3), (9, Value.int .i64 v3)] ⟨hfact 0 (by decide), hfact 1 (by decide), hfact 2 (by decide), hfact 3 (by decide), hfact 4 (by decide), hfact 5 (by decide), hfact 6 (by decide), hfact 7 (by decide), hfact 8 (by decide), hfact 9 (by decide), hfact 10 (by decide), hfact 11 (by decide), trivial⟩ rfl
  clear hsz hdf hold hfact
  clear hb X6 B6
  simp only [puts, Act.put, List.setIfInBounds_toArray, List.set_cons_zero, List.set_cons_succ]
  have e4 := E4.out
  go_wp2
  go_ret
  exact ⟨rfl, B7.out⟩

set_option maxHeartbeats 2000000 in
theorem most_any (x : BA) (b : Bks) (f t cl : Int) (w : World) (hk : Bk w x b) (g : Good b) :
    Calls Try.prog 7 #[x.val, .int .i64 f, .int .i64 t, .int .i64 cl] w fun e w' => e = .returned (.int .i64 (mostV b f t cl)) ∧ Below w.heap.size w w' := by
  cases ho : mostOk b.A.length f t cl with
  | true =>
    obtain ⟨hf, ht, _, _⟩ := mostOk_yes.1 ho
    obtain ⟨F, rfl⟩ : ∃ F : Nat, f = F := ⟨f.toNat, by omega⟩
    obtain ⟨T, rfl⟩ : ∃ T : Nat, t = T := ⟨t.toNat, by omega⟩
    exact most_in x b F T cl w hk g ho
  | false =>
    rw [mostV_not ho]
    have IS := fun u (hu : Below w.heap.size w u) => limIs_any x b u (hk.below hu)
    rw [booksB_yes.2 g] at IS
    have MY := fun u => fitsMay_any x (0, f, t, 1, cl, 0, 0) u
    have hx : x.nA = b.A.length := hk.acc.1
    rw [hx, mayB_most, ho] at MY
    obtain ⟨aA, nA, cA, aB, nB, cB, aM, nM, cM, aP, nP, cP⟩ := x
    obtain ⟨w2, hw2⟩ : ∃ w2, w2 = w.alloc (.cells #[.slice aA nA cA, .slice aB nB cB, .slice aM nM cM, .slice aP nP cP] 26) := ⟨_, rfl⟩
    have B2 : Hid (Below w.heap.size w w2) := by rw [hw2]; exact box_below _ _
    have X2 : Hid (Box4 w2 w.heap.size ⟨aA, nA, cA, aB, nB, cB, aM, nM, cM, aP, nP, cP⟩) := by rw [hw2]; exact Box4.new w ⟨aA, nA, cA, aB, nB, cB, aM, nM, cM, aP, nP, cP⟩ _ _
    have I := IS w2 B2.out
    obtain ⟨p0, p1, p2, p3⟩ := X2.out
    replace p0 : w2.cell? ⟨w.heap.size, 0, none⟩ = some (.slice aA nA cA) := p0
    replace p1 : w2.cell? ⟨w.heap.size, 1, none⟩ = some (.slice aB nB cB) := p1
    replace p2 : w2.cell? ⟨w.heap.size, 2, none⟩ = some (.slice aM nM cM) := p2
    replace p3 : w2.cell? ⟨w.heap.size, 3, none⟩ = some (.slice aP nP cP) := p3
    clear IS hk g ho hx
    go_enter Try.func7, Try.ntmps7
    go_upto_region 1 with fail
    rw [← hw2]
    clear hw2
    go_wp2_with fail
    go_at_call 16
    refine I.mono ?_
    rintro e w3 ⟨rfl, hb⟩
    have B3 : Hid (Below w.heap.size w w3) := B2.out.trans (hb.mono B2.out.size)
    have X3 : Hid (Box4 w3 w.heap.size ⟨aA, nA, cA, aB, nB, cB, aM, nM, cM, aP, nP, cP⟩) := X2.out.below hb
    clear hb I X2 B2 p0 p1 p2 p3
    obtain ⟨p0, p1, p2, p3⟩ := X3.out
    replace p0 : w3.cell? ⟨w.heap.size, 0, none⟩ = some (.slice aA nA cA) := p0
    replace p1 : w3.cell? ⟨w.heap.size, 1, none⟩ = some (.slice aB nB cB) := p1
    replace p2 : w3.cell? ⟨w.heap.size, 2, none⟩ = some (.slice aM nM cM) := p2
    replace p3 : w3.cell? ⟨w.heap.size, 3, none⟩ = some (.slice aP nP cP) := p3
    go_wp2_with fail
    go_at_call 17
    refine (MY _).mono ?_
    rintro e w4 ⟨rfl, hb⟩
    have B4 : Hid (Below w.heap.size w w4) := B3.out.trans (hb.mono B3.out.size)
    clear hb MY X3 B3 p0 p1 p2 p3
    go_wp2
    go_ret
    exact ⟨rfl, B4.out⟩

end Go.Proofs.Ytcdahjkngejkeaa
