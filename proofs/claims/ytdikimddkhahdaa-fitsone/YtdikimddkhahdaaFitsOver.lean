/-
  fits: is a limit passed?
-/
import Derived.Test.YtdikimddkhahdaaFitsLack
import Derived.Test.YtdikimddkhahdaaBkFlat
namespace Go.Proofs.Ytdikimddkhahdaa
open Go.RowKit
set_option linter.unusedVariables false
set_option linter.unusedSimpArgs false

/-- Is its limit to j passed? that to all? n: how many parties. -/
def passZ (b : Bks) (z : List Int) (i j : Nat) : Bool := decide (0 < z.getD (i * 6 + j) 0) && aboveB (at2 b.P i j + z.getD (i * 6 + j) 0 - z.getD (j * 6 + i) 0) (at2 b.B i j)
def overZ (b : Bks) (z : List Int) (n i : Nat) : Bool := (List.range 6).any (passZ b z i) || aboveB (netTo b.P i n + outZ z i - inZ z i) (b.M.getD i 0)
theorem overZ_yes {b : Bks} {z : List Int} {n i j : Nat} (hj : j < 6) (h : passZ b z i j = true) : true = overZ b z n i := by
  unfold overZ
  rw [show (List.range 6).any (passZ b z i) = true from List.any_eq_true.2 ⟨j, List.mem_range.2 hj, h⟩]
  rfl
theorem overZ_no {b : Bks} {z : List Int} {n i : Nat} (h : ∀ j, j < 6 → passZ b z i j = false) : aboveB (netTo b.P i n + outZ z i - inZ z i) (b.M.getD i 0) = overZ b z n i := by
  unfold overZ
  rw [show (List.range 6).any (passZ b z i) = false from by
    rw [Bool.eq_false_iff]
    intro ha
    obtain ⟨j, hj, hp⟩ := List.any_eq_true.1 ha
    rw [h j (List.mem_range.1 hj)] at hp
    exact Bool.noConfusion hp]
  rfl

set_option maxHeartbeats 8000000 in
set_option maxRecDepth 100000 in
theorem exceeds_any (x : BA) (b : Bks) (z : List Int) (i : Nat) (w : World) (hk : Bk w x b) (g : Good b) (h : MvOk z) (hi : i < b.A.length) (h0 : ∀ j, b.A.length ≤ j → j < 6 → z.getD (i * 6 + j) 0 = 0) :
    Calls Try.prog 39 #[x.val, .agg (mvA z), .int .i64 i] w fun e w' => e = .returned (.bool (overZ b z b.A.length i)) ∧ Below w.heap.size w w' := by
  have HK : Hid (Bk w x b) := hk
  have HX : Hid (x = x) := rfl
  obtain ⟨n, cA, cB, cM, cP, bA, oA, bB, oB, bM, oM, bP, oP, hx, hn, FL⟩ := hk.flat g
  have NET := fun u (hu : Below w.heap.size w u) => limNet_any x b i b.A.length u (HK.out.below hu) g.n6 (squareB_yes.2 ⟨g.pos, g.poss⟩) hi (fun k hk => g.may i k hi hk)
  have nb := netTo_bound (R := b.P) (m := b.A.length) (i := i) (fun k hk => g.may i k hi hk) b.A.length (Nat.le_refl _)
  have n6 := g.n6
  have HG : Hid (∀ k, k < n → posB (at2 b.P i k) = true) := fun k hk => g.may i k hi (by omega)
  have H0 : Hid (∀ j, n ≤ j → j < 6 → z.getD (i * 6 + j) 0 = 0) := fun j h1 h2 => h0 j (by omega) h2
  rw [← hn] at NET nb hi n6 ⊢
  subst hx
  have HH : Hid (n ≤ 6) := n6
  have OUT := fun u => out_any z i u h (by omega)
  have IN := fun u => in_any z i u h (by omega)
  have ob := outZ_range h i
  have ib := inZ_range h i
  have HZ : Hid (z.length = 42) := h.len
  have HZR : Hid (∀ j, 0 ≤ z.getD j 0 ∧ z.getD j 0 ≤ 70368744177664) := h.le
  obtain ⟨w2, hw2⟩ : ∃ w2, w2 = (w.alloc (.cells #[.slice (some ⟨bA, oA, none⟩) n cA, .slice (some ⟨bB, oB, none⟩) n cB, .slice (some ⟨bM, oM, none⟩) n cM, .slice (some ⟨bP, oP, none⟩) n cP] 26)).alloc (.cells (mvA z) 60) := ⟨_, rfl⟩
  have B2 : Hid (Below w.heap.size w w2) := by rw [hw2]; exact (box_below _ _).alloc (box_below _ _).size _
  have X2 : Hid (Box4 w2 w.heap.size ⟨some ⟨bA, oA, none⟩, n, cA, some ⟨bB, oB, none⟩, n, cB, some ⟨bM, oM, none⟩, n, cM, some ⟨bP, oP, none⟩, n, cP⟩) := by rw [hw2]; exact (Box4.new w ⟨some ⟨bA, oA, none⟩, n, cA, some ⟨bB, oB, none⟩, n, cB, some ⟨bM, oM, none⟩, n, cM, some ⟨bP, oP, none⟩, n, cP⟩ _ _).below (box_below _ _)
  have M2 : Hid (MvAt w2 (w.heap.size + 1) z) := by
    rw [hw2, ← size_alloc w (.cells #[.slice (some ⟨bA, oA, none⟩) n cA, .slice (some ⟨bB, oB, none⟩) n cB, .slice (some ⟨bM, oM, none⟩) n cM, .slice (some ⟨bP, oP, none⟩) n cP] 26)]
    exact MvAt.new _ z h.len _ _
  have FW : Hid (Flat w2 b n bA oA bB oB bM oM bP oP) := FL.below B2.out
  have i1 : (i : Int) < (n : Int) := by omega
  have i6 : (i : Int) < 6 := by omega
  have x0 := M2.out (i * 6) (by omega)
  have x1 := M2.out (i * 6 + 1) (by omega)
  have x2 := M2.out (i * 6 + 2) (by omega)
  have x3 := M2.out (i * 6 + 3) (by omega)
  have x4 := M2.out (i * 6 + 4) (by omega)
  have x5 := M2.out (i * 6 + 5) (by omega)
  have HI : Hid (∀ j : Nat, j < 6 → ∀ w, (Instr.index 57 (.agg #[.int .i64 (z.getD (i * 6) 0), .int .i64 (z.getD (i * 6 + 1) 0), .int .i64 (z.getD (i * 6 + 2) 0), .int .i64 (z.getD (i * 6 + 3) 0), .int .i64 (z.getD (i * 6 + 4) 0), .int .i64 (z.getD (i * 6 + 5) 0)]) (.int .i64 j)).run Try.prog w = .ok (.int .i64 (z.getD (i * 6 + j) 0)) w) := fun j hj w => index_six _ j hj _ (by
    rcases (by omega : j = 0 ∨ j = 1 ∨ j = 2 ∨ j = 3 ∨ j = 4 ∨ j = 5) with rfl | rfl | rfl | rfl | rfl | rfl <;> rfl) w
  generalize z.getD (i * 6) 0 = y0 at x0 HI
  generalize z.getD (i * 6 + 1) 0 = y1 at x1 HI
  generalize z.getD (i * 6 + 2) 0 = y2 at x2 HI
  generalize z.getD (i * 6 + 3) 0 = y3 at x3 HI
  generalize z.getD (i * 6 + 4) 0 = y4 at x4 HI
  generalize z.getD (i * 6 + 5) 0 = y5 at x5 HI
  have HN : Hid (-432345564227567616 ≤ netTo b.P i n ∧ netTo b.P i n ≤ 432345564227567616) := by show _ ∧ _; omega
  have HOB : Hid (0 ≤ outZ z i ∧ outZ z i ≤ 422212465065984) := ob
  have HIB : Hid (0 ≤ inZ z i ∧ inZ z i ≤ 422212465065984) := ib
  have HIN : Hid (i < n) := hi
  clear hn FL nb h h0 g hk ob ib n6 hi
  go_enter Try.func39, Try.ntmps39
  go_upto_region 1 with fail
  rw [← hw2]
  clear hw2
  go_wp2_with fail
  clear x0 x1 x2 x3 x4 x5
  go_loopw [7, 8, 13] (fun tj tn t wr => ∃ k : Nat, k ≤ 6 ∧ t = .int .i64 k ∧ (∀ j, j < k → passZ b z i j = false) ∧ Below w2.heap.size w2 wr) (fun _ _ t _ => 6 - (intOf t).toNat)
  case atStart => exact ⟨0, by omega, rfl, fun j hj => by omega, Below.refl _ _⟩
  case round =>
    obtain ⟨j, hj, rfl, hno, hb⟩ := hrel
    have HNO : Hid (∀ k, k < j → passZ b z i k = false) := hno
    have B3 : Hid (Below w2.heap.size w2 wr) := hb
    have BW : Hid (Below w.heap.size w wr) := B2.out.trans (hb.mono B2.out.size)
    have X3 : Hid (Box4 wr w.heap.size ⟨some ⟨bA, oA, none⟩, n, cA, some ⟨bB, oB, none⟩, n, cB, some ⟨bM, oM, none⟩, n, cM, some ⟨bP, oP, none⟩, n, cP⟩) := X2.out.below hb
    have M3 : Hid (MvAt wr (w.heap.size + 1) z) := M2.out.below hb
    have F3 : Hid (Flat wr b n bA oA bB oB bM oM bP oP) := FW.out.below hb
    clear hno hb
    by_cases hlt : j < 6
    · have j6 : (j : Int) < 6 := by omega
      have e0 := HI.out j hlt
      have HP : Hid (passZ b z i j = (decide (0 < z.getD (i * 6 + j) 0) && aboveB (at2 b.P i j + z.getD (i * 6 + j) 0 - z.getD (j * 6 + i) 0) (at2 b.B i j))) := rfl
      have c1 := HZR.out (i * 6 + j)
      have c2 := HZR.out (j * 6 + i)
      have hz := fun hj => H0.out j hj hlt
      have M4 : Hid (∀ u, MvAt u (w.heap.size + 1) z → u.cell? ⟨w.heap.size + 1, j * 6 + i, none⟩ = some (.int .i64 (z.getD (j * 6 + i) 0))) := fun u H => H (j * 6 + i) (by have := HH.out; have := HIN.out; omega)
      generalize z.getD (i * 6 + j) 0 = v at e0 HP c1 hz
      generalize z.getD (j * 6 + i) 0 = y at HP c2 M4
      rcases Int.lt_or_le 0 v with hv | hv
      · have hjn : j < n := by
          rcases Nat.lt_or_ge j n with h | h
          · exact h
          · have := hz h; omega
        have j1 : (j : Int) < (n : Int) := by omega
        have hp := posB_yes (HG.out j hjn)
        obtain ⟨g1, o1, d1, b0, b1⟩ := F3.out.bil i HIN.out
        have bc := b1 j hjn
        obtain ⟨g2, o2, d2, r0, r1⟩ := F3.out.pos i HIN.out
        have pc := r1 j hjn
        generalize at2 b.P i j = p at HP hp pc
        generalize at2 b.B i j = l at HP bc
        obtain ⟨s1, hs1⟩ : ∃ s1, p + v = s1 := ⟨_, rfl⟩
        obtain ⟨s2, hs2⟩ : ∃ s2, s1 - y = s2 := ⟨_, rfl⟩
        have W1 : Hid (IntKind.i64.wrap (p + v) = s1) := by show _ = _; rw [hs1]; exact i64_wf (by omega) (by omega)
        have W2 : Hid (IntKind.i64.wrap (s1 - y) = s2) := by show _ = _; rw [hs2]; exact i64_wf (by omega) (by omega)
        have HV : Hid (decide (0 < v) = true) := decide_eq_true hv
        rw [hs1, hs2, HV.out, Bool.true_and] at HP
        have A := fun u => isAbove_any s2 l u
        generalize aboveB s2 l = R at A HP
        clear hs1 hs2 hv hz hp c1 c2 b1 r1
        have R0 : Hid (wr.cell? ⟨bP, oP + i, none⟩ = some (.slice (some ⟨g2, o2, none⟩) n d2)) := r0
        have R1 : Hid (wr.cell? ⟨g2, o2 + j, none⟩ = some (.int .i64 p)) := pc
        have Q0 : Hid (wr.cell? ⟨bB, oB + i, none⟩ = some (.slice (some ⟨g1, o1, none⟩) n d1)) := b0
        have Q1 : Hid (wr.cell? ⟨g1, o1 + j, none⟩ = some (.int .i64 l)) := bc
        clear r0 pc b0 bc
        go_wp2_with fail
        refine region_owes (L := [Fact.is (.int .i64 v),
          Fact.is (.bool true),
          Fact.is (.bool true),
          Fact.is (.pointer (some ⟨w.heap.size, 3, none⟩)),
          Fact.is (.slice (some ⟨bP, oP, none⟩) n cP),
          Fact.is (.int .i64 i),
          Fact.is (.pointer (some ⟨bP, oP + i, none⟩)),
          Fact.is (.slice (some ⟨g2, o2, none⟩) n d2),
          Fact.is (.int .i64 j),
          Fact.is (.pointer (some ⟨g2, o2 + j, none⟩)),
          Fact.is (.int .i64 p),
          Fact.is (.int .i64 v),
          Fact.is (.int .i64 s1),
          Fact.is (.int .i64 j),
          Fact.is (.int .i64 i),
          Fact.is (.pointer (some ⟨w.heap.size + 1, 0, none⟩)),
          Fact.is (.pointer (some ⟨w.heap.size + 1, j * 6, none⟩)),
          Fact.is (.pointer (some ⟨w.heap.size + 1, j * 6 + i, none⟩)),
          Fact.is (.int .i64 y),
          Fact.is (.int .i64 s2),
          Fact.is (.pointer (some ⟨w.heap.size, 1, none⟩)),
          Fact.is (.slice (some ⟨bB, oB, none⟩) n cB),
          Fact.is (.int .i64 i),
          Fact.is (.pointer (some ⟨bB, oB + i, none⟩)),
          Fact.is (.slice (some ⟨g1, o1, none⟩) n d1),
          Fact.is (.int .i64 j),
          Fact.is (.pointer (some ⟨g1, o1 + j, none⟩)),
          Fact.is (.int .i64 l),
          Fact.is (.bool R),
          Fact.is (.bool R)])
          (T := [17, 18, 19, 20, 21, 22, 23, 24, 25, 26, 27, 28, 29, 30, 31, 32, 33, 34, 35, 36, 37, 38, 39, 40, 41, 42, 43, 44, 45, 46]) (by kernel_rfl) (by kernel_rfl) rfl ?owes ?_
        case owes =>
          refine .cons (owes_move (.tmp 8) (.inl rfl) fun q u lh => ⟨wants_free rfl, lh.old 8 rfl⟩) ?_
          refine .cons (owes_value fun q u lh => ⟨wants_free rfl, .bool true, by have e17 : q.tmps.getD 17 undef = .int .i64 v := lh.dep 0 rfl; simp [execOp, Act.eval, e17, HV.out, go_sem], rfl⟩) ?_
          refine .cons (owes_move (.tmp 18) (.inl rfl) fun q u lh => ⟨wants_free rfl, lh.dep 1 rfl⟩) ?_
          refine .cons (owes_value fun q u lh => ⟨lh.wants1 2 true rfl rfl rfl, .pointer (some ⟨w.heap.size, 3, none⟩), by have e3 : q.tmps.getD 3 undef = .pointer (some ⟨w.heap.size, 0, none⟩) := lh.old 3 rfl; simp [execOp, Act.eval, e3, go_sem], rfl⟩) ?_
          refine .cons (owes_value fun q u lh => ⟨lh.wants1 2 true rfl rfl rfl, .slice (some ⟨bP, oP, none⟩) n cP, by have e20 : q.tmps.getD 20 undef = .pointer (some ⟨w.heap.size, 3, none⟩) := lh.dep 3 rfl; obtain ⟨p0, p1, p2, p3⟩ := X3.out.below lh.below; simp [execOp, Act.eval, e20, p3, go_sem], rfl⟩) ?_
          refine .cons (owes_move (.tmp 2) (.inl rfl) fun q u lh => ⟨lh.wants1 2 true rfl rfl rfl, lh.old 2 rfl⟩) ?_
          refine .cons (owes_value fun q u lh => ⟨lh.wants1 2 true rfl rfl rfl, .pointer (some ⟨bP, oP + i, none⟩), by have e21 : q.tmps.getD 21 undef = .slice (some ⟨bP, oP, none⟩) n cP := lh.dep 4 rfl; have e22 : q.tmps.getD 22 undef = .int .i64 i := lh.dep 5 rfl; simp [execOp, Act.eval, e21, e22, i1, go_sem], rfl⟩) ?_
          refine .cons (owes_value fun q u lh => ⟨lh.wants1 2 true rfl rfl rfl, .slice (some ⟨g2, o2, none⟩) n d2, by have e23 : q.tmps.getD 23 undef = .pointer (some ⟨bP, oP + i, none⟩) := lh.dep 6 rfl; have z1 := (lh.below.cell (p := ⟨bP, oP + i, none⟩) (block_lt_of_cell R0.out)).trans R0.out; simp [execOp, Act.eval, e23, z1, go_sem], rfl⟩) ?_
          refine .cons (owes_move (.tmp 7) (.inl rfl) fun q u lh => ⟨lh.wants1 2 true rfl rfl rfl, lh.old 7 rfl⟩) ?_
          refine .cons (owes_value fun q u lh => ⟨lh.wants1 2 true rfl rfl rfl, .pointer (some ⟨g2, o2 + j, none⟩), by have e24 : q.tmps.getD 24 undef = .slice (some ⟨g2, o2, none⟩) n d2 := lh.dep 7 rfl; have e25 : q.tmps.getD 25 undef = .int .i64 j := lh.dep 8 rfl; simp [execOp, Act.eval, e24, e25, j1, go_sem], rfl⟩) ?_
          refine .cons (owes_value fun q u lh => ⟨lh.wants1 2 true rfl rfl rfl, .int .i64 p, by have e26 : q.tmps.getD 26 undef = .pointer (some ⟨g2, o2 + j, none⟩) := lh.dep 9 rfl; have z1 := (lh.below.cell (p := ⟨g2, o2 + j, none⟩) (block_lt_of_cell R1.out)).trans R1.out; simp [execOp, Act.eval, e26, z1, go_sem], rfl⟩) ?_
          refine .cons (owes_move (.tmp 8) (.inl rfl) fun q u lh => ⟨lh.wants1 2 true rfl rfl rfl, lh.old 8 rfl⟩) ?_
          refine .cons (owes_value fun q u lh => ⟨lh.wants1 2 true rfl rfl rfl, .int .i64 s1, by have e27 : q.tmps.getD 27 undef = .int .i64 p := lh.dep 10 rfl; have e28 : q.tmps.getD 28 undef = .int .i64 v := lh.dep 11 rfl; simp [execOp, Act.eval, e27, e28, W1.out, go_sem], rfl⟩) ?_
          refine .cons (owes_move (.tmp 7) (.inl rfl) fun q u lh => ⟨lh.wants1 2 true rfl rfl rfl, lh.old 7 rfl⟩) ?_
          refine .cons (owes_move (.tmp 2) (.inl rfl) fun q u lh => ⟨lh.wants1 2 true rfl rfl rfl, lh.old 2 rfl⟩) ?_
          refine .cons (owes_value fun q u lh => ⟨lh.wants1 2 true rfl rfl rfl, .pointer (some ⟨w.heap.size + 1, 0, none⟩), by have e4 : q.tmps.getD 4 undef = .pointer (some ⟨w.heap.size + 1, 0, none⟩) := lh.old 4 rfl; simp [execOp, Act.eval, e4, go_sem], rfl⟩) ?_
          refine .cons (owes_value fun q u lh => ⟨lh.wants1 2 true rfl rfl rfl, .pointer (some ⟨w.heap.size + 1, j * 6, none⟩), by have e30 : q.tmps.getD 30 undef = .int .i64 j := lh.dep 13 rfl; have e32 : q.tmps.getD 32 undef = .pointer (some ⟨w.heap.size + 1, 0, none⟩) := lh.dep 15 rfl; simp [execOp, Act.eval, e30, e32, j6, go_sem], rfl⟩) ?_
          refine .cons (owes_value fun q u lh => ⟨lh.wants1 2 true rfl rfl rfl, .pointer (some ⟨w.heap.size + 1, j * 6 + i, none⟩), by have e31 : q.tmps.getD 31 undef = .int .i64 i := lh.dep 14 rfl; have e33 : q.tmps.getD 33 undef = .pointer (some ⟨w.heap.size + 1, j * 6, none⟩) := lh.dep 16 rfl; simp [execOp, Act.eval, e31, e33, i6, go_sem], rfl⟩) ?_
          refine .cons (owes_value fun q u lh => ⟨lh.wants1 2 true rfl rfl rfl, .int .i64 y, by have e34 : q.tmps.getD 34 undef = .pointer (some ⟨w.heap.size + 1, j * 6 + i, none⟩) := lh.dep 17 rfl; have z1 := M4.out u (M3.out.below lh.below); simp [execOp, Act.eval, e34, z1, go_sem], rfl⟩) ?_
          refine .cons (owes_value fun q u lh => ⟨lh.wants1 2 true rfl rfl rfl, .int .i64 s2, by have e29 : q.tmps.getD 29 undef = .int .i64 s1 := lh.dep 12 rfl; have e35 : q.tmps.getD 35 undef = .int .i64 y := lh.dep 18 rfl; simp [execOp, Act.eval, e29, e35, W2.out, go_sem], rfl⟩) ?_
          refine .cons (owes_value fun q u lh => ⟨lh.wants1 2 true rfl rfl rfl, .pointer (some ⟨w.heap.size, 1, none⟩), by have e3 : q.tmps.getD 3 undef = .pointer (some ⟨w.heap.size, 0, none⟩) := lh.old 3 rfl; simp [execOp, Act.eval, e3, go_sem], rfl⟩) ?_
          refine .cons (owes_value fun q u lh => ⟨lh.wants1 2 true rfl rfl rfl, .slice (some ⟨bB, oB, none⟩) n cB, by have e37 : q.tmps.getD 37 undef = .pointer (some ⟨w.heap.size, 1, none⟩) := lh.dep 20 rfl; obtain ⟨p0, p1, p2, p3⟩ := X3.out.below lh.below; simp [execOp, Act.eval, e37, p1, go_sem], rfl⟩) ?_
          refine .cons (owes_move (.tmp 2) (.inl rfl) fun q u lh => ⟨lh.wants1 2 true rfl rfl rfl, lh.old 2 rfl⟩) ?_
          refine .cons (owes_value fun q u lh => ⟨lh.wants1 2 true rfl rfl rfl, .pointer (some ⟨bB, oB + i, none⟩), by have e38 : q.tmps.getD 38 undef = .slice (some ⟨bB, oB, none⟩) n cB := lh.dep 21 rfl; have e39 : q.tmps.getD 39 undef = .int .i64 i := lh.dep 22 rfl; simp [execOp, Act.eval, e38, e39, i1, go_sem], rfl⟩) ?_
          refine .cons (owes_value fun q u lh => ⟨lh.wants1 2 true rfl rfl rfl, .slice (some ⟨g1, o1, none⟩) n d1, by have e40 : q.tmps.getD 40 undef = .pointer (some ⟨bB, oB + i, none⟩) := lh.dep 23 rfl; have z1 := (lh.below.cell (p := ⟨bB, oB + i, none⟩) (block_lt_of_cell Q0.out)).trans Q0.out; simp [execOp, Act.eval, e40, z1, go_sem], rfl⟩) ?_
          refine .cons (owes_move (.tmp 7) (.inl rfl) fun q u lh => ⟨lh.wants1 2 true rfl rfl rfl, lh.old 7 rfl⟩) ?_
          refine .cons (owes_value fun q u lh => ⟨lh.wants1 2 true rfl rfl rfl, .pointer (some ⟨g1, o1 + j, none⟩), by have e41 : q.tmps.getD 41 undef = .slice (some ⟨g1, o1, none⟩) n d1 := lh.dep 24 rfl; have e42 : q.tmps.getD 42 undef = .int .i64 j := lh.dep 25 rfl; simp [execOp, Act.eval, e41, e42, j1, go_sem], rfl⟩) ?_
          refine .cons (owes_value fun q u lh => ⟨lh.wants1 2 true rfl rfl rfl, .int .i64 l, by have e43 : q.tmps.getD 43 undef = .pointer (some ⟨g1, o1 + j, none⟩) := lh.dep 26 rfl; have z1 := (lh.below.cell (p := ⟨g1, o1 + j, none⟩) (block_lt_of_cell Q1.out)).trans Q1.out; simp [execOp, Act.eval, e43, z1, go_sem], rfl⟩) ?_
          refine .cons (owes_call 56 Try.func56 (by kernel_rfl) (by kernel_rfl) [.tmp 36, .tmp 44] #[2, 2] rfl fun q u lh => ⟨lh.wants1 2 true rfl rfl rfl, by have e36 : q.tmps.getD 36 undef = .int .i64 s2 := lh.dep 19 rfl; have e44 : q.tmps.getD 44 undef = .int .i64 l := lh.dep 27 rfl; show Calls Try.prog 56 #[q.tmps.getD 36 undef, q.tmps.getD 44 undef] u _; rw [e36, e44]; exact bool_fact ((A u).mono fun e w' h => ⟨h.1, h.2 ▸ Below.refl _ _⟩)⟩) ?_
          refine .cons (owes_pick (.tmp 19) (.tmp 45) (.const (.bool false)) rfl fun q u lh => ⟨wants_free rfl, true, lh.dep 2 rfl, lh.dep 28 rfl⟩) ?_
          exact .nil _
        intro q u hb hsz hdf hold hfact
        have B5 : Hid (Below w2.heap.size w2 u) := B3.out.trans (hb.mono B3.out.size)
        have B6 : Hid (Below w.heap.size w u) := BW.out.trans (hb.mono BW.out.size)
        obtain ⟨u4, rfl⟩ : ∃ z, z = u := ⟨u, rfl⟩
        obtain rfl := frame_puts hsz hdf [17, 18, 19, 20, 21, 22, 23, 24, 25, 26, 27, 28, 29, 30, 31, 32, 33, 34, 35, 36, 37, 38, 39, 40, 41, 42, 43, 44, 45, 46] hold [(17, Value.int .i64 v), (18, Value.bool true), (19, Value.bool true), (20, Value.pointer (some ⟨w.heap.size, 3, none⟩)), (21, Value.slice (some ⟨bP, oP, none⟩) n cP), (22, Value.int .i64 i), (23, Value.pointer (some ⟨bP, oP + i, none⟩)), (24, Value.slice (some ⟨g2, o2, none⟩) n d2), (25, Value.int .i64 j), (26, Value.pointer (some ⟨g2, o2 + j, none⟩)), (27, Value.int .i64 p), (28, Value.int .i64 v), (29, Value.int .i64 s1), (30, Value.int .i64 j), (31, Value.int .i64 i), (32, Value.pointer (some ⟨w.heap.size + 1, 0, none⟩)), (33, Value.pointer (some ⟨w.heap.size + 1, j * 6, none⟩)), (34, Value.pointer (some ⟨w.heap.size + 1, j * 6 + i, none⟩)), (35, Value.int .i64 y), (36, Value.int .i64 s2), (37, Value.pointer (some ⟨w.heap.size, 1, none⟩)), (38, Value.slice (some ⟨bB, oB, none⟩) n cB), (39, Value.int .i64 i), (40, Value.pointer (some ⟨bB, oB + i, none⟩)), (41, Value.slice (some ⟨g1, o1, none⟩) n d1), (42, Value.int .i64 j), (43, Value.pointer (some ⟨g1, o1 + j, none⟩)), (44, Value.int .i64 l), (45, Value.bool R), (46, Value.bool R)] ⟨hfact 0 (by decide), hfact 1 (by decide), hfact 2 (by decide), hfact 3 (by decide), hfact 4 (by decide), hfact 5 (by decide), hfact 6 (by decide), hfact 7 (by decide), hfact 8 (by decide), hfact 9 (by decide), hfact 10 (by decide), hfact 11 (by decide), hfact 12 (by decide), hfact 13 (by decide), hfact 14 (by decide), hfact 15 (by decide), hfact 16 (by decide), hfact 17 (by decide), hfact 18 (by decide), hfact 19 (by decide), hfact 20 (by decide), hfact 21 (by decide), hfact 22 (by decide), hfact 23 (by decide), hfact 24 (by decide), hfact 25 (by decide), hfact 26 (by decide), hfact 27 (by decide), hfact 28 (by decide), hfact 29 (by decide), trivial⟩ rfl
        clear hsz hdf hold hfact
        clear hb X3 M3 F3 B3 BW R0 R1 Q0 Q1
        simp only [puts, Act.put, List.setIfInBounds_toArray, List.set_cons_zero, List.set_cons_succ]
        cases R with
        | true =>
          have HY : Hid (true = overZ b z n i) := overZ_yes hlt HP.out
          go_wp2
          go_ret
          exact ⟨rt_bool HY.out, B6.out⟩
        | false =>
          go_wp2
          go_roundw
          case rel =>
            refine ⟨j + 1, by omega, by go_num, fun k hk => ?_, B5.out⟩
            rcases Nat.lt_or_ge k j with h | h
            · exact HNO.out k h
            · obtain rfl : k = j := by omega
              exact HP.out
          case measure => simp [intOf]; omega
      · have HV : Hid (decide (0 < v) = false) := decide_eq_false (by omega)
        rw [HV.out, Bool.false_and] at HP
        have hv2 := HV.out
        clear c1 c2 hz M4 hv
        go_wp2_with fail
        go_quiet (fail)
        go_wp2
        go_roundw
        case rel =>
          refine ⟨j + 1, by omega, by go_num, fun k hk => ?_, ?_⟩
          · rcases Nat.lt_or_ge k j with h | h
            · exact HNO.out k h
            · obtain rfl : k = j := by omega
              exact HP.out
          · exact B3.out.trans ((drawn_below _ _).mono B3.out.size)
        case measure => simp [intOf]; omega
    · obtain rfl : j = 6 := by omega
      obtain ⟨R, hR⟩ : ∃ R, aboveB (netTo b.P i n + outZ z i - inZ z i) (b.M.getD i 0) = R := ⟨_, rfl⟩
      have HR : Hid (R = overZ b z n i) := by show _ = _; rw [← hR]; exact overZ_no HNO.out
      have m0 := F3.out.mul i HIN.out
      generalize b.M.getD i 0 = mu at hR m0
      have nb := HN.out
      have ob := HOB.out
      have ib := HIB.out
      generalize netTo b.P i n = N at NET nb hR
      generalize outZ z i = O at OUT ob hR
      generalize inZ z i = I at IN ib hR
      obtain ⟨s1, hs1⟩ : ∃ s1, N + O = s1 := ⟨_, rfl⟩
      obtain ⟨s2, hs2⟩ : ∃ s2, s1 - I = s2 := ⟨_, rfl⟩
      have W1 : Hid (IntKind.i64.wrap (N + O) = s1) := by show _ = _; rw [hs1]; exact i64_wf (by omega) (by omega)
      have W2 : Hid (IntKind.i64.wrap (s1 - I) = s2) := by show _ = _; rw [hs2]; exact i64_wf (by omega) (by omega)
      rw [hs1, hs2] at hR
      have A := fun u => isAbove_any s2 mu u
      rw [hR] at A
      have M0 : Hid (wr.cell? ⟨bM, oM + i, none⟩ = some (.int .i64 mu)) := m0
      clear hs1 hs2 hR nb ob ib m0
      go_wp2_with fail
      refine region_owes (L := [Fact.is (.agg #[.slice (some ⟨bA, oA, none⟩) n cA, .slice (some ⟨bB, oB, none⟩) n cB, .slice (some ⟨bM, oM, none⟩) n cM, .slice (some ⟨bP, oP, none⟩) n cP]),
        Fact.is (.int .i64 i),
        Fact.is (.int .i64 N),
        Fact.is (.agg (mvA z)),
        Fact.is (.int .i64 i),
        Fact.is (.int .i64 O),
        Fact.is (.int .i64 s1),
        Fact.is (.agg (mvA z)),
        Fact.is (.int .i64 i),
        Fact.is (.int .i64 I),
        Fact.is (.int .i64 s2),
        Fact.is (.pointer (some ⟨w.heap.size, 2, none⟩)),
        Fact.is (.slice (some ⟨bM, oM, none⟩) n cM),
        Fact.is (.int .i64 i),
        Fact.is (.pointer (some ⟨bM, oM + i, none⟩)),
        Fact.is (.int .i64 mu),
        Fact.is (.bool R),
        Fact.is (.bool R)])
        (T := [48, 49, 50, 51, 52, 53, 54, 55, 56, 57, 58, 59, 60, 61, 62, 63, 64, 6]) (by kernel_rfl) (by kernel_rfl) rfl ?owes ?_
      case owes =>
        refine .cons (owes_value fun q u lh => ⟨wants_free rfl, .agg #[.slice (some ⟨bA, oA, none⟩) n cA, .slice (some ⟨bB, oB, none⟩) n cB, .slice (some ⟨bM, oM, none⟩) n cM, .slice (some ⟨bP, oP, none⟩) n cP], by have e3 : q.tmps.getD 3 undef = .pointer (some ⟨w.heap.size, 0, none⟩) := lh.old 3 rfl; obtain ⟨p0, p1, p2, p3⟩ := X3.out.below lh.below; simp [execOp, Act.eval, e3, p0, p1, p2, p3, go_sem], rfl⟩) ?_
        refine .cons (owes_move (.tmp 2) (.inl rfl) fun q u lh => ⟨wants_free rfl, lh.old 2 rfl⟩) ?_
        refine .cons (owes_call 57 Try.func57 (by kernel_rfl) (by kernel_rfl) [.tmp 48, .tmp 49] #[26, 3] rfl fun q u lh => ⟨wants_free rfl, by have e48 : q.tmps.getD 48 undef = .agg #[.slice (some ⟨bA, oA, none⟩) n cA, .slice (some ⟨bB, oB, none⟩) n cB, .slice (some ⟨bM, oM, none⟩) n cM, .slice (some ⟨bP, oP, none⟩) n cP] := lh.dep 0 rfl; have e49 : q.tmps.getD 49 undef = .int .i64 i := lh.dep 1 rfl; show Calls Try.prog 57 #[q.tmps.getD 48 undef, q.tmps.getD 49 undef] u _; rw [e48, e49]; exact int_fact (NET u (BW.out.trans (lh.below.mono BW.out.size)))⟩) ?_
        refine .cons (owes_value fun q u lh => ⟨wants_free rfl, .agg (mvA z), exec_load_mv (.tmp 4) rfl (w.heap.size + 1) (lh.old 4 rfl) z HZ.out (M3.out.below lh.below), rfl⟩) ?_
        refine .cons (owes_move (.tmp 2) (.inl rfl) fun q u lh => ⟨wants_free rfl, lh.old 2 rfl⟩) ?_
        refine .cons (owes_call 37 Try.func37 (by kernel_rfl) (by kernel_rfl) [.tmp 51, .tmp 52] #[60, 3] rfl fun q u lh => ⟨wants_free rfl, by have e51 : q.tmps.getD 51 undef = .agg (mvA z) := lh.dep 3 rfl; have e52 : q.tmps.getD 52 undef = .int .i64 i := lh.dep 4 rfl; show Calls Try.prog 37 #[q.tmps.getD 51 undef, q.tmps.getD 52 undef] u _; rw [e51, e52]; exact int_fact (OUT u)⟩) ?_
        refine .cons (owes_value fun q u lh => ⟨wants_free rfl, .int .i64 s1, by have e50 : q.tmps.getD 50 undef = .int .i64 N := lh.dep 2 rfl; have e53 : q.tmps.getD 53 undef = .int .i64 O := lh.dep 5 rfl; simp [execOp, Act.eval, e50, e53, W1.out, go_sem], rfl⟩) ?_
        refine .cons (owes_value fun q u lh => ⟨wants_free rfl, .agg (mvA z), exec_load_mv (.tmp 4) rfl (w.heap.size + 1) (lh.old 4 rfl) z HZ.out (M3.out.below lh.below), rfl⟩) ?_
        refine .cons (owes_move (.tmp 2) (.inl rfl) fun q u lh => ⟨wants_free rfl, lh.old 2 rfl⟩) ?_
        refine .cons (owes_call 54 Try.func54 (by kernel_rfl) (by kernel_rfl) [.tmp 55, .tmp 56] #[60, 3] rfl fun q u lh => ⟨wants_free rfl, by have e55 : q.tmps.getD 55 undef = .agg (mvA z) := lh.dep 7 rfl; have e56 : q.tmps.getD 56 undef = .int .i64 i := lh.dep 8 rfl; show Calls Try.prog 54 #[q.tmps.getD 55 undef, q.tmps.getD 56 undef] u _; rw [e55, e56]; exact int_fact (IN u)⟩) ?_
        refine .cons (owes_value fun q u lh => ⟨wants_free rfl, .int .i64 s2, by have e54 : q.tmps.getD 54 undef = .int .i64 s1 := lh.dep 6 rfl; have e57 : q.tmps.getD 57 undef = .int .i64 I := lh.dep 9 rfl; simp [execOp, Act.eval, e54, e57, W2.out, go_sem], rfl⟩) ?_
        refine .cons (owes_value fun q u lh => ⟨wants_free rfl, .pointer (some ⟨w.heap.size, 2, none⟩), by have e3 : q.tmps.getD 3 undef = .pointer (some ⟨w.heap.size, 0, none⟩) := lh.old 3 rfl; simp [execOp, Act.eval, e3, go_sem], rfl⟩) ?_
        refine .cons (owes_value fun q u lh => ⟨wants_free rfl, .slice (some ⟨bM, oM, none⟩) n cM, by have e59 : q.tmps.getD 59 undef = .pointer (some ⟨w.heap.size, 2, none⟩) := lh.dep 11 rfl; obtain ⟨p0, p1, p2, p3⟩ := X3.out.below lh.below; simp [execOp, Act.eval, e59, p2, go_sem], rfl⟩) ?_
        refine .cons (owes_move (.tmp 2) (.inl rfl) fun q u lh => ⟨wants_free rfl, lh.old 2 rfl⟩) ?_
        refine .cons (owes_value fun q u lh => ⟨wants_free rfl, .pointer (some ⟨bM, oM + i, none⟩), by have e60 : q.tmps.getD 60 undef = .slice (some ⟨bM, oM, none⟩) n cM := lh.dep 12 rfl; have e61 : q.tmps.getD 61 undef = .int .i64 i := lh.dep 13 rfl; simp [execOp, Act.eval, e60, e61, i1, go_sem], rfl⟩) ?_
        refine .cons (owes_value fun q u lh => ⟨wants_free rfl, .int .i64 mu, by have e62 : q.tmps.getD 62 undef = .pointer (some ⟨bM, oM + i, none⟩) := lh.dep 14 rfl; have z1 := (lh.below.cell (p := ⟨bM, oM + i, none⟩) (block_lt_of_cell M0.out)).trans M0.out; simp [execOp, Act.eval, e62, z1, go_sem], rfl⟩) ?_
        refine .cons (owes_call 56 Try.func56 (by kernel_rfl) (by kernel_rfl) [.tmp 58, .tmp 63] #[2, 2] rfl fun q u lh => ⟨wants_free rfl, by have e58 : q.tmps.getD 58 undef = .int .i64 s2 := lh.dep 10 rfl; have e63 : q.tmps.getD 63 undef = .int .i64 mu := lh.dep 15 rfl; show Calls Try.prog 56 #[q.tmps.getD 58 undef, q.tmps.getD 63 undef] u _; rw [e58, e63]; exact bool_fact ((A u).mono fun e w' h => ⟨h.1, h.2 ▸ Below.refl _ _⟩)⟩) ?_
        refine .cons (owes_move (.tmp 64) (.inr rfl) fun q u lh => ⟨wants_free rfl, lh.dep 16 rfl⟩) ?_
        exact .nil _
      intro q u hb hsz hdf hold hfact
      have B6 : Hid (Below w.heap.size w u) := BW.out.trans (hb.mono BW.out.size)
      obtain ⟨u4, rfl⟩ : ∃ z, z = u := ⟨u, rfl⟩
      obtain rfl := frame_puts hsz hdf [48, 49, 50, 51, 52, 53, 54, 55, 56, 57, 58, 59, 60, 61, 62, 63, 64, 6] hold [(48, Value.agg #[.slice (some ⟨bA, oA, none⟩) n cA, .slice (some ⟨bB, oB, none⟩) n cB, .slice (some ⟨bM, oM, none⟩) n cM, .slice (some ⟨bP, oP, none⟩) n cP]), (49, Value.int .i64 i), (50, Value.int .i64 N), (51, Value.agg (mvA z)), (52, Value.int .i64 i), (53, Value.int .i64 O), (54, Value.int .i64 s1), (55, Value.agg (mvA z)), (56, Value.int .i64 i), (57, Value.int .i64 I), (58, Value.int .i64 s2), (59, Value.pointer (some ⟨w.heap.size, 2, none⟩)), (60, Value.slice (some ⟨bM, oM, none⟩) n cM), (61, Value.int .i64 i), (62, Value.pointer (some ⟨bM, oM + i, none⟩)), (63, Value.int .i64 mu), (64, Value.bool R), (6, Value.bool R)] ⟨hfact 0 (by decide), hfact 1 (by decide), hfact 2 (by decide), hfact 3 (by decide), hfact 4 (by decide), hfact 5 (by decide), hfact 6 (by decide), hfact 7 (by decide), hfact 8 (by decide), hfact 9 (by decide), hfact 10 (by decide), hfact 11 (by decide), hfact 12 (by decide), hfact 13 (by decide), hfact 14 (by decide), hfact 15 (by decide), hfact 16 (by decide), hfact 17 (by decide), trivial⟩ rfl
      clear hsz hdf hold hfact
      clear hb X3 M3 F3 B3 BW M0
      simp only [puts, Act.put, List.setIfInBounds_toArray, List.set_cons_zero, List.set_cons_succ]
      go_wp2
      go_ret
      exact ⟨rt_bool HR.out, B6.out⟩

end Go.Proofs.Ytdikimddkhahdaa
