/-
  giroref8.Value over this seat's program.
-/
import Derived.Test.YtbnhpehobadebaaPoolValue
import Derived.Test.YtbnhpehobadebaaFacts3
namespace Go.Proofs.Ytbnhpehobadebaa
open Go.RowKit
set_option linter.unusedVariables false
set_option linter.unusedSimpArgs false

theorem is_fact {f : FuncId} {args : Array Value} {w : World} {v0 : Value} (h : Calls Try.prog f args w fun e w' => e = .returned v0 ∧ Below w.heap.size w w') :
    Calls Try.prog f args w fun e w' => ∃ v, e = .returned v ∧ Below w.heap.size w w' ∧ (Fact.is v0).1 w' v :=
  h.mono fun e w' ⟨h1, h2⟩ => ⟨_, h1, h2, rfl⟩

theorem refValue_not (a pa ha : Option Addr) (la ca pl pc hl hc : Nat) (w : World) (h : pl ≠ la ∨ hl ≠ la) :
    Calls Try.prog 8 #[.slice a la ca, .slice pa pl pc, .slice ha hl hc] w fun e w' => e = .returned (.tuple #[.int .i64 0, .bool false]) ∧ w' = w := by
  by_cases h1 : pl = la
  · subst h1
    have h2 : ((hl : Int) == (pl : Int)) = false := by rw [beq_eq_false_iff_ne]; omega
    clear h
    go_enter Try.func8, Try.ntmps8
    go_wp2
    go_ret2
    exact ⟨rfl, rfl⟩
  · have h2 : ((pl : Int) == (la : Int)) = false := by rw [beq_eq_false_iff_ne]; omega
    clear h h1
    go_enter Try.func8, Try.ntmps8
    go_wp2
    go_ret2
    exact ⟨rfl, rfl⟩

set_option maxHeartbeats 4000000 in
theorem refValue_row (a pa ha : Option Addr) (n ca pc hc : Nat) (A C : Nat → Int) (ps hs : List Int) (w : World) (HA : Hid (Asts w a n A C)) (HP : Hid (Sl .i64 w pa n ps)) (HH : Hid (Sl .i64 w ha n hs)) (hn : n ≤ 9223372036854775807) :
    Calls Try.prog 8 #[.slice a n ca, .slice pa n pc, .slice ha n hc] w fun e w' =>
      e = .returned (.tuple #[.int .i64 (valueV n n n (fun i => ps.getD i 0) (fun i => hs.getD i 0) C), .bool (valueB n n n (fun i => ps.getD i 0) (fun i => hs.getD i 0) C)]) ∧ Below w.heap.size w w' := by
  go_enter Try.func8, Try.ntmps8
  go_wp2
  go_loopw [8, 9] (fun s i wr => ∃ (k : Nat) (S : Int), k ≤ n ∧ s = .int .i64 S ∧ i = .int .i64 k ∧ Hid (vV (fun i => ps.getD i 0) (fun i => hs.getD i 0) C k = S) ∧ Hid (vOk (fun i => ps.getD i 0) (fun i => hs.getD i 0) C k = true) ∧ Below w.heap.size w wr) (fun _ i _ => n - (intOf i).toNat)
  case atStart => exact ⟨0, 0, Nat.zero_le _, rfl, rfl, rfl, rfl, Below.refl _ _⟩
  case round =>
    obtain ⟨k, S, hk, rfl, rfl, HV, HO, bel⟩ := hrel
    have HB : Hid (Below w.heap.size w wr) := bel
    clear bel
    by_cases hlt : k < n
    · obtain ⟨b1, o1, rfl, c1, l1, p0, p1⟩ := (HP.out.below HB.out).at64 hlt
      obtain ⟨b2, o2, rfl, c2, l2, h0, h1⟩ := (HH.out.below HB.out).at64 hlt
      rcases HA.out.below HB.out with e0 | ⟨b3, o3, rfl, l3, c34⟩
      · omega
      obtain ⟨c3, c4⟩ := c34 k hlt
      clear c34 c3
      obtain ⟨x, hx⟩ : ∃ x, ps.getD k 0 = x := ⟨_, rfl⟩
      obtain ⟨y, hy⟩ : ∃ y, hs.getD k 0 = y := ⟨_, rfl⟩
      obtain ⟨z, hz⟩ : ∃ z, C k = z := ⟨_, rfl⟩
      rw [hx] at c1 p0 p1
      rw [hy] at c2 h0 h1
      rw [hz] at c4
      have EX : Hid (ps.getD k 0 = x) := hx
      have EY : Hid (hs.getD k 0 = y) := hy
      have EZ : Hid (C k = z) := hz
      clear hx hy hz
      have W := refWorth_any x y z p1 h1
      obtain ⟨v, hv⟩ : ∃ v, worthV x y z = v := ⟨_, rfl⟩
      obtain ⟨qb, hq⟩ : ∃ q, worthB x y z = q := ⟨_, rfl⟩
      have vb := worthV_bound x y z
      rw [hv] at vb
      rw [hv, hq] at W
      obtain ⟨v0, v1⟩ := vb
      have sb := vV_bound HO.out
      rw [HV.out] at sb
      obtain ⟨s0, s1⟩ := sb
      have EV : Hid (worthV x y z = v) := hv
      have EQ : Hid (worthB x y z = qb) := hq
      clear hv hq
      have A1 := refAdd_walk S v s0 s1 v0 v1
      obtain ⟨s, hs'⟩ : ∃ s, heldV (S + v) = s := ⟨_, rfl⟩
      obtain ⟨r, hr⟩ : ∃ r, heldB (S + v) = r := ⟨_, rfl⟩
      rw [hs', hr] at A1
      have ES : Hid (heldV (S + v) = s) := hs'
      have ER : Hid (heldB (S + v) = r) := hr
      clear hs' hr
      have D1 : Hid (∀ u, Below wr.heap.size wr u → u.cell? ⟨b1, o1 + k, none⟩ = some (.int .i64 x)) := fun u hb => by rw [hb.cell (p := ⟨b1, o1 + k, none⟩) l1]; exact c1
      have D2 : Hid (∀ u, Below wr.heap.size wr u → u.cell? ⟨b2, o2 + k, none⟩ = some (.int .i64 y)) := fun u hb => by rw [hb.cell (p := ⟨b2, o2 + k, none⟩) l2]; exact c2
      have D3 : Hid (∀ u, Below wr.heap.size wr u → u.cell? ⟨b3, o3 + k * 2 + 1, none⟩ = some (.int .i64 z)) := fun u hb => by rw [hb.cell (p := ⟨b3, o3 + k * 2 + 1, none⟩) l3]; exact c4
      clear c1 c2 c4 l1 l2 l3
      go_upto_region 7 with fail
      refine region_owes (L := [Fact.is (.slice (some ⟨b1, o1, none⟩) n pc),
        Fact.is (.int .i64 k),
        Fact.is (.pointer (some ⟨b1, o1 + k, none⟩)),
        Fact.is (.int .i64 x),
        Fact.is (.slice (some ⟨b2, o2, none⟩) n hc),
        Fact.is (.int .i64 k),
        Fact.is (.pointer (some ⟨b2, o2 + k, none⟩)),
        Fact.is (.int .i64 y),
        Fact.is (.slice (some ⟨b3, o3, none⟩) n ca),
        Fact.is (.int .i64 k),
        Fact.is (.pointer (some ⟨b3, o3 + k * 2, none⟩)),
        Fact.is (.pointer (some ⟨b3, o3 + k * 2 + 1, none⟩)),
        Fact.is (.int .i64 z),
        Fact.is (.tuple #[.int .i64 v, .bool qb]),
        Fact.is (.tuple #[.int .i64 v, .bool qb]),
        Fact.is (.int .i64 v),
        Fact.is (.bool qb),
        Fact.is (.int .i64 v),
        Fact.is (.bool qb)])
        (T := [33, 34, 35, 36, 37, 38, 39, 40, 41, 42, 43, 44, 45, 46, 32, 47, 48, 10, 11]) (by kernel_rfl) (by kernel_rfl) rfl ?owes ?_
      case owes =>
        refine .cons (owes_move (.tmp 1) (.inl rfl) fun q u lh => ⟨wants_free rfl, lh.old 1 rfl⟩) ?_
        refine .cons (owes_move (.tmp 9) (.inl rfl) fun q u lh => ⟨wants_free rfl, lh.old 9 rfl⟩) ?_
        refine .cons (owes_value fun q u lh => ⟨wants_free rfl, .pointer (some ⟨b1, o1 + k, none⟩), by have e33 : q.tmps.getD 33 undef = .slice (some ⟨b1, o1, none⟩) n pc := lh.dep 0 rfl; have e34 : q.tmps.getD 34 undef = .int .i64 k := lh.dep 1 rfl; simp [execOp, Act.eval, e33, e34, hlt, go_sem], rfl⟩) ?_
        refine .cons (owes_value fun q u lh => ⟨wants_free rfl, .int .i64 x, by have e35 : q.tmps.getD 35 undef = .pointer (some ⟨b1, o1 + k, none⟩) := lh.dep 2 rfl; have c := D1.out u lh.below; simp [execOp, Act.eval, e35, c, go_sem], rfl⟩) ?_
        refine .cons (owes_move (.tmp 2) (.inl rfl) fun q u lh => ⟨wants_free rfl, lh.old 2 rfl⟩) ?_
        refine .cons (owes_move (.tmp 9) (.inl rfl) fun q u lh => ⟨wants_free rfl, lh.old 9 rfl⟩) ?_
        refine .cons (owes_value fun q u lh => ⟨wants_free rfl, .pointer (some ⟨b2, o2 + k, none⟩), by have e37 : q.tmps.getD 37 undef = .slice (some ⟨b2, o2, none⟩) n hc := lh.dep 4 rfl; have e38 : q.tmps.getD 38 undef = .int .i64 k := lh.dep 5 rfl; simp [execOp, Act.eval, e37, e38, hlt, go_sem], rfl⟩) ?_
        refine .cons (owes_value fun q u lh => ⟨wants_free rfl, .int .i64 y, by have e39 : q.tmps.getD 39 undef = .pointer (some ⟨b2, o2 + k, none⟩) := lh.dep 6 rfl; have c := D2.out u lh.below; simp [execOp, Act.eval, e39, c, go_sem], rfl⟩) ?_
        refine .cons (owes_move (.tmp 0) (.inl rfl) fun q u lh => ⟨wants_free rfl, lh.old 0 rfl⟩) ?_
        refine .cons (owes_move (.tmp 9) (.inl rfl) fun q u lh => ⟨wants_free rfl, lh.old 9 rfl⟩) ?_
        refine .cons (owes_value fun q u lh => ⟨wants_free rfl, .pointer (some ⟨b3, o3 + k * 2, none⟩), by have e41 : q.tmps.getD 41 undef = .slice (some ⟨b3, o3, none⟩) n ca := lh.dep 8 rfl; have e42 : q.tmps.getD 42 undef = .int .i64 k := lh.dep 9 rfl; simp [execOp, Act.eval, e41, e42, hlt, go_sem], rfl⟩) ?_
        refine .cons (owes_value fun q u lh => ⟨wants_free rfl, .pointer (some ⟨b3, o3 + k * 2 + 1, none⟩), by have e43 : q.tmps.getD 43 undef = .pointer (some ⟨b3, o3 + k * 2, none⟩) := lh.dep 10 rfl; simp [execOp, Act.eval, e43, go_sem], rfl⟩) ?_
        refine .cons (owes_value fun q u lh => ⟨wants_free rfl, .int .i64 z, by have e44 : q.tmps.getD 44 undef = .pointer (some ⟨b3, o3 + k * 2 + 1, none⟩) := lh.dep 11 rfl; have c := D3.out u lh.below; simp [execOp, Act.eval, e44, c, go_sem], rfl⟩) ?_
        refine .cons (owes_call 13 Try.func13 (by kernel_rfl) (by kernel_rfl) [.tmp 36, .tmp 40, .tmp 45] #[2, 2, 2] rfl fun q u lh => ⟨wants_free rfl, by have e36 : q.tmps.getD 36 undef = .int .i64 x := lh.dep 3 rfl; have e40 : q.tmps.getD 40 undef = .int .i64 y := lh.dep 7 rfl; have e45 : q.tmps.getD 45 undef = .int .i64 z := lh.dep 12 rfl; show Calls Try.prog 13 #[q.tmps.getD 36 undef, q.tmps.getD 40 undef, q.tmps.getD 45 undef] u _; rw [e36, e40, e45]; exact is_fact (W u)⟩) ?_
        refine .cons (owes_move (.tmp 46) (.inl rfl) fun q u lh => ⟨wants_free rfl, lh.dep 13 rfl⟩) ?_
        refine .cons (owes_value fun q u lh => ⟨wants_free rfl, .int .i64 v, by have e32 : q.tmps.getD 32 undef = .tuple #[.int .i64 v, .bool qb] := lh.dep 14 rfl; simp [execOp, Act.eval, e32, go_sem], rfl⟩) ?_
        refine .cons (owes_value fun q u lh => ⟨wants_free rfl, .bool qb, by have e32 : q.tmps.getD 32 undef = .tuple #[.int .i64 v, .bool qb] := lh.dep 14 rfl; simp [execOp, Act.eval, e32, go_sem], rfl⟩) ?_
        refine .cons (owes_move (.tmp 47) (.inr rfl) fun q u lh => ⟨wants_free rfl, lh.dep 15 rfl⟩) ?_
        refine .cons (owes_move (.tmp 48) (.inr rfl) fun q u lh => ⟨wants_free rfl, lh.dep 16 rfl⟩) ?_
        exact .nil _
      intro q u hb hsz hdf hold hfact
      obtain rfl := frame_puts hsz hdf [33, 34, 35, 36, 37, 38, 39, 40, 41, 42, 43, 44, 45, 46, 32, 47, 48, 10, 11] hold [(33, Value.slice (some ⟨b1, o1, none⟩) n pc), (34, Value.int .i64 k), (35, Value.pointer (some ⟨b1, o1 + k, none⟩)), (36, Value.int .i64 x), (37, Value.slice (some ⟨b2, o2, none⟩) n hc), (38, Value.int .i64 k), (39, Value.pointer (some ⟨b2, o2 + k, none⟩)), (40, Value.int .i64 y), (41, Value.slice (some ⟨b3, o3, none⟩) n ca), (42, Value.int .i64 k), (43, Value.pointer (some ⟨b3, o3 + k * 2, none⟩)), (44, Value.pointer (some ⟨b3, o3 + k * 2 + 1, none⟩)), (45, Value.int .i64 z), (46, Value.tuple #[.int .i64 v, .bool qb]), (32, Value.tuple #[.int .i64 v, .bool qb]), (47, Value.int .i64 v), (48, Value.bool qb), (10, Value.int .i64 v), (11, Value.bool qb)] ⟨hfact 0 (by decide), hfact 1 (by decide), hfact 2 (by decide), hfact 3 (by decide), hfact 4 (by decide), hfact 5 (by decide), hfact 6 (by decide), hfact 7 (by decide), hfact 8 (by decide), hfact 9 (by decide), hfact 10 (by decide), hfact 11 (by decide), hfact 12 (by decide), hfact 13 (by decide), hfact 14 (by decide), hfact 15 (by decide), hfact 16 (by decide), hfact 17 (by decide), hfact 18 (by decide), trivial⟩ rfl
      clear hsz hdf hold hfact
      have B1 : Hid (Below w.heap.size w u) := HB.out.trans (hb.mono HB.out.size)
      clear hb D1 D2 D3 W
      simp only [puts, Act.put, List.setIfInBounds_toArray, List.set_cons_zero, List.set_cons_succ]
      go_wp2_with fail
      go_at_call 16
      refine (A1 _).mono ?_
      rintro e w2 ⟨rfl, hw2⟩
      obtain rfl := hw2.symm
      clear A1
      have HS : Hid (heldB (vV (fun i => ps.getD i 0) (fun i => hs.getD i 0) C k + worthV (ps.getD k 0) (hs.getD k 0) (C k)) = r) := by
        show heldB (vV (fun i => ps.getD i 0) (fun i => hs.getD i 0) C k + worthV (ps.getD k 0) (hs.getD k 0) (C k)) = r
        rw [HV.out, EX.out, EY.out, EZ.out, EV.out]; exact ER.out
      have HW : Hid (worthB (ps.getD k 0) (hs.getD k 0) (C k) = qb) := by
        show worthB (ps.getD k 0) (hs.getD k 0) (C k) = qb
        rw [EX.out, EY.out, EZ.out]; exact EQ.out
      cases qb
      · go_wp2
        go_ret2
        obtain ⟨e1, e2⟩ := value_bad (n := n) (k := k) (p := fun i => ps.getD i 0) (h := fun i => hs.getD i 0) (c := C) hlt (vOk_w HW.out)
        exact ⟨ret_ib e1 e2, B1.out⟩
      cases r
      · go_wp2
        go_ret2
        obtain ⟨e1, e2⟩ := value_bad (n := n) (k := k) (p := fun i => ps.getD i 0) (h := fun i => hs.getD i 0) (c := C) hlt (vOk_s HS.out)
        exact ⟨ret_ib e1 e2, B1.out⟩
      · go_wp2
        go_roundw
        case rel =>
          refine ⟨k + 1, s, by omega, rfl, by go_num, ?_, vOk_all HO.out HW.out HS.out, B1.out⟩
          show vV (fun i => ps.getD i 0) (fun i => hs.getD i 0) C k + worthV (ps.getD k 0) (hs.getD k 0) (C k) = s
          rw [HV.out, EX.out, EY.out, EZ.out, EV.out, ← ES.out, held_is ER.out]
        case measure => simp [intOf]; omega
    · obtain rfl : k = n := by omega
      obtain ⟨e1, e2⟩ := value_all (n := k) (p := fun i => ps.getD i 0) (h := fun i => hs.getD i 0) (c := C) HO.out
      have E1 : Hid (S = valueV k k k (fun i => ps.getD i 0) (fun i => hs.getD i 0) C) := HV.out.symm.trans e1
      have E2 : Hid (true = valueB k k k (fun i => ps.getD i 0) (fun i => hs.getD i 0) C) := e2
      clear e1 e2 HA HP HH
      go_wp2
      go_ret2
      exact ⟨ret_ib E1.out E2.out, HB.out⟩

/-- giroref8.Value. -/
theorem refValue_any (a pa ha : Option Addr) (la ca pl pc hl hc : Nat) (A C : Nat → Int) (ps hs : List Int) (w : World) (HA : Asts w a la A C) (HP : Sl .i64 w pa pl ps) (HH : Sl .i64 w ha hl hs) (hn : la ≤ 9223372036854775807) :
    Calls Try.prog 8 #[.slice a la ca, .slice pa pl pc, .slice ha hl hc] w fun e w' =>
      e = .returned (.tuple #[.int .i64 (valueV la pl hl (fun i => ps.getD i 0) (fun i => hs.getD i 0) C), .bool (valueB la pl hl (fun i => ps.getD i 0) (fun i => hs.getD i 0) C)]) ∧ Below w.heap.size w w' := by
  by_cases h1 : pl = la
  · by_cases h2 : hl = la
    · subst h1 h2
      exact refValue_row a pa ha _ ca pc hc A C ps hs w HA HP HH hn
    · refine (refValue_not a pa ha la ca pl pc hl hc w (.inr h2)).mono ?_
      rintro e w' ⟨rfl, rfl⟩
      obtain ⟨e1, e2⟩ := value_h (np := pl) (p := fun i => ps.getD i 0) (h := fun i => hs.getD i 0) (c := C) h2
      exact ⟨ret_ib e1 e2, Below.refl _ _⟩
  · refine (refValue_not a pa ha la ca pl pc hl hc w (.inl h1)).mono ?_
    rintro e w' ⟨rfl, rfl⟩
    obtain ⟨e1, e2⟩ := value_p (nh := hl) (p := fun i => ps.getD i 0) (h := fun i => hs.getD i 0) (c := C) h1
    exact ⟨ret_ib e1 e2, Below.refl _ _⟩

end Go.Proofs.Ytbnhpehobadebaa
