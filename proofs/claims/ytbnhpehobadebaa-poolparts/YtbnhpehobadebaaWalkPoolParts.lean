/-
  The walk of PoolParts.
-/
import Derived.Test.YtbnhpehobadebaaPartFacts
import Derived.Test.YtbnhpehobadebaaArgs
namespace Go.Proofs.Ytbnhpehobadebaa
open Go.RowKit
set_option linter.unusedVariables false
set_option linter.unusedSimpArgs false
namespace Walk

theorem poolParts_out (pa ha : Option Addr) (pl pc hl hc : Nat) (cut : Int) (w : World) (h : ¬ (pl = hl ∧ pl ≤ 6 ∧ 0 ≤ cut ∧ cut ≤ 10000)) :
    Calls Try.prog 6 #[.slice pa pl pc, .slice ha hl hc, .int .i64 cut] w fun e w' => e = .returned (.bool true) ∧ Below w.heap.size w w' := by
  by_cases h1 : pl = hl
  · subst h1
    by_cases h2 : 6 < (pl : Int)
    · clear h
      go_enter Try.func6, Try.ntmps6
      go_wp2
      go_ret
      exact ⟨rfl, Below.refl _ _⟩
    · by_cases h3 : cut < 0
      · clear h
        go_enter Try.func6, Try.ntmps6
        go_wp2
        go_ret
        exact ⟨rfl, Below.refl _ _⟩
      · have h4 : 10000 < cut := by omega
        clear h
        go_enter Try.func6, Try.ntmps6
        go_wp2
        go_ret
        exact ⟨rfl, Below.refl _ _⟩
  · have h2 : ((pl : Int) == (hl : Int)) = false := by rw [beq_eq_false_iff_ne]; omega
    clear h
    go_enter Try.func6, Try.ntmps6
    go_wp2
    go_ret
    exact ⟨rfl, Below.refl _ _⟩

/-- What is known when k parts are laid. -/
def Parts (w : World) (ps hs : List Int) (cut : Int) (k : Nat) (S : Int) (P H : List Int) (va pv hv : Value) (wr : World) : Prop :=
  wr.ownsRow w.heap.size 31 2 va k (astL cut k) ∧ wr.ownsRow w.heap.size 2 1 pv k (P.map (Value.int .i64)) ∧ wr.ownsRow w.heap.size 2 1 hv k (H.map (Value.int .i64)) ∧
  vV (fun i => ps.getD i 0) (fun i => hs.getD i 0) (fun _ => cut) k = S ∧ vV (fun i => P.getD i 0) (fun i => H.getD i 0) (fun _ => cut) k = S ∧
  (∀ j, j < k → 0 ≤ ps.getD j 0 ∧ ps.getD j 0 ≤ 1048576 ∧ 0 ≤ hs.getD j 0 ∧ hs.getD j 0 ≤ 68719476736) ∧ (∀ j, j < k → 0 ≤ P.getD j 0 ∧ P.getD j 0 ≤ 1048576 ∧ 0 ≤ H.getD j 0 ∧ H.getD j 0 ≤ 68719476736)

theorem wf_getD {l : List Int} (h : ∀ j, j < l.length → 0 ≤ l.getD j 0 ∧ l.getD j 0 ≤ 68719476736) : ∀ z ∈ l, IntKind.i64.wrap z = z := by
  intro z hz
  obtain ⟨j, hj, rfl⟩ := List.mem_iff_getElem.1 hz
  have := h j hj
  simp only [List.getD_eq_getElem?_getD, List.getElem?_eq_getElem hj, Option.getD_some] at this
  exact i64_wf (by omega) (by omega)

set_option maxRecDepth 100000 in
set_option maxHeartbeats 8000000 in
theorem poolParts_in (pa ha : Option Addr) (n pc hc : Nat) (ps hs : List Int) (cut : Int) (w : World) (hP : Sl .i64 w pa n ps) (hH : Sl .i64 w ha n hs) (hnone : ha = none → hc = 0) (hcap : n ≤ hc) (h6 : n ≤ 6) (c0 : 0 ≤ cut) (c1 : cut ≤ 10000) :
    Calls Try.prog 6 #[.slice pa n pc, .slice ha n hc, .int .i64 cut] w fun e w' => e = .returned (.bool true) ∧ Below w.heap.size w w' := by
  obtain ⟨i0, hi, hz0, hz1, hz2⟩ := info_parts infoI64
  obtain ⟨iA, hiA, hzA0, hzA1, hzA2⟩ := info_parts infoAst
  have HP : Hid (Sl .i64 w pa n ps) := hP
  have HH : Hid (Sl .i64 w ha n hs) := hH
  have HN : Hid (ha = none → hc = 0) := hnone
  have i6 : (n : Int) ≤ 6 := by omega
  clear hP hH hnone
  go_enter Try.func6, Try.ntmps6
  go_wp2
  go_loopw [7, 8, 9, 10, 11] (fun ta tp th s i wr => ∃ (k : Nat) (S : Int) (P H : List Int) (va pv hv : Value), va = ta ∧ pv = tp ∧ hv = th ∧ k ≤ n ∧ s = .int .i64 S ∧ i = .int .i64 k ∧ Hid (Parts w ps hs cut k S P H va pv hv wr) ∧ Below w.heap.size w wr) (fun _ _ _ _ i _ => n - (intOf i).toNat)
  case atStart => exact ⟨0, 0, [], [], _, _, _, rfl, rfl, rfl, Nat.zero_le _, rfl, rfl, ⟨World.ownsRow_nil _ _ _ _, World.ownsRow_nil _ _ _ _, World.ownsRow_nil _ _ _ _, rfl, rfl, fun j hj => by omega, fun j hj => by omega⟩, Below.refl _ _⟩
  case round =>
    obtain ⟨k, S, P, H, va, pv, hv, rfl, rfl, rfl, hk, rfl, rfl, HI, bel⟩ := hrel
    have HB0 : Hid (Below w.heap.size w wr) := bel
    clear bel
    by_cases hlt : k < n
    · obtain ⟨b1, o1, rfl, c1', l1, p0, p1⟩ := (HP.out.below HB0.out).at64 hlt
      obtain ⟨b2, o2, rfl, c2', l2, q0, q1⟩ := (HH.out.below HB0.out).at64 hlt
      obtain ⟨x, hx⟩ : ∃ x, ps.getD k 0 = x := ⟨_, rfl⟩
      obtain ⟨y, hy⟩ : ∃ y, hs.getD k 0 = y := ⟨_, rfl⟩
      rw [hx] at c1' p0 p1
      rw [hy] at c2' q0 q1
      have EX : Hid (ps.getD k 0 = x) := hx
      have EY : Hid (hs.getD k 0 = y) := hy
      clear hx hy
      by_cases x0 : x < 0
      · go_wp2
        go_ret
        exact ⟨rfl, HB0.out⟩
      by_cases x1 : 1048576 < x
      · go_wp2
        go_ret
        exact ⟨rfl, HB0.out⟩
      by_cases y0 : y < 0
      · go_wp2
        go_ret
        exact ⟨rfl, HB0.out⟩
      by_cases y1 : 68719476736 < y
      · go_wp2
        go_ret
        exact ⟨rfl, HB0.out⟩
      obtain ⟨g1, g2, g3⟩ := worth_small (p := x) (m := y) (c := cut) (by omega) (by omega) (by omega) (by omega) c0 c1
      have W := refWorth_any x y cut p1 q1
      rw [g1] at W
      obtain ⟨v, hv'⟩ : ∃ v, worthV x y cut = v := ⟨_, rfl⟩
      rw [hv'] at W g2 g3
      have EV : Hid (worthV x y cut = v) := hv'
      clear hv' g1
      obtain ⟨_, s0, s1⟩ := parts_small (p := fun i => ps.getD i 0) (h := fun i => hs.getD i 0) c0 c1 k (by omega) HI.out.2.2.2.2.2.1
      rw [HI.out.2.2.2.1] at s0 s1
      have D1 : Hid (∀ u, Below wr.heap.size wr u → u.cell? ⟨b1, o1 + k, none⟩ = some (.int .i64 x)) := fun u hb => by rw [hb.cell (p := ⟨b1, o1 + k, none⟩) l1]; exact c1'
      have D2 : Hid (∀ u, Below wr.heap.size wr u → u.cell? ⟨b2, o2 + k, none⟩ = some (.int .i64 y)) := fun u hb => by rw [hb.cell (p := ⟨b2, o2 + k, none⟩) l2]; exact c2'
      go_upto_region 11 with fail
      clear c1' c2' l1 l2
      refine region_owes (L := [Fact.is (.slice (some ⟨b1, o1, none⟩) n pc),
        Fact.is (.int .i64 k),
        Fact.is (.pointer (some ⟨b1, o1 + k, none⟩)),
        Fact.is (.int .i64 x),
        Fact.is (.slice (some ⟨b2, o2, none⟩) n hc),
        Fact.is (.int .i64 k),
        Fact.is (.pointer (some ⟨b2, o2 + k, none⟩)),
        Fact.is (.int .i64 y),
        Fact.is (.int .i64 cut),
        Fact.is (.tuple #[.int .i64 v, .bool true]),
        Fact.is (.tuple #[.int .i64 v, .bool true]),
        Fact.is (.int .i64 v),
        Fact.is (.bool true),
        Fact.is (.int .i64 v),
        Fact.is (.bool true)])
        (T := [71, 72, 73, 74, 75, 76, 77, 78, 79, 80, 70, 81, 82, 12, 13]) (by kernel_rfl) (by kernel_rfl) rfl ?owes ?_
      case owes =>
        refine .cons (owes_move (.tmp 0) (.inl rfl) fun q u lh => ⟨wants_free rfl, lh.old 0 rfl⟩) ?_
        refine .cons (owes_move (.tmp 11) (.inl rfl) fun q u lh => ⟨wants_free rfl, lh.old 11 rfl⟩) ?_
        refine .cons (owes_value fun q u lh => ⟨wants_free rfl, .pointer (some ⟨b1, o1 + k, none⟩), by have e71 : q.tmps.getD 71 undef = .slice (some ⟨b1, o1, none⟩) n pc := lh.dep 0 rfl; have e72 : q.tmps.getD 72 undef = .int .i64 k := lh.dep 1 rfl; simp [execOp, Act.eval, e71, e72, hlt, go_sem], rfl⟩) ?_
        refine .cons (owes_value fun q u lh => ⟨wants_free rfl, .int .i64 x, by have e73 : q.tmps.getD 73 undef = .pointer (some ⟨b1, o1 + k, none⟩) := lh.dep 2 rfl; have c := D1.out u lh.below; simp [execOp, Act.eval, e73, c, go_sem], rfl⟩) ?_
        refine .cons (owes_move (.tmp 1) (.inl rfl) fun q u lh => ⟨wants_free rfl, lh.old 1 rfl⟩) ?_
        refine .cons (owes_move (.tmp 11) (.inl rfl) fun q u lh => ⟨wants_free rfl, lh.old 11 rfl⟩) ?_
        refine .cons (owes_value fun q u lh => ⟨wants_free rfl, .pointer (some ⟨b2, o2 + k, none⟩), by have e75 : q.tmps.getD 75 undef = .slice (some ⟨b2, o2, none⟩) n hc := lh.dep 4 rfl; have e76 : q.tmps.getD 76 undef = .int .i64 k := lh.dep 5 rfl; simp [execOp, Act.eval, e75, e76, hlt, go_sem], rfl⟩) ?_
        refine .cons (owes_value fun q u lh => ⟨wants_free rfl, .int .i64 y, by have e77 : q.tmps.getD 77 undef = .pointer (some ⟨b2, o2 + k, none⟩) := lh.dep 6 rfl; have c := D2.out u lh.below; simp [execOp, Act.eval, e77, c, go_sem], rfl⟩) ?_
        refine .cons (owes_move (.tmp 2) (.inl rfl) fun q u lh => ⟨wants_free rfl, lh.old 2 rfl⟩) ?_
        refine .cons (owes_call 13 Try.func13 (by kernel_rfl) (by kernel_rfl) [.tmp 74, .tmp 78, .tmp 79] #[2, 2, 2] rfl fun q u lh => ⟨wants_free rfl, by have e74 : q.tmps.getD 74 undef = .int .i64 x := lh.dep 3 rfl; have e78 : q.tmps.getD 78 undef = .int .i64 y := lh.dep 7 rfl; have e79 : q.tmps.getD 79 undef = .int .i64 cut := lh.dep 8 rfl; show Calls Try.prog 13 #[q.tmps.getD 74 undef, q.tmps.getD 78 undef, q.tmps.getD 79 undef] u _; rw [e74, e78, e79]; exact is_fact (W u)⟩) ?_
        refine .cons (owes_move (.tmp 80) (.inl rfl) fun q u lh => ⟨wants_free rfl, lh.dep 9 rfl⟩) ?_
        refine .cons (owes_value fun q u lh => ⟨wants_free rfl, .int .i64 v, by have e70 : q.tmps.getD 70 undef = .tuple #[.int .i64 v, .bool true] := lh.dep 10 rfl; simp [execOp, Act.eval, e70, go_sem], rfl⟩) ?_
        refine .cons (owes_value fun q u lh => ⟨wants_free rfl, .bool true, by have e70 : q.tmps.getD 70 undef = .tuple #[.int .i64 v, .bool true] := lh.dep 10 rfl; simp [execOp, Act.eval, e70, go_sem], rfl⟩) ?_
        refine .cons (owes_move (.tmp 81) (.inr rfl) fun q u lh => ⟨wants_free rfl, lh.dep 11 rfl⟩) ?_
        refine .cons (owes_move (.tmp 82) (.inr rfl) fun q u lh => ⟨wants_free rfl, lh.dep 12 rfl⟩) ?_
        exact .nil _
      intro q u hb hsz hdf hold hfact
      obtain rfl := frame_puts hsz hdf [71, 72, 73, 74, 75, 76, 77, 78, 79, 80, 70, 81, 82, 12, 13] hold [(71, Value.slice (some ⟨b1, o1, none⟩) n pc), (72, Value.int .i64 k), (73, Value.pointer (some ⟨b1, o1 + k, none⟩)), (74, Value.int .i64 x), (75, Value.slice (some ⟨b2, o2, none⟩) n hc), (76, Value.int .i64 k), (77, Value.pointer (some ⟨b2, o2 + k, none⟩)), (78, Value.int .i64 y), (79, Value.int .i64 cut), (80, Value.tuple #[.int .i64 v, .bool true]), (70, Value.tuple #[.int .i64 v, .bool true]), (81, Value.int .i64 v), (82, Value.bool true), (12, Value.int .i64 v), (13, Value.bool true)] ⟨hfact 0 (by decide), hfact 1 (by decide), hfact 2 (by decide), hfact 3 (by decide), hfact 4 (by decide), hfact 5 (by decide), hfact 6 (by decide), hfact 7 (by decide), hfact 8 (by decide), hfact 9 (by decide), hfact 10 (by decide), hfact 11 (by decide), hfact 12 (by decide), hfact 13 (by decide), hfact 14 (by decide), trivial⟩ rfl
      clear hsz hdf hold hfact
      have B1 : Hid (Below w.heap.size w u) := HB0.out.trans (hb.mono HB0.out.size)
      have F1 : Hid (Below wr.heap.size wr u) := hb
      have OA := own_below (own_below HI.out.1 F1.out) ((Below.refl u.heap.size u).alloc (Nat.le_refl _) (.cells #[.int .i64 0, .int .i64 cut] 31))
      have OP1 : Hid ((u.alloc (.cells #[.int .i64 0, .int .i64 cut] 31)).ownsRow w.heap.size 2 1 pv k (P.map (Value.int .i64))) := own_below (own_below HI.out.2.1 F1.out) ((Below.refl u.heap.size u).alloc (Nat.le_refl _) _)
      have OH1 : Hid ((u.alloc (.cells #[.int .i64 0, .int .i64 cut] 31)).ownsRow w.heap.size 2 1 hv k (H.map (Value.int .i64))) := own_below (own_below HI.out.2.2.1 F1.out) ((Below.refl u.heap.size u).alloc (Nat.le_refl _) _)
      have BA : Hid (Below w.heap.size w (u.alloc (.cells #[.int .i64 0, .int .i64 cut] 31))) := B1.out.alloc B1.out.size _
      have BU : Hid (Below wr.heap.size wr (u.alloc (.cells #[.int .i64 0, .int .i64 cut] 31))) := F1.out.alloc F1.out.size _
      clear hb W F1 B1
      simp only [puts, Act.put, List.setIfInBounds_toArray, List.set_cons_zero, List.set_cons_succ]
      go_wp2_with (refine wpList_append_own _ rfl _ _ 22 rfl w.heap.size 31 iA (.agg #[.int .i64 0, .int .i64 0]) 2 16 Try.underlying22 hiA hzA0 hzA1 hzA2 rfl (by decide) va k (astL cut k) rfl OA ⟨u.heap.size, 0, none⟩ 1 1 [.int .i64 0, .int .i64 cut] rfl rfl ?d2 ?d3 ?d4 ?d5 ?d6 ?_)
      case d3 => exact ⟨rfl, rfl⟩
      case d4 => unfold maxLen; omega
      case d5 => omega
      case d6 => have := BA.out.size; rw [size_alloc] at this; exact this
      intro va' w2 hown hgrow hnil
      have B2 : Hid (Below w.heap.size w w2) := BA.out.grown hgrow BA.out.size (fun k hk => (OA.lt k hk).1)
      have OP : Hid (w2.ownsRow w.heap.size 2 1 pv k (P.map (Value.int .i64))) := OP1.out.kept hgrow (own_apart OP1.out OA (by decide))
      have OH : Hid (w2.ownsRow w.heap.size 2 1 hv k (H.map (Value.int .i64))) := OH1.out.kept hgrow (own_apart OH1.out OA (by decide))
      have OV : Hid (w2.ownsRow w.heap.size 31 2 va' (k + 1) (astL cut (k + 1))) := hown
      have HB : Hid (w.heap.size ≤ w2.heap.size) := B2.out.size
      have M1 : Hid (∀ u, Below w2.heap.size w2 u → u.cell? ⟨b1, o1 + k, none⟩ = some (.int .i64 x)) := by
        intro u hb
        obtain ⟨b1', o1', he, c, _⟩ := ((HP.out.below B2.out).below hb).at64 hlt
        simp at he
        obtain ⟨rfl, rfl⟩ := he
        rw [c, EX.out]
      have M2 : Hid (∀ u, Below w2.heap.size w2 u → u.cell? ⟨b2, o2 + k, none⟩ = some (.int .i64 y)) := by
        intro u hb
        obtain ⟨b1', o1', he, c, _⟩ := ((HH.out.below B2.out).below hb).at64 hlt
        simp at he
        obtain ⟨rfl, rfl⟩ := he
        rw [c, EY.out]
      clear hown hgrow hnil OA OP1 OH1 BA BU D1 D2
      go_upto_region 14 with fail
      refine region_owesY (L := [Fact.is (.slice (some ⟨b1, o1, none⟩) n pc),
        Fact.is (.int .i64 k),
        Fact.is (.pointer (some ⟨b1, o1 + k, none⟩)),
        Fact.is (.int .i64 x),
        Fact.lit w.heap.size 2 .i64 1 [x],
        Fact.is (pv),
        Fact.own w.heap.size 2 .i64 (1 + k) ([x] ++ P),
        Fact.is (.slice (some ⟨b2, o2, none⟩) n hc),
        Fact.is (.int .i64 k),
        Fact.is (.pointer (some ⟨b2, o2 + k, none⟩)),
        Fact.is (.int .i64 y),
        Fact.lit w.heap.size 2 .i64 1 [y],
        Fact.is (hv),
        Fact.own w.heap.size 2 .i64 (1 + k) ([y] ++ H),
        Fact.own w.heap.size 2 .i64 (1 + k) ([x] ++ P),
        Fact.own w.heap.size 2 .i64 (1 + k) ([y] ++ H)])
        (T := [91, 92, 93, 94, 95, 96, 97, 98, 99, 100, 101, 102, 103, 104, 8, 9]) (by kernel_rfl) (by kernel_rfl) rfl ?owes ?_
      case owes =>
        refine .cons (OwesT.y (owes_move (.tmp 0) (.inl rfl) fun q u lh => ⟨wants_free rfl, lh.old 0 rfl⟩)) ?_
        refine .cons (OwesT.y (owes_move (.tmp 11) (.inl rfl) fun q u lh => ⟨wants_free rfl, lh.old 11 rfl⟩)) ?_
        refine .cons (OwesT.y (owes_value fun q u lh => ⟨wants_free rfl, .pointer (some ⟨b1, o1 + k, none⟩), by have e91 : q.tmps.getD 91 undef = .slice (some ⟨b1, o1, none⟩) n pc := lh.dep 0 rfl; have e92 : q.tmps.getD 92 undef = .int .i64 k := lh.dep 1 rfl; simp [execOp, Act.eval, e91, e92, hlt, go_sem], rfl⟩)) ?_
        refine .cons (OwesT.y (owes_value fun q u lh => ⟨wants_free rfl, .int .i64 x, by have e93 : q.tmps.getD 93 undef = .pointer (some ⟨b1, o1 + k, none⟩) := lh.dep 2 rfl; have c := M1.out u lh.below; simp [execOp, Act.eval, e93, c, go_sem], rfl⟩)) ?_
        refine .cons (OwesT.y (owes_make fun q u lh => ⟨wants_free rfl, .slice (some ⟨u.heap.size, 0, none⟩) 1 1, u.alloc (.cells #[.int .i64 x] 2), by have e94 : q.tmps[94]?.getD undef = .int .i64 x := (Array.getD_eq_getD_getElem? ..).symm.trans (lh.dep 3 rfl); simp [execOp, Act.eval, e94, go_sem], (Below.refl _ _).alloc (Nat.le_refl _) _, ⟨u.heap.size, rfl, World.ownsRow_lit u #[.int .i64 x] 1 (Nat.le_trans HB.out lh.below.size) (by decide) rfl⟩⟩)) ?_
        refine .cons (owesY_move 8 (pv) rfl rfl (by kernel_rfl) rfl rfl) ?_
        refine .cons (OwesT.y (owes_append_lit 23 2 w.heap.size 95 96 4 5 1 k .i64 i0 (.int .i64 0) 8 [x] P pv rfl rfl rfl rfl rfl rfl rfl rfl OP.out HB.out Try.underlying23 hi hz0 hz1 hz2 rfl (by unfold maxLen; omega) (by omega) fun q u lh => wants_free rfl)) ?_
        refine .cons (OwesT.y (owes_move (.tmp 1) (.inl rfl) fun q u lh => ⟨wants_free rfl, lh.old 1 rfl⟩)) ?_
        refine .cons (OwesT.y (owes_move (.tmp 11) (.inl rfl) fun q u lh => ⟨wants_free rfl, lh.old 11 rfl⟩)) ?_
        refine .cons (OwesT.y (owes_value fun q u lh => ⟨wants_free rfl, .pointer (some ⟨b2, o2 + k, none⟩), by have e98 : q.tmps.getD 98 undef = .slice (some ⟨b2, o2, none⟩) n hc := lh.dep 7 rfl; have e99 : q.tmps.getD 99 undef = .int .i64 k := lh.dep 8 rfl; simp [execOp, Act.eval, e98, e99, hlt, go_sem], rfl⟩)) ?_
        refine .cons (OwesT.y (owes_value fun q u lh => ⟨wants_free rfl, .int .i64 y, by have e100 : q.tmps.getD 100 undef = .pointer (some ⟨b2, o2 + k, none⟩) := lh.dep 9 rfl; have c := M2.out u lh.below; simp [execOp, Act.eval, e100, c, go_sem], rfl⟩)) ?_
        refine .cons (OwesT.y (owes_make fun q u lh => ⟨wants_free rfl, .slice (some ⟨u.heap.size, 0, none⟩) 1 1, u.alloc (.cells #[.int .i64 y] 2), by have e101 : q.tmps[101]?.getD undef = .int .i64 y := (Array.getD_eq_getD_getElem? ..).symm.trans (lh.dep 10 rfl); simp [execOp, Act.eval, e101, go_sem], (Below.refl _ _).alloc (Nat.le_refl _) _, ⟨u.heap.size, rfl, World.ownsRow_lit u #[.int .i64 y] 1 (Nat.le_trans HB.out lh.below.size) (by decide) rfl⟩⟩)) ?_
        refine .cons (owesY_move 9 (hv) rfl rfl (by kernel_rfl) rfl rfl) ?_
        refine .cons (OwesT.y (owes_append_lit 23 2 w.heap.size 102 103 11 12 1 k .i64 i0 (.int .i64 0) 8 [y] H hv rfl rfl rfl rfl rfl rfl rfl rfl OH.out HB.out Try.underlying23 hi hz0 hz1 hz2 rfl (by unfold maxLen; omega) (by omega) fun q u lh => wants_free rfl)) ?_
        refine .cons (OwesT.y (owes_move (.tmp 97) (.inr rfl) fun q u lh => ⟨wants_free rfl, lh.dep 6 rfl⟩)) ?_
        refine .cons (OwesT.y (owes_move (.tmp 104) (.inr rfl) fun q u lh => ⟨wants_free rfl, lh.dep 13 rfl⟩)) ?_
        exact .nil _
      intro q u hb hsz hdf hold hfact
      obtain ⟨v95, e95⟩ : ∃ v, q.tmps.getD 95 undef = v := ⟨_, rfl⟩
      have f95 : (Fact.lit w.heap.size 2 .i64 1 [x]).1 u v95 := by rw [← e95]; exact hfact 4 (by decide)
      obtain ⟨v97, e97⟩ : ∃ v, q.tmps.getD 97 undef = v := ⟨_, rfl⟩
      have f97 : (Fact.own w.heap.size 2 .i64 (1 + k) ([x] ++ P)).1 u v97 := by rw [← e97]; exact hfact 6 (by decide)
      obtain ⟨v102, e102⟩ : ∃ v, q.tmps.getD 102 undef = v := ⟨_, rfl⟩
      have f102 : (Fact.lit w.heap.size 2 .i64 1 [y]).1 u v102 := by rw [← e102]; exact hfact 11 (by decide)
      obtain ⟨v104, e104⟩ : ∃ v, q.tmps.getD 104 undef = v := ⟨_, rfl⟩
      have f104 : (Fact.own w.heap.size 2 .i64 (1 + k) ([y] ++ H)).1 u v104 := by rw [← e104]; exact hfact 13 (by decide)
      obtain ⟨v8, e8⟩ : ∃ v, q.tmps.getD 8 undef = v := ⟨_, rfl⟩
      have f8 : (Fact.own w.heap.size 2 .i64 (1 + k) ([x] ++ P)).1 u v8 := by rw [← e8]; exact hfact 14 (by decide)
      obtain ⟨v9, e9⟩ : ∃ v, q.tmps.getD 9 undef = v := ⟨_, rfl⟩
      have f9 : (Fact.own w.heap.size 2 .i64 (1 + k) ([y] ++ H)).1 u v9 := by rw [← e9]; exact hfact 15 (by decide)
      obtain rfl := frame_puts hsz hdf [91, 92, 93, 94, 95, 96, 97, 98, 99, 100, 101, 102, 103, 104, 8, 9] hold [(91, Value.slice (some ⟨b1, o1, none⟩) n pc), (92, Value.int .i64 k), (93, Value.pointer (some ⟨b1, o1 + k, none⟩)), (94, Value.int .i64 x), (95, v95), (96, pv), (97, v97), (98, Value.slice (some ⟨b2, o2, none⟩) n hc), (99, Value.int .i64 k), (100, Value.pointer (some ⟨b2, o2 + k, none⟩)), (101, Value.int .i64 y), (102, v102), (103, hv), (104, v104), (8, v8), (9, v9)] ⟨hfact 0 (by decide), hfact 1 (by decide), hfact 2 (by decide), hfact 3 (by decide), e95, hfact 5 (by decide), e97, hfact 7 (by decide), hfact 8 (by decide), hfact 9 (by decide), hfact 10 (by decide), e102, hfact 12 (by decide), e104, e8, e9, trivial⟩ rfl
      clear hsz hdf hold hfact
      clear e8 e9 e95 e97 e102 e104 f95 f97 f102 f104
      have B3 : Hid (Below w.heap.size w u) := B2.out.trans (hb.mono B2.out.size)
      simp only [puts, Act.put, List.setIfInBounds_toArray, List.set_cons_zero, List.set_cons_succ]
      go_wp2
      go_roundw
      case rel =>
        obtain ⟨_, _, _, v1, v2, bd1, bd2⟩ := HI.out
        have n1 : 1 + k = k + 1 := Nat.add_comm _ _
        refine ⟨k + 1, S + v, x :: P, y :: H, _, _, _, rfl, rfl, rfl, by omega, rfl, by go_num, ⟨own_below OV.out hb, ?_, ?_, ?_, ?_, ?_, ?_⟩, B3.out⟩
        · rw [← n1]; exact f8
        · rw [← n1]; exact f9
        · show vV _ _ _ k + worthV (ps.getD k 0) (hs.getD k 0) cut = S + v
          rw [v1, EX.out, EY.out, EV.out]
        · rw [vV_cons, v2, EV.out]; omega
        · intro j hj
          by_cases e : j = k
          · subst e; rw [EX.out, EY.out]; omega
          · exact bd1 j (by omega)
        · intro j hj
          cases j with
          | zero => simp; omega
          | succ j => simp only [List.getD_cons_succ]; exact bd2 j (by omega)
      case measure => simp [intOf]; omega
    · obtain rfl : k = n := by omega
      obtain ⟨oa, op, oh, v1, v2, bd1, bd2⟩ := HI.out
      obtain ⟨k1, _, _⟩ := parts_small (p := fun i => ps.getD i 0) (h := fun i => hs.getD i 0) c0 c1 k h6 bd1
      obtain ⟨k2, _, _⟩ := parts_small (p := fun i => P.getD i 0) (h := fun i => H.getD i 0) c0 c1 k h6 bd2
      obtain ⟨e1, e2⟩ := parts_value k1
      obtain ⟨e3, e4⟩ := parts_value k2
      rw [v1] at e1
      rw [v2] at e3
      have lp : P.length = k := by have := op.1; simpa using this
      have lh : H.length = k := by have := oh.1; simpa using this
      obtain ⟨aa, ca, rfl, hA⟩ := asts_own oa
      obtain ⟨ap, cp, rfl, sp, _⟩ := Sl.own op (wf_getD (fun j hj => by have := bd2 j (by omega); omega))
      obtain ⟨ah, ch, rfl, sh, _⟩ := Sl.own oh (wf_getD (fun j hj => by have := bd2 j (by omega); omega))
      rw [lp] at sp
      rw [lh] at sh
      rw [lp, lh]
      have V1 := value_any aa pa ha k ca k pc k hc _ _ ps hs wr hA (HP.out.below HB0.out) (HH.out.below HB0.out) (by omega)
      rw [e1, e2] at V1
      have V2 : ∀ u, Below wr.heap.size wr u → Calls Try.prog 7 #[.slice aa k ca, .slice ap k cp, .slice ah k ch] u fun e w' => e = .returned (.tuple #[.int .i64 S, .bool true]) ∧ Below u.heap.size u w' := by
        intro u hb
        have := value_any aa ap ah k ca k cp k ch _ _ P H u (hA.below hb) (sp.below hb) (sh.below hb) (by omega)
        rw [e3, e4] at this
        exact this
      clear hA sp sh lp lh op oh oa e1 e2 e3 e4 k1 k2 bd1 bd2 v1 v2 HI
      go_wp2_with fail
      go_at_call 7
      refine V1.mono ?_
      rintro e u1 ⟨rfl, b1⟩
      have K1 : Hid (Below w.heap.size w u1) := HB0.out.trans (b1.mono HB0.out.size)
      have V3 := V2 u1 b1
      clear V1 V2 b1 HB0
      go_wp2_with fail
      go_at_call 7
      refine V3.mono ?_
      rintro e u2 ⟨rfl, b2⟩
      have K2 : Hid (Below w.heap.size w u2) := K1.out.trans (b2.mono K1.out.size)
      have K3 : Hid (Below w.heap.size w (u2.alloc (.cells #[.int .i64 1] 2))) := K2.out.alloc K2.out.size _
      clear V3 b2 K1
      go_wp2_with (refine wpList_append_grows _ rfl _ _ 23 rfl 2 i0 (.int .i64 0) 1 8 Try.underlying23 hi hz0 hz1 hz2 rfl (by decide) _ k k (hs.map (Value.int .i64)) rfl ?n1 ?n2 ?n3 ⟨u2.heap.size, 0, none⟩ 1 1 [.int .i64 1] rfl rfl ?n4 ?n5 ?n6 ?n7 ?n8 ?_)
      case n1 =>
        intro h
        rcases HH.out.2.2 with h0 | ⟨b, off, h', _⟩
        · have := HH.out.1
          rw [h0] at this
          exact ⟨this, this⟩
        · rw [h] at h'; simp at h'
      case n2 => have := HH.out.1; simp; omega
      case n3 =>
        intro b hb j u hj
        have hS := HH.out.below K3.out
        rw [hb] at hS
        exact hS.cells j u hj
      case n4 =>
        intro j u hj
        cases j with
        | zero => simp at hj; subst hj; exact cell_new _ _ _ _ 0
        | succ j => simp at hj
      case n5 => intro u hu; simp at hu; subst hu; rfl
      case n6 => omega
      case n7 => unfold maxLen; omega
      case n8 => omega
      intro v' w3 hown hgrow
      obtain ⟨g, cg, rfl⟩ := own_some hown (fun h => by
        rcases hown.2 with ⟨_, h0⟩ | ⟨g, cap, cur, h', _⟩
        · omega
        · rw [h] at h'; simp at h')
      have K4 : Hid (Below w.heap.size w w3) := K3.out.grown hgrow K3.out.size (fun k hk => by simp at hk)
      have V4 := value_not aa pa (some ⟨g, 0, none⟩) k ca k pc (k + 1) cg w3 (.inr (by omega))
      clear hown hgrow K3 K2
      go_wp2_with fail
      go_at_call 7
      refine V4.mono ?_
      rintro e u4 ⟨rfl, hw4⟩
      obtain rfl := hw4.symm
      clear V4
      go_wp2_with fail
      go_at_call 12
      refine (known_any _).mono ?_
      rintro e u5 ⟨rfl, b5⟩
      have K5 : Hid (Below w.heap.size w u5) := K4.out.trans (b5.mono K4.out.size)
      clear b5
      go_wp2
      go_ret
      exact ⟨rfl, K5.out⟩

theorem poolParts (a0 : Option Addr) (len0 cap0 : Nat) (z0 : List Int) (a1 : Option Addr) (len1 cap1 : Nat) (z1 : List Int) (a2 : Int) (w : World) (w0 : IsRow .i64 w a0 len0 cap0 z0) (w1 : IsRow .i64 w a1 len1 cap1 z1) (w2 : (Lit.int .i64 a2).wf = true) :
    Calls Try.prog 6 #[.slice a0 len0 cap0, .slice a1 len1 cap1, .int .i64 a2] w fun e w' => e = .returned (.bool true) ∧ Below w.heap.size w w' := by
  by_cases h : len0 = len1 ∧ len0 ≤ 6 ∧ 0 ≤ a2 ∧ a2 ≤ 10000
  · obtain ⟨rfl, h1, h2, h3⟩ := h
    exact poolParts_in a0 a1 len0 cap0 cap1 _ _ a2 w (w0.sl wf_i64').1 (w1.sl wf_i64').1 w1.none (w1.sl wf_i64').2.1 h1 h2 h3
  · exact poolParts_out a0 a1 len0 cap0 len1 cap1 a2 w h

end Walk
end Go.Proofs.Ytbnhpehobadebaa
