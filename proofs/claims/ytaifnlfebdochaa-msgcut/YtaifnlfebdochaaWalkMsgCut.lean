/-
  The walk of MsgCut.
-/
import Derived.Test.YtaifnlfebdochaaMsgFacts
namespace Go.Proofs.Ytaifnlfebdochaa
open Go.RowKit
namespace Walk

theorem bytes_has {f : FuncId} {args : Array Value} {w : World} {bs : List Int} {n : Nat} (h : Calls Try.prog f args w (BytesEnd w bs)) (hn : bs.length = n) :
    Calls Try.prog f args w fun e w' => ∃ v, e = .returned v ∧ Below w.heap.size w w' ∧ (Fact.has .u8 n bs).1 w' v := by
  refine h.mono ?_
  rintro e w' ⟨a, c, rfl, hS, h1, h2, bel⟩
  rw [hn] at hS h1 ⊢
  exact ⟨_, rfl, bel, _, _, rfl, hS, h1, h2⟩

theorem readS_cons (k : Int) (bs : List Int) : readS (k :: bs) = if (getS bs).2 = 0 ∧ ((getS bs).1.length : Int) = manyS k then (k :: six (getS bs).1, 0) else ([0, 0, 0, 0, 0, 0, 0], 2) := rfl

/-- A message's bytes with one more behind are none. -/
theorem readS_more (k : Int) (l : List Int) (m : Int) : (readS (k :: encs l ++ [m])).2 = 2 := by
  rw [List.cons_append, readS_cons]
  have : getS (encs l ++ [m]) = ([], 2) := by
    unfold getS
    rw [List.length_append, encs_length, if_neg (by simp)]
  rw [this, if_neg (by simp)]

/-- A message's bytes cut short are none. -/
theorem readS_cut (k : Int) (l : List Int) (hl : (l.length : Int) = manyS k) (j : Nat) (hj : j < 1 + 8 * l.length) : (readS ((k :: encs l).take j)).2 = 2 := by
  cases j with
  | zero => rfl
  | succ j =>
    rw [List.take_succ_cons, readS_cons]
    have hlen : ((encs l).take j).length = j := by rw [List.length_take, encs_length]; omega
    rw [if_neg]
    rintro ⟨h1, h2⟩
    unfold getS at h1 h2
    rw [hlen] at h1 h2
    by_cases h8 : j % 8 = 0
    · rw [if_pos h8, decs_length] at h2
      omega
    · rw [if_neg h8] at h1
      simp at h1

theorem readCmdS_more (who k : Int) (l : List Int) (m : Int) : (readCmdS ((encs [who] ++ (k :: encs l)) ++ [m])).2 = 2 := by
  have e2 : ((encs [who] ++ (k :: encs l)) ++ [m]).drop 8 = k :: encs l ++ [m] := by rw [encs_one, List.append_assoc]; exact List.drop_left' (enc_length who)
  unfold readCmdS
  split
  · rfl
  · rw [e2, if_neg (by rw [readS_more]; decide)]

theorem readCmdS_cut (who k : Int) (l : List Int) (hl : (l.length : Int) = manyS k) (j : Nat) (hj : j < 9 + 8 * l.length) : (readCmdS ((encs [who] ++ (k :: encs l)).take j)).2 = 2 := by
  unfold readCmdS
  split
  · rfl
  · rename_i h8
    have h8' : 8 ≤ j := by rw [List.length_take] at h8; omega
    have e2 : ((encs [who] ++ (k :: encs l)).take j).drop 8 = (k :: encs l).take (j - 8) := by
      rw [List.drop_take, encs_one]
      rw [List.drop_left' (enc_length who)]
    rw [e2, if_neg (by rw [readS_cut k l hl (j - 8) (by omega)]; decide)]

/-- A row of bytes that the call owns, as a slice. -/
theorem own_sl {w : World} {B : Nat} {T : TypeId} {v : Value} {n : Nat} {zs : List Int} (ho : w.ownsRow B T 1 v n (zs.map (Value.int .u8))) (hne : v ≠ .slice none 0 0) (hwf : ∀ z ∈ zs, IntKind.u8.wrap z = z) :
    ∃ g c, v = .slice (some ⟨g, 0, none⟩) n c ∧ Sl .u8 w (some ⟨g, 0, none⟩) n zs ∧ n ≤ c ∧ c ≤ 9223372036854775807 := by
  obtain ⟨g, c, rfl⟩ := own_some ho hne
  obtain ⟨h1, h2⟩ := own_cap ho
  obtain ⟨a, c', hv, hs, _⟩ := Sl.own ho hwf
  simp only [Value.slice.injEq] at hv
  obtain ⟨rfl, rfl, rfl⟩ := hv
  exact ⟨g, c, rfl, hs, h1, h2⟩

set_option maxHeartbeats 4000000 in
theorem cut_not (who k f0 f1 f2 f3 f4 f5 cut more : Int) (w : World) (h : isS k [f0, f1, f2, f3, f4, f5] = false) :
    Calls Try.prog 7 #[.agg #[.int .i64 who, .int .i64 k, .int .i64 f0, .int .i64 f1, .int .i64 f2, .int .i64 f3, .int .i64 f4, .int .i64 f5], .int .i64 cut, .int .u8 more] w fun e w' => e = .returned (.bool true) ∧ Below w.heap.size w w' := by
  have BY := fun u => refBytes_none k f0 f1 f2 f3 f4 f5 u h
  have CY := fun u => refCmd_none who k f0 f1 f2 f3 f4 f5 u h
  clear h
  have A1 : Hid (At (w.alloc (.cells #[.int .i64 who, .int .i64 k, .int .i64 f0, .int .i64 f1, .int .i64 f2, .int .i64 f3, .int .i64 f4, .int .i64 f5] 26)) w.heap.size [who, k, f0, f1, f2, f3, f4, f5]) := at_new w [who, k, f0, f1, f2, f3, f4, f5] 26 (0, 0)
  have B1 : Hid (Below w.heap.size w (w.alloc (.cells #[.int .i64 who, .int .i64 k, .int .i64 f0, .int .i64 f1, .int .i64 f2, .int .i64 f3, .int .i64 f4, .int .i64 f5] 26))) := (Below.refl _ _).alloc (Nat.le_refl _) _
  obtain ⟨g, hg⟩ : ∃ g, w.heap.size = g := ⟨_, rfl⟩
  rw [hg] at A1
  go_enter Try.func7, Try.ntmps7
  go_wp2
  have HG : Hid (w.heap.size = g) := hg
  clear hg
  refine region_owes (L := [Fact.is (.pointer (some ⟨g, 1, none⟩)),
    Fact.is (.agg #[.int .i64 k, .int .i64 f0, .int .i64 f1, .int .i64 f2, .int .i64 f3, .int .i64 f4, .int .i64 f5]),
    Fact.is (.slice none 0 0),
    Fact.is (.agg #[.int .i64 who, .int .i64 k, .int .i64 f0, .int .i64 f1, .int .i64 f2, .int .i64 f3, .int .i64 f4, .int .i64 f5]),
    Fact.is (.slice none 0 0),
    Fact.is (.slice none 0 0),
    Fact.is (.slice none 0 0)])
    (T := [17, 18, 19, 20, 21, 7, 8]) (by kernel_rfl) (by kernel_rfl) rfl ?owes ?_
  case owes =>
    refine .cons (owes_value fun q u lh => ⟨wants_free rfl, .pointer (some ⟨g, 1, none⟩), by have e3 : q.tmps.getD 3 undef = .pointer (some ⟨g, 0, none⟩) := lh.old 3 rfl; simp [execOp, Act.eval, e3, go_sem], rfl⟩) ?_
    refine .cons (owes_value fun q u lh => ⟨wants_free rfl, .agg #[.int .i64 k, .int .i64 f0, .int .i64 f1, .int .i64 f2, .int .i64 f3, .int .i64 f4, .int .i64 f5], by have e17 : q.tmps.getD 17 undef = .pointer (some ⟨g, 1, none⟩) := lh.dep 0 rfl; obtain ⟨p0, p1, p2, p3, p4, p5, p6, p7⟩ := (A1.out.below lh.below).eight; simp [execOp, Act.eval, e17, p1, p2, p3, p4, p5, p6, p7, go_sem], rfl⟩) ?_
    refine .cons (owes_call 12 Try.func12 (by kernel_rfl) (by kernel_rfl) [.tmp 18] #[24] rfl fun q u lh => ⟨wants_free rfl, by have e18 : q.tmps.getD 18 undef = .agg #[.int .i64 k, .int .i64 f0, .int .i64 f1, .int .i64 f2, .int .i64 f3, .int .i64 f4, .int .i64 f5] := lh.dep 1 rfl; show Calls Try.prog 12 #[q.tmps.getD 18 undef] u _; rw [e18]; exact none_fact (BY u)⟩) ?_
    refine .cons (owes_value fun q u lh => ⟨wants_free rfl, .agg #[.int .i64 who, .int .i64 k, .int .i64 f0, .int .i64 f1, .int .i64 f2, .int .i64 f3, .int .i64 f4, .int .i64 f5], by have e3 : q.tmps.getD 3 undef = .pointer (some ⟨g, 0, none⟩) := lh.old 3 rfl; obtain ⟨p0, p1, p2, p3, p4, p5, p6, p7⟩ := (A1.out.below lh.below).eight; simp [execOp, Act.eval, e3, p0, p1, p2, p3, p4, p5, p6, p7, go_sem], rfl⟩) ?_
    refine .cons (owes_call 13 Try.func13 (by kernel_rfl) (by kernel_rfl) [.tmp 20] #[26] rfl fun q u lh => ⟨wants_free rfl, by have e20 : q.tmps.getD 20 undef = .agg #[.int .i64 who, .int .i64 k, .int .i64 f0, .int .i64 f1, .int .i64 f2, .int .i64 f3, .int .i64 f4, .int .i64 f5] := lh.dep 3 rfl; show Calls Try.prog 13 #[q.tmps.getD 20 undef] u _; rw [e20]; exact none_fact (CY u)⟩) ?_
    refine .cons (owes_move (.tmp 19) (.inr rfl) fun q u lh => ⟨wants_free rfl, lh.dep 2 rfl⟩) ?_
    refine .cons (owes_move (.tmp 21) (.inr rfl) fun q u lh => ⟨wants_free rfl, lh.dep 4 rfl⟩) ?_
    exact .nil _
  intro q u hb hsz hdf hold hfact
  obtain rfl := frame_puts hsz hdf [17, 18, 19, 20, 21, 7, 8] hold [(17, .pointer (some ⟨g, 1, none⟩)), (18, .agg #[.int .i64 k, .int .i64 f0, .int .i64 f1, .int .i64 f2, .int .i64 f3, .int .i64 f4, .int .i64 f5]), (19, .slice none 0 0), (20, .agg #[.int .i64 who, .int .i64 k, .int .i64 f0, .int .i64 f1, .int .i64 f2, .int .i64 f3, .int .i64 f4, .int .i64 f5]), (21, .slice none 0 0), (7, .slice none 0 0), (8, .slice none 0 0)] ⟨hfact 0 (by decide), hfact 1 (by decide), hfact 2 (by decide), hfact 3 (by decide), hfact 4 (by decide), hfact 5 (by decide), hfact 6 (by decide), trivial⟩ rfl
  clear hsz hdf hold hfact
  have B2 : Below w.heap.size w u := B1.out.trans (hb.mono B1.out.size)
  clear hb A1 B1 BY CY
  simp only [puts, Act.put, List.setIfInBounds_toArray, List.set_cons_zero, List.set_cons_succ]
  go_wp2
  go_ret
  exact ⟨rfl, B2⟩

set_option maxHeartbeats 4000000 in
theorem cut_is (who k f0 f1 f2 f3 f4 f5 cut more : Int) (w : World) (h : isS k [f0, f1, f2, f3, f4, f5] = true) (hwf : ∀ z ∈ [f0, f1, f2, f3, f4, f5], IntKind.i64.wrap z = z) (hw0 : IntKind.i64.wrap who = who) (hmo : IntKind.u8.wrap more = more) :
    Calls Try.prog 7 #[.agg #[.int .i64 who, .int .i64 k, .int .i64 f0, .int .i64 f1, .int .i64 f2, .int .i64 f3, .int .i64 f4, .int .i64 f5], .int .i64 cut, .int .u8 more] w fun e w' => e = .returned (.bool true) ∧ Below w.heap.size w w' := by
  obtain ⟨i0, hi, hz0, hz1, hz2⟩ := info_parts infoU8
  have BY := fun u => refBytes_is k f0 f1 f2 f3 f4 f5 u h hwf
  have CY := fun u => refCmd_is who k f0 f1 f2 f3 f4 f5 u h hwf hw0
  obtain ⟨_, _, h0, h6, _⟩ := isS_kind h
  have hll : (([f0, f1, f2, f3, f4, f5].take (manyS k).toNat).length : Int) = manyS k := by rw [List.length_take]; simp; omega
  obtain ⟨l, hl⟩ : ∃ l, [f0, f1, f2, f3, f4, f5].take (manyS k).toNat = l := ⟨_, rfl⟩
  rw [hl] at hll
  have hbs : bytesS k [f0, f1, f2, f3, f4, f5] = k :: encs l := by rw [bytesS, hl]
  have hcs : cmdS who k [f0, f1, f2, f3, f4, f5] = encs [who] ++ (k :: encs l) := by rw [cmdS, hbs]
  have R1 := readS_more k l more
  have R2 := readS_cut k l hll
  have R3 := readCmdS_more who k l more
  have R4 := readCmdS_cut who k l hll
  simp only [hbs] at BY
  simp only [hcs] at CY
  have e1 : (k :: encs l).length = 1 + 8 * l.length := by rw [List.length_cons, encs_length]; omega
  have e2 : (encs [who] ++ (k :: encs l)).length = 9 + 8 * l.length := by rw [List.length_append, e1, encs_one, enc_length]; omega
  rw [← e1] at R2
  rw [← e2] at R4
  obtain ⟨bs, hb'⟩ : ∃ bs, k :: encs l = bs := ⟨_, rfl⟩
  rw [hb'] at R1 R2 e1
  simp only [hb'] at BY CY R3 R4 e2
  obtain ⟨cs, hc'⟩ : ∃ cs, encs [who] ++ bs = cs := ⟨_, rfl⟩
  simp only [hc'] at CY R3 R4 e2
  obtain ⟨NB, hNB⟩ : ∃ NB, bs.length = NB := ⟨_, rfl⟩
  obtain ⟨NC, hNC⟩ : ∃ NC, cs.length = NC := ⟨_, rfl⟩
  have HNB : Hid (bs.length = NB) := hNB
  have HNC : Hid (cs.length = NC) := hNC
  rw [hNB] at R2 e1
  rw [hNC] at R4 e2
  have lb : NB ≤ 49 := by omega
  have lb1 : 1 ≤ NB := by omega
  have lc : NC ≤ 57 := by omega
  have lc1 : 9 ≤ NC := by omega
  have HR1 : Hid ((readS (bs ++ [more])).2 = 2) := R1
  have HR2 : Hid (∀ j, j < NB → (readS (bs.take j)).2 = 2) := R2
  have HR3 : Hid ((readCmdS (cs ++ [more])).2 = 2) := R3
  have HR4 : Hid (∀ j, j < NC → (readCmdS (cs.take j)).2 = 2) := R4
  clear h hbs hcs hNB hNC hll hl hb' hc' e1 e2 R1 R2 R3 R4 hwf hw0 h0 h6
  have A1 : Hid (At (w.alloc (.cells #[.int .i64 who, .int .i64 k, .int .i64 f0, .int .i64 f1, .int .i64 f2, .int .i64 f3, .int .i64 f4, .int .i64 f5] 26)) w.heap.size [who, k, f0, f1, f2, f3, f4, f5]) := at_new w [who, k, f0, f1, f2, f3, f4, f5] 26 (0, 0)
  have B1 : Hid (Below w.heap.size w (w.alloc (.cells #[.int .i64 who, .int .i64 k, .int .i64 f0, .int .i64 f1, .int .i64 f2, .int .i64 f3, .int .i64 f4, .int .i64 f5] 26))) := (Below.refl _ _).alloc (Nat.le_refl _) _
  obtain ⟨g, hg⟩ : ∃ g, w.heap.size = g := ⟨_, rfl⟩
  rw [hg] at A1
  go_enter Try.func7, Try.ntmps7
  go_wp2
  have HG : Hid (w.heap.size = g) := hg
  clear hg
  refine region_owes (L := [Fact.is (.pointer (some ⟨g, 1, none⟩)),
    Fact.is (.agg #[.int .i64 k, .int .i64 f0, .int .i64 f1, .int .i64 f2, .int .i64 f3, .int .i64 f4, .int .i64 f5]),
    Fact.has .u8 NB bs,
    Fact.is (.agg #[.int .i64 who, .int .i64 k, .int .i64 f0, .int .i64 f1, .int .i64 f2, .int .i64 f3, .int .i64 f4, .int .i64 f5]),
    Fact.has .u8 NC cs,
    Fact.has .u8 NB bs,
    Fact.has .u8 NC cs])
    (T := [17, 18, 19, 20, 21, 7, 8]) (by kernel_rfl) (by kernel_rfl) rfl ?owes ?_
  case owes =>
    refine .cons (owes_value fun q u lh => ⟨wants_free rfl, .pointer (some ⟨g, 1, none⟩), by have e3 : q.tmps.getD 3 undef = .pointer (some ⟨g, 0, none⟩) := lh.old 3 rfl; simp [execOp, Act.eval, e3, go_sem], rfl⟩) ?_
    refine .cons (owes_value fun q u lh => ⟨wants_free rfl, .agg #[.int .i64 k, .int .i64 f0, .int .i64 f1, .int .i64 f2, .int .i64 f3, .int .i64 f4, .int .i64 f5], by have e17 : q.tmps.getD 17 undef = .pointer (some ⟨g, 1, none⟩) := lh.dep 0 rfl; obtain ⟨p0, p1, p2, p3, p4, p5, p6, p7⟩ := (A1.out.below lh.below).eight; simp [execOp, Act.eval, e17, p1, p2, p3, p4, p5, p6, p7, go_sem], rfl⟩) ?_
    refine .cons (owes_call 12 Try.func12 (by kernel_rfl) (by kernel_rfl) [.tmp 18] #[24] rfl fun q u lh => ⟨wants_free rfl, by have e18 : q.tmps.getD 18 undef = .agg #[.int .i64 k, .int .i64 f0, .int .i64 f1, .int .i64 f2, .int .i64 f3, .int .i64 f4, .int .i64 f5] := lh.dep 1 rfl; show Calls Try.prog 12 #[q.tmps.getD 18 undef] u _; rw [e18]; exact bytes_has (BY u) HNB.out⟩) ?_
    refine .cons (owes_value fun q u lh => ⟨wants_free rfl, .agg #[.int .i64 who, .int .i64 k, .int .i64 f0, .int .i64 f1, .int .i64 f2, .int .i64 f3, .int .i64 f4, .int .i64 f5], by have e3 : q.tmps.getD 3 undef = .pointer (some ⟨g, 0, none⟩) := lh.old 3 rfl; obtain ⟨p0, p1, p2, p3, p4, p5, p6, p7⟩ := (A1.out.below lh.below).eight; simp [execOp, Act.eval, e3, p0, p1, p2, p3, p4, p5, p6, p7, go_sem], rfl⟩) ?_
    refine .cons (owes_call 13 Try.func13 (by kernel_rfl) (by kernel_rfl) [.tmp 20] #[26] rfl fun q u lh => ⟨wants_free rfl, by have e20 : q.tmps.getD 20 undef = .agg #[.int .i64 who, .int .i64 k, .int .i64 f0, .int .i64 f1, .int .i64 f2, .int .i64 f3, .int .i64 f4, .int .i64 f5] := lh.dep 3 rfl; show Calls Try.prog 13 #[q.tmps.getD 20 undef] u _; rw [e20]; exact bytes_has (CY u) HNC.out⟩) ?_
    refine .cons (owes_move (.tmp 19) (.inr rfl) fun q u lh => ⟨wants_free rfl, lh.dep 2 rfl⟩) ?_
    refine .cons (owes_move (.tmp 21) (.inr rfl) fun q u lh => ⟨wants_free rfl, lh.dep 4 rfl⟩) ?_
    exact .nil _
  intro q u hb hsz hdf hold hfact
  obtain ⟨a19, c19, v19, s19, l19, m19⟩ : (Fact.has .u8 NB bs).1 u (q.tmps.getD 19 undef) := hfact 2 (by decide)
  obtain ⟨a21, c21, v21, s21, l21, m21⟩ : (Fact.has .u8 NC cs).1 u (q.tmps.getD 21 undef) := hfact 4 (by decide)
  obtain ⟨a7, c7, v7, s7, l7, m7⟩ : (Fact.has .u8 NB bs).1 u (q.tmps.getD 7 undef) := hfact 5 (by decide)
  obtain ⟨a8, c8, v8, s8, l8, m8⟩ : (Fact.has .u8 NC cs).1 u (q.tmps.getD 8 undef) := hfact 6 (by decide)
  obtain rfl := frame_puts hsz hdf [17, 18, 19, 20, 21, 7, 8] hold [(17, .pointer (some ⟨g, 1, none⟩)), (18, .agg #[.int .i64 k, .int .i64 f0, .int .i64 f1, .int .i64 f2, .int .i64 f3, .int .i64 f4, .int .i64 f5]), (19, .slice (some a19) NB c19), (20, .agg #[.int .i64 who, .int .i64 k, .int .i64 f0, .int .i64 f1, .int .i64 f2, .int .i64 f3, .int .i64 f4, .int .i64 f5]), (21, .slice (some a21) NC c21), (7, .slice (some a7) NB c7), (8, .slice (some a8) NC c8)] ⟨hfact 0 (by decide), hfact 1 (by decide), v19, hfact 3 (by decide), v21, v7, v8, trivial⟩ rfl
  clear hsz hdf hold hfact
  have B2 : Below w.heap.size w u := B1.out.trans (hb.mono B1.out.size)
  have X7 : Hid (Sl .u8 u (some a7) NB bs) := s7
  have X8 : Hid (Sl .u8 u (some a8) NC cs) := s8
  clear hb A1 B1 BY CY s7 s8 v7 v8 v19 v21 s19 s21 l19 l21 m19 m21
  simp only [puts, Act.put, List.setIfInBounds_toArray, List.set_cons_zero, List.set_cons_succ]
  have n0 : ((NB : Int) == 0) = false := by simp; omega
  by_cases c0 : cut < 0
  · go_wp2
    go_ret
    exact ⟨rfl, B2⟩
  by_cases c1 : (NC : Int) ≤ cut
  · have c0' : 0 ≤ cut := by omega
    clear c0
    go_wp2
    go_ret
    exact ⟨rfl, B2⟩
  obtain ⟨ct, rfl⟩ : ∃ ct : Nat, cut = ct := ⟨cut.toNat, by omega⟩
  have k1 : ct < NC := by omega
  have k2 : (ct : Int) < NC := by omega
  have k3 : (0 : Int) ≤ ct := by omega
  clear c0 c1
  have O0 := World.ownsRow_lit (base := u.heap.size) (e := 5) (size := 1) u #[] 0 (Nat.le_refl _) (by decide) rfl
  have X7' := X7.out.alloc (.cells #[] 5)
  go_wp2_with (at_builtin; refine wpList_append_sl rfl _ _ 27 rfl u.heap.size 5 i0 (.int .u8 0) 1 Try.underlying27 hi hz0 hz1 hz2 rfl _ _ _ rfl O0 .u8 (some a7) NB c7 bs rfl X7' (fun h => by simp at h) ?c3 ?c4 ?c5 ?_)
  case c3 => unfold maxLen; omega
  case c4 => omega
  intro v4 w4 hown4 hg4 hnn4
  have b4 : Below u.heap.size u w4 := ((Below.refl u.heap.size u).alloc (Nat.le_refl _) _).grown hg4 (by simp) (fun k hk => by simp [Value.ownBlock] at hk; omega)
  have wfm : ∀ z ∈ [more], IntKind.u8.wrap z = z := by simpa using hmo
  have N4 : Sl .u8 (w4.alloc (.cells #[.int .u8 more] 5)) (some ⟨w4.heap.size, 0, none⟩) 1 [more] := Sl.new .u8 w4 _ (0, 0) [more] wfm
  have O4 := hown4.alloc (.cells #[.int .u8 more] 5)
  have hb4 : Below u.heap.size u (w4.alloc (.cells #[.int .u8 more] 5)) := b4.alloc b4.size _
  clear O0 X7' hg4
  go_wp2_with (at_builtin; refine wpList_append_sl rfl _ _ 27 rfl u.heap.size 5 i0 (.int .u8 0) 1 Try.underlying27 hi hz0 hz1 hz2 rfl _ _ _ rfl O4 .u8 (some ⟨w4.heap.size, 0, none⟩) 1 1 [more] rfl N4 (fun h => by simp at h) ?d3 ?d4 ?d5 ?_)
  case d3 => unfold maxLen; omega
  case d4 => omega
  case d5 => exact hb4.size
  intro v5 w5 hown5 hg5 hnn5
  have wfb : ∀ z ∈ bs ++ [more], IntKind.u8.wrap z = z := fun z hz => by
    rcases List.mem_append.mp hz with hz | hz
    · exact X7.out.2.1 z hz
    · exact wfm z hz
  have O5 : w5.ownsRow u.heap.size 5 1 v5 (NB + 1) ((bs ++ [more]).map (Value.int .u8)) := by simpa using hown5
  obtain ⟨g5, c5, rfl, S5, lc5, mc5⟩ := own_sl O5 (by first | exact hnn5 | exact hnn5 hnn4) wfb
  have b5 : Below u.heap.size u w5 := hb4.grown hg5 hb4.size (fun k hk => (hown4.lt k hk).1)
  have B5 := B2.trans (b5.mono B2.size)
  have Y7 : Hid (Sl .u8 w5 (some a7) NB bs) := X7.out.below b5
  have Y8 : Hid (Sl .u8 w5 (some a8) NC cs) := X8.out.below b5
  clear hown5 hg5 hnn5 O4 N4 hb4 hown4 hnn4 b4 O5 b5 B2 X7 X8
  go_wp2_with fail
  go_at_call 16
  refine (read_any (some ⟨g5, 0, none⟩) (NB + 1) c5 (bs ++ [more]) _ S5 lc5 mc5 (by omega)).mono ?_
  rintro e w6 ⟨k6, f06, f16, f26, f36, f46, f56, er, hR, rfl, b6⟩
  have her := HR1.out
  rw [hR] at her
  simp only at her
  subst her
  have al : Below w6.heap.size w6 (w6.alloc (.cells #[.int .i64 k6, .int .i64 f06, .int .i64 f16, .int .i64 f26, .int .i64 f36, .int .i64 f46, .int .i64 f56] 24)) := (Below.refl _ _).alloc (Nat.le_refl _) _
  have B6 := B5.trans (b6.mono B5.size)
  have B7 := B6.trans (al.mono B6.size)
  have Z7 : Hid (Sl .u8 (w6.alloc (.cells #[.int .i64 k6, .int .i64 f06, .int .i64 f16, .int .i64 f26, .int .i64 f36, .int .i64 f46, .int .i64 f56] 24)) (some a7) NB bs) := (Y7.out.below b6).below al
  have Z8 : Hid (Sl .u8 (w6.alloc (.cells #[.int .i64 k6, .int .i64 f06, .int .i64 f16, .int .i64 f26, .int .i64 f36, .int .i64 f46, .int .i64 f56] 24)) (some a8) NC cs) := (Y8.out.below b6).below al
  clear hR b6 al B6 B5 S5 Y7 Y8
  have k4 : (ct : Int) ≤ c8 := by omega
  go_wp2_with fail
  go_at_call 17
  refine (readCmd_any (some a8) ct c8 (cs.take ct) _ (Z8.out.take ct (by omega)) (by omega) m8 (by omega)).mono ?_
  rintro e w8 ⟨x8, k8, f08, f18, f28, f38, f48, f58, er, hR, rfl, b8⟩
  have her := HR4.out ct k1
  rw [hR] at her
  simp only at her
  subst her
  have al : Below w8.heap.size w8 (w8.alloc (.cells #[.int .i64 x8, .int .i64 k8, .int .i64 f08, .int .i64 f18, .int .i64 f28, .int .i64 f38, .int .i64 f48, .int .i64 f58] 26)) := (Below.refl _ _).alloc (Nat.le_refl _) _
  have B8 := B7.trans (b8.mono B7.size)
  have B9 := B8.trans (al.mono B8.size)
  have W7 : Hid (Sl .u8 (w8.alloc (.cells #[.int .i64 x8, .int .i64 k8, .int .i64 f08, .int .i64 f18, .int .i64 f28, .int .i64 f38, .int .i64 f48, .int .i64 f58] 26)) (some a7) NB bs) := (Z7.out.below b8).below al
  have W8 : Hid (Sl .u8 (w8.alloc (.cells #[.int .i64 x8, .int .i64 k8, .int .i64 f08, .int .i64 f18, .int .i64 f28, .int .i64 f38, .int .i64 f48, .int .i64 f58] 26)) (some a8) NC cs) := (Z8.out.below b8).below al
  clear hR b8 al B8 B7 Z7 Z8
  have hNB1 : ((NB - 1 : Nat) : Int) = (NB : Int) - 1 := by omega
  go_wp2_with fail
  all_goals
    go_at_call 16
    refine (read_any (some a7) _ c7 (bs.take _) _ (W7.out.take _ (by omega)) (by omega) m7 (by omega)).mono ?_
    rintro e w10 ⟨k9, f09, f19, f29, f39, f49, f59, er, hR, rfl, b10⟩
    have her := HR2.out _ (by first | exact (by omega : ct < NB) | exact (by omega : NB - 1 < NB))
    rw [hR] at her
    simp only at her
    subst her
    have al : Below w10.heap.size w10 (w10.alloc (.cells #[.int .i64 k9, .int .i64 f09, .int .i64 f19, .int .i64 f29, .int .i64 f39, .int .i64 f49, .int .i64 f59] 24)) := (Below.refl _ _).alloc (Nat.le_refl _) _
    have B10 := B9.trans (b10.mono B9.size)
    have B11 := B10.trans (al.mono B10.size)
    have V8 : Hid (Sl .u8 (w10.alloc (.cells #[.int .i64 k9, .int .i64 f09, .int .i64 f19, .int .i64 f29, .int .i64 f39, .int .i64 f49, .int .i64 f59] 24)) (some a8) NC cs) := (W8.out.below b10).below al
    clear hR b10 al B10 B9 W7 W8
    obtain ⟨wa, hwa⟩ : ∃ wa, w10.alloc (.cells #[.int .i64 k9, .int .i64 f09, .int .i64 f19, .int .i64 f29, .int .i64 f39, .int .i64 f49, .int .i64 f59] 24) = wa := ⟨_, rfl⟩
    rw [hwa] at B11 V8
    have O6 := World.ownsRow_lit (base := wa.heap.size) (e := 5) (size := 1) wa #[] 0 (Nat.le_refl _) (by decide) rfl
    have V8' := V8.out.alloc (.cells #[] 5)
    go_wp2_with (at_builtin; refine wpList_append_sl rfl _ _ 27 rfl wa.heap.size 5 i0 (.int .u8 0) 1 Try.underlying27 hi hz0 hz1 hz2 rfl _ _ _ rfl O6 .u8 (some a8) NC c8 cs rfl V8' (fun h => by simp at h) (by unfold maxLen; omega) (by omega) (by simp) ?_)
    intro v4 w14 hown4 hg4 hnn4
    have b4 : Below wa.heap.size wa w14 := ((Below.refl wa.heap.size wa).alloc (Nat.le_refl _) _).grown hg4 (by simp) (fun k hk => by simp [Value.ownBlock] at hk; omega)
    have N4 : Sl .u8 (w14.alloc (.cells #[.int .u8 more] 5)) (some ⟨w14.heap.size, 0, none⟩) 1 [more] := Sl.new .u8 w14 _ (0, 0) [more] wfm
    have O4 := hown4.alloc (.cells #[.int .u8 more] 5)
    have hb4 : Below wa.heap.size wa (w14.alloc (.cells #[.int .u8 more] 5)) := b4.alloc b4.size _
    have hsz4 := hb4.size
    clear O6 V8' hg4
    go_wp2_with (at_builtin; refine wpList_append_sl rfl _ _ 27 rfl wa.heap.size 5 i0 (.int .u8 0) 1 Try.underlying27 hi hz0 hz1 hz2 rfl _ _ _ rfl O4 .u8 (some ⟨w14.heap.size, 0, none⟩) 1 1 [more] rfl N4 (fun h => by simp at h) (by unfold maxLen; omega) (by omega) (by exact hb4.size) ?_)
    intro v5 w15 hown5 hg5 hnn5
    have wfc : ∀ z ∈ cs ++ [more], IntKind.u8.wrap z = z := fun z hz => by
      rcases List.mem_append.mp hz with hz | hz
      · exact V8.out.2.1 z hz
      · exact wfm z hz
    have O5 : w15.ownsRow wa.heap.size 5 1 v5 (NC + 1) ((cs ++ [more]).map (Value.int .u8)) := by simpa using hown5
    obtain ⟨g15, c15, rfl, S5, lc5, mc5⟩ := own_sl O5 (by first | exact hnn5 | exact hnn5 hnn4) wfc
    have b5 : Below wa.heap.size wa w15 := hb4.grown hg5 hb4.size (fun k hk => (hown4.lt k hk).1)
    have B15 := B11.trans (b5.mono B11.size)
    clear hown5 hg5 hnn5 O4 N4 hb4 hown4 hnn4 b4 O5 b5 B11 V8 hsz4
    go_wp2_with fail
    go_at_call 17
    refine (readCmd_any (some ⟨g15, 0, none⟩) (NC + 1) c15 (cs ++ [more]) _ S5 lc5 mc5 (by omega)).mono ?_
    rintro e w16 ⟨x16, k16, f016, f116, f216, f316, f416, f516, er, hR, rfl, b16⟩
    have her := HR3.out
    rw [hR] at her
    simp only at her
    subst her
    have B16 := B15.trans (b16.mono B15.size)
    have B17 := B16.alloc B16.size (.cells #[.int .i64 x16, .int .i64 k16, .int .i64 f016, .int .i64 f116, .int .i64 f216, .int .i64 f316, .int .i64 f416, .int .i64 f516] 26)
    clear hR b16 B15 B16 S5
    go_wp2_with fail
    go_at_call 15
    refine (known_any _).mono ?_
    rintro e w18 ⟨rfl, b18⟩
    have B18 := B17.trans (b18.mono B17.size)
    clear b18 B17
    go_wp2
    go_ret
    exact ⟨rfl, B18⟩

theorem msgCut (a0 a1 a2 a3 a4 a5 a6 a7 b c : Int) (w : World) (w0 : (Lit.int .i64 a0).wf = true) (w2 : (Lit.int .i64 a2).wf = true) (w3 : (Lit.int .i64 a3).wf = true) (w4 : (Lit.int .i64 a4).wf = true) (w5 : (Lit.int .i64 a5).wf = true) (w6 : (Lit.int .i64 a6).wf = true) (w7 : (Lit.int .i64 a7).wf = true) (w9 : (Lit.int .u8 c).wf = true) :
    Calls Try.prog 7 #[.agg #[.int .i64 a0, .int .i64 a1, .int .i64 a2, .int .i64 a3, .int .i64 a4, .int .i64 a5, .int .i64 a6, .int .i64 a7], .int .i64 b, .int .u8 c] w fun e w' => e = .returned (.bool true) ∧ Below w.heap.size w w' := by
  cases h : isS a1 [a2, a3, a4, a5, a6, a7] with
  | false => exact cut_not a0 a1 a2 a3 a4 a5 a6 a7 b c w h
  | true =>
    refine cut_is a0 a1 a2 a3 a4 a5 a6 a7 b c w h ?_ (wf_i64' _ w0) (wf_u8' _ w9)
    intro z hz
    simp only [List.mem_cons, List.not_mem_nil, or_false] at hz
    rcases hz with rfl | rfl | rfl | rfl | rfl | rfl
    · exact wf_i64' _ w2
    · exact wf_i64' _ w3
    · exact wf_i64' _ w4
    · exact wf_i64' _ w5
    · exact wf_i64' _ w6
    · exact wf_i64' _ w7

end Walk
end Go.Proofs.Ytaifnlfebdochaa
