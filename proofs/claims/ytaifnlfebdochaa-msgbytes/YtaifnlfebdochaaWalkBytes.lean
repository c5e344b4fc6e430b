/-
  The walk of MsgBytes.
-/
import Derived.Test.YtaifnlfebdochaaMsgFacts
namespace Go.Proofs.Ytaifnlfebdochaa
open Go.RowKit
namespace Walk

theorem six_back (n : Nat) (f0 f1 f2 f3 f4 f5 : Int) (hn : n ≤ 6) (h : ∀ z ∈ [f0, f1, f2, f3, f4, f5].drop n, z = 0) : six ([f0, f1, f2, f3, f4, f5].take n) = [f0, f1, f2, f3, f4, f5] := by
  have hn' : n = 0 ∨ n = 1 ∨ n = 2 ∨ n = 3 ∨ n = 4 ∨ n = 5 ∨ n = 6 := by omega
  rcases hn' with rfl | rfl | rfl | rfl | rfl | rfl | rfl <;> simp at h <;> simp [six, h]

/-- Read of Bytes is it; ReadCmd of Cmd. -/
theorem readS_bytes {k f0 f1 f2 f3 f4 f5 : Int} (h : isS k [f0, f1, f2, f3, f4, f5] = true) (hwf : ∀ z ∈ [f0, f1, f2, f3, f4, f5], IntKind.i64.wrap z = z) : readS (bytesS k [f0, f1, f2, f3, f4, f5]) = ([k, f0, f1, f2, f3, f4, f5], 0) := by
  obtain ⟨_, _, h0, h6, hz⟩ := isS_kind h
  unfold bytesS
  rw [readS_put _ _ (fun n hn => hwf n (List.mem_of_mem_take hn)), if_pos, six_back _ _ _ _ _ _ _ (by omega) hz]
  rw [List.length_take]
  simp
  omega

theorem readCmdS_cmd {who k f0 f1 f2 f3 f4 f5 : Int} (h : isS k [f0, f1, f2, f3, f4, f5] = true) (hwf : ∀ z ∈ [f0, f1, f2, f3, f4, f5], IntKind.i64.wrap z = z) (hw : IntKind.i64.wrap who = who) : readCmdS (cmdS who k [f0, f1, f2, f3, f4, f5]) = ([who, k, f0, f1, f2, f3, f4, f5], 0) := by
  have e1 : (cmdS who k [f0, f1, f2, f3, f4, f5]).take 8 = enc who := by unfold cmdS; rw [encs_one]; exact List.take_left' (enc_length who)
  have e2 : (cmdS who k [f0, f1, f2, f3, f4, f5]).drop 8 = bytesS k [f0, f1, f2, f3, f4, f5] := by unfold cmdS; rw [encs_one]; exact List.drop_left' (enc_length who)
  have e3 : ¬ (cmdS who k [f0, f1, f2, f3, f4, f5]).length < 8 := by unfold cmdS; rw [List.length_append, encs_one, enc_length]; omega
  unfold readCmdS
  rw [if_neg e3, e1, e2, readS_bytes h hwf, dec_enc who hw]
  simp

set_option maxHeartbeats 4000000 in
theorem bytes_not (who k f0 f1 f2 f3 f4 f5 : Int) (w : World) (h : isS k [f0, f1, f2, f3, f4, f5] = false) :
    Calls Try.prog 3 #[.agg #[.int .i64 who, .int .i64 k, .int .i64 f0, .int .i64 f1, .int .i64 f2, .int .i64 f3, .int .i64 f4, .int .i64 f5]] w fun e w' => e = .returned (.bool true) ∧ Below w.heap.size w w' := by
  have BY := fun u => bytes_none k f0 f1 f2 f3 f4 f5 u h
  have CY := fun u => cmd_none who k f0 f1 f2 f3 f4 f5 u h
  have RY := fun u => refBytes_none k f0 f1 f2 f3 f4 f5 u h
  have DY := fun u => refCmd_none who k f0 f1 f2 f3 f4 f5 u h
  have IY := fun u => is_any k f0 f1 f2 f3 f4 f5 u
  have JY := fun u => refIs_any k f0 f1 f2 f3 f4 f5 u
  simp only [h] at IY JY
  clear h
  have A1 : Hid (At (w.alloc (.cells #[.int .i64 who, .int .i64 k, .int .i64 f0, .int .i64 f1, .int .i64 f2, .int .i64 f3, .int .i64 f4, .int .i64 f5] 26)) w.heap.size [who, k, f0, f1, f2, f3, f4, f5]) := at_new w [who, k, f0, f1, f2, f3, f4, f5] 26 (0, 0)
  have B1 : Hid (Below w.heap.size w (w.alloc (.cells #[.int .i64 who, .int .i64 k, .int .i64 f0, .int .i64 f1, .int .i64 f2, .int .i64 f3, .int .i64 f4, .int .i64 f5] 26))) := (Below.refl _ _).alloc (Nat.le_refl _) _
  obtain ⟨g, hg⟩ : ∃ g, w.heap.size = g := ⟨_, rfl⟩
  rw [hg] at A1
  go_enter Try.func3, Try.ntmps3
  go_wp2
  have HG : Hid (w.heap.size = g) := hg
  clear hg
  refine region_owes (L := [Fact.is (.pointer (some ⟨g, 1, none⟩)),
    Fact.is (.agg #[.int .i64 k, .int .i64 f0, .int .i64 f1, .int .i64 f2, .int .i64 f3, .int .i64 f4, .int .i64 f5]),
    Fact.is (.slice none 0 0),
    Fact.is (.agg #[.int .i64 who, .int .i64 k, .int .i64 f0, .int .i64 f1, .int .i64 f2, .int .i64 f3, .int .i64 f4, .int .i64 f5]),
    Fact.is (.slice none 0 0),
    Fact.is (.slice none 0 0),
    Fact.is (.slice none 0 0)])
    (T := [10, 11, 12, 13, 14, 3, 4]) (by kernel_rfl) (by kernel_rfl) rfl ?owes ?_
  case owes =>
    refine .cons (owes_value fun q u lh => ⟨wants_free rfl, .pointer (some ⟨g, 1, none⟩), by have e1 : q.tmps.getD 1 undef = .pointer (some ⟨g, 0, none⟩) := lh.old 1 rfl; simp [execOp, Act.eval, e1, go_sem], rfl⟩) ?_
    refine .cons (owes_value fun q u lh => ⟨wants_free rfl, .agg #[.int .i64 k, .int .i64 f0, .int .i64 f1, .int .i64 f2, .int .i64 f3, .int .i64 f4, .int .i64 f5], by have e10 : q.tmps.getD 10 undef = .pointer (some ⟨g, 1, none⟩) := lh.dep 0 rfl; obtain ⟨p0, p1, p2, p3, p4, p5, p6, p7⟩ := (A1.out.below lh.below).eight; simp [execOp, Act.eval, e10, p1, p2, p3, p4, p5, p6, p7, go_sem], rfl⟩) ?_
    refine .cons (owes_call 9 Try.func9 (by kernel_rfl) (by kernel_rfl) [.tmp 11] #[24] rfl fun q u lh => ⟨wants_free rfl, by have e11 : q.tmps.getD 11 undef = .agg #[.int .i64 k, .int .i64 f0, .int .i64 f1, .int .i64 f2, .int .i64 f3, .int .i64 f4, .int .i64 f5] := lh.dep 1 rfl; show Calls Try.prog 9 #[q.tmps.getD 11 undef] u _; rw [e11]; exact none_fact (BY u)⟩) ?_
    refine .cons (owes_value fun q u lh => ⟨wants_free rfl, .agg #[.int .i64 who, .int .i64 k, .int .i64 f0, .int .i64 f1, .int .i64 f2, .int .i64 f3, .int .i64 f4, .int .i64 f5], by have e1 : q.tmps.getD 1 undef = .pointer (some ⟨g, 0, none⟩) := lh.old 1 rfl; obtain ⟨p0, p1, p2, p3, p4, p5, p6, p7⟩ := (A1.out.below lh.below).eight; simp [execOp, Act.eval, e1, p0, p1, p2, p3, p4, p5, p6, p7, go_sem], rfl⟩) ?_
    refine .cons (owes_call 10 Try.func10 (by kernel_rfl) (by kernel_rfl) [.tmp 13] #[26] rfl fun q u lh => ⟨wants_free rfl, by have e13 : q.tmps.getD 13 undef = .agg #[.int .i64 who, .int .i64 k, .int .i64 f0, .int .i64 f1, .int .i64 f2, .int .i64 f3, .int .i64 f4, .int .i64 f5] := lh.dep 3 rfl; show Calls Try.prog 10 #[q.tmps.getD 13 undef] u _; rw [e13]; exact none_fact (CY u)⟩) ?_
    refine .cons (owes_move (.tmp 12) (.inr rfl) fun q u lh => ⟨wants_free rfl, lh.dep 2 rfl⟩) ?_
    refine .cons (owes_move (.tmp 14) (.inr rfl) fun q u lh => ⟨wants_free rfl, lh.dep 4 rfl⟩) ?_
    exact .nil _
  intro q u hb hsz hdf hold hfact
  obtain rfl := frame_puts hsz hdf [10, 11, 12, 13, 14, 3, 4] hold [(10, .pointer (some ⟨g, 1, none⟩)), (11, .agg #[.int .i64 k, .int .i64 f0, .int .i64 f1, .int .i64 f2, .int .i64 f3, .int .i64 f4, .int .i64 f5]), (12, .slice none 0 0), (13, .agg #[.int .i64 who, .int .i64 k, .int .i64 f0, .int .i64 f1, .int .i64 f2, .int .i64 f3, .int .i64 f4, .int .i64 f5]), (14, .slice none 0 0), (3, .slice none 0 0), (4, .slice none 0 0)] ⟨hfact 0 (by decide), hfact 1 (by decide), hfact 2 (by decide), hfact 3 (by decide), hfact 4 (by decide), hfact 5 (by decide), hfact 6 (by decide), trivial⟩ rfl
  clear hsz hdf hold hfact
  have A2 : Hid (At u g [who, k, f0, f1, f2, f3, f4, f5]) := A1.out.below hb
  have B2 : Hid (Below w.heap.size w u) := B1.out.trans (hb.mono B1.out.size)
  obtain ⟨p0, p1, p2, p3, p4, p5, p6, p7⟩ := A2.out.eight
  clear hb A1 B1 BY CY
  simp only [puts, Act.put, List.setIfInBounds_toArray, List.set_cons_zero, List.set_cons_succ]
  go_wp2_with fail
  go_at_call 11
  refine (JY _).mono ?_
  rintro e w3 ⟨rfl, b3⟩
  have A3 : Hid (At w3 g [who, k, f0, f1, f2, f3, f4, f5]) := A2.out.below b3
  have B3 : Hid (Below w.heap.size w w3) := B2.out.trans (b3.mono B2.out.size)
  clear b3 A2 B2 p0 p1 p2 p3 p4 p5 p6 p7 JY
  go_wp2
  refine region_owes (L := [Fact.is (.slice none 0 0),
    Fact.is (.string (strOfNums [])),
    Fact.is (.pointer (some ⟨g, 1, none⟩)),
    Fact.is (.agg #[.int .i64 k, .int .i64 f0, .int .i64 f1, .int .i64 f2, .int .i64 f3, .int .i64 f4, .int .i64 f5]),
    Fact.is (.slice none 0 0),
    Fact.is (.string (strOfNums [])),
    Fact.is (.bool false),
    Fact.is (.bool false),
    Fact.is (.slice none 0 0),
    Fact.is (.string (strOfNums [])),
    Fact.is (.agg #[.int .i64 who, .int .i64 k, .int .i64 f0, .int .i64 f1, .int .i64 f2, .int .i64 f3, .int .i64 f4, .int .i64 f5]),
    Fact.is (.slice none 0 0),
    Fact.is (.string (strOfNums [])),
    Fact.is (.bool false),
    Fact.is (.bool false),
    Fact.is (.bool false),
    Fact.is (.pointer (some ⟨g, 1, none⟩)),
    Fact.is (.agg #[.int .i64 k, .int .i64 f0, .int .i64 f1, .int .i64 f2, .int .i64 f3, .int .i64 f4, .int .i64 f5]),
    Fact.is (.bool false),
    Fact.is (.bool false),
    Fact.is (.bool false),
    Fact.is (.bool false)])
    (T := [18, 19, 20, 21, 22, 23, 24, 25, 26, 27, 28, 29, 30, 31, 32, 33, 34, 35, 36, 37, 38, 39]) (by kernel_rfl) (by kernel_rfl) rfl ?owes ?_
  case owes =>
    refine .cons (owes_move (.tmp 3) (.inl rfl) fun q u lh => ⟨wants_free rfl, lh.old 3 rfl⟩) ?_
    refine .cons (owes_text 27 9 5 18 0 none 0 0 [] rfl rfl rfl rfl rfl (Sl.nil _ _ _) Try.underlying27 Try.underlying5 Try.underlying9 fun q u lh => wants_free rfl) ?_
    refine .cons (owes_value fun q u lh => ⟨wants_free rfl, .pointer (some ⟨g, 1, none⟩), by have e1 : q.tmps.getD 1 undef = .pointer (some ⟨g, 0, none⟩) := lh.old 1 rfl; simp [execOp, Act.eval, e1, go_sem], rfl⟩) ?_
    refine .cons (owes_value fun q u lh => ⟨wants_free rfl, .agg #[.int .i64 k, .int .i64 f0, .int .i64 f1, .int .i64 f2, .int .i64 f3, .int .i64 f4, .int .i64 f5], by have e20 : q.tmps.getD 20 undef = .pointer (some ⟨g, 1, none⟩) := lh.dep 2 rfl; obtain ⟨p0, p1, p2, p3, p4, p5, p6, p7⟩ := (A3.out.below lh.below).eight; simp [execOp, Act.eval, e20, p1, p2, p3, p4, p5, p6, p7, go_sem], rfl⟩) ?_
    refine .cons (owes_call 12 Try.func12 (by kernel_rfl) (by kernel_rfl) [.tmp 21] #[24] rfl fun q u lh => ⟨wants_free rfl, by have e21 : q.tmps.getD 21 undef = .agg #[.int .i64 k, .int .i64 f0, .int .i64 f1, .int .i64 f2, .int .i64 f3, .int .i64 f4, .int .i64 f5] := lh.dep 3 rfl; show Calls Try.prog 12 #[q.tmps.getD 21 undef] u _; rw [e21]; exact none_fact (RY u)⟩) ?_
    refine .cons (owes_text 27 9 5 22 4 none 0 0 [] rfl rfl rfl rfl rfl (Sl.nil _ _ _) Try.underlying27 Try.underlying5 Try.underlying9 fun q u lh => wants_free rfl) ?_
    refine .cons (owes_value fun q u lh => ⟨wants_free rfl, .bool false, by have e19 : q.tmps.getD 19 undef = .string (strOfNums []) := lh.dep 1 rfl; have e23 : q.tmps.getD 23 undef = .string (strOfNums []) := lh.dep 5 rfl; simp [execOp, Act.eval, e19, e23, go_sem], rfl⟩) ?_
    refine .cons (owes_move (.tmp 24) (.inl rfl) fun q u lh => ⟨wants_free rfl, lh.dep 6 rfl⟩) ?_
    refine .cons (owes_move (.tmp 4) (.inl rfl) fun q u lh => ⟨lh.wants1 7 false rfl rfl rfl, lh.old 4 rfl⟩) ?_
    refine .cons (owes_text 27 9 5 26 8 none 0 0 [] rfl rfl rfl rfl rfl (Sl.nil _ _ _) Try.underlying27 Try.underlying5 Try.underlying9 fun q u lh => lh.wants1 7 false rfl rfl rfl) ?_
    refine .cons (owes_value fun q u lh => ⟨lh.wants1 7 false rfl rfl rfl, .agg #[.int .i64 who, .int .i64 k, .int .i64 f0, .int .i64 f1, .int .i64 f2, .int .i64 f3, .int .i64 f4, .int .i64 f5], by have e1 : q.tmps.getD 1 undef = .pointer (some ⟨g, 0, none⟩) := lh.old 1 rfl; obtain ⟨p0, p1, p2, p3, p4, p5, p6, p7⟩ := (A3.out.below lh.below).eight; simp [execOp, Act.eval, e1, p0, p1, p2, p3, p4, p5, p6, p7, go_sem], rfl⟩) ?_
    refine .cons (owes_call 13 Try.func13 (by kernel_rfl) (by kernel_rfl) [.tmp 28] #[26] rfl fun q u lh => ⟨lh.wants1 7 false rfl rfl rfl, by have e28 : q.tmps.getD 28 undef = .agg #[.int .i64 who, .int .i64 k, .int .i64 f0, .int .i64 f1, .int .i64 f2, .int .i64 f3, .int .i64 f4, .int .i64 f5] := lh.dep 10 rfl; show Calls Try.prog 13 #[q.tmps.getD 28 undef] u _; rw [e28]; exact none_fact (DY u)⟩) ?_
    refine .cons (owes_text 27 9 5 29 11 none 0 0 [] rfl rfl rfl rfl rfl (Sl.nil _ _ _) Try.underlying27 Try.underlying5 Try.underlying9 fun q u lh => lh.wants1 7 false rfl rfl rfl) ?_
    refine .cons (owes_value fun q u lh => ⟨lh.wants1 7 false rfl rfl rfl, .bool false, by have e27 : q.tmps.getD 27 undef = .string (strOfNums []) := lh.dep 9 rfl; have e30 : q.tmps.getD 30 undef = .string (strOfNums []) := lh.dep 12 rfl; simp [execOp, Act.eval, e27, e30, go_sem], rfl⟩) ?_
    refine .cons (owes_pick (.tmp 25) (.const (.bool true)) (.tmp 31) rfl fun q u lh => ⟨wants_free rfl, false, lh.dep 7 rfl, lh.dep 13 rfl⟩) ?_
    refine .cons (owes_move (.tmp 32) (.inl rfl) fun q u lh => ⟨wants_free rfl, lh.dep 14 rfl⟩) ?_
    refine .cons (owes_value fun q u lh => ⟨lh.wants1 15 false rfl rfl rfl, .pointer (some ⟨g, 1, none⟩), by have e1 : q.tmps.getD 1 undef = .pointer (some ⟨g, 0, none⟩) := lh.old 1 rfl; simp [execOp, Act.eval, e1, go_sem], rfl⟩) ?_
    refine .cons (owes_value fun q u lh => ⟨lh.wants1 15 false rfl rfl rfl, .agg #[.int .i64 k, .int .i64 f0, .int .i64 f1, .int .i64 f2, .int .i64 f3, .int .i64 f4, .int .i64 f5], by have e34 : q.tmps.getD 34 undef = .pointer (some ⟨g, 1, none⟩) := lh.dep 16 rfl; obtain ⟨p0, p1, p2, p3, p4, p5, p6, p7⟩ := (A3.out.below lh.below).eight; simp [execOp, Act.eval, e34, p1, p2, p3, p4, p5, p6, p7, go_sem], rfl⟩) ?_
    refine .cons (owes_call 14 Try.func14 (by kernel_rfl) (by kernel_rfl) [.tmp 35] #[24] rfl fun q u lh => ⟨lh.wants1 15 false rfl rfl rfl, by have e35 : q.tmps.getD 35 undef = .agg #[.int .i64 k, .int .i64 f0, .int .i64 f1, .int .i64 f2, .int .i64 f3, .int .i64 f4, .int .i64 f5] := lh.dep 17 rfl; show Calls Try.prog 14 #[q.tmps.getD 35 undef] u _; rw [e35]; exact bool_fact (IY u)⟩) ?_
    refine .cons (owes_move (.tmp 5) (.inl rfl) fun q u lh => ⟨lh.wants1 15 false rfl rfl rfl, lh.old 5 rfl⟩) ?_
    refine .cons (owes_value fun q u lh => ⟨lh.wants1 15 false rfl rfl rfl, .bool false, by have e36 : q.tmps.getD 36 undef = .bool false := lh.dep 18 rfl; have e37 : q.tmps.getD 37 undef = .bool false := lh.dep 19 rfl; simp [execOp, Act.eval, e36, e37, go_sem], rfl⟩) ?_
    refine .cons (owes_pick (.tmp 33) (.const (.bool true)) (.tmp 38) rfl fun q u lh => ⟨wants_free rfl, false, lh.dep 15 rfl, lh.dep 20 rfl⟩) ?_
    exact .nil _
  intro q u hb hsz hdf hold hfact
  obtain rfl := frame_puts hsz hdf [18, 19, 20, 21, 22, 23, 24, 25, 26, 27, 28, 29, 30, 31, 32, 33, 34, 35, 36, 37, 38, 39] hold [(18, .slice none 0 0), (19, .string (strOfNums [])), (20, .pointer (some ⟨g, 1, none⟩)), (21, .agg #[.int .i64 k, .int .i64 f0, .int .i64 f1, .int .i64 f2, .int .i64 f3, .int .i64 f4, .int .i64 f5]), (22, .slice none 0 0), (23, .string (strOfNums [])), (24, .bool false), (25, .bool false), (26, .slice none 0 0), (27, .string (strOfNums [])), (28, .agg #[.int .i64 who, .int .i64 k, .int .i64 f0, .int .i64 f1, .int .i64 f2, .int .i64 f3, .int .i64 f4, .int .i64 f5]), (29, .slice none 0 0), (30, .string (strOfNums [])), (31, .bool false), (32, .bool false), (33, .bool false), (34, .pointer (some ⟨g, 1, none⟩)), (35, .agg #[.int .i64 k, .int .i64 f0, .int .i64 f1, .int .i64 f2, .int .i64 f3, .int .i64 f4, .int .i64 f5]), (36, .bool false), (37, .bool false), (38, .bool false), (39, .bool false)] ⟨hfact 0 (by decide), hfact 1 (by decide), hfact 2 (by decide), hfact 3 (by decide), hfact 4 (by decide), hfact 5 (by decide), hfact 6 (by decide), hfact 7 (by decide), hfact 8 (by decide), hfact 9 (by decide), hfact 10 (by decide), hfact 11 (by decide), hfact 12 (by decide), hfact 13 (by decide), hfact 14 (by decide), hfact 15 (by decide), hfact 16 (by decide), hfact 17 (by decide), hfact 18 (by decide), hfact 19 (by decide), hfact 20 (by decide), hfact 21 (by decide), trivial⟩ rfl
  clear hsz hdf hold hfact
  have B4 : Below w.heap.size w u := B3.out.trans (hb.mono B3.out.size)
  clear hb A3 B3 RY DY IY
  simp only [puts, Act.put, List.setIfInBounds_toArray, List.set_cons_zero, List.set_cons_succ]
  go_wp2_with fail
  go_at_call 15
  refine (known_any _).mono ?_
  rintro e w5 ⟨rfl, b5⟩
  have B5 := B4.trans (b5.mono B4.size)
  clear b5 B4
  go_wp2
  go_ret
  exact ⟨rfl, B5⟩

set_option maxHeartbeats 4000000 in
theorem bytes_are (who k f0 f1 f2 f3 f4 f5 : Int) (w : World) (h : isS k [f0, f1, f2, f3, f4, f5] = true) (hwf : ∀ z ∈ [f0, f1, f2, f3, f4, f5], IntKind.i64.wrap z = z) (hw0 : IntKind.i64.wrap who = who) :
    Calls Try.prog 3 #[.agg #[.int .i64 who, .int .i64 k, .int .i64 f0, .int .i64 f1, .int .i64 f2, .int .i64 f3, .int .i64 f4, .int .i64 f5]] w fun e w' => e = .returned (.bool true) ∧ Below w.heap.size w w' := by
  have BY := fun u => bytes_is k f0 f1 f2 f3 f4 f5 u h hwf
  have CY := fun u => cmd_is who k f0 f1 f2 f3 f4 f5 u h hwf hw0
  have RY := fun u => refBytes_is k f0 f1 f2 f3 f4 f5 u h hwf
  have DY := fun u => refCmd_is who k f0 f1 f2 f3 f4 f5 u h hwf hw0
  have IY := fun u => is_any k f0 f1 f2 f3 f4 f5 u
  have JY := fun u => refIs_any k f0 f1 f2 f3 f4 f5 u
  have RB := readS_bytes h hwf
  have RC := readCmdS_cmd h hwf hw0
  have hlb := bytesS_length h
  have hlc : (cmdS who k [f0, f1, f2, f3, f4, f5]).length = 8 + (bytesS k [f0, f1, f2, f3, f4, f5]).length := by rw [cmdS, List.length_append, encs_one, enc_length]
  have hmr := manyS_range k
  simp only [h] at IY JY
  obtain ⟨bs, hbs⟩ : ∃ bs, bytesS k [f0, f1, f2, f3, f4, f5] = bs := ⟨_, rfl⟩
  obtain ⟨cs, hcs⟩ : ∃ cs, cmdS who k [f0, f1, f2, f3, f4, f5] = cs := ⟨_, rfl⟩
  rw [hbs] at RB hlb hlc
  simp only [hbs] at BY RY
  rw [hcs] at RC hlc
  simp only [hcs] at CY DY
  obtain ⟨NB, hNB⟩ : ∃ NB, bs.length = NB := ⟨_, rfl⟩
  obtain ⟨NC, hNC⟩ : ∃ NC, cs.length = NC := ⟨_, rfl⟩
  have HNB : Hid (bs.length = NB) := hNB
  have HNC : Hid (cs.length = NC) := hNC
  have lb : NB ≤ 56 := by omega
  have lc : NC ≤ 64 := by omega
  have HRB : Hid (readS bs = ([k, f0, f1, f2, f3, f4, f5], 0)) := RB
  have HRC : Hid (readCmdS cs = ([who, k, f0, f1, f2, f3, f4, f5], 0)) := RC
  clear h hbs hcs hNB hNC hlb hlc hmr RB RC hwf hw0
  have A1 : Hid (At (w.alloc (.cells #[.int .i64 who, .int .i64 k, .int .i64 f0, .int .i64 f1, .int .i64 f2, .int .i64 f3, .int .i64 f4, .int .i64 f5] 26)) w.heap.size [who, k, f0, f1, f2, f3, f4, f5]) := at_new w [who, k, f0, f1, f2, f3, f4, f5] 26 (0, 0)
  have B1 : Hid (Below w.heap.size w (w.alloc (.cells #[.int .i64 who, .int .i64 k, .int .i64 f0, .int .i64 f1, .int .i64 f2, .int .i64 f3, .int .i64 f4, .int .i64 f5] 26))) := (Below.refl _ _).alloc (Nat.le_refl _) _
  obtain ⟨g, hg⟩ : ∃ g, w.heap.size = g := ⟨_, rfl⟩
  rw [hg] at A1
  go_enter Try.func3, Try.ntmps3
  go_wp2
  have HG : Hid (w.heap.size = g) := hg
  clear hg
  refine region_owes (L := [Fact.is (.pointer (some ⟨g, 1, none⟩)),
    Fact.is (.agg #[.int .i64 k, .int .i64 f0, .int .i64 f1, .int .i64 f2, .int .i64 f3, .int .i64 f4, .int .i64 f5]),
    Fact.sl .u8 NB bs,
    Fact.is (.agg #[.int .i64 who, .int .i64 k, .int .i64 f0, .int .i64 f1, .int .i64 f2, .int .i64 f3, .int .i64 f4, .int .i64 f5]),
    Fact.sl .u8 NC cs,
    Fact.sl .u8 NB bs,
    Fact.sl .u8 NC cs])
    (T := [10, 11, 12, 13, 14, 3, 4]) (by kernel_rfl) (by kernel_rfl) rfl ?owes ?_
  case owes =>
    refine .cons (owes_value fun q u lh => ⟨wants_free rfl, .pointer (some ⟨g, 1, none⟩), by have e1 : q.tmps.getD 1 undef = .pointer (some ⟨g, 0, none⟩) := lh.old 1 rfl; simp [execOp, Act.eval, e1, go_sem], rfl⟩) ?_
    refine .cons (owes_value fun q u lh => ⟨wants_free rfl, .agg #[.int .i64 k, .int .i64 f0, .int .i64 f1, .int .i64 f2, .int .i64 f3, .int .i64 f4, .int .i64 f5], by have e10 : q.tmps.getD 10 undef = .pointer (some ⟨g, 1, none⟩) := lh.dep 0 rfl; obtain ⟨p0, p1, p2, p3, p4, p5, p6, p7⟩ := (A1.out.below lh.below).eight; simp [execOp, Act.eval, e10, p1, p2, p3, p4, p5, p6, p7, go_sem], rfl⟩) ?_
    refine .cons (owes_call 9 Try.func9 (by kernel_rfl) (by kernel_rfl) [.tmp 11] #[24] rfl fun q u lh => ⟨wants_free rfl, by have e11 : q.tmps.getD 11 undef = .agg #[.int .i64 k, .int .i64 f0, .int .i64 f1, .int .i64 f2, .int .i64 f3, .int .i64 f4, .int .i64 f5] := lh.dep 1 rfl; show Calls Try.prog 9 #[q.tmps.getD 11 undef] u _; rw [e11]; exact bytes_fact (BY u) HNB.out⟩) ?_
    refine .cons (owes_value fun q u lh => ⟨wants_free rfl, .agg #[.int .i64 who, .int .i64 k, .int .i64 f0, .int .i64 f1, .int .i64 f2, .int .i64 f3, .int .i64 f4, .int .i64 f5], by have e1 : q.tmps.getD 1 undef = .pointer (some ⟨g, 0, none⟩) := lh.old 1 rfl; obtain ⟨p0, p1, p2, p3, p4, p5, p6, p7⟩ := (A1.out.below lh.below).eight; simp [execOp, Act.eval, e1, p0, p1, p2, p3, p4, p5, p6, p7, go_sem], rfl⟩) ?_
    refine .cons (owes_call 10 Try.func10 (by kernel_rfl) (by kernel_rfl) [.tmp 13] #[26] rfl fun q u lh => ⟨wants_free rfl, by have e13 : q.tmps.getD 13 undef = .agg #[.int .i64 who, .int .i64 k, .int .i64 f0, .int .i64 f1, .int .i64 f2, .int .i64 f3, .int .i64 f4, .int .i64 f5] := lh.dep 3 rfl; show Calls Try.prog 10 #[q.tmps.getD 13 undef] u _; rw [e13]; exact bytes_fact (CY u) HNC.out⟩) ?_
    refine .cons (owes_move (.tmp 12) (.inr rfl) fun q u lh => ⟨wants_free rfl, lh.dep 2 rfl⟩) ?_
    refine .cons (owes_move (.tmp 14) (.inr rfl) fun q u lh => ⟨wants_free rfl, lh.dep 4 rfl⟩) ?_
    exact .nil _
  intro q u hb hsz hdf hold hfact
  obtain ⟨a12, c12, v12, s12, l12, m12⟩ : (Fact.sl .u8 NB bs).1 u (q.tmps.getD 12 undef) := hfact 2 (by decide)
  obtain ⟨a14, c14, v14, s14, l14, m14⟩ : (Fact.sl .u8 NC cs).1 u (q.tmps.getD 14 undef) := hfact 4 (by decide)
  obtain ⟨a3, c3, v3, s3, l3, m3⟩ : (Fact.sl .u8 NB bs).1 u (q.tmps.getD 3 undef) := hfact 5 (by decide)
  obtain ⟨a4, c4, v4, s4, l4, m4⟩ : (Fact.sl .u8 NC cs).1 u (q.tmps.getD 4 undef) := hfact 6 (by decide)
  obtain rfl := frame_puts hsz hdf [10, 11, 12, 13, 14, 3, 4] hold [(10, .pointer (some ⟨g, 1, none⟩)), (11, .agg #[.int .i64 k, .int .i64 f0, .int .i64 f1, .int .i64 f2, .int .i64 f3, .int .i64 f4, .int .i64 f5]), (12, .slice a12 NB c12), (13, .agg #[.int .i64 who, .int .i64 k, .int .i64 f0, .int .i64 f1, .int .i64 f2, .int .i64 f3, .int .i64 f4, .int .i64 f5]), (14, .slice a14 NC c14), (3, .slice a3 NB c3), (4, .slice a4 NC c4)] ⟨hfact 0 (by decide), hfact 1 (by decide), v12, hfact 3 (by decide), v14, v3, v4, trivial⟩ rfl
  clear hsz hdf hold hfact
  have A2 : Hid (At u g [who, k, f0, f1, f2, f3, f4, f5]) := A1.out.below hb
  have B2 : Hid (Below w.heap.size w u) := B1.out.trans (hb.mono B1.out.size)
  obtain ⟨p0, p1, p2, p3, p4, p5, p6, p7⟩ := A2.out.eight
  have X3 : Hid (Sl .u8 u a3 NB bs) := s3
  have X4 : Hid (Sl .u8 u a4 NC cs) := s4
  clear hb A1 B1 BY CY s3 s4 v3 v4 v12 v14 s12 s14 l12 l14 m12 m14
  simp only [puts, Act.put, List.setIfInBounds_toArray, List.set_cons_zero, List.set_cons_succ]
  go_wp2_with fail
  go_at_call 11
  refine (JY _).mono ?_
  rintro e w3 ⟨rfl, b3⟩
  have A3 : Hid (At w3 g [who, k, f0, f1, f2, f3, f4, f5]) := A2.out.below b3
  have B3 : Hid (Below w.heap.size w w3) := B2.out.trans (b3.mono B2.out.size)
  have T3 : Hid (Sl .u8 w3 a3 NB bs) := X3.out.below b3
  have T4 : Hid (Sl .u8 w3 a4 NC cs) := X4.out.below b3
  clear b3 A2 B2 p0 p1 p2 p3 p4 p5 p6 p7 JY X3 X4
  go_wp2
  refine region_owes (L := [Fact.is (.slice a3 NB c3),
    Fact.is (.string (strOfNums bs)),
    Fact.is (.pointer (some ⟨g, 1, none⟩)),
    Fact.is (.agg #[.int .i64 k, .int .i64 f0, .int .i64 f1, .int .i64 f2, .int .i64 f3, .int .i64 f4, .int .i64 f5]),
    Fact.sl .u8 NB bs,
    Fact.is (.string (strOfNums bs)),
    Fact.is (.bool false),
    Fact.is (.bool false),
    Fact.is (.slice a4 NC c4),
    Fact.is (.string (strOfNums cs)),
    Fact.is (.agg #[.int .i64 who, .int .i64 k, .int .i64 f0, .int .i64 f1, .int .i64 f2, .int .i64 f3, .int .i64 f4, .int .i64 f5]),
    Fact.sl .u8 NC cs,
    Fact.is (.string (strOfNums cs)),
    Fact.is (.bool false),
    Fact.is (.bool false),
    Fact.is (.bool false),
    Fact.is (.pointer (some ⟨g, 1, none⟩)),
    Fact.is (.agg #[.int .i64 k, .int .i64 f0, .int .i64 f1, .int .i64 f2, .int .i64 f3, .int .i64 f4, .int .i64 f5]),
    Fact.is (.bool true),
    Fact.is (.bool true),
    Fact.is (.bool false),
    Fact.is (.bool false)])
    (T := [18, 19, 20, 21, 22, 23, 24, 25, 26, 27, 28, 29, 30, 31, 32, 33, 34, 35, 36, 37, 38, 39]) (by kernel_rfl) (by kernel_rfl) rfl ?owes ?_
  case owes =>
    refine .cons (owes_move (.tmp 3) (.inl rfl) fun q u lh => ⟨wants_free rfl, lh.old 3 rfl⟩) ?_
    refine .cons (owes_text 27 9 5 18 0 a3 NB c3 bs rfl rfl rfl rfl rfl T3.out Try.underlying27 Try.underlying5 Try.underlying9 fun q u lh => wants_free rfl) ?_
    refine .cons (owes_value fun q u lh => ⟨wants_free rfl, .pointer (some ⟨g, 1, none⟩), by have e1 : q.tmps.getD 1 undef = .pointer (some ⟨g, 0, none⟩) := lh.old 1 rfl; simp [execOp, Act.eval, e1, go_sem], rfl⟩) ?_
    refine .cons (owes_value fun q u lh => ⟨wants_free rfl, .agg #[.int .i64 k, .int .i64 f0, .int .i64 f1, .int .i64 f2, .int .i64 f3, .int .i64 f4, .int .i64 f5], by have e20 : q.tmps.getD 20 undef = .pointer (some ⟨g, 1, none⟩) := lh.dep 2 rfl; obtain ⟨p0, p1, p2, p3, p4, p5, p6, p7⟩ := (A3.out.below lh.below).eight; simp [execOp, Act.eval, e20, p1, p2, p3, p4, p5, p6, p7, go_sem], rfl⟩) ?_
    refine .cons (owes_call 12 Try.func12 (by kernel_rfl) (by kernel_rfl) [.tmp 21] #[24] rfl fun q u lh => ⟨wants_free rfl, by have e21 : q.tmps.getD 21 undef = .agg #[.int .i64 k, .int .i64 f0, .int .i64 f1, .int .i64 f2, .int .i64 f3, .int .i64 f4, .int .i64 f5] := lh.dep 3 rfl; show Calls Try.prog 12 #[q.tmps.getD 21 undef] u _; rw [e21]; exact bytes_fact (RY u) HNB.out⟩) ?_
    refine .cons (owes_text_new 27 9 5 22 4 NB bs rfl rfl rfl rfl rfl Try.underlying27 Try.underlying5 Try.underlying9 fun q u lh => wants_free rfl) ?_
    refine .cons (owes_value fun q u lh => ⟨wants_free rfl, .bool false, by have e19 : q.tmps.getD 19 undef = .string (strOfNums bs) := lh.dep 1 rfl; have e23 : q.tmps.getD 23 undef = .string (strOfNums bs) := lh.dep 5 rfl; simp [execOp, Act.eval, e19, e23, go_sem], rfl⟩) ?_
    refine .cons (owes_move (.tmp 24) (.inl rfl) fun q u lh => ⟨wants_free rfl, lh.dep 6 rfl⟩) ?_
    refine .cons (owes_move (.tmp 4) (.inl rfl) fun q u lh => ⟨lh.wants1 7 false rfl rfl rfl, lh.old 4 rfl⟩) ?_
    refine .cons (owes_text 27 9 5 26 8 a4 NC c4 cs rfl rfl rfl rfl rfl T4.out Try.underlying27 Try.underlying5 Try.underlying9 fun q u lh => lh.wants1 7 false rfl rfl rfl) ?_
    refine .cons (owes_value fun q u lh => ⟨lh.wants1 7 false rfl rfl rfl, .agg #[.int .i64 who, .int .i64 k, .int .i64 f0, .int .i64 f1, .int .i64 f2, .int .i64 f3, .int .i64 f4, .int .i64 f5], by have e1 : q.tmps.getD 1 undef = .pointer (some ⟨g, 0, none⟩) := lh.old 1 rfl; obtain ⟨p0, p1, p2, p3, p4, p5, p6, p7⟩ := (A3.out.below lh.below).eight; simp [execOp, Act.eval, e1, p0, p1, p2, p3, p4, p5, p6, p7, go_sem], rfl⟩) ?_
    refine .cons (owes_call 13 Try.func13 (by kernel_rfl) (by kernel_rfl) [.tmp 28] #[26] rfl fun q u lh => ⟨lh.wants1 7 false rfl rfl rfl, by have e28 : q.tmps.getD 28 undef = .agg #[.int .i64 who, .int .i64 k, .int .i64 f0, .int .i64 f1, .int .i64 f2, .int .i64 f3, .int .i64 f4, .int .i64 f5] := lh.dep 10 rfl; show Calls Try.prog 13 #[q.tmps.getD 28 undef] u _; rw [e28]; exact bytes_fact (DY u) HNC.out⟩) ?_
    refine .cons (owes_text_new 27 9 5 29 11 NC cs rfl rfl rfl rfl rfl Try.underlying27 Try.underlying5 Try.underlying9 fun q u lh => lh.wants1 7 false rfl rfl rfl) ?_
    refine .cons (owes_value fun q u lh => ⟨lh.wants1 7 false rfl rfl rfl, .bool false, by have e27 : q.tmps.getD 27 undef = .string (strOfNums cs) := lh.dep 9 rfl; have e30 : q.tmps.getD 30 undef = .string (strOfNums cs) := lh.dep 12 rfl; simp [execOp, Act.eval, e27, e30, go_sem], rfl⟩) ?_
    refine .cons (owes_pick (.tmp 25) (.const (.bool true)) (.tmp 31) rfl fun q u lh => ⟨wants_free rfl, false, lh.dep 7 rfl, lh.dep 13 rfl⟩) ?_
    refine .cons (owes_move (.tmp 32) (.inl rfl) fun q u lh => ⟨wants_free rfl, lh.dep 14 rfl⟩) ?_
    refine .cons (owes_value fun q u lh => ⟨lh.wants1 15 false rfl rfl rfl, .pointer (some ⟨g, 1, none⟩), by have e1 : q.tmps.getD 1 undef = .pointer (some ⟨g, 0, none⟩) := lh.old 1 rfl; simp [execOp, Act.eval, e1, go_sem], rfl⟩) ?_
    refine .cons (owes_value fun q u lh => ⟨lh.wants1 15 false rfl rfl rfl, .agg #[.int .i64 k, .int .i64 f0, .int .i64 f1, .int .i64 f2, .int .i64 f3, .int .i64 f4, .int .i64 f5], by have e34 : q.tmps.getD 34 undef = .pointer (some ⟨g, 1, none⟩) := lh.dep 16 rfl; obtain ⟨p0, p1, p2, p3, p4, p5, p6, p7⟩ := (A3.out.below lh.below).eight; simp [execOp, Act.eval, e34, p1, p2, p3, p4, p5, p6, p7, go_sem], rfl⟩) ?_
    refine .cons (owes_call 14 Try.func14 (by kernel_rfl) (by kernel_rfl) [.tmp 35] #[24] rfl fun q u lh => ⟨lh.wants1 15 false rfl rfl rfl, by have e35 : q.tmps.getD 35 undef = .agg #[.int .i64 k, .int .i64 f0, .int .i64 f1, .int .i64 f2, .int .i64 f3, .int .i64 f4, .int .i64 f5] := lh.dep 17 rfl; show Calls Try.prog 14 #[q.tmps.getD 35 undef] u _; rw [e35]; exact bool_fact (IY u)⟩) ?_
    refine .cons (owes_move (.tmp 5) (.inl rfl) fun q u lh => ⟨lh.wants1 15 false rfl rfl rfl, lh.old 5 rfl⟩) ?_
    refine .cons (owes_value fun q u lh => ⟨lh.wants1 15 false rfl rfl rfl, .bool false, by have e36 : q.tmps.getD 36 undef = .bool true := lh.dep 18 rfl; have e37 : q.tmps.getD 37 undef = .bool true := lh.dep 19 rfl; simp [execOp, Act.eval, e36, e37, go_sem], rfl⟩) ?_
    refine .cons (owes_pick (.tmp 33) (.const (.bool true)) (.tmp 38) rfl fun q u lh => ⟨wants_free rfl, false, lh.dep 15 rfl, lh.dep 20 rfl⟩) ?_
    exact .nil _
  intro q u hb hsz hdf hold hfact
  obtain ⟨a22, c22, v22, s22, l22, m22⟩ : (Fact.sl .u8 NB bs).1 u (q.tmps.getD 22 undef) := hfact 4 (by decide)
  obtain ⟨a29, c29, v29, s29, l29, m29⟩ : (Fact.sl .u8 NC cs).1 u (q.tmps.getD 29 undef) := hfact 11 (by decide)
  obtain rfl := frame_puts hsz hdf [18, 19, 20, 21, 22, 23, 24, 25, 26, 27, 28, 29, 30, 31, 32, 33, 34, 35, 36, 37, 38, 39] hold [(18, .slice a3 NB c3), (19, .string (strOfNums bs)), (20, .pointer (some ⟨g, 1, none⟩)), (21, .agg #[.int .i64 k, .int .i64 f0, .int .i64 f1, .int .i64 f2, .int .i64 f3, .int .i64 f4, .int .i64 f5]), (22, .slice a22 NB c22), (23, .string (strOfNums bs)), (24, .bool false), (25, .bool false), (26, .slice a4 NC c4), (27, .string (strOfNums cs)), (28, .agg #[.int .i64 who, .int .i64 k, .int .i64 f0, .int .i64 f1, .int .i64 f2, .int .i64 f3, .int .i64 f4, .int .i64 f5]), (29, .slice a29 NC c29), (30, .string (strOfNums cs)), (31, .bool false), (32, .bool false), (33, .bool false), (34, .pointer (some ⟨g, 1, none⟩)), (35, .agg #[.int .i64 k, .int .i64 f0, .int .i64 f1, .int .i64 f2, .int .i64 f3, .int .i64 f4, .int .i64 f5]), (36, .bool true), (37, .bool true), (38, .bool false), (39, .bool false)] ⟨hfact 0 (by decide), hfact 1 (by decide), hfact 2 (by decide), hfact 3 (by decide), v22, hfact 5 (by decide), hfact 6 (by decide), hfact 7 (by decide), hfact 8 (by decide), hfact 9 (by decide), hfact 10 (by decide), v29, hfact 12 (by decide), hfact 13 (by decide), hfact 14 (by decide), hfact 15 (by decide), hfact 16 (by decide), hfact 17 (by decide), hfact 18 (by decide), hfact 19 (by decide), hfact 20 (by decide), hfact 21 (by decide), trivial⟩ rfl
  clear hsz hdf hold hfact
  have A4 : Hid (At u g [who, k, f0, f1, f2, f3, f4, f5]) := A3.out.below hb
  have B4 : Below w.heap.size w u := B3.out.trans (hb.mono B3.out.size)
  have U3 : Hid (Sl .u8 u a3 NB bs) := T3.out.below hb
  have U4 : Hid (Sl .u8 u a4 NC cs) := T4.out.below hb
  clear hb A3 B3 RY DY IY T3 T4 v22 v29 s22 s29 l22 l29 m22 m29
  simp only [puts, Act.put, List.setIfInBounds_toArray, List.set_cons_zero, List.set_cons_succ]
  go_wp2_with fail
  go_at_call 16
  refine (read_any a3 NB c3 bs _ U3.out l3 m3 (by omega)).mono ?_
  rintro e w5 ⟨k', f0', f1', f2', f3', f4', f5', er, hR, rfl, b5⟩
  rw [HRB.out] at hR
  simp only [Prod.mk.injEq, List.cons.injEq] at hR
  obtain ⟨⟨rfl, rfl, rfl, rfl, rfl, rfl, rfl, _⟩, rfl⟩ := hR
  have al : Below w5.heap.size w5 (w5.alloc (.cells #[.int .i64 k, .int .i64 f0, .int .i64 f1, .int .i64 f2, .int .i64 f3, .int .i64 f4, .int .i64 f5] 24)) := (Below.refl _ _).alloc (Nat.le_refl _) _
  have B5 := B4.trans (b5.mono B4.size)
  have B5' := B5.trans (al.mono B5.size)
  have A5 : Hid (At (w5.alloc (.cells #[.int .i64 k, .int .i64 f0, .int .i64 f1, .int .i64 f2, .int .i64 f3, .int .i64 f4, .int .i64 f5] 24)) g [who, k, f0, f1, f2, f3, f4, f5]) := (A4.out.below b5).below al
  have M5 : Hid (At (w5.alloc (.cells #[.int .i64 k, .int .i64 f0, .int .i64 f1, .int .i64 f2, .int .i64 f3, .int .i64 f4, .int .i64 f5] 24)) w5.heap.size [k, f0, f1, f2, f3, f4, f5]) := at_new w5 [k, f0, f1, f2, f3, f4, f5] 24 (0, 0)
  have V4 : Hid (Sl .u8 (w5.alloc (.cells #[.int .i64 k, .int .i64 f0, .int .i64 f1, .int .i64 f2, .int .i64 f3, .int .i64 f4, .int .i64 f5] 24)) a4 NC cs) := (U4.out.below b5).below al
  clear b5 al B5 B4 A4 U3 U4
  go_wp2_with fail
  go_at_call 17
  refine (readCmd_any a4 NC c4 cs _ V4.out l4 m4 (by omega)).mono ?_
  rintro e w6 ⟨x', k', f0', f1', f2', f3', f4', f5', er, hR, rfl, b6⟩
  rw [HRC.out] at hR
  simp only [Prod.mk.injEq, List.cons.injEq] at hR
  obtain ⟨⟨rfl, rfl, rfl, rfl, rfl, rfl, rfl, rfl, _⟩, rfl⟩ := hR
  have al : Below w6.heap.size w6 (w6.alloc (.cells #[.int .i64 who, .int .i64 k, .int .i64 f0, .int .i64 f1, .int .i64 f2, .int .i64 f3, .int .i64 f4, .int .i64 f5] 26)) := (Below.refl _ _).alloc (Nat.le_refl _) _
  have B6 := B5'.trans (b6.mono B5'.size)
  have B6' := B6.trans (al.mono B6.size)
  obtain ⟨p0, p1, p2, p3, p4, p5, p6, p7⟩ := ((A5.out.below b6).below al).eight
  obtain ⟨q0, q1, q2, q3, q4, q5, q6⟩ := ((M5.out.below b6).below al).seven
  clear b6 al B6 B5' A5 M5 V4
  have AE := arr_eq
  go_wp2_with fail
  go_at_call 15
  refine (known_any _).mono ?_
  rintro e w7 ⟨rfl, b7⟩
  have B7 := B6'.trans (b7.mono B6'.size)
  clear b7 B6' p0 p1 p2 p3 p4 p5 p6 p7 q0 q1 q2 q3 q4 q5 q6
  go_wp2
  go_ret
  exact ⟨rfl, B7⟩

theorem msgBytes (a0 a1 a2 a3 a4 a5 a6 a7 : Int) (w : World) (w0 : (Lit.int .i64 a0).wf = true) (w2 : (Lit.int .i64 a2).wf = true) (w3 : (Lit.int .i64 a3).wf = true) (w4 : (Lit.int .i64 a4).wf = true) (w5 : (Lit.int .i64 a5).wf = true) (w6 : (Lit.int .i64 a6).wf = true) (w7 : (Lit.int .i64 a7).wf = true) :
    Calls Try.prog 3 #[.agg #[.int .i64 a0, .int .i64 a1, .int .i64 a2, .int .i64 a3, .int .i64 a4, .int .i64 a5, .int .i64 a6, .int .i64 a7]] w fun e w' => e = .returned (.bool true) ∧ Below w.heap.size w w' := by
  cases h : isS a1 [a2, a3, a4, a5, a6, a7] with
  | false => exact bytes_not a0 a1 a2 a3 a4 a5 a6 a7 w h
  | true =>
    refine bytes_are a0 a1 a2 a3 a4 a5 a6 a7 w h ?_ (wf_i64' _ w0)
    intro z hz
    simp only [List.mem_cons, List.not_mem_nil, or_false] at hz
    rcases hz with rfl | rfl | rfl | rfl | rfl | rfl
    · exact wf_i64' _ w2
    · exact wf_i64' _ w3
    · exact wf_i64' _ w4
    · exact wf_i64' _ w5
    · exact wf_i64' _ w6
    · exact wf_i64' _ w7

end Walk
end Go.Proofs.Ytaifnlfebdochaa
