/-
  msg: a message's bytes: the program's answer and the document's.
-/
import Derived.Test.YtaifnlfebdochaaMsgRefIs
import Derived.Test.YtaifnlfebdochaaFacts2
namespace Go.Proofs.Ytaifnlfebdochaa
open Go.RowKit

/-- What was laid at g, cell by cell. -/
def At (w : World) (g : Nat) (zs : List Int) : Prop := ∀ i, i < zs.length → w.cell? ⟨g, i, none⟩ = some (.int .i64 (zs.getD i 0))

theorem At.below {w w' : World} {g : Nat} {zs : List Int} (h : At w g zs) (hb : Below w.heap.size w w') : At w' g zs := fun i hi => by
  have c := h i hi
  rw [hb.cell (p := ⟨g, i, none⟩) (block_lt_of_cell c)]
  exact c

theorem at_new (w : World) (zs : List Int) (t : TypeId) (fr : Nat × Nat) : At (w.alloc (.cells (zs.map (Value.int .i64)).toArray t fr)) w.heap.size zs := fun i hi => by
  rw [cell_new]
  simp [hi]

/-- What Bytes and Cmd answer: a slice of these bytes. -/
def BytesEnd (w : World) (bs : List Int) (e : Ending) (w' : World) : Prop :=
  ∃ a c, e = .returned (.slice (some a) bs.length c) ∧ Sl .u8 w' (some a) bs.length bs ∧ bs.length ≤ c ∧ c ≤ 9223372036854775807 ∧ Below w.heap.size w w'

theorem At.cut {w : World} {g : Nat} {k f0 f1 f2 f3 f4 f5 : Int} (h : At w g [k, f0, f1, f2, f3, f4, f5]) (n : Nat) (hn : n ≤ 6) (hwf : ∀ z ∈ [f0, f1, f2, f3, f4, f5], IntKind.i64.wrap z = z) : Sl .i64 w (some ⟨g, 1, none⟩) n ([f0, f1, f2, f3, f4, f5].take n) := by
  have h6 : Sl .i64 w (some ⟨g, 1, none⟩) 6 [f0, f1, f2, f3, f4, f5] := by
    refine ⟨rfl, hwf, .inr ⟨g, 1, rfl, fun i hi => ?_⟩⟩
    have := h (1 + i) (by simp at hi ⊢; omega)
    rw [this, Nat.add_comm 1 i]
    rfl
  exact h6.take n hn

theorem put_has {w : World} {f : FuncId} {args : Array Value} {bs : List Int} {n : Nat} (h : Calls Try.prog f args w (PutEnd w bs)) (hn : bs.length = n) (hwf : ∀ z ∈ bs, IntKind.u8.wrap z = z) :
    Calls Try.prog f args w fun e w' => ∃ v, e = .returned v ∧ Below w.heap.size w w' ∧ (Fact.has .u8 n bs).1 w' v := by
  subst hn
  refine h.mono ?_
  rintro e w' ⟨g, cap, rfl, ho, hb⟩
  obtain ⟨a, c, hv, hs, _⟩ := Sl.own ho hwf
  obtain ⟨h1, h2⟩ := own_cap ho
  simp only [Value.slice.injEq] at hv
  obtain ⟨rfl, _, rfl⟩ := hv
  exact ⟨_, rfl, hb, _, _, rfl, hs, h1, h2⟩

theorem bytes_walk (k f0 f1 f2 f3 f4 f5 : Int) (n : Nat) (w : World) (h : isS k [f0, f1, f2, f3, f4, f5] = true) (hm : manyS k = n) (hn : n ≤ 6) (hk : 0 ≤ k) (hk' : k ≤ 255) (hwf : ∀ z ∈ [f0, f1, f2, f3, f4, f5], IntKind.i64.wrap z = z) :
    Calls Try.prog 9 #[.agg #[.int .i64 k, .int .i64 f0, .int .i64 f1, .int .i64 f2, .int .i64 f3, .int .i64 f4, .int .i64 f5]] w (BytesEnd w (k :: encs ([f0, f1, f2, f3, f4, f5].take n))) := by
  have I := is_any k f0 f1 f2 f3 f4 f5
  rw [h] at I
  have M : ∀ w, Calls Try.prog 20 #[.int .i64 k] w fun e w' => e = .returned (.int .i64 n) ∧ Below w.heap.size w w' := fun w => (many_any k w).mono fun e w' h => ⟨by rw [h.1, hm], by rw [h.2]; exact Below.refl _ _⟩
  obtain ⟨i0, hi, hz0, hz1, hz2⟩ := info_parts infoU8
  have hu : IntKind.u8.wrap k = k := u8_wf hk hk'
  have hi6 : (n : Int) ≤ 6 := by omega
  have hi0 : (0 : Int) ≤ n := by omega
  go_enter Try.func9, Try.ntmps9
  go_wp2_with fail
  go_at_call 14
  refine (I _).mono ?_
  rintro e w1 ⟨rfl, hw⟩
  have A1 : At w1 w.heap.size [k, f0, f1, f2, f3, f4, f5] := (at_new w [k, f0, f1, f2, f3, f4, f5] 24 (0, 0)).below hw
  have hb0 : Below w.heap.size w (w.alloc (.cells #[.int .i64 k, .int .i64 f0, .int .i64 f1, .int .i64 f2, .int .i64 f3, .int .i64 f4, .int .i64 f5] 24)) := (Below.refl _ _).alloc (Nat.le_refl _) _
  have HB : Hid (Below w.heap.size w w1) := hb0.trans (hw.mono hb0.size)
  have hlen : Hid ((k :: encs ([f0, f1, f2, f3, f4, f5].take n)).length = 1 + 8 * n) := by
    show (k :: encs ([f0, f1, f2, f3, f4, f5].take n)).length = 1 + 8 * n
    rw [List.length_cons, encs_length, List.length_take]
    simp
    omega
  clear hw hb0
  obtain ⟨g, hg⟩ : ∃ g, w.heap.size = g := ⟨_, rfl⟩
  rw [hg] at A1
  have HG : Hid (w.heap.size = g) := hg
  go_wp2
  clear hg
  refine region_owes (L := [Fact.is (.pointer (some ⟨g, 0, none⟩)), Fact.is (.int .i64 k), Fact.is (.int .u8 k), Fact.full .u8 1 [k], Fact.is (.pointer (some ⟨g, 1, none⟩)), Fact.is (.pointer (some ⟨g, 0, none⟩)), Fact.is (.int .i64 k), Fact.is (.int .i64 n),
    Fact.is (.slice (some ⟨g, 1, none⟩) n 6), Fact.has .u8 (8 * n) (encs ([f0, f1, f2, f3, f4, f5].take n)), Fact.has .u8 (1 + 8 * n) (k :: encs ([f0, f1, f2, f3, f4, f5].take n)), Fact.has .u8 (1 + 8 * n) (k :: encs ([f0, f1, f2, f3, f4, f5].take n))])
    (T := [6, 7, 8, 9, 10, 11, 12, 13, 14, 15, 16, 2]) (by kernel_rfl) (by kernel_rfl) rfl ?owes ?_
  case owes =>
    refine .cons (owes_value fun q u lh => ⟨wants_free rfl, _, by have e1 : q.tmps.getD 1 undef = .pointer (some ⟨g, 0, none⟩) := lh.old 1 rfl; simp [execOp, Act.eval, e1, go_sem], rfl⟩) ?_
    refine .cons (owes_value fun q u lh => ⟨wants_free rfl, _, by have e6 : q.tmps.getD 6 undef = .pointer (some ⟨g, 0, none⟩) := lh.dep 0 rfl; have c0 := (A1.below lh.below) 0 (by simp); simp [execOp, Act.eval, e6, c0, go_sem], rfl⟩) ?_
    refine .cons (owes_value fun q u lh => ⟨wants_free rfl, .int .u8 k, by have e7 : q.tmps.getD 7 undef = .int .i64 k := lh.dep 1 rfl; simp [execOp, Act.eval, e7, hu, go_sem], rfl⟩) ?_
    refine .cons (owes_make fun q u lh => ⟨wants_free rfl, .slice (some ⟨u.heap.size, 0, none⟩) 1 1, u.alloc (.cells #[.int .u8 k] 5), by have e8 : q.tmps[8]?.getD undef = .int .u8 k := (Array.getD_eq_getD_getElem? ..).symm.trans (lh.dep 2 rfl); simp [execOp, Act.eval, e8, go_sem], (Below.refl _ _).alloc (Nat.le_refl _) _, ⟨u.heap.size, rfl, Sl.new .u8 u _ (0, 0) [k] (by simpa using hu)⟩⟩) ?_
    refine .cons (owes_value fun q u lh => ⟨wants_free rfl, _, by have e1 : q.tmps.getD 1 undef = .pointer (some ⟨g, 0, none⟩) := lh.old 1 rfl; simp [execOp, Act.eval, e1, go_sem], rfl⟩) ?_
    refine .cons (owes_value fun q u lh => ⟨wants_free rfl, _, by have e1 : q.tmps.getD 1 undef = .pointer (some ⟨g, 0, none⟩) := lh.old 1 rfl; simp [execOp, Act.eval, e1, go_sem], rfl⟩) ?_
    refine .cons (owes_value fun q u lh => ⟨wants_free rfl, _, by have e11 : q.tmps.getD 11 undef = .pointer (some ⟨g, 0, none⟩) := lh.dep 5 rfl; have c0 := (A1.below lh.below) 0 (by simp); simp [execOp, Act.eval, e11, c0, go_sem], rfl⟩) ?_
    refine .cons (owes_call 20 Try.func20 (by kernel_rfl) (by kernel_rfl) [.tmp 12] #[3] rfl fun q u lh => ⟨wants_free rfl, by have e12 : q.tmps.getD 12 undef = .int .i64 k := lh.dep 6 rfl; show Calls Try.prog 20 #[q.tmps.getD 12 undef] u _; rw [e12]; exact (M u).mono fun e w' h => ⟨_, h.1, h.2, rfl⟩⟩) ?_
    refine .cons (owes_value fun q u lh => ⟨wants_free rfl, .slice (some ⟨g, 1, none⟩) n 6, by have e10 : q.tmps.getD 10 undef = .pointer (some ⟨g, 1, none⟩) := lh.dep 4 rfl; have e13 : q.tmps.getD 13 undef = .int .i64 n := lh.dep 7 rfl; simp [execOp, Act.eval, e10, e13, hi6, hi0, go_sem], rfl⟩) ?_
    refine .cons (owes_call 27 Try.func27 (by kernel_rfl) (by kernel_rfl) [.tmp 14] #[45] rfl fun q u lh => ⟨wants_free rfl, by have e14 : q.tmps.getD 14 undef = .slice (some ⟨g, 1, none⟩) n 6 := lh.dep 8 rfl; show Calls Try.prog 27 #[q.tmps.getD 14 undef] u _; rw [e14]; exact put_has (put_any _ _ _ _ u ((A1.below lh.below).cut n hn hwf) (by omega)) (by rw [encs_length]; simp; omega) (encs_wf _)⟩) ?_
    refine .cons (owes_append 27 5 9 15 3 9 1 (8 * n) .u8 i0 (.int .u8 0) 1 [k] _ rfl rfl rfl rfl rfl rfl rfl rfl Try.underlying27 hi hz0 hz1 hz2 rfl (by unfold maxLen; omega) (by omega) (by decide) fun q u lh => wants_free rfl) ?_
    refine .cons (owes_move (.tmp 16) (.inr rfl) fun q u lh => ⟨wants_free rfl, lh.dep 10 rfl⟩) ?_
    exact .nil _
  · intro q u hb hsz hdf hold hfact
    obtain ⟨a, c, hv, hs, h1, h2⟩ : (Fact.has .u8 (1 + 8 * n) (k :: encs ([f0, f1, f2, f3, f4, f5].take n))).1 u (q.tmps.getD 2 undef) := hfact 11 (by decide)
    go_wp2
    refine bodyPost_ret (results_tmp rfl _ _ _) hdf ?_
    refine ⟨a, c, ?_, ?_, ?_, h2, ?_⟩
    · rw [hv, hlen.out]
    · rw [hlen.out]; exact hs
    · rw [hlen.out]; exact h1
    · exact HB.out.trans (hb.mono HB.out.size)

theorem bytes_none (k f0 f1 f2 f3 f4 f5 : Int) (w : World) (h : isS k [f0, f1, f2, f3, f4, f5] = false) :
    Calls Try.prog 9 #[.agg #[.int .i64 k, .int .i64 f0, .int .i64 f1, .int .i64 f2, .int .i64 f3, .int .i64 f4, .int .i64 f5]] w (fun e w' => e = .returned (.slice none 0 0) ∧ Below w.heap.size w w') := by
  have I := is_any k f0 f1 f2 f3 f4 f5
  rw [h] at I
  go_enter Try.func9, Try.ntmps9
  go_wp2_with fail
  go_at_call 14
  refine (I _).mono ?_
  rintro e w1 ⟨rfl, hw⟩
  have hb0 : Below w.heap.size w (w.alloc (.cells #[.int .i64 k, .int .i64 f0, .int .i64 f1, .int .i64 f2, .int .i64 f3, .int .i64 f4, .int .i64 f5] 24)) := (Below.refl _ _).alloc (Nat.le_refl _) _
  have HB : Below w.heap.size w w1 := hb0.trans (hw.mono hb0.size)
  clear hw hb0
  go_wp2
  go_ret
  exact ⟨rfl, HB⟩

theorem refBytes_walk (k f0 f1 f2 f3 f4 f5 : Int) (n : Nat) (w : World) (h : isS k [f0, f1, f2, f3, f4, f5] = true) (hm : manyS k = n) (hn : n ≤ 6) (hk : 0 ≤ k) (hk' : k ≤ 255) (hwf : ∀ z ∈ [f0, f1, f2, f3, f4, f5], IntKind.i64.wrap z = z) :
    Calls Try.prog 12 #[.agg #[.int .i64 k, .int .i64 f0, .int .i64 f1, .int .i64 f2, .int .i64 f3, .int .i64 f4, .int .i64 f5]] w (BytesEnd w (k :: encs ([f0, f1, f2, f3, f4, f5].take n))) := by
  have I := refIs_any k f0 f1 f2 f3 f4 f5
  rw [h] at I
  have M : ∀ w, Calls Try.prog 21 #[.int .i64 k] w fun e w' => e = .returned (.int .i64 n) ∧ Below w.heap.size w w' := fun w => (refMany_any k w).mono fun e w' h => ⟨by rw [h.1, hm], h.2⟩
  obtain ⟨i0, hi, hz0, hz1, hz2⟩ := info_parts infoU8
  have hu : IntKind.u8.wrap k = k := u8_wf hk hk'
  have hi6 : (n : Int) ≤ 6 := by omega
  have hi0 : (0 : Int) ≤ n := by omega
  go_enter Try.func12, Try.ntmps12
  go_wp2_with fail
  go_at_call 11
  refine (I _).mono ?_
  rintro e w1 ⟨rfl, hw⟩
  have A1 : At w1 w.heap.size [k, f0, f1, f2, f3, f4, f5] := (at_new w [k, f0, f1, f2, f3, f4, f5] 24 (0, 0)).below hw
  have hb0 : Below w.heap.size w (w.alloc (.cells #[.int .i64 k, .int .i64 f0, .int .i64 f1, .int .i64 f2, .int .i64 f3, .int .i64 f4, .int .i64 f5] 24)) := (Below.refl _ _).alloc (Nat.le_refl _) _
  have HB : Hid (Below w.heap.size w w1) := hb0.trans (hw.mono hb0.size)
  have hlen : Hid ((k :: encs ([f0, f1, f2, f3, f4, f5].take n)).length = 1 + 8 * n) := by
    show (k :: encs ([f0, f1, f2, f3, f4, f5].take n)).length = 1 + 8 * n
    rw [List.length_cons, encs_length, List.length_take]
    simp
    omega
  clear hw hb0
  obtain ⟨g, hg⟩ : ∃ g, w.heap.size = g := ⟨_, rfl⟩
  rw [hg] at A1
  have HG : Hid (w.heap.size = g) := hg
  go_wp2
  clear hg
  refine region_owes (L := [Fact.is (.pointer (some ⟨g, 0, none⟩)), Fact.is (.int .i64 k), Fact.is (.int .u8 k), Fact.full .u8 1 [k], Fact.is (.pointer (some ⟨g, 1, none⟩)), Fact.is (.pointer (some ⟨g, 0, none⟩)), Fact.is (.int .i64 k), Fact.is (.int .i64 n),
    Fact.is (.slice (some ⟨g, 1, none⟩) n 6), Fact.has .u8 (8 * n) (encs ([f0, f1, f2, f3, f4, f5].take n)), Fact.has .u8 (1 + 8 * n) (k :: encs ([f0, f1, f2, f3, f4, f5].take n)), Fact.has .u8 (1 + 8 * n) (k :: encs ([f0, f1, f2, f3, f4, f5].take n))])
    (T := [6, 7, 8, 9, 10, 11, 12, 13, 14, 15, 16, 2]) (by kernel_rfl) (by kernel_rfl) rfl ?owes ?_
  case owes =>
    refine .cons (owes_value fun q u lh => ⟨wants_free rfl, _, by have e1 : q.tmps.getD 1 undef = .pointer (some ⟨g, 0, none⟩) := lh.old 1 rfl; simp [execOp, Act.eval, e1, go_sem], rfl⟩) ?_
    refine .cons (owes_value fun q u lh => ⟨wants_free rfl, _, by have e6 : q.tmps.getD 6 undef = .pointer (some ⟨g, 0, none⟩) := lh.dep 0 rfl; have c0 := (A1.below lh.below) 0 (by simp); simp [execOp, Act.eval, e6, c0, go_sem], rfl⟩) ?_
    refine .cons (owes_value fun q u lh => ⟨wants_free rfl, .int .u8 k, by have e7 : q.tmps.getD 7 undef = .int .i64 k := lh.dep 1 rfl; simp [execOp, Act.eval, e7, hu, go_sem], rfl⟩) ?_
    refine .cons (owes_make fun q u lh => ⟨wants_free rfl, .slice (some ⟨u.heap.size, 0, none⟩) 1 1, u.alloc (.cells #[.int .u8 k] 5), by have e8 : q.tmps[8]?.getD undef = .int .u8 k := (Array.getD_eq_getD_getElem? ..).symm.trans (lh.dep 2 rfl); simp [execOp, Act.eval, e8, go_sem], (Below.refl _ _).alloc (Nat.le_refl _) _, ⟨u.heap.size, rfl, Sl.new .u8 u _ (0, 0) [k] (by simpa using hu)⟩⟩) ?_
    refine .cons (owes_value fun q u lh => ⟨wants_free rfl, _, by have e1 : q.tmps.getD 1 undef = .pointer (some ⟨g, 0, none⟩) := lh.old 1 rfl; simp [execOp, Act.eval, e1, go_sem], rfl⟩) ?_
    refine .cons (owes_value fun q u lh => ⟨wants_free rfl, _, by have e1 : q.tmps.getD 1 undef = .pointer (some ⟨g, 0, none⟩) := lh.old 1 rfl; simp [execOp, Act.eval, e1, go_sem], rfl⟩) ?_
    refine .cons (owes_value fun q u lh => ⟨wants_free rfl, _, by have e11 : q.tmps.getD 11 undef = .pointer (some ⟨g, 0, none⟩) := lh.dep 5 rfl; have c0 := (A1.below lh.below) 0 (by simp); simp [execOp, Act.eval, e11, c0, go_sem], rfl⟩) ?_
    refine .cons (owes_call 21 Try.func21 (by kernel_rfl) (by kernel_rfl) [.tmp 12] #[3] rfl fun q u lh => ⟨wants_free rfl, by have e12 : q.tmps.getD 12 undef = .int .i64 k := lh.dep 6 rfl; show Calls Try.prog 21 #[q.tmps.getD 12 undef] u _; rw [e12]; exact (M u).mono fun e w' h => ⟨_, h.1, h.2, rfl⟩⟩) ?_
    refine .cons (owes_value fun q u lh => ⟨wants_free rfl, .slice (some ⟨g, 1, none⟩) n 6, by have e10 : q.tmps.getD 10 undef = .pointer (some ⟨g, 1, none⟩) := lh.dep 4 rfl; have e13 : q.tmps.getD 13 undef = .int .i64 n := lh.dep 7 rfl; simp [execOp, Act.eval, e10, e13, hi6, hi0, go_sem], rfl⟩) ?_
    refine .cons (owes_call 26 Try.func26 (by kernel_rfl) (by kernel_rfl) [.tmp 14] #[45] rfl fun q u lh => ⟨wants_free rfl, by have e14 : q.tmps.getD 14 undef = .slice (some ⟨g, 1, none⟩) n 6 := lh.dep 8 rfl; show Calls Try.prog 26 #[q.tmps.getD 14 undef] u _; rw [e14]; exact put_has (refPut_any _ _ _ _ u ((A1.below lh.below).cut n hn hwf) (by omega)) (by rw [encs_length]; simp; omega) (encs_wf _)⟩) ?_
    refine .cons (owes_append 27 5 9 15 3 9 1 (8 * n) .u8 i0 (.int .u8 0) 1 [k] _ rfl rfl rfl rfl rfl rfl rfl rfl Try.underlying27 hi hz0 hz1 hz2 rfl (by unfold maxLen; omega) (by omega) (by decide) fun q u lh => wants_free rfl) ?_
    refine .cons (owes_move (.tmp 16) (.inr rfl) fun q u lh => ⟨wants_free rfl, lh.dep 10 rfl⟩) ?_
    exact .nil _
  · intro q u hb hsz hdf hold hfact
    obtain ⟨a, c, hv, hs, h1, h2⟩ : (Fact.has .u8 (1 + 8 * n) (k :: encs ([f0, f1, f2, f3, f4, f5].take n))).1 u (q.tmps.getD 2 undef) := hfact 11 (by decide)
    go_wp2
    refine bodyPost_ret (results_tmp rfl _ _ _) hdf ?_
    refine ⟨a, c, ?_, ?_, ?_, h2, ?_⟩
    · rw [hv, hlen.out]
    · rw [hlen.out]; exact hs
    · rw [hlen.out]; exact h1
    · exact HB.out.trans (hb.mono HB.out.size)

theorem refBytes_none (k f0 f1 f2 f3 f4 f5 : Int) (w : World) (h : isS k [f0, f1, f2, f3, f4, f5] = false) :
    Calls Try.prog 12 #[.agg #[.int .i64 k, .int .i64 f0, .int .i64 f1, .int .i64 f2, .int .i64 f3, .int .i64 f4, .int .i64 f5]] w (fun e w' => e = .returned (.slice none 0 0) ∧ Below w.heap.size w w') := by
  have I := refIs_any k f0 f1 f2 f3 f4 f5
  rw [h] at I
  go_enter Try.func12, Try.ntmps12
  go_wp2_with fail
  go_at_call 11
  refine (I _).mono ?_
  rintro e w1 ⟨rfl, hw⟩
  have hb0 : Below w.heap.size w (w.alloc (.cells #[.int .i64 k, .int .i64 f0, .int .i64 f1, .int .i64 f2, .int .i64 f3, .int .i64 f4, .int .i64 f5] 24)) := (Below.refl _ _).alloc (Nat.le_refl _) _
  have HB : Below w.heap.size w w1 := hb0.trans (hw.mono hb0.size)
  clear hw hb0
  go_wp2
  go_ret
  exact ⟨rfl, HB⟩

end Go.Proofs.Ytaifnlfebdochaa
