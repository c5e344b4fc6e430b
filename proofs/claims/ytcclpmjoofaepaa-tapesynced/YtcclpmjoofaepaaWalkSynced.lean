/-
  girolaw4.TapeSynced.
-/
import Derived.Test.YtcclpmjoofaepaaTapeFacts
import Derived.Test.YtcclpmjoofaepaaWalkOwn4
namespace Go.Proofs.Ytcclpmjoofaepaa
open Go.RowKit
set_option linter.unusedVariables false
set_option linter.unusedSimpArgs false

namespace Walk
/-- A slice of slices of integers that came in. -/
def IsRows (k : IntKind) (w : World) (a : Option Addr) (len cap : Nat) (A : Nat → Option Addr) (L C : Nat → Nat) (Z : Nat → List Int) : Prop :=
  (a = none ∧ len = 0 ∧ cap = 0) ∨
  ∃ x, a = some x ∧ len ≤ cap ∧ cap ≤ maxLen ∧ ∀ r, r < cap → w.cell? (x.add r) = some (.slice (A r) (L r) (C r)) ∧ Sl k w (A r) (L r) (Z r) ∧ L r ≤ C r ∧ C r ≤ 9223372036854775807 ∧ (A r = none → C r = 0)

/-- What the reading of a slice of slices tells the walk. -/
theorem isRows_row {k : IntKind} {w : World} {A : Option Addr} {L C : Nat} {Z : List Int} (hk : ∀ n, (Lit.int k n).wf = true → k.wrap n = n) (h1 : L ≤ C) (h2 : C ≤ maxLen) (h3 : Z.length = C) (h4 : ∀ n ∈ Z, (Lit.int k n).wf = true) (h5 : A = none → C = 0)
    (h6 : ∀ a', A = some a' → ∀ c, c < C → w.cell? (a'.add c) = some (.int k (Z.getD c 0))) : Sl k w A L (Z.take L) ∧ L ≤ C ∧ C ≤ 9223372036854775807 ∧ (A = none → C = 0) := by
  have h : Sl k w A L (Z.take L) ∧ L ≤ C ∧ C ≤ 9223372036854775807 := by
    refine (IsRow.sl (k := k) (w := w) (a := A) (len := L) (cap := C) (zs := Z) ?_ hk)
    cases A with
    | none =>
      have h0 := h5 rfl
      subst h0
      exact .inl ⟨rfl, by omega, rfl, List.length_eq_zero_iff.mp h3⟩
    | some x => exact .inr ⟨x, rfl, h1, h2, h3, fun i hi => h6 x rfl i (by omega), h4⟩
  exact ⟨h.1, h.2.1, h.2.2, h5⟩
end Walk

theorem my_read2 (b : Nat) (w0 w : World) (d : D) (h : Mine w0 w b d) (side : Int) (zs : List Int) (hz : d.read side = zs) :
    Calls Try.prog 24 #[.pointer (some ⟨b, 0, none⟩), .int .i64 side] w (fun e w' => ∃ a c, e = .returned (.slice a zs.length c) ∧ Sl .u8 w' a zs.length zs ∧ (zs.length ≤ c ∧ c ≤ 9223372036854775807) ∧ Mine w0 w' b d) := by
  refine (deck_read b w _ d h.1 side).mono ?_
  have hb := D.read_bs h.1.ok side
  rw [hz] at hb ⊢
  rintro e w' ⟨v, rfl, ho, k⟩
  have ho' := ho
  obtain ⟨a, c, rfl, hs, hn⟩ := Sl.own ho hb
  exact ⟨a, c, rfl, hs, own_cap ho', h.below k⟩

/-- What was synced is there. -/
def Safe (za : List Int) (d : D) : Prop := d.z0.take za.length = za ∧ za.length ≤ d.s0

theorem Safe.lost {za : List Int} {d : D} (h : Safe za d) (ok : d.Ok) : Safe za d.lost := by
  have := left0_le (k := d.kp) ok.s0
  refine ⟨?_, ?_⟩
  · show (d.z0.take _).take za.length = za
    rw [List.take_take, Nat.min_eq_left (by have := h.2; omega)]
    exact h.1
  · show za.length ≤ left0 _ _ _
    have := h.2
    omega
theorem Safe.kept {za : List Int} {d : D} (h : Safe za d) (ok : d.Ok) : Safe za d.kept := ⟨h.1, by show za.length ≤ d.z0.length; have := h.2; have := ok.s0; omega⟩
theorem Safe.sync {za : List Int} {d : D} (h : Safe za d) (ok : d.Ok) : Safe za d.sync.2 ∧ d.sync.2.ops ≤ d.ops + 1 := by
  unfold D.sync
  split
  · exact ⟨h, Nat.le_succ _⟩
  · split
    · exact ⟨h.lost ok, Nat.le_succ _⟩
    · exact ⟨h.kept ok, Nat.le_refl _⟩
theorem Safe.wipe {za : List Int} {d : D} (h : Safe za d) (ok : d.Ok) : Safe za (d.wipe 1).2 ∧ (d.wipe 1).2.ops ≤ d.ops + 1 := by
  unfold D.wipe
  split
  · exact ⟨h, Nat.le_succ _⟩
  · split
    · exact ⟨h, Nat.le_succ _⟩
    · split
      · exact ⟨h.lost ok, Nat.le_succ _⟩
      · exact ⟨h, Nat.le_refl _⟩
theorem Safe.append {za : List Int} {d : D} (h : Safe za d) (ok : d.Ok) (side : Int) (ys : List Int) : Safe za (d.append side ys).2 ∧ (d.append side ys).2.ops ≤ d.ops + 1 := by
  unfold D.append
  split
  · exact ⟨h, Nat.le_succ _⟩
  · split
    · exact ⟨h, Nat.le_succ _⟩
    · split
      · exact ⟨h, Nat.le_succ _⟩
      · split
        · exact ⟨h.lost ok, Nat.le_succ _⟩
        · dsimp only
          split
          · refine ⟨⟨?_, h.2⟩, Nat.le_refl _⟩
            show (d.z0 ++ ys).take za.length = za
            rw [List.take_append_of_le_length (by have := h.2; have := ok.s0; omega)]
            exact h.1
          · exact ⟨h, Nat.le_refl _⟩
theorem Safe.fresh {za : List Int} {d : D} (h : Safe za d) (ok : d.Ok) : (d.fresh.read 0).take za.length = za ∧ za.length ≤ (d.fresh.read 0).length := by
  refine ⟨?_, ?_⟩
  · show (d.z0.take d.s0).take za.length = za
    rw [List.take_take, Nat.min_eq_left h.2]
    exact h.1
  · show za.length ≤ (d.z0.take d.s0).length
    have := ok.s0
    have := h.2
    simp
    omega

set_option maxHeartbeats 8000000 in
theorem synced_main (a0 : Option Addr) (la cap0 : Nat) (za : List Int) (a1 : Option Addr) (n cap1 : Nat) (A : Nat → Option Addr) (L C : Nat → Nat) (Z : Nat → List Int) (at' kp : Int) (w : World)
    (hA : Sl .u8 w a0 la za) (n0 : a0 = none → cap0 = 0) (h0 : la ≤ 100) (h1 : n ≤ 10) (hk1 : kp ≤ 9223372036854775807)
    (hR : n = 0 ∨ ∃ bb off, a1 = some ⟨bb, off, none⟩ ∧ bb < w.heap.size ∧ ∀ r, r < n → w.cell? ⟨bb, off + r, none⟩ = some (.slice (A r) (L r) (C r)) ∧ Sl .u8 w (A r) (L r) (Z r) ∧ L r ≤ C r ∧ C r ≤ 9223372036854775807 ∧ (A r = none → C r = 0)) :
    Calls Try.prog 8 #[.slice a0 la cap0, .slice a1 n cap1, .int .i64 at', .int .i64 kp] w fun e w' => e = .returned (.bool true) ∧ Below w.heap.size w w' := by
  have HS : Hid (Sl .u8 w a0 la za ∧ (a0 = none → cap0 = 0)) := ⟨hA, n0⟩
  have HL : Hid (za.length = la) := hA.1.symm
  have HR : Hid (n = 0 ∨ ∃ bb off, a1 = some ⟨bb, off, none⟩ ∧ bb < w.heap.size ∧ ∀ r, r < n → w.cell? ⟨bb, off + r, none⟩ = some (.slice (A r) (L r) (C r)) ∧ Sl .u8 w (A r) (L r) (Z r) ∧ L r ≤ C r ∧ C r ≤ 9223372036854775807 ∧ (A r = none → C r = 0)) := hR
  have ha := hA.1
  obtain ⟨d1, hd1⟩ : ∃ d, (⟨5000, za, 0, [], 0, 1, false, 0, 0, false⟩ : D) = d := ⟨_, rfl⟩
  have E1 : Hid ((D.new 5000).append 0 za = (0, d1)) := by
    show _ = _
    rw [← hd1]
    simp [D.append, D.new, D.read, D.crash, D.more0]
    omega
  obtain ⟨d2, hd2⟩ : ∃ d, (⟨5000, za, za.length, [], 0, 2, false, 0, 0, false⟩ : D) = d := ⟨_, rfl⟩
  have E2 : Hid (d1.sync = (0, d2)) := by
    show _ = _
    rw [← hd1, ← hd2]
    simp [D.sync, D.crash, D.kept]
  have O1 : Hid (d1.ops = 1 ∧ d2.ops = 2) := ⟨by rw [← hd1], by rw [← hd2]⟩
  have S2 : Hid (Safe za (d2.armed at' kp)) := by rw [← hd2]; exact ⟨List.take_length, Nat.le_refl _⟩
  have i0 : (la : Int) ≤ 100 := by omega
  have i1 : (n : Int) ≤ 10 := by omega
  clear hd1 hd2 hA n0 hR ha
  go_enter Try.func8, Try.ntmps8
  go_wp2_with fail
  go_at_call 9
  refine (my_new 5000 w w (Below.refl _ _) (by decide) (by decide)).mono ?_
  rintro e w1 ⟨rfl, H1⟩
  obtain ⟨b, hb⟩ : ∃ b, w.heap.size = b := ⟨_, rfl⟩
  have HB : Hid (w.heap.size = b) := hb
  rw [hb] at H1
  rw [hb]
  clear hb
  go_wp2_with fail
  go_at_call 11
  refine (my_append b w w1 _ H1 0 a0 la cap0 za (HS.out.1.mine H1) HS.out.2 (HS.out.1.apart (Nat.le_of_eq HB.out)) (by omega) (by decide) _ _ E1.out).mono ?_
  rintro e w2 ⟨rfl, H2⟩
  clear H1
  go_wp2_with fail
  go_at_call 13
  refine (my_sync b w w2 _ H2 (by have := O1.out; omega) _ _ E2.out).mono ?_
  rintro e w3 ⟨rfl, H3⟩
  clear H2
  go_wp2_with fail
  go_at_call 17
  refine (my_arm b w w3 _ H3 at' kp hk1).mono ?_
  rintro e w4 ⟨rfl, H4⟩
  clear H3 E1 E2
  go_wp2
  go_loopw [10] (fun i wr => ∃ (k : Nat) (d : D), i = .int .i64 k ∧ k ≤ n ∧ Mine w wr b d ∧ Safe za d ∧ d.ops ≤ 2 + 3 * k) (fun i _ => ((n : Int) - intOf i).toNat)
  case atStart => exact ⟨0, d2.armed at' kp, rfl, by omega, H4, S2.out, by have := O1.out.2; show d2.ops ≤ _; omega⟩
  case round =>
    clear H4 S2 O1
    obtain ⟨k, d, rfl, hk, hm, hs, ho⟩ := hrel
    by_cases hlt : k < n
    · have hltI : (k : Int) < (n : Int) := by omega
      obtain ⟨bb, off, ha1, hbb, hrow⟩ := HR.out.resolve_left (by omega)
      obtain ⟨r1, r2, r3, r4, r5⟩ := hrow k hlt
      obtain ⟨Ak, hAk⟩ : ∃ x, A k = x := ⟨_, rfl⟩
      obtain ⟨Lk, hLk⟩ : ∃ x, L k = x := ⟨_, rfl⟩
      obtain ⟨Ck, hCk⟩ : ∃ x, C k = x := ⟨_, rfl⟩
      obtain ⟨Zk, hZk⟩ : ∃ x, Z k = x := ⟨_, rfl⟩
      rw [hAk, hLk, hCk] at r1
      rw [hAk, hLk, hZk] at r2
      rw [hAk, hCk] at r5
      have HRk : Hid (Sl .u8 w Ak Lk Zk ∧ (Ak = none → Ck = 0)) := ⟨r2, r5⟩
      have HC : Hid (w.cell? ⟨bb, off + k, none⟩ = some (.slice Ak Lk Ck)) := r1
      have c1 : wr.cell? ⟨bb, off + k, none⟩ = some (.slice Ak Lk Ck) := (hm.2.cell (p := ⟨bb, off + k, none⟩) hbb).trans r1
      clear r1 r2 r3 r4 r5 hrow hAk hLk hCk hZk
      subst ha1
      by_cases hbig : (100 : Int) < Lk
      · go_wp2
        go_ret
        exact ⟨rfl, hm.2⟩
      · go_wp2_with fail
        go_at_call 15
        obtain ⟨e5, d5, hw5⟩ : ∃ x y, d.wipe 1 = (x, y) := ⟨_, _, rfl⟩
        obtain ⟨g5, o5⟩ := hs.wipe hm.1.ok
        rw [hw5] at g5 o5
        refine (my_wipe b w wr d hm 1 (by omega) e5 d5 hw5).mono ?_
        rintro e w5 ⟨rfl, H5⟩
        have o5' : d5.ops ≤ d.ops + 1 := o5
        clear hw5 hm hs c1 o5
        have c1 : w5.cell? ⟨bb, off + k, none⟩ = some (.slice Ak Lk Ck) := (H5.2.cell (p := ⟨bb, off + k, none⟩) hbb).trans HC.out
        go_wp2_with fail
        go_at_call 11
        obtain ⟨e6, d6, hw6⟩ : ∃ x y, d5.append ((k : Int) % 2) Zk = (x, y) := ⟨_, _, rfl⟩
        obtain ⟨g6, o6⟩ := Safe.append g5 H5.1.ok ((k : Int) % 2) Zk
        rw [hw6] at g6 o6
        refine (my_append b w w5 d5 H5 ((k : Int) % 2) Ak Lk Ck Zk (HRk.out.1.mine H5) HRk.out.2 (HRk.out.1.apart (Nat.le_of_eq HB.out)) (by omega) (by omega) e6 d6 hw6).mono ?_
        rintro e w6 ⟨rfl, H6⟩
        have o6' : d6.ops ≤ d5.ops + 1 := o6
        clear hw6 H5 g5 c1 o6
        by_cases h3 : (k : Int) % 3 = 1
        · go_wp2_with fail
          go_at_call 13
          obtain ⟨e7, d7, hw7⟩ : ∃ x y, d6.sync = (x, y) := ⟨_, _, rfl⟩
          obtain ⟨g7, o7⟩ := Safe.sync g6 H6.1.ok
          rw [hw7] at g7 o7
          refine (my_sync b w w6 d6 H6 (by omega) e7 d7 hw7).mono ?_
          rintro e w7 ⟨rfl, H7⟩
          have o7' : d7.ops ≤ d6.ops + 1 := o7
          clear hw7 H6 g6 o7
          go_wp2
          go_roundw
          case rel => exact ⟨k + 1, d7, by go_num, by omega, H7, g7, by omega⟩
          case measure => simp [intOf]; omega
        · have h3' : ((k : Int) % 3 == 1) = false := by simpa using h3
          go_wp2
          go_roundw
          case rel => exact ⟨k + 1, d6, by go_num, by omega, H6, g6, by omega⟩
          case measure => simp [intOf]; omega
    · have hltI : ¬ (k : Int) < (n : Int) := by omega
      go_wp2_with fail
      go_at_call 19
      refine (my_restart b w wr _ hm).mono ?_
      rintro e w8 ⟨rfl, h8⟩
      obtain ⟨g8, l8⟩ := hs.fresh hm.1.ok
      obtain ⟨d8, hd8⟩ : ∃ x, d.fresh = x := ⟨_, rfl⟩
      have R9 : Hid (d8.dn = false) := by rw [← hd8]; rfl
      rw [hd8] at h8 g8 l8
      clear hm hs ho hd8
      obtain ⟨zx, hzx⟩ : ∃ x, d8.read 0 = x := ⟨_, rfl⟩
      rw [hzx] at g8 l8
      go_wp2_with fail
      go_at_call 24
      refine (my_read2 b w w8 d8 h8 0 zx hzx).mono ?_
      rintro e w9 ⟨ax, cx, rfl, s9, hcc, h9⟩
      obtain ⟨lx, hlx⟩ : ∃ x, zx.length = x := ⟨_, rfl⟩
      rw [hlx] at s9 l8 hcc
      rw [hlx]
      rw [HL.out] at l8 g8
      have SX : Hid (Sl .u8 w9 ax la za) := by
        have := s9.take la l8
        rw [g8] at this
        exact this
      have SA : Hid (Sl .u8 w9 a0 la za) := HS.out.1.below h9.2
      have H9 : Hid (Mine w w9 b d8) := h9
      have hge : (la : Int) ≤ lx := by omega
      have hcx : (la : Int) ≤ cx := by omega
      clear hlx hzx g8 l8 s9 h9 h8 hcc
      go_wp2
      refine region_owes (L := [Fact.is (.slice ax lx cx),
        Fact.is (.int .i64 lx),
        Fact.is (.slice a0 la cap0),
        Fact.is (.int .i64 la),
        Fact.is (.bool true),
        Fact.is (.bool true),
        Fact.is (.slice ax lx cx),
        Fact.is (.slice a0 la cap0),
        Fact.is (.int .i64 la),
        Fact.is (.slice ax la cx),
        Fact.is (.string (strOfNums za)),
        Fact.is (.slice a0 la cap0),
        Fact.is (.string (strOfNums za)),
        Fact.is (.bool true),
        Fact.is (.bool true),
        Fact.is (.bool true),
        Fact.is (.pointer (some ⟨b, 0, none⟩)),
        Fact.is (.bool false),
        Fact.is (.bool true),
        Fact.is (.bool true),
        Fact.is (.bool true),
        Fact.is (.bool true),
        Fact.is (.bool true),
        Fact.is (.bool true)])
        (T := [62, 63, 64, 65, 66, 67, 68, 69, 70, 71, 72, 73, 74, 75, 76, 77, 78, 79, 80, 81, 82, 83, 84, 8]) (by kernel_rfl) (by kernel_rfl) rfl ?owes ?_
      case owes =>
        refine .cons (owes_move (.tmp 11) (.inl rfl) fun q u lh => ⟨wants_free rfl, lh.old 11 rfl⟩) ?_
        refine .cons (owes_value fun q u lh => ⟨wants_free rfl, .int .i64 lx, by have e62 : q.tmps.getD 62 undef = .slice ax lx cx := lh.dep 0 rfl; simp [execOp, Act.eval, e62, go_sem], rfl⟩) ?_
        refine .cons (owes_move (.tmp 0) (.inl rfl) fun q u lh => ⟨wants_free rfl, lh.old 0 rfl⟩) ?_
        refine .cons (owes_value fun q u lh => ⟨wants_free rfl, .int .i64 la, by have e64 : q.tmps.getD 64 undef = .slice a0 la cap0 := lh.dep 2 rfl; simp [execOp, Act.eval, e64, go_sem], rfl⟩) ?_
        refine .cons (owes_value fun q u lh => ⟨wants_free rfl, .bool true, by have e63 : q.tmps.getD 63 undef = .int .i64 lx := lh.dep 1 rfl; have e65 : q.tmps.getD 65 undef = .int .i64 la := lh.dep 3 rfl; simp [execOp, Act.eval, e63, e65, hge, go_sem], rfl⟩) ?_
        refine .cons (owes_move (.tmp 66) (.inl rfl) fun q u lh => ⟨wants_free rfl, lh.dep 4 rfl⟩) ?_
        refine .cons (owes_move (.tmp 11) (.inl rfl) fun q u lh => ⟨lh.wants1 5 true rfl rfl rfl, lh.old 11 rfl⟩) ?_
        refine .cons (owes_move (.tmp 0) (.inl rfl) fun q u lh => ⟨lh.wants1 5 true rfl rfl rfl, lh.old 0 rfl⟩) ?_
        refine .cons (owes_value fun q u lh => ⟨lh.wants1 5 true rfl rfl rfl, .int .i64 la, by have e69 : q.tmps.getD 69 undef = .slice a0 la cap0 := lh.dep 7 rfl; simp [execOp, Act.eval, e69, go_sem], rfl⟩) ?_
        refine .cons (owes_value fun q u lh => ⟨lh.wants1 5 true rfl rfl rfl, .slice ax la cx, by have e68 : q.tmps.getD 68 undef = .slice ax lx cx := lh.dep 6 rfl; have e70 : q.tmps.getD 70 undef = .int .i64 la := lh.dep 8 rfl; simp [execOp, Act.eval, e68, e70, hcx, go_sem], rfl⟩) ?_
        refine .cons (owes_text 27 9 5 71 9 ax la cx za rfl rfl rfl rfl rfl SX.out Try.underlying27 Try.underlying5 Try.underlying9 fun q u lh => lh.wants1 5 true rfl rfl rfl) ?_
        refine .cons (owes_move (.tmp 0) (.inl rfl) fun q u lh => ⟨lh.wants1 5 true rfl rfl rfl, lh.old 0 rfl⟩) ?_
        refine .cons (owes_text 27 9 5 73 11 a0 la cap0 za rfl rfl rfl rfl rfl SA.out Try.underlying27 Try.underlying5 Try.underlying9 fun q u lh => lh.wants1 5 true rfl rfl rfl) ?_
        refine .cons (owes_eql 9 9 (.tmp 72) (.tmp 74) rfl rfl fun q u lh => ⟨lh.wants1 5 true rfl rfl rfl, .string (strOfNums za), lh.dep 10 rfl, lh.dep 12 rfl, eq_str⟩) ?_
        refine .cons (owes_pick (.tmp 67) (.tmp 75) (.const (.bool false)) rfl fun q u lh => ⟨wants_free rfl, true, lh.dep 5 rfl, lh.dep 13 rfl⟩) ?_
        refine .cons (owes_move (.tmp 76) (.inl rfl) fun q u lh => ⟨wants_free rfl, lh.dep 14 rfl⟩) ?_
        refine .cons (owes_move (.tmp 9) (.inl rfl) fun q u lh => ⟨lh.wants1 15 true rfl rfl rfl, lh.old 9 rfl⟩) ?_
        refine .cons (owes_call 21 Try.func21 (by kernel_rfl) (by kernel_rfl) [.tmp 78] #[23] rfl fun q u lh => ⟨lh.wants1 15 true rfl rfl rfl, by have e78 : q.tmps.getD 78 undef = .pointer (some ⟨b, 0, none⟩) := lh.dep 16 rfl; show Calls Try.prog 21 #[q.tmps.getD 78 undef] u _; rw [e78]; exact down_fact b u _ _ (H9.out.1.below lh.below) false R9.out⟩) ?_
        refine .cons (owes_value fun q u lh => ⟨lh.wants1 15 true rfl rfl rfl, .bool true, by have e79 : q.tmps.getD 79 undef = .bool false := lh.dep 17 rfl; simp [execOp, Act.eval, e79, go_sem], rfl⟩) ?_
        refine .cons (owes_pick (.tmp 77) (.tmp 80) (.const (.bool false)) rfl fun q u lh => ⟨wants_free rfl, true, lh.dep 15 rfl, lh.dep 18 rfl⟩) ?_
        refine .cons (owes_move (.tmp 81) (.inl rfl) fun q u lh => ⟨wants_free rfl, lh.dep 19 rfl⟩) ?_
        refine .cons (owes_call 26 Try.func26 (by kernel_rfl) (by kernel_rfl) [] #[] rfl fun q u lh => ⟨lh.wants1 20 true rfl rfl rfl, by show Calls Try.prog 26 #[] u _; exact known_fact u⟩) ?_
        refine .cons (owes_pick (.tmp 82) (.tmp 83) (.const (.bool false)) rfl fun q u lh => ⟨wants_free rfl, true, lh.dep 20 rfl, lh.dep 21 rfl⟩) ?_
        refine .cons (owes_move (.tmp 84) (.inr rfl) fun q u lh => ⟨wants_free rfl, lh.dep 22 rfl⟩) ?_
        exact .nil _
      intro q u hb hsz hdf hold hfact
      have h4 : q.tmps.getD 8 undef = .bool true := hfact 23 (by decide)
      go_wp2
      refine bodyPost_ret (results_tmp rfl _ _ _) hdf ⟨?_, H9.out.2.trans (hb.mono H9.out.2.size)⟩
      rw [h4]

theorem Walk.tapeSynced (a0 : Option Addr) (len0 cap0 : Nat) (z0 : List Int) (a1 : Option Addr) (len1 cap1 : Nat) (A1 : Nat → Option Addr) (L1 C1 : Nat → Nat) (Z1 : Nat → List Int) (a2 a3 : Int) (w : World)
    (w0 : Walk.IsRow .u8 w a0 len0 cap0 z0) (w1 : Walk.IsRows .u8 w a1 len1 cap1 A1 L1 C1 Z1) (w2 : (Lit.int .i64 a2).wf = true) (w3 : (Lit.int .i64 a3).wf = true) :
    Calls Try.prog 8 #[.slice a0 len0 cap0, .slice a1 len1 cap1, .int .i64 a2, .int .i64 a3] w fun e w' => e = .returned (.bool true) ∧ Below w.heap.size w w' := by
  obtain ⟨hA, hc0, hm0⟩ := w0.sl Walk.wf_u8'
  have b3 := wf_i64 (Walk.wf_i64' _ w3)
  by_cases h1 : (100 : Int) < len0
  · go_enter Try.func8, Try.ntmps8
    go_wp2
    go_ret
    exact ⟨rfl, Below.refl _ _⟩
  by_cases h2 : (10 : Int) < len1
  · go_enter Try.func8, Try.ntmps8
    go_wp2
    go_ret
    exact ⟨rfl, Below.refl _ _⟩
  refine synced_main a0 len0 cap0 _ a1 len1 cap1 A1 L1 C1 Z1 a2 a3 w hA w0.none (by omega) (by omega) b3.2 ?_
  by_cases h0 : len1 = 0
  · exact .inl h0
  · rcases w1 with ⟨_, h1, _⟩ | ⟨x, rfl, hl, hm, h3⟩
    · exact absurd h1 h0
    · obtain ⟨b, off, spot⟩ := x
      have hs := (h3 0 (by omega)).1
      have hspot : spot = none := by simpa [Addr.add] using World.cell?_spot hs
      subst hspot
      have hb : b < w.heap.size := by
        rw [Addr.add_flat] at hs
        exact block_lt_of_cell hs
      refine .inr ⟨b, off, rfl, hb, fun r hr => ?_⟩
      have := h3 r (by omega)
      rw [Addr.add_flat] at this
      exact this

end Go.Proofs.Ytcclpmjoofaepaa
