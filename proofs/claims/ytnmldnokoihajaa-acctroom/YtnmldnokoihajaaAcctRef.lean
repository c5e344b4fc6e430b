/-
  giroref9: Room, Kept, In, Out.
-/
import Derived.Test.YtnmldnokoihajaaAcctDo
namespace Go.Proofs.Ytnmldnokoihajaa
open Go.RowKit
set_option linter.unusedVariables false
set_option linter.unusedSimpArgs false

set_option maxHeartbeats 1000000 in
theorem refRoom_any (b c r k : Int) (h : acctB b c r = true) (w : World) : Calls Try.prog 15 #[.agg #[.int .i64 b, .int .i64 c, .int .i64 r], .int .i64 k] w fun e w' => e = .returned (.int .i64 (roomV b c r k)) ∧ Below w.heap.size w w' := by
  obtain ⟨b0, b1, c0, c1, r0, r1⟩ := acctB_yes.1 h
  clear h
  by_cases hk : k = 3
  · subst hk
    go_enter Try.func15, Try.ntmps15
    go_wp2
    go_ret
    exact ⟨rt_int room_normal, box_below _ _⟩
  · have hk' : (k == 3) = false := by simpa using hk
    have HK : Hid (¬ k = 3) := hk
    clear hk
    go_enter Try.func15, Try.ntmps15
    go_wp2
    go_ret
    exact ⟨rt_int (room_other HK.out), box_below _ _⟩

set_option maxHeartbeats 1000000 in
theorem refKept_any (b c r n : Int) (r0 : 0 ≤ r) (r1 : r ≤ 9223372036854775807) (n0 : 0 ≤ n) (n1 : n ≤ 9223372036854775807) (w : World) :
    Calls Try.prog 17 #[.agg #[.int .i64 b, .int .i64 c, .int .i64 r], .int .i64 n] w fun e w' => e = .returned (.int .i64 (keptV r n)) ∧ Below w.heap.size w w' := by
  rcases Int.lt_or_le n r with h | h
  · go_enter Try.func17, Try.ntmps17
    go_wp2
    go_ret
    exact ⟨rt_int (kept_some h), box_below _ _⟩
  · go_enter Try.func17, Try.ntmps17
    go_wp2
    go_ret
    exact ⟨rt_int (kept_none h), box_below _ _⟩

set_option maxHeartbeats 2000000 in
theorem refIn_any (b c r n : Int) (h : acctB b c r = true) (n0 : -9223372036854775808 ≤ n) (n1 : n ≤ 9223372036854775807) (w : World) :
    Calls Try.prog 11 #[.agg #[.int .i64 b, .int .i64 c, .int .i64 r], .int .i64 n] w (AccEnd w (cond (balB (b + n)) (b + n) b) c r (cond (balB (b + n)) 0 8)) := by
  obtain ⟨b0, b1, c0, c1, r0, r1⟩ := acctB_yes.1 h
  have A := refAdd_walk b n (by omega) (by omega) n0 n1
  have I := refAcctIs_any (heldV (b + n)) c r
  have E := held_acct (t := b + n) (acctB_sets h).1 (acctB_sets h).2
  rw [← held_cond (t := b + n) (b := b), ← E]
  generalize heldV (b + n) = s at A I ⊢
  generalize heldB (b + n) = q at A ⊢
  generalize acctB s c r = v at I ⊢
  clear h b0 b1 c0 c1 r0 r1 n0 n1 E
  obtain ⟨h1, h2, h3⟩ := acc2 w b c r 0 0 0
  go_enter Try.func11, Try.ntmps11
  go_wp2_with fail
  go_at_call 21
  refine (A _).mono ?_
  rintro e w1 ⟨rfl, hw⟩
  rw [← hw] at h1 h2 h3
  have B1 : Hid (Below w.heap.size w w1) := h3
  have R1 : Hid (Acc w1 (w.heap.size + 1) 0 0 0) := h2
  have Q1 : Hid (Acc w1 w.heap.size b c r) := h1
  obtain ⟨p0, p1, p2⟩ := h1.at3
  clear hw h1 h2 h3 A
  have B2 : Hid (Below w.heap.size w (w1.alloc (.cells #[.int .i64 s, .int .i64 c, .int .i64 r] 23))) := B1.out.alloc B1.out.size _
  have R2 : Hid (Acc (w1.alloc (.cells #[.int .i64 s, .int .i64 c, .int .i64 r] 23)) (w.heap.size + 1) 0 0 0) := R1.out.below (box_below _ _)
  have Q2 : Hid (Acc (w1.alloc (.cells #[.int .i64 s, .int .i64 c, .int .i64 r] 23)) w.heap.size b c r) := Q1.out.below (box_below _ _)
  have S2 : Hid (Acc (w1.alloc (.cells #[.int .i64 s, .int .i64 c, .int .i64 r] 23)) w1.heap.size s c r) := Acc.new _ _ _ _
  obtain ⟨q0, q1, q2⟩ := Q2.out.at3
  cases q
  · clear I
    go_wp2_with (refine store_acct rfl _ _ rfl (w.heap.size + 1) b c r rfl rfl _ _ _ R2.out ?_)
    obtain ⟨d0, d1, d2⟩ := (R2.out.set b c r).at3
    have B3 := Below.setRow B2.out (g := w.heap.size + 1) (by omega) #[.int .i64 b, .int .i64 c, .int .i64 r]
    clear Q2 S2 R2 B2 q0 q1 q2
    generalize (w1.alloc (.cells #[.int .i64 s, .int .i64 c, .int .i64 r] 23)).setRow (w.heap.size + 1) #[.int .i64 b, .int .i64 c, .int .i64 r] = w3 at *
    exact bodyPost_ret (v := .tuple #[.agg #[.int .i64 b, .int .i64 c, .int .i64 r], .int .i64 8]) (by simp [results, Try.results11, d0, d1, d2, go_sem]) rfl ⟨rfl, B3⟩
  · go_wp2_with fail
    go_at_call 7
    refine (I _).mono ?_
    rintro e w2 ⟨rfl, hb2⟩
    have B3 : Hid (Below w.heap.size w w2) := B2.out.trans (hb2.mono B2.out.size)
    have R3 : Hid (Acc w2 (w.heap.size + 1) 0 0 0) := R2.out.below hb2
    obtain ⟨m0, m1, m2⟩ := (Q2.out.below hb2).at3
    obtain ⟨o0, o1, o2⟩ := (S2.out.below hb2).at3
    clear hb2 B1 B2 R1 R2 Q1 Q2 S2 p0 p1 p2 q0 q1 q2 I
    cases v
    · go_wp2_with (refine store_acct rfl _ _ rfl (w.heap.size + 1) b c r rfl rfl _ _ _ R3.out ?_)
      obtain ⟨d0, d1, d2⟩ := (R3.out.set b c r).at3
      have B4 := Below.setRow B3.out (g := w.heap.size + 1) (by omega) #[.int .i64 b, .int .i64 c, .int .i64 r]
      generalize w2.setRow (w.heap.size + 1) #[.int .i64 b, .int .i64 c, .int .i64 r] = w3 at *
      exact bodyPost_ret (v := .tuple #[.agg #[.int .i64 b, .int .i64 c, .int .i64 r], .int .i64 8]) (by simp [results, Try.results11, d0, d1, d2, go_sem]) rfl ⟨rfl, B4⟩
    · go_wp2_with (refine store_acct rfl _ _ rfl (w.heap.size + 1) s c r rfl rfl _ _ _ R3.out ?_)
      obtain ⟨d0, d1, d2⟩ := (R3.out.set s c r).at3
      have B4 := Below.setRow B3.out (g := w.heap.size + 1) (by omega) #[.int .i64 s, .int .i64 c, .int .i64 r]
      generalize w2.setRow (w.heap.size + 1) #[.int .i64 s, .int .i64 c, .int .i64 r] = w3 at *
      exact bodyPost_ret (v := .tuple #[.agg #[.int .i64 s, .int .i64 c, .int .i64 r], .int .i64 0]) (by simp [results, Try.results11, d0, d1, d2, go_sem]) rfl ⟨rfl, B4⟩

set_option maxHeartbeats 4000000 in
/-- Out, but for the reserve. -/
theorem refOut_rest (b c r n k R : Int) (h : acctB b c r = true) (n0 : 0 ≤ n) (n1 : n ≤ 9223372036854775807) (hR : setB R = true)
    (HR : (R = r ∧ k ≠ 1 ∧ k ≠ 2) ∨ ((k = 1 ∨ k = 2) ∧ ∀ w, Calls Try.prog 17 #[.agg #[.int .i64 b, .int .i64 c, .int .i64 r], .int .i64 n] w fun e w' => e = .returned (.int .i64 R) ∧ Below w.heap.size w w')) (w : World) :
    Calls Try.prog 13 #[.agg #[.int .i64 b, .int .i64 c, .int .i64 r], .int .i64 n, .int .i64 k] w (AccEnd w (cond (balB (b - n)) (b - n) b) c (cond (balB (b - n)) R r) (cond (balB (b - n)) 0 8)) := by
  obtain ⟨b0, b1, c0, c1, r0, r1⟩ := acctB_yes.1 h
  have A := refAdd_walk b (-n) (by omega) (by omega) (by omega) (by omega)
  have I := refAcctIs_any (heldV (b - n)) c R
  have E := held_acct (t := b - n) (acctB_sets h).1 hR
  rw [← Int.sub_eq_add_neg] at A
  rw [← held_cond (t := b - n) (b := b), ← E]
  generalize heldV (b - n) = s at A I ⊢
  generalize heldB (b - n) = q at A ⊢
  generalize acctB s c R = v at I ⊢
  clear h b0 b1 c0 c1 r0 r1 E hR
  obtain ⟨h1, h2, h3⟩ := acc2 w b c r 0 0 0
  rcases HR with ⟨rfl, k1, k2⟩ | ⟨hk, K⟩
  · have k1' : (k == 1) = false := by simpa using k1
    have k2' : (k == 2) = false := by simpa using k2
    clear k1 k2
    go_enter Try.func13, Try.ntmps13
    go_wp2_with fail
    go_at_call 21
    refine (A _).mono ?_
    rintro e w1 ⟨rfl, hw⟩
    rw [← hw] at h1 h2 h3
    have B1 : Hid (Below w.heap.size w w1) := h3
    have R1 : Hid (Acc w1 (w.heap.size + 1) 0 0 0) := h2
    have Q1 : Hid (Acc w1 w.heap.size b c R) := h1
    obtain ⟨p0, p1, p2⟩ := h1.at3
    clear hw h1 h2 h3 A
    have B2 : Hid (Below w.heap.size w (w1.alloc (.cells #[.int .i64 s, .int .i64 c, .int .i64 R] 23))) := B1.out.alloc B1.out.size _
    have R2 : Hid (Acc (w1.alloc (.cells #[.int .i64 s, .int .i64 c, .int .i64 R] 23)) (w.heap.size + 1) 0 0 0) := R1.out.below (box_below _ _)
    have Q2 : Hid (Acc (w1.alloc (.cells #[.int .i64 s, .int .i64 c, .int .i64 R] 23)) w.heap.size b c R) := Q1.out.below (box_below _ _)
    have S2 : Hid (Acc (w1.alloc (.cells #[.int .i64 s, .int .i64 c, .int .i64 R] 23)) w1.heap.size s c R) := Acc.new _ _ _ _
    obtain ⟨q0, q1, q2⟩ := Q2.out.at3
    cases q
    · clear I
      go_wp2_with (refine store_acct rfl _ _ rfl (w.heap.size + 1) b c R rfl rfl _ _ _ R2.out ?_)
      obtain ⟨d0, d1, d2⟩ := (R2.out.set b c R).at3
      have B3 := Below.setRow B2.out (g := w.heap.size + 1) (by omega) #[.int .i64 b, .int .i64 c, .int .i64 R]
      clear Q2 S2 R2 B2 q0 q1 q2
      generalize (w1.alloc (.cells #[.int .i64 s, .int .i64 c, .int .i64 R] 23)).setRow (w.heap.size + 1) #[.int .i64 b, .int .i64 c, .int .i64 R] = w3 at *
      exact bodyPost_ret (v := .tuple #[.agg #[.int .i64 b, .int .i64 c, .int .i64 R], .int .i64 8]) (by simp [results, Try.results13, d0, d1, d2, go_sem]) rfl ⟨rfl, B3⟩
    · go_wp2_with fail
      go_at_call 7
      refine (I _).mono ?_
      rintro e w2 ⟨rfl, hb2⟩
      have B3 : Hid (Below w.heap.size w w2) := B2.out.trans (hb2.mono B2.out.size)
      have R3 : Hid (Acc w2 (w.heap.size + 1) 0 0 0) := R2.out.below hb2
      obtain ⟨m0, m1, m2⟩ := (Q2.out.below hb2).at3
      obtain ⟨o0, o1, o2⟩ := (S2.out.below hb2).at3
      clear hb2 B1 B2 R1 R2 Q1 Q2 S2 p0 p1 p2 q0 q1 q2 I
      cases v
      · go_wp2_with (refine store_acct rfl _ _ rfl (w.heap.size + 1) b c R rfl rfl _ _ _ R3.out ?_)
        obtain ⟨d0, d1, d2⟩ := (R3.out.set b c R).at3
        have B4 := Below.setRow B3.out (g := w.heap.size + 1) (by omega) #[.int .i64 b, .int .i64 c, .int .i64 R]
        generalize w2.setRow (w.heap.size + 1) #[.int .i64 b, .int .i64 c, .int .i64 R] = w3 at *
        exact bodyPost_ret (v := .tuple #[.agg #[.int .i64 b, .int .i64 c, .int .i64 R], .int .i64 8]) (by simp [results, Try.results13, d0, d1, d2, go_sem]) rfl ⟨rfl, B4⟩
      · go_wp2_with (refine store_acct rfl _ _ rfl (w.heap.size + 1) s c R rfl rfl _ _ _ R3.out ?_)
        obtain ⟨d0, d1, d2⟩ := (R3.out.set s c R).at3
        have B4 := Below.setRow B3.out (g := w.heap.size + 1) (by omega) #[.int .i64 s, .int .i64 c, .int .i64 R]
        generalize w2.setRow (w.heap.size + 1) #[.int .i64 s, .int .i64 c, .int .i64 R] = w3 at *
        exact bodyPost_ret (v := .tuple #[.agg #[.int .i64 s, .int .i64 c, .int .i64 R], .int .i64 0]) (by simp [results, Try.results13, d0, d1, d2, go_sem]) rfl ⟨rfl, B4⟩
  · rcases hk with rfl | rfl
    all_goals
      go_enter Try.func13, Try.ntmps13
      go_wp2_with fail
      go_at_call 21
      refine (A _).mono ?_
      rintro e w1 ⟨rfl, hw⟩
      rw [← hw] at h1 h2 h3
      have B1 : Hid (Below w.heap.size w w1) := h3
      have R1 : Hid (Acc w1 (w.heap.size + 1) 0 0 0) := h2
      have Q1 : Hid (Acc w1 w.heap.size b c r) := h1
      obtain ⟨p0, p1, p2⟩ := h1.at3
      clear hw h1 h2 h3 A
      have B2 : Hid (Below w.heap.size w (w1.alloc (.cells #[.int .i64 s, .int .i64 c, .int .i64 r] 23))) := B1.out.alloc B1.out.size _
      have R2 : Hid (Acc (w1.alloc (.cells #[.int .i64 s, .int .i64 c, .int .i64 r] 23)) (w.heap.size + 1) 0 0 0) := R1.out.below (box_below _ _)
      have Q2 : Hid (Acc (w1.alloc (.cells #[.int .i64 s, .int .i64 c, .int .i64 r] 23)) w.heap.size b c r) := Q1.out.below (box_below _ _)
      have S2 : Hid (Acc (w1.alloc (.cells #[.int .i64 s, .int .i64 c, .int .i64 r] 23)) w1.heap.size s c r) := Acc.new _ _ _ _
      obtain ⟨q0, q1, q2⟩ := Q2.out.at3
      have hsz : w.heap.size + 1 < w1.heap.size := R1.out.at3.lt
      go_wp2_with fail
      go_at_call 17
      refine (K _).mono ?_
      rintro e w4 ⟨rfl, hb4⟩
      have B5 : Hid (Below w.heap.size w w4) := B2.out.trans (hb4.mono B2.out.size)
      have R5 : Hid (Acc w4 (w.heap.size + 1) 0 0 0) := R2.out.below hb4
      have Q5 : Hid (Acc w4 w.heap.size b c r) := Q2.out.below hb4
      have S5 : Hid (Acc w4 w1.heap.size s c r) := S2.out.below hb4
      clear hb4 B2 R2 Q2 S2 R1 Q1 p0 p1 p2 q0 q1 q2 K
      have fz := frozen_of_row w4 w1.heap.size 2 _ _ S5.out
      have eU := setCell_eq_setRow w4 w1.heap.size 2 _ _ _ (.int .i64 R) S5.out
      have B6 : Hid (Below w.heap.size w (w4.setCell ⟨w1.heap.size, 2, none⟩ (.int .i64 R))) := by show Below _ _ _; rw [eU]; exact Below.setRow B5.out (by omega) _
      have R6 : Hid (Acc (w4.setCell ⟨w1.heap.size, 2, none⟩ (.int .i64 R)) (w.heap.size + 1) 0 0 0) := by show Acc _ _ _ _ _; rw [eU]; exact R5.out.far (by omega) _
      have Q6 : Hid (Acc (w4.setCell ⟨w1.heap.size, 2, none⟩ (.int .i64 R)) w.heap.size b c r) := by show Acc _ _ _ _ _; rw [eU]; exact Q5.out.far (by omega) _
      have S6 : Hid (Acc (w4.setCell ⟨w1.heap.size, 2, none⟩ (.int .i64 R)) w1.heap.size s c R) := by show Acc _ _ _ _ _; rw [eU]; exact S5.out.set s c R
      obtain ⟨u0, u1, u2⟩ := S5.out.at3
      obtain ⟨p0, p1, p2⟩ := Q6.out.at3
      obtain ⟨q0, q1, q2⟩ := S6.out.at3
      clear eU hsz
      cases q
      · clear I
        go_wp2_with (refine store_acct rfl _ _ rfl (w.heap.size + 1) b c r rfl rfl _ _ _ R6.out ?_)
        obtain ⟨d0, d1, d2⟩ := (R6.out.set b c r).at3
        have B3 := Below.setRow B6.out (g := w.heap.size + 1) (by omega) #[.int .i64 b, .int .i64 c, .int .i64 r]
        clear Q5 Q6 S5 S6 R5 R6 B5 B6 q0 q1 q2 u0 u1 u2 p0 p1 p2
        generalize (w4.setCell ⟨w1.heap.size, 2, none⟩ (.int .i64 R)).setRow (w.heap.size + 1) #[.int .i64 b, .int .i64 c, .int .i64 r] = w3 at *
        exact bodyPost_ret (v := .tuple #[.agg #[.int .i64 b, .int .i64 c, .int .i64 r], .int .i64 8]) (by simp [results, Try.results13, d0, d1, d2, go_sem]) rfl ⟨rfl, B3⟩
      · go_wp2_with fail
        go_at_call 7
        refine (I _).mono ?_
        rintro e w2 ⟨rfl, hb2⟩
        have B3 : Hid (Below w.heap.size w w2) := B6.out.trans (hb2.mono B6.out.size)
        have R3 : Hid (Acc w2 (w.heap.size + 1) 0 0 0) := R6.out.below hb2
        have Q3 := Q6.out.below hb2
        have S3 := S6.out.below hb2
        clear hb2 B1 B5 B6 Q5 Q6 S5 S6 R5 R6 p0 p1 p2 q0 q1 q2 u0 u1 u2 I fz
        obtain ⟨m0, m1, m2⟩ := Q3.at3
        obtain ⟨o0, o1, o2⟩ := S3.at3
        clear Q3 S3
        cases v
        · go_wp2_with (refine store_acct rfl _ _ rfl (w.heap.size + 1) b c r rfl rfl _ _ _ R3.out ?_)
          obtain ⟨d0, d1, d2⟩ := (R3.out.set b c r).at3
          have B4 := Below.setRow B3.out (g := w.heap.size + 1) (by omega) #[.int .i64 b, .int .i64 c, .int .i64 r]
          generalize w2.setRow (w.heap.size + 1) #[.int .i64 b, .int .i64 c, .int .i64 r] = w3 at *
          exact bodyPost_ret (v := .tuple #[.agg #[.int .i64 b, .int .i64 c, .int .i64 r], .int .i64 8]) (by simp [results, Try.results13, d0, d1, d2, go_sem]) rfl ⟨rfl, B4⟩
        · go_wp2_with (refine store_acct rfl _ _ rfl (w.heap.size + 1) s c R rfl rfl _ _ _ R3.out ?_)
          obtain ⟨d0, d1, d2⟩ := (R3.out.set s c R).at3
          have B4 := Below.setRow B3.out (g := w.heap.size + 1) (by omega) #[.int .i64 s, .int .i64 c, .int .i64 R]
          generalize w2.setRow (w.heap.size + 1) #[.int .i64 s, .int .i64 c, .int .i64 R] = w3 at *
          exact bodyPost_ret (v := .tuple #[.agg #[.int .i64 s, .int .i64 c, .int .i64 R], .int .i64 0]) (by simp [results, Try.results13, d0, d1, d2, go_sem]) rfl ⟨rfl, B4⟩

theorem refOut_any (b c r n k : Int) (h : acctB b c r = true) (n0 : 0 ≤ n) (n1 : n ≤ 9223372036854775807) (w : World) :
    Calls Try.prog 13 #[.agg #[.int .i64 b, .int .i64 c, .int .i64 r], .int .i64 n, .int .i64 k] w (AccEnd w (cond (balB (b - n)) (b - n) b) c (cond (balB (b - n)) (outR r n k) r) (cond (balB (b - n)) 0 8)) := by
  obtain ⟨b0, b1, c0, c1, r0, r1⟩ := acctB_yes.1 h
  have hr := outR_range k r0 n0
  refine refOut_rest b c r n k (outR r n k) h n0 n1 (setB_of hr.1 (by omega)) ?_ w
  by_cases hk : k = 1 ∨ k = 2
  · have e : outR r n k = keptV r n := if_pos hk
    rw [e]
    exact .inr ⟨hk, fun w => refKept_any b c r n r0 (by omega) n0 n1 w⟩
  · exact .inl ⟨if_neg hk, by omega, by omega⟩

end Go.Proofs.Ytnmldnokoihajaa
