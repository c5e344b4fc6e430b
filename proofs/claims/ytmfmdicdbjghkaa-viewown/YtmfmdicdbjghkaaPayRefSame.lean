/-
  pay: giroref11.Same.
-/
import Derived.Test.YtmfmdicdbjghkaaPaySame
namespace Go.Proofs.Ytmfmdicdbjghkaa
open Go.RowKit
set_option linter.unusedVariables false
set_option linter.unusedSimpArgs false

set_option maxHeartbeats 4000000 in
theorem refPaySame_row (b1 o1 c1 b2 o2 c2 : Nat) (xs ys : List P7) (w : World) (hl : xs.length = ys.length) (hm : xs.length ≤ 9223372036854775807)
    (h1 : ∀ i, i < xs.length → At7 w b1 (o1 + i * 7) (xs.getD i p70)) (h2 : ∀ i, i < ys.length → At7 w b2 (o2 + i * 7) (ys.getD i p70)) :
    Calls Try.prog 8 #[.slice (some ⟨b1, o1, none⟩) xs.length c1, .slice (some ⟨b2, o2, none⟩) xs.length c2] w fun e w' => e = .returned (.bool (eqP xs ys)) ∧ ∃ n, w' = w.drewN n := by
  have HL : Hid (xs.length = ys.length) := hl
  clear hl
  go_enter Try.func8, Try.ntmps8
  go_wp2
  go_loopw [5] (fun i wr => ∃ (k n : Nat), k ≤ xs.length ∧ i = .int .i64 k ∧ xs.take k = ys.take k ∧ wr = w.drewN n) (fun i _ => xs.length - (intOf i).toNat)
  case atStart => exact ⟨0, 0, by omega, rfl, by simp, rfl⟩
  case round =>
    obtain ⟨k, n, hk, rfl, he, rfl⟩ := hrel
    have HE : Hid (xs.take k = ys.take k) := he
    clear he
    by_cases hlt : k < xs.length
    · obtain ⟨p0, p1, p2, p3, p4, p5, p6⟩ := h1 k hlt
      obtain ⟨q0, q1, q2, q3, q4, q5, q6⟩ := h2 k (by rw [← HL.out]; exact hlt)
      obtain ⟨x, hx⟩ : ∃ x, xs.getD k p70 = x := ⟨_, rfl⟩
      obtain ⟨y, hy⟩ : ∃ y, ys.getD k p70 = y := ⟨_, rfl⟩
      rw [hx] at p0 p1 p2 p3 p4 p5 p6
      rw [hy] at q0 q1 q2 q3 q4 q5 q6
      have i1 : (k : Int) < (xs.length : Int) := by omega
      have HX : Hid (xs.getD k p70 = x) := hx
      have HY : Hid (ys.getD k p70 = y) := hy
      clear hx hy h1 h2
      obtain ⟨x0, x1, x2, x3, x4, x5, x6⟩ := x
      obtain ⟨y0, y1, y2, y3, y4, y5, y6⟩ := y
      simp only [P7.id, P7.fr, P7.to, P7.am, P7.cl, P7.st, P7.ti] at p0 p1 p2 p3 p4 p5 p6 q0 q1 q2 q3 q4 q5 q6
      by_cases hxy : x0 = y0 ∧ x1 = y1 ∧ x2 = y2 ∧ x3 = y3 ∧ x4 = y4 ∧ x5 = y5 ∧ x6 = y6
      · obtain ⟨rfl, rfl, rfl, rfl, rfl, rfl, rfl⟩ := hxy
        go_wp2
        go_quiet (fail)
        go_wp2
        go_roundw
        case rel => exact ⟨k + 1, n + nq, by omega, by go_num, by rw [take_snocA xs p70 k hlt, take_snocA ys p70 k (by rw [← HL.out]; exact hlt), HE.out, HX.out, HY.out], rfl⟩
        case measure => simp [intOf]; omega
      · have HD : Hid (false = eqP xs ys) := by
          have : ¬ xs = ys := fun h => hxy (by
            have e : (x0, x1, x2, x3, x4, x5, x6) = (y0, y1, y2, y3, y4, y5, y6) := by rw [← HX.out, ← HY.out, h]
            simpa using e)
          show false = eqP xs ys
          rw [eqP_no this]
        by_cases e0 : (x0 == y0) = true
        rotate_left
        · replace e0 : (x0 == y0) = false := by simpa using e0
          clear hxy
          go_wp2
          go_quiet (fail)
          go_wp2
          go_ret
          exact ⟨rt_bool HD.out, n + nq, by first | rfl | exact World.drewN_drewN _ _ _⟩
        by_cases e1 : (x1 == y1) = true
        rotate_left
        · replace e1 : (x1 == y1) = false := by simpa using e1
          clear hxy
          go_wp2
          go_quiet (fail)
          go_wp2
          go_ret
          exact ⟨rt_bool HD.out, n + nq, by first | rfl | exact World.drewN_drewN _ _ _⟩
        by_cases e2 : (x2 == y2) = true
        rotate_left
        · replace e2 : (x2 == y2) = false := by simpa using e2
          clear hxy
          go_wp2
          go_quiet (fail)
          go_wp2
          go_ret
          exact ⟨rt_bool HD.out, n + nq, by first | rfl | exact World.drewN_drewN _ _ _⟩
        by_cases e3 : (x3 == y3) = true
        rotate_left
        · replace e3 : (x3 == y3) = false := by simpa using e3
          clear hxy
          go_wp2
          go_quiet (fail)
          go_wp2
          go_ret
          exact ⟨rt_bool HD.out, n + nq, by first | rfl | exact World.drewN_drewN _ _ _⟩
        by_cases e4 : (x4 == y4) = true
        rotate_left
        · replace e4 : (x4 == y4) = false := by simpa using e4
          clear hxy
          go_wp2
          go_quiet (fail)
          go_wp2
          go_ret
          exact ⟨rt_bool HD.out, n + nq, by first | rfl | exact World.drewN_drewN _ _ _⟩
        by_cases e5 : (x5 == y5) = true
        rotate_left
        · replace e5 : (x5 == y5) = false := by simpa using e5
          clear hxy
          go_wp2
          go_quiet (fail)
          go_wp2
          go_ret
          exact ⟨rt_bool HD.out, n + nq, by first | rfl | exact World.drewN_drewN _ _ _⟩
        have e6 : (x6 == y6) = false := by
          rw [Bool.eq_false_iff]
          intro h
          simp only [beq_iff_eq] at e0 e1 e2 e3 e4 e5 h
          exact hxy ⟨e0, e1, e2, e3, e4, e5, h⟩
        clear hxy
        go_wp2
        go_quiet (fail)
        go_wp2
        go_ret
        exact ⟨rt_bool HD.out, n + nq, by first | rfl | exact World.drewN_drewN _ _ _⟩
    · obtain rfl : k = xs.length := by omega
      have HD : Hid (true = eqP xs ys) := by
        have h := HE.out
        rw [List.take_length, HL.out, List.take_length] at h
        show true = eqP xs ys
        rw [eqP_yes h]
      clear h1 h2
      go_wp2
      go_ret
      exact ⟨rt_bool HD.out, _, rfl⟩

set_option maxHeartbeats 400000 in
theorem refPaySame_not (a b : Option Addr) (la lb c1 c2 : Nat) (w : World) (h : la ≠ lb) :
    Calls Try.prog 8 #[.slice a la c1, .slice b lb c2] w fun e w' => e = .returned (.bool false) ∧ w' = w := by
  have h' : ((la : Int) == (lb : Int)) = false := by rw [beq_eq_false_iff_ne]; omega
  go_enter Try.func8, Try.ntmps8
  go_wp2
  go_ret
  exact ⟨rfl, rfl⟩

set_option maxHeartbeats 400000 in
theorem refPaySame_none (a b : Option Addr) (c1 c2 : Nat) (w : World) :
    Calls Try.prog 8 #[.slice a 0 c1, .slice b 0 c2] w fun e w' => e = .returned (.bool true) ∧ w' = w := by
  go_enter Try.func8, Try.ntmps8
  go_wp2
  refine wp_loop_rounds 1 ?_
  rw [rounds_succ]
  go_wp2
  go_ret
  exact ⟨rfl, rfl⟩

/-- Are two rows one? -/
theorem refPaySame_any (a b : Option Addr) (la lb c1 c2 : Nat) (xs ys : List P7) (w : World) (h1 : Pays w a la xs) (h2 : Pays w b lb ys) (hm : la ≤ 9223372036854775807) :
    Calls Try.prog 8 #[.slice a la c1, .slice b lb c2] w fun e w' => e = .returned (.bool (eqP xs ys)) ∧ ∃ n, w' = w.drewN n := by
  have l1 := h1.1
  have l2 := h2.1
  subst l1 l2
  by_cases hl : xs.length = ys.length
  · rcases h1.2 with h0 | ⟨b1, o1, rfl, hc1⟩
    · subst h0
      have : ys = [] := List.length_eq_zero_iff.mp (by simpa using hl.symm)
      subst this
      refine (refPaySame_none a b c1 c2 w).mono ?_
      rintro e w' ⟨rfl, rfl⟩
      exact ⟨rfl, 0, rfl⟩
    · rcases h2.2 with h0 | ⟨b2, o2, rfl, hc2⟩
      · subst h0
        have : xs = [] := List.length_eq_zero_iff.mp (by simpa using hl)
        subst this
        refine (refPaySame_none _ b c1 c2 w).mono ?_
        rintro e w' ⟨rfl, rfl⟩
        exact ⟨rfl, 0, rfl⟩
      · have := refPaySame_row b1 o1 c1 b2 o2 c2 xs ys w hl hm hc1 hc2
        rw [← hl]
        exact this
  · refine (refPaySame_not a b _ _ c1 c2 w hl).mono ?_
    rintro e w' ⟨rfl, rfl⟩
    have : ¬ xs = ys := fun h => hl (by rw [h])
    exact ⟨by rw [eqP_no this], 0, rfl⟩

end Go.Proofs.Ytmfmdicdbjghkaa
