/-
  lim: are rows, accounts, books one: the program's answers and the document's.
-/
import Derived.Test.YtpaieecbedgeaaaLimSame
namespace Go.Proofs.Ytpaieecbedgeaaa
open Go.RowKit
set_option linter.unusedVariables false
set_option linter.unusedSimpArgs false

set_option maxHeartbeats 400000 in
theorem eqa_not (a b : Option Addr) (la lb c1 c2 : Nat) (w : World) (h : la ≠ lb) :
    Calls Try.prog 26 #[.slice a la c1, .slice b lb c2] w fun e w' => e = .returned (.bool false) ∧ w' = w := by
  have h' : ((la : Int) == (lb : Int)) = false := by rw [beq_eq_false_iff_ne]; omega
  go_enter Try.func26, Try.ntmps26
  go_wp2
  go_ret
  exact ⟨rfl, rfl⟩

set_option maxHeartbeats 400000 in
theorem eqa_none (a b : Option Addr) (c1 c2 : Nat) (w : World) :
    Calls Try.prog 26 #[.slice a 0 c1, .slice b 0 c2] w fun e w' => e = .returned (.bool true) ∧ w' = w := by
  go_enter Try.func26, Try.ntmps26
  go_wp2
  refine wp_loop_rounds 1 ?_
  rw [rounds_succ]
  go_wp2
  go_ret
  exact ⟨rfl, rfl⟩

/-- slices.Equal of accounts. -/
theorem eqa_any (a b : Option Addr) (la lb c1 c2 : Nat) (xs ys : List A3) (w : World) (h1 : Accs w a la xs) (h2 : Accs w b lb ys) (hm : la ≤ 9223372036854775807) :
    Calls Try.prog 26 #[.slice a la c1, .slice b lb c2] w fun e w' => e = .returned (.bool (decide (xs = ys))) ∧ ∃ n, w' = w.drewN n := by
  have l1 := h1.1
  have l2 := h2.1
  subst l1 l2
  by_cases hl : xs.length = ys.length
  · rcases h1.2 with h0 | ⟨b1, o1, rfl, hc1⟩
    · subst h0
      have : ys = [] := List.length_eq_zero_iff.mp (by simpa using hl.symm)
      subst this
      refine (eqa_none a b c1 c2 w).mono ?_
      rintro e w' ⟨rfl, rfl⟩
      exact ⟨by simp, 0, rfl⟩
    · rcases h2.2 with h0 | ⟨b2, o2, rfl, hc2⟩
      · subst h0
        have : xs = [] := List.length_eq_zero_iff.mp (by simpa using hl)
        subst this
        refine (eqa_none _ b c1 c2 w).mono ?_
        rintro e w' ⟨rfl, rfl⟩
        exact ⟨by simp, 0, rfl⟩
      · have := eqa_row b1 o1 c1 b2 o2 c2 xs ys w hl hm hc1 hc2
        rw [← hl]
        exact this
  · refine (eqa_not a b _ _ c1 c2 w hl).mono ?_
    rintro e w' ⟨rfl, rfl⟩
    have : ¬ xs = ys := fun h => hl (by rw [h])
    exact ⟨by simp [this], 0, rfl⟩

/-- The length of a row is one that there may be. -/
theorem RowsI.short {w : World} {a : Option Addr} {n : Nat} {R : List (List Int)} (h : RowsI w a n R) : n = R.length := h.1

theorem drewN_below {w w' : World} {e : Ending} {v : Value} (h : e = .returned v ∧ ∃ n, w' = w.drewN n) : e = .returned v ∧ Below w.heap.size w w' := by
  obtain ⟨h1, n, rfl⟩ := h
  exact ⟨h1, below_drewN _ _⟩

/-- No row is longer than a slice may be. -/
def Short (R : List (List Int)) : Prop := ∀ z ∈ R, z.length ≤ 9223372036854775807
theorem Short.at {R : List (List Int)} (h : Short R) {k : Nat} (hk : k < R.length) : (R.getD k []).length ≤ 9223372036854775807 := by
  have e : R.getD k [] = R[k] := by simp [hk]
  rw [e]
  exact h _ (List.getElem_mem hk)

set_option maxHeartbeats 1000000 in
theorem eqf_row (b1 o1 c1 b2 o2 c2 : Nat) (xs ys : List (List Int)) (w : World) (hl : xs.length = ys.length) (hm : xs.length ≤ 9223372036854775807) (hsh : Short xs)
    (h1 : ∀ i, i < xs.length → ∃ x c, w.cell? ⟨b1, o1 + i, none⟩ = some (.slice x (xs.getD i []).length c) ∧ Sl .i64 w x (xs.getD i []).length (xs.getD i []) ∧ (x = none → c = 0))
    (h2 : ∀ i, i < ys.length → ∃ x c, w.cell? ⟨b2, o2 + i, none⟩ = some (.slice x (ys.getD i []).length c) ∧ Sl .i64 w x (ys.getD i []).length (ys.getD i []) ∧ (x = none → c = 0)) :
    Calls Try.prog 40 #[.slice (some ⟨b1, o1, none⟩) xs.length c1, .slice (some ⟨b2, o2, none⟩) xs.length c2, .func (.func 28) #[] #[]] w fun e w' => e = .returned (.bool (decide (xs = ys))) ∧ ∃ n, w' = w.drewN n := by
  have HL : Hid (xs.length = ys.length) := hl
  clear hl
  go_enter Try.func40, Try.ntmps40
  go_wp2
  go_loopw [17] (fun i wr => ∃ (k n : Nat), k ≤ xs.length ∧ i = .int .i64 k ∧ xs.take k = ys.take k ∧ wr = w.drewN n) (fun i _ => xs.length - (intOf i).toNat)
  case atStart => exact ⟨0, 0, by omega, rfl, by simp, rfl⟩
  case round =>
    obtain ⟨k, n, hk, rfl, he, rfl⟩ := hrel
    have HE : Hid (xs.take k = ys.take k) := he
    clear he
    by_cases hlt : k < xs.length
    · obtain ⟨x1, d1, p0, s1, _⟩ := h1 k hlt
      obtain ⟨x2, d2, q0, s2, _⟩ := h2 k (by rw [← HL.out]; exact hlt)
      have E := eqs_any x1 x2 _ _ d1 d2 _ _ (w.drewN n) (s1.drew n) (s2.drew n) (hsh.at hlt)
      obtain ⟨x, hx⟩ : ∃ x, xs.getD k [] = x := ⟨_, rfl⟩
      obtain ⟨y, hy⟩ : ∃ y, ys.getD k [] = y := ⟨_, rfl⟩
      rw [hx] at p0 E
      rw [hy] at q0 E
      have i1 : (k : Int) < (xs.length : Int) := by omega
      have HX : Hid (xs.getD k [] = x) := hx
      have HY : Hid (ys.getD k [] = y) := hy
      obtain ⟨lx, hlx⟩ : ∃ l, x.length = l := ⟨_, rfl⟩
      obtain ⟨ly, hly⟩ : ∃ l, y.length = l := ⟨_, rfl⟩
      rw [hlx] at p0 E
      rw [hly] at q0 E
      clear hx hy h1 h2 s1 s2 hlx hly
      by_cases hxy : x = y
      · rw [decide_eq_true hxy] at E
        have HS : Hid (xs.take (k + 1) = ys.take (k + 1)) := by
          show _ = _
          rw [take_snocA xs [] k hlt, take_snocA ys [] k (by rw [← HL.out]; exact hlt), HE.out, HX.out, HY.out, hxy]
        clear hxy HX HY
        go_wp2_with fail
        go_at_call 28
        refine E.mono ?_
        rintro e w2 ⟨rfl, m, hw⟩
        rw [hw]
        go_wp2
        go_roundw
        case rel => exact ⟨k + 1, n + m, by omega, by go_num, HS.out, by first | rfl | exact World.drewN_drewN _ _ _⟩
        case measure => simp [intOf]; omega
      · rw [decide_eq_false hxy] at E
        have HD : Hid (false = decide (xs = ys)) := by
          have : ¬ xs = ys := fun h => hxy (by rw [← HX.out, ← HY.out, h])
          show false = decide (xs = ys)
          rw [decide_eq_false this]
        clear hxy HX HY
        go_wp2_with fail
        go_at_call 28
        refine E.mono ?_
        rintro e w2 ⟨rfl, m, hw⟩
        rw [hw]
        go_wp2
        go_ret
        exact ⟨rt_bool HD.out, n + m, by first | rfl | exact World.drewN_drewN _ _ _⟩
    · obtain rfl : k = xs.length := by omega
      have HD : Hid (true = decide (xs = ys)) := by
        have h := HE.out
        rw [List.take_length, HL.out, List.take_length] at h
        show true = decide (xs = ys)
        rw [decide_eq_true h]
      clear h1 h2
      go_wp2
      go_ret
      exact ⟨rt_bool HD.out, _, rfl⟩

set_option maxHeartbeats 400000 in
theorem eqf_not (a b : Option Addr) (la lb c1 c2 : Nat) (w : World) (h : la ≠ lb) :
    Calls Try.prog 40 #[.slice a la c1, .slice b lb c2, .func (.func 28) #[] #[]] w fun e w' => e = .returned (.bool false) ∧ w' = w := by
  have h' : ((la : Int) == (lb : Int)) = false := by rw [beq_eq_false_iff_ne]; omega
  go_enter Try.func40, Try.ntmps40
  go_wp2
  go_ret
  exact ⟨rfl, rfl⟩

set_option maxHeartbeats 400000 in
theorem eqf_none (a b : Option Addr) (c1 c2 : Nat) (w : World) :
    Calls Try.prog 40 #[.slice a 0 c1, .slice b 0 c2, .func (.func 28) #[] #[]] w fun e w' => e = .returned (.bool true) ∧ w' = w := by
  go_enter Try.func40, Try.ntmps40
  go_wp2
  refine wp_loop_rounds 1 ?_
  rw [rounds_succ]
  go_wp2
  go_ret
  exact ⟨rfl, rfl⟩

theorem eqf_any (a b : Option Addr) (la lb c1 c2 : Nat) (xs ys : List (List Int)) (w : World) (h1 : RowsI w a la xs) (h2 : RowsI w b lb ys) (hm : la ≤ 9223372036854775807) (hsh : Short xs) :
    Calls Try.prog 40 #[.slice a la c1, .slice b lb c2, .func (.func 28) #[] #[]] w fun e w' => e = .returned (.bool (decide (xs = ys))) ∧ ∃ n, w' = w.drewN n := by
  have l1 := h1.1
  have l2 := h2.1
  subst l1 l2
  by_cases hl : xs.length = ys.length
  · rcases h1.2.2 with h0 | ⟨b1, o1, rfl, hc1⟩
    · subst h0
      have : ys = [] := List.length_eq_zero_iff.mp (by simpa using hl.symm)
      subst this
      refine (eqf_none a b c1 c2 w).mono ?_
      rintro e w' ⟨rfl, rfl⟩
      exact ⟨by simp, 0, rfl⟩
    · rcases h2.2.2 with h0 | ⟨b2, o2, rfl, hc2⟩
      · subst h0
        have : xs = [] := List.length_eq_zero_iff.mp (by simpa using hl)
        subst this
        refine (eqf_none _ b c1 c2 w).mono ?_
        rintro e w' ⟨rfl, rfl⟩
        exact ⟨by simp, 0, rfl⟩
      · have := eqf_row b1 o1 c1 b2 o2 c2 xs ys w hl hm hsh hc1 hc2
        rw [← hl]
        exact this
  · refine (eqf_not a b _ _ c1 c2 w hl).mono ?_
    rintro e w' ⟨rfl, rfl⟩
    have : ¬ xs = ys := fun h => hl (by rw [h])
    exact ⟨by simp [this], 0, rfl⟩

theorem sameRows_any (a b : Option Addr) (la lb c1 c2 : Nat) (xs ys : List (List Int)) (w : World) (h1 : RowsI w a la xs) (h2 : RowsI w b lb ys) (hm : la ≤ 9223372036854775807) (hsh : Short xs) :
    Calls Try.prog 27 #[.slice a la c1, .slice b lb c2] w fun e w' => e = .returned (.bool (decide (xs = ys))) ∧ ∃ n, w' = w.drewN n := by
  have E := eqf_any a b la lb c1 c2 xs ys w h1 h2 hm hsh
  clear h1 h2
  generalize decide (xs = ys) = q at E ⊢
  go_enter Try.func27, Try.ntmps27
  go_wp2_with fail
  go_at_call 40
  refine E.mono ?_
  rintro e w2 ⟨rfl, m, hw⟩
  rw [hw]
  go_wp2
  go_ret
  exact ⟨rfl, m, rfl⟩

set_option maxHeartbeats 1000000 in
theorem refRows_row (b1 o1 c1 b2 o2 c2 : Nat) (xs ys : List (List Int)) (w : World) (hl : xs.length = ys.length) (hm : xs.length ≤ 9223372036854775807) (hsh : Short xs)
    (h1 : ∀ i, i < xs.length → ∃ x c, w.cell? ⟨b1, o1 + i, none⟩ = some (.slice x (xs.getD i []).length c) ∧ Sl .i64 w x (xs.getD i []).length (xs.getD i []) ∧ (x = none → c = 0))
    (h2 : ∀ i, i < ys.length → ∃ x c, w.cell? ⟨b2, o2 + i, none⟩ = some (.slice x (ys.getD i []).length c) ∧ Sl .i64 w x (ys.getD i []).length (ys.getD i []) ∧ (x = none → c = 0)) :
    Calls Try.prog 16 #[.slice (some ⟨b1, o1, none⟩) xs.length c1, .slice (some ⟨b2, o2, none⟩) xs.length c2] w fun e w' => e = .returned (.bool (decide (xs = ys))) ∧ ∃ n, w' = w.drewN n := by
  have HL : Hid (xs.length = ys.length) := hl
  clear hl
  go_enter Try.func16, Try.ntmps16
  go_wp2
  go_loopw [5] (fun i wr => ∃ (k n : Nat), k ≤ xs.length ∧ i = .int .i64 k ∧ xs.take k = ys.take k ∧ wr = w.drewN n) (fun i _ => xs.length - (intOf i).toNat)
  case atStart => exact ⟨0, 0, by omega, rfl, by simp, rfl⟩
  case round =>
    obtain ⟨k, n, hk, rfl, he, hwr⟩ := hrel
    have HE : Hid (xs.take k = ys.take k) := he
    clear he
    by_cases hlt : k < xs.length
    · obtain ⟨x1, d1, p0, s1, _⟩ := h1 k hlt
      obtain ⟨x2, d2, q0, s2, _⟩ := h2 k (by rw [← HL.out]; exact hlt)
      replace p0 : wr.cell? ⟨b1, o1 + k, none⟩ = some (.slice x1 (xs.getD k []).length d1) := by rw [hwr]; exact p0
      replace q0 : wr.cell? ⟨b2, o2 + k, none⟩ = some (.slice x2 (ys.getD k []).length d2) := by rw [hwr]; exact q0
      replace s1 : Sl .i64 wr x1 (xs.getD k []).length (xs.getD k []) := by rw [hwr]; exact s1
      replace s2 : Sl .i64 wr x2 (ys.getD k []).length (ys.getD k []) := by rw [hwr]; exact s2
      have E := fun m => same_any x1 x2 _ _ d1 d2 _ _ (wr.drewN m) (s1.drew m) (s2.drew m) (hsh.at hlt)
      have HW : Hid (wr = w.drewN n) := hwr
      clear hwr
      obtain ⟨x, hx⟩ : ∃ x, xs.getD k [] = x := ⟨_, rfl⟩
      obtain ⟨y, hy⟩ : ∃ y, ys.getD k [] = y := ⟨_, rfl⟩
      rw [hx] at p0 E
      rw [hy] at q0 E
      have i1 : (k : Int) < (xs.length : Int) := by omega
      have HX : Hid (xs.getD k [] = x) := hx
      have HY : Hid (ys.getD k [] = y) := hy
      obtain ⟨lx, hlx⟩ : ∃ l, x.length = l := ⟨_, rfl⟩
      obtain ⟨ly, hly⟩ : ∃ l, y.length = l := ⟨_, rfl⟩
      rw [hlx] at p0 E
      rw [hly] at q0 E
      clear hx hy h1 h2 s1 s2 hlx hly
      by_cases hxy : x = y
      · rw [decide_eq_true hxy] at E
        have HS : Hid (xs.take (k + 1) = ys.take (k + 1)) := by
          show _ = _
          rw [take_snocA xs [] k hlt, take_snocA ys [] k (by rw [← HL.out]; exact hlt), HE.out, HX.out, HY.out, hxy]
        clear hxy HX HY
        go_wp2
        go_quiet ((go_at_call 29; exact Calls.quiet_of (E _)))
        go_wp2
        go_roundw
        case rel => exact ⟨k + 1, n + nq, by omega, by go_num, HS.out, by rw [HW.out]; first | rfl | exact World.drewN_drewN _ _ _⟩
        case measure => simp [intOf]; omega
      · rw [decide_eq_false hxy] at E
        have HD : Hid (false = decide (xs = ys)) := by
          have : ¬ xs = ys := fun h => hxy (by rw [← HX.out, ← HY.out, h])
          show false = decide (xs = ys)
          rw [decide_eq_false this]
        clear hxy HX HY
        go_wp2
        go_quiet ((go_at_call 29; exact Calls.quiet_of (E _)))
        go_wp2
        go_ret
        exact ⟨rt_bool HD.out, n + nq, by rw [HW.out]; first | rfl | exact World.drewN_drewN _ _ _⟩
    · obtain rfl : k = xs.length := by omega
      have HD : Hid (true = decide (xs = ys)) := by
        have h := HE.out
        rw [List.take_length, HL.out, List.take_length] at h
        show true = decide (xs = ys)
        rw [decide_eq_true h]
      clear h1 h2
      go_wp2
      go_ret
      exact ⟨rt_bool HD.out, n, rfl⟩

set_option maxHeartbeats 400000 in
theorem refRows_not (a b : Option Addr) (la lb c1 c2 : Nat) (w : World) (h : la ≠ lb) :
    Calls Try.prog 16 #[.slice a la c1, .slice b lb c2] w fun e w' => e = .returned (.bool false) ∧ w' = w := by
  have h' : ((la : Int) == (lb : Int)) = false := by rw [beq_eq_false_iff_ne]; omega
  go_enter Try.func16, Try.ntmps16
  go_wp2
  go_ret
  exact ⟨rfl, rfl⟩

set_option maxHeartbeats 400000 in
theorem refRows_none (a b : Option Addr) (c1 c2 : Nat) (w : World) :
    Calls Try.prog 16 #[.slice a 0 c1, .slice b 0 c2] w fun e w' => e = .returned (.bool true) ∧ w' = w := by
  go_enter Try.func16, Try.ntmps16
  go_wp2
  refine wp_loop_rounds 1 ?_
  rw [rounds_succ]
  go_wp2
  go_ret
  exact ⟨rfl, rfl⟩

theorem refRows_any (a b : Option Addr) (la lb c1 c2 : Nat) (xs ys : List (List Int)) (w : World) (h1 : RowsI w a la xs) (h2 : RowsI w b lb ys) (hm : la ≤ 9223372036854775807) (hsh : Short xs) :
    Calls Try.prog 16 #[.slice a la c1, .slice b lb c2] w fun e w' => e = .returned (.bool (decide (xs = ys))) ∧ ∃ n, w' = w.drewN n := by
  have l1 := h1.1
  have l2 := h2.1
  subst l1 l2
  by_cases hl : xs.length = ys.length
  · rcases h1.2.2 with h0 | ⟨b1, o1, rfl, hc1⟩
    · subst h0
      have : ys = [] := List.length_eq_zero_iff.mp (by simpa using hl.symm)
      subst this
      refine (refRows_none a b c1 c2 w).mono ?_
      rintro e w' ⟨rfl, rfl⟩
      exact ⟨by simp, 0, rfl⟩
    · rcases h2.2.2 with h0 | ⟨b2, o2, rfl, hc2⟩
      · subst h0
        have : xs = [] := List.length_eq_zero_iff.mp (by simpa using hl)
        subst this
        refine (refRows_none _ b c1 c2 w).mono ?_
        rintro e w' ⟨rfl, rfl⟩
        exact ⟨by simp, 0, rfl⟩
      · have := refRows_row b1 o1 c1 b2 o2 c2 xs ys w hl hm hsh hc1 hc2
        rw [← hl]
        exact this
  · refine (refRows_not a b _ _ c1 c2 w hl).mono ?_
    rintro e w' ⟨rfl, rfl⟩
    have : ¬ xs = ys := fun h => hl (by rw [h])
    exact ⟨by simp [this], 0, rfl⟩

end Go.Proofs.Ytpaieecbedgeaaa
