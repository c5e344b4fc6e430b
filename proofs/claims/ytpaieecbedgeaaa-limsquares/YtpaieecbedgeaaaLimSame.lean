/-
  lim: are two books one: the program's answers and the document's.
-/
import Derived.Test.YtpaieecbedgeaaaRows64
import Derived.Test.YtpaieecbedgeaaaSame
namespace Go.Proofs.Ytpaieecbedgeaaa
open Go.RowKit
set_option linter.unusedVariables false
set_option linter.unusedSimpArgs false

theorem below_drewN (w : World) (n : Nat) : Below w.heap.size w (w.drewN n) := ⟨rfl, rfl, rfl, Nat.le_refl _, fun _ _ => rfl⟩

set_option maxHeartbeats 1000000 in
theorem eqs_row (b1 o1 c1 b2 o2 c2 : Nat) (xs ys : List Int) (w : World) (hl : xs.length = ys.length) (hm : xs.length ≤ 9223372036854775807)
    (h1 : ∀ i, i < xs.length → w.cell? ⟨b1, o1 + i, none⟩ = some (.int .i64 (xs.getD i 0))) (h2 : ∀ i, i < ys.length → w.cell? ⟨b2, o2 + i, none⟩ = some (.int .i64 (ys.getD i 0))) :
    Calls Try.prog 28 #[.slice (some ⟨b1, o1, none⟩) xs.length c1, .slice (some ⟨b2, o2, none⟩) xs.length c2] w fun e w' => e = .returned (.bool (decide (xs = ys))) ∧ ∃ n, w' = w.drewN n := by
  have HL : Hid (xs.length = ys.length) := hl
  clear hl
  go_enter Try.func28, Try.ntmps28
  go_wp2
  go_loopw [13] (fun i wr => ∃ (k n : Nat), k ≤ xs.length ∧ i = .int .i64 k ∧ xs.take k = ys.take k ∧ wr = w.drewN n) (fun i _ => xs.length - (intOf i).toNat)
  case atStart => exact ⟨0, 0, by omega, rfl, by simp, rfl⟩
  case round =>
    obtain ⟨k, n, hk, rfl, he, rfl⟩ := hrel
    have HE : Hid (xs.take k = ys.take k) := he
    clear he
    by_cases hlt : k < xs.length
    · have c1' := h1 k hlt
      have c2' := h2 k (by rw [← HL.out]; exact hlt)
      obtain ⟨x, hx⟩ : ∃ x, xs.getD k 0 = x := ⟨_, rfl⟩
      obtain ⟨y, hy⟩ : ∃ y, ys.getD k 0 = y := ⟨_, rfl⟩
      rw [hx] at c1'
      rw [hy] at c2'
      have i1 : (k : Int) < (xs.length : Int) := by omega
      have HX : Hid (xs.getD k 0 = x) := hx
      have HY : Hid (ys.getD k 0 = y) := hy
      clear hx hy h1 h2
      by_cases hxy : x = y
      · subst hxy
        go_wp2
        go_quiet (fail)
        go_wp2
        go_roundw
        case rel => exact ⟨k + 1, n + nq, by omega, by go_num, by rw [take_snoc xs k hlt, take_snoc ys k (by rw [← HL.out]; exact hlt), HE.out, HX.out, HY.out], rfl⟩
        case measure => simp [intOf]; omega
      · have hxy' : (x == y) = false := by simp [hxy]
        have HD : Hid (false = decide (xs = ys)) := by
          have : ¬ xs = ys := fun h => hxy (by rw [← HX.out, ← HY.out, h])
          show false = decide (xs = ys)
          rw [decide_eq_false this]
        clear hxy
        go_wp2
        go_quiet (fail)
        go_wp2
        go_ret
        exact ⟨rt_bool HD.out, n + nq, by first | rfl | exact World.drewN_drewN _ _ _⟩
    · obtain rfl : k = xs.length := by omega
      have HD : Hid (true = decide (xs = ys)) := by
        have h := HE.out
        rw [List.take_length, HL.out, List.take_length] at h
        show true = decide (xs = ys)
        rw [decide_eq_true h]
      clear h1 h2
      go_wp2
      go_ret
      exact ⟨rt_bool HD.out, _, rfl⟩

set_option maxHeartbeats 400000 in
theorem eqs_not (a b : Option Addr) (la lb c1 c2 : Nat) (w : World) (h : la ≠ lb) :
    Calls Try.prog 28 #[.slice a la c1, .slice b lb c2] w fun e w' => e = .returned (.bool false) ∧ w' = w := by
  have h' : ((la : Int) == (lb : Int)) = false := by rw [beq_eq_false_iff_ne]; omega
  go_enter Try.func28, Try.ntmps28
  go_wp2
  go_ret
  exact ⟨rfl, rfl⟩

set_option maxHeartbeats 400000 in
theorem eqs_none (a b : Option Addr) (c1 c2 : Nat) (w : World) :
    Calls Try.prog 28 #[.slice a 0 c1, .slice b 0 c2] w fun e w' => e = .returned (.bool true) ∧ w' = w := by
  go_enter Try.func28, Try.ntmps28
  go_wp2
  refine wp_loop_rounds 1 ?_
  rw [rounds_succ]
  go_wp2
  go_ret
  exact ⟨rfl, rfl⟩

/-- slices.Equal of int64s. -/
theorem eqs_any (a b : Option Addr) (la lb c1 c2 : Nat) (xs ys : List Int) (w : World) (h1 : Sl .i64 w a la xs) (h2 : Sl .i64 w b lb ys) (hm : la ≤ 9223372036854775807) :
    Calls Try.prog 28 #[.slice a la c1, .slice b lb c2] w fun e w' => e = .returned (.bool (decide (xs = ys))) ∧ ∃ n, w' = w.drewN n := by
  have l1 := h1.1
  have l2 := h2.1
  subst l1 l2
  by_cases hl : xs.length = ys.length
  · rcases h1.2.2 with h0 | ⟨b1, o1, rfl, hc1⟩
    · subst h0
      have : ys = [] := List.length_eq_zero_iff.mp (by simpa using hl.symm)
      subst this
      refine (eqs_none a b c1 c2 w).mono ?_
      rintro e w' ⟨rfl, rfl⟩
      exact ⟨by simp, 0, rfl⟩
    · rcases h2.2.2 with h0 | ⟨b2, o2, rfl, hc2⟩
      · subst h0
        have : xs = [] := List.length_eq_zero_iff.mp (by simpa using hl)
        subst this
        refine (eqs_none _ b c1 c2 w).mono ?_
        rintro e w' ⟨rfl, rfl⟩
        exact ⟨by simp, 0, rfl⟩
      · have := eqs_row b1 o1 c1 b2 o2 c2 xs ys w hl hm hc1 hc2
        rw [← hl]
        exact this
  · refine (eqs_not a b _ _ c1 c2 w hl).mono ?_
    rintro e w' ⟨rfl, rfl⟩
    have : ¬ xs = ys := fun h => hl (by rw [h])
    exact ⟨by simp [this], 0, rfl⟩


/-- An account: balance, credit, reserve. -/
abbrev A3 := Int × Int × Int
def a30 : A3 := (0, 0, 0)
/-- A slice of accounts. -/
def Accs (w : World) (a : Option Addr) (len : Nat) (A : List A3) : Prop :=
  len = A.length ∧ (A = [] ∨ ∃ b off, a = some ⟨b, off, none⟩ ∧ ∀ i, i < A.length → w.cell? ⟨b, off + i * 3, none⟩ = some (.int .i64 (A.getD i a30).1) ∧ w.cell? ⟨b, off + i * 3 + 1, none⟩ = some (.int .i64 (A.getD i a30).2.1) ∧ w.cell? ⟨b, off + i * 3 + 2, none⟩ = some (.int .i64 (A.getD i a30).2.2))
theorem Accs.below {w w' : World} {a : Option Addr} {len : Nat} {A : List A3} (h : Accs w a len A) (hb : Below w.heap.size w w') : Accs w' a len A := by
  refine ⟨h.1, ?_⟩
  rcases h.2 with h0 | ⟨b, off, ha, hc⟩
  · exact .inl h0
  · refine .inr ⟨b, off, ha, fun i hi => ?_⟩
    obtain ⟨c0, c1, c2⟩ := hc i hi
    have hlt := block_lt_of_cell c0
    rw [hb.cell (p := ⟨b, off + i * 3, none⟩) hlt, hb.cell (p := ⟨b, off + i * 3 + 1, none⟩) hlt, hb.cell (p := ⟨b, off + i * 3 + 2, none⟩) hlt]
    exact ⟨c0, c1, c2⟩

theorem take_snocA {α : Type} (l : List α) (d : α) (k : Nat) (h : k < l.length) : l.take (k + 1) = l.take k ++ [l.getD k d] := by
  rw [List.take_succ_eq_append_getElem h]
  simp [h]

set_option maxHeartbeats 1000000 in
theorem eqa_row (b1 o1 c1 b2 o2 c2 : Nat) (xs ys : List A3) (w : World) (hl : xs.length = ys.length) (hm : xs.length ≤ 9223372036854775807)
    (h1 : ∀ i, i < xs.length → w.cell? ⟨b1, o1 + i * 3, none⟩ = some (.int .i64 (xs.getD i a30).1) ∧ w.cell? ⟨b1, o1 + i * 3 + 1, none⟩ = some (.int .i64 (xs.getD i a30).2.1) ∧ w.cell? ⟨b1, o1 + i * 3 + 2, none⟩ = some (.int .i64 (xs.getD i a30).2.2))
    (h2 : ∀ i, i < ys.length → w.cell? ⟨b2, o2 + i * 3, none⟩ = some (.int .i64 (ys.getD i a30).1) ∧ w.cell? ⟨b2, o2 + i * 3 + 1, none⟩ = some (.int .i64 (ys.getD i a30).2.1) ∧ w.cell? ⟨b2, o2 + i * 3 + 2, none⟩ = some (.int .i64 (ys.getD i a30).2.2)) :
    Calls Try.prog 26 #[.slice (some ⟨b1, o1, none⟩) xs.length c1, .slice (some ⟨b2, o2, none⟩) xs.length c2] w fun e w' => e = .returned (.bool (decide (xs = ys))) ∧ ∃ n, w' = w.drewN n := by
  have HL : Hid (xs.length = ys.length) := hl
  clear hl
  go_enter Try.func26, Try.ntmps26
  go_wp2
  go_loopw [13] (fun i wr => ∃ (k n : Nat), k ≤ xs.length ∧ i = .int .i64 k ∧ xs.take k = ys.take k ∧ wr = w.drewN n) (fun i _ => xs.length - (intOf i).toNat)
  case atStart => exact ⟨0, 0, by omega, rfl, by simp, rfl⟩
  case round =>
    obtain ⟨k, n, hk, rfl, he, rfl⟩ := hrel
    have HE : Hid (xs.take k = ys.take k) := he
    clear he
    by_cases hlt : k < xs.length
    · obtain ⟨p0, p1, p2⟩ := h1 k hlt
      obtain ⟨q0, q1, q2⟩ := h2 k (by rw [← HL.out]; exact hlt)
      obtain ⟨x, hx⟩ : ∃ x, xs.getD k a30 = x := ⟨_, rfl⟩
      obtain ⟨y, hy⟩ : ∃ y, ys.getD k a30 = y := ⟨_, rfl⟩
      rw [hx] at p0 p1 p2
      rw [hy] at q0 q1 q2
      have i1 : (k : Int) < (xs.length : Int) := by omega
      have HX : Hid (xs.getD k a30 = x) := hx
      have HY : Hid (ys.getD k a30 = y) := hy
      clear hx hy h1 h2
      obtain ⟨x0, x1, x2⟩ := x
      obtain ⟨y0, y1, y2⟩ := y
      simp only at p0 p1 p2 q0 q1 q2
      by_cases hxy : x0 = y0 ∧ x1 = y1 ∧ x2 = y2
      · obtain ⟨rfl, rfl, rfl⟩ := hxy
        go_wp2
        go_quiet (fail)
        go_wp2
        go_roundw
        case rel => exact ⟨k + 1, n + nq, by omega, by go_num, by rw [take_snocA xs a30 k hlt, take_snocA ys a30 k (by rw [← HL.out]; exact hlt), HE.out, HX.out, HY.out], rfl⟩
        case measure => simp [intOf]; omega
      · have HD : Hid (false = decide (xs = ys)) := by
          have : ¬ xs = ys := fun h => hxy (by
            have e : (x0, x1, x2) = (y0, y1, y2) := by rw [← HX.out, ← HY.out, h]
            simpa using e)
          show false = decide (xs = ys)
          rw [decide_eq_false this]
        have hxy' : ((x0 == y0) && ((x1 == y1) && (x2 == y2))) = false := by
          rw [Bool.eq_false_iff]
          simp only [ne_eq, Bool.and_eq_true, beq_iff_eq]
          exact hxy
        clear hxy
        by_cases e0 : (x0 == y0) = true
        · by_cases e1 : (x1 == y1) = true
          · have e2 : (x2 == y2) = false := by simpa [e0, e1] using hxy'
            clear hxy'
            go_wp2
            go_quiet (fail)
            go_wp2
            go_ret
            exact ⟨rt_bool HD.out, n + nq, by first | rfl | exact World.drewN_drewN _ _ _⟩
          · replace e1 : (x1 == y1) = false := by simpa using e1
            clear hxy'
            go_wp2
            go_quiet (fail)
            go_wp2
            go_ret
            exact ⟨rt_bool HD.out, n + nq, by first | rfl | exact World.drewN_drewN _ _ _⟩
        · replace e0 : (x0 == y0) = false := by simpa using e0
          clear hxy'
          go_wp2
          go_quiet (fail)
          go_wp2
          go_ret
          exact ⟨rt_bool HD.out, n + nq, by first | rfl | exact World.drewN_drewN _ _ _⟩
    · obtain rfl : k = xs.length := by omega
      have HD : Hid (true = decide (xs = ys)) := by
        have h := HE.out
        rw [List.take_length, HL.out, List.take_length] at h
        show true = decide (xs = ys)
        rw [decide_eq_true h]
      clear h1 h2
      go_wp2
      go_ret
      exact ⟨rt_bool HD.out, _, rfl⟩

end Go.Proofs.Ytpaieecbedgeaaa
