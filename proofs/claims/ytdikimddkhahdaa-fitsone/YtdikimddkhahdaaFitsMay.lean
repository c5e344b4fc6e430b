/-
  fits: may a payment be? the program's answer and the document's.
-/
import Derived.Test.YtdikimddkhahdaaFitsSpec
import Derived.Test.YtdikimddkhahdaaLimOne
import Derived.Test.YtdikimddkhahdaaRowBase
namespace Go.Proofs.Ytdikimddkhahdaa
open Go.RowKit
set_option linter.unusedVariables false
set_option linter.unusedSimpArgs false

def hasB (n : Nat) (i : Int) : Bool := decide (0 ≤ i ∧ i < n)
theorem hasB_no {n : Nat} {i : Int} (h : i < 0) : false = hasB n i := by unfold hasB; symm; rw [decide_eq_false_iff_not]; omega
theorem hasB_rest {n : Nat} {i : Int} (h : 0 ≤ i) : decide (i < (n : Int)) = hasB n i := by simp [hasB, h]
def classB (c : Int) : Bool := decide (1 ≤ c ∧ c ≤ 3)
theorem classB_rest {c : Int} (h1 : ¬ c = 1) (h2 : ¬ c = 2) : (c == 3) = classB c := by unfold classB; rw [Bool.eq_iff_iff]; simp; omega
theorem classB_low {c : Int} (h : c < 1) : false = classB c := by unfold classB; symm; rw [decide_eq_false_iff_not]; omega
theorem classB_high {c : Int} (h : 1 ≤ c) : decide (c ≤ 3) = classB c := by simp [classB, h]
def sumB (m : Int) : Bool := decide (1 ≤ m ∧ m ≤ 1099511627776)
theorem sumB_no {m : Int} (h : m < 1) : false = sumB m := by unfold sumB; symm; rw [decide_eq_false_iff_not]; omega
theorem sumB_rest {m : Int} (h : 1 ≤ m) : decide (m ≤ 1099511627776) = sumB m := by simp [sumB, h]
theorem mayB_parts (n : Nat) (p : P7) : mayB n p = (hasB n p.fr && (hasB n p.to && (p.fr != p.to && (sumB p.am && classB p.cl)))) := rfl

theorem hasAccount_any (x : BA) (i : Int) (w : World) : Calls Try.prog 35 #[x.val, .int .i64 i] w fun e w' => e = .returned (.bool (hasB x.nA i)) ∧ Below w.heap.size w w' := by
  obtain ⟨aA, nA, cA, aB, nB, cB, aM, nM, cM, aP, nP, cP⟩ := x
  rcases Int.lt_or_le i 0 with h | h
  · go_enter Try.func35, Try.ntmps35
    go_wp2
    go_ret
    exact ⟨rt_bool (hasB_no h), box_below _ _⟩
  · go_enter Try.func35, Try.ntmps35
    go_wp2
    go_ret
    exact ⟨rt_bool (hasB_rest h), box_below _ _⟩

set_option maxHeartbeats 1000000 in
theorem fitsTwo_any (x : BA) (f o : Int) (w : World) : Calls Try.prog 27 #[x.val, .int .i64 f, .int .i64 o] w fun e w' => e = .returned (.bool (hasB x.nA f && (hasB x.nA o && f != o))) ∧ Below w.heap.size w w' := by
  have P1 := hasAccount_any x f
  have P2 := hasAccount_any x o
  generalize hasB x.nA f = q1 at P1 ⊢
  generalize hasB x.nA o = q2 at P2 ⊢
  obtain ⟨aA, nA, cA, aB, nB, cB, aM, nM, cM, aP, nP, cP⟩ := x
  have R0 : Hid (Box4 (w.alloc (.cells #[.slice aA nA cA, .slice aB nB cB, .slice aM nM cM, .slice aP nP cP] 26)) w.heap.size ⟨aA, nA, cA, aB, nB, cB, aM, nM, cM, aP, nP, cP⟩) := Box4.new w ⟨aA, nA, cA, aB, nB, cB, aM, nM, cM, aP, nP, cP⟩ _ _
  go_enter Try.func27, Try.ntmps27
  go_wp2_with fail
  go_at_call 35
  refine (P1 _).mono ?_
  rintro e w1 ⟨rfl, hb⟩
  have B1 : Hid (Below w.heap.size w w1) := (box_below _ _).trans (hb.mono (box_below _ _).size)
  obtain ⟨p0, p1, p2, p3⟩ := R0.out.below hb
  clear hb P1 R0
  cases q1
  · go_wp2
    go_ret
    exact ⟨rfl, B1.out⟩
  go_wp2_with fail
  go_at_call 35
  refine (P2 _).mono ?_
  rintro e w2 ⟨rfl, hb⟩
  have B2 : Hid (Below w.heap.size w w2) := B1.out.trans (hb.mono B1.out.size)
  clear hb P2 p0 p1 p2 p3
  cases q2
  · go_wp2
    go_ret
    exact ⟨rfl, B2.out⟩
  go_wp2
  go_ret
  exact ⟨rt_bool (by simp), B2.out⟩

theorem fitsClass_any (c : Int) (w : World) : Calls Try.prog 28 #[.int .i64 c] w fun e w' => e = .returned (.bool (classB c)) ∧ w' = w := by
  by_cases h1 : c = 1
  · subst h1
    go_enter Try.func28, Try.ntmps28
    go_wp2
    go_ret
    exact ⟨rt_bool rfl, rfl⟩
  by_cases h2 : c = 2
  · subst h2
    go_enter Try.func28, Try.ntmps28
    go_wp2
    go_ret
    exact ⟨rt_bool rfl, rfl⟩
  have HR : Hid ((c == 3) = classB c) := classB_rest h1 h2
  have k1 : (c == 1) = false := by simpa using h1
  have k2 : (c == 2) = false := by simpa using h2
  clear h1 h2
  go_enter Try.func28, Try.ntmps28
  go_wp2
  go_ret
  exact ⟨rt_bool HR.out, rfl⟩

set_option maxHeartbeats 2000000 in
theorem fitsMay_any (x : BA) (p : P7) (w : World) : Calls Try.prog 10 #[x.val, p.val] w fun e w' => e = .returned (.bool (mayB x.nA p)) ∧ Below w.heap.size w w' := by
  rw [mayB_parts]
  have P1 := fitsTwo_any x p.fr p.to
  have P2 := fitsClass_any p.cl
  have HQ : Hid (∃ q, (hasB x.nA p.fr && (hasB x.nA p.to && p.fr != p.to)) = q ∧ (hasB x.nA p.fr && (hasB x.nA p.to && (p.fr != p.to && (sumB p.am && classB p.cl)))) = (q && (sumB p.am && classB p.cl))) := ⟨_, rfl, by rw [Bool.and_assoc, Bool.and_assoc]⟩
  obtain ⟨q1, h1, h2⟩ := HQ.out
  rw [h1] at P1
  rw [h2]
  clear HQ h1 h2
  generalize classB p.cl = q2 at P2 ⊢
  obtain ⟨aA, nA, cA, aB, nB, cB, aM, nM, cM, aP, nP, cP⟩ := x
  obtain ⟨z0, z1, z2, z3, z4, z5, z6⟩ := p
  obtain ⟨w2, hw2⟩ : ∃ w2, w2 = (w.alloc (.cells #[.slice aA nA cA, .slice aB nB cB, .slice aM nM cM, .slice aP nP cP] 26)).alloc (.cells #[.int .i64 z0, .int .i64 z1, .int .i64 z2, .int .i64 z3, .int .i64 z4, .int .i64 z5, .int .i64 z6] 31) := ⟨_, rfl⟩
  have B2 : Hid (Below w.heap.size w w2) := by rw [hw2]; exact (box_below _ _).alloc (box_below _ _).size _
  have Y2 : Hid (At7 w2 (w.heap.size + 1) 0 (z0, z1, z2, z3, z4, z5, z6)) := by
    rw [hw2, ← size_alloc w (.cells #[.slice aA nA cA, .slice aB nB cB, .slice aM nM cM, .slice aP nP cP] 26)]
    exact At7.new _ (z0, z1, z2, z3, z4, z5, z6) _ _
  have P1 := fun q => P1 q
  show Calls Try.prog 10 #[.agg #[.slice aA nA cA, .slice aB nB cB, .slice aM nM cM, .slice aP nP cP], .agg #[.int .i64 z0, .int .i64 z1, .int .i64 z2, .int .i64 z3, .int .i64 z4, .int .i64 z5, .int .i64 z6]] w fun e w' => e = .returned (.bool (q1 && (sumB z3 && q2))) ∧ Below w.heap.size w w'
  go_enter Try.func10, Try.ntmps10
  go_wp2_with fail
  go_at_call 27
  refine (P1 _).mono ?_
  rintro e w3 ⟨rfl, hb⟩
  rw [← hw2] at hb
  have B3 : Hid (Below w.heap.size w w3) := B2.out.trans (hb.mono B2.out.size)
  obtain ⟨_, _, _, c3, c4, _, _⟩ := Y2.out.below hb
  replace c3 : w3.cell? ⟨w.heap.size + 1, 3, none⟩ = some (.int .i64 z3) := c3
  replace c4 : w3.cell? ⟨w.heap.size + 1, 4, none⟩ = some (.int .i64 z4) := c4
  clear hb P1 hw2 Y2 B2
  cases q1
  · go_wp2
    go_ret
    exact ⟨rfl, B3.out⟩
  rcases Int.lt_or_le z3 1 with h | h
  · have HS : Hid (false = sumB z3) := sumB_no h
    go_wp2
    go_ret
    exact ⟨rt_bool (by rw [← HS.out]; simp), B3.out⟩
  · have HS : Hid (decide (z3 ≤ 1099511627776) = sumB z3) := sumB_rest h
    rcases Int.lt_or_le 1099511627776 z3 with h2 | h2
    · have HS : Hid (false = sumB z3) := by show false = sumB z3; rw [← HS.out]; symm; rw [decide_eq_false_iff_not]; omega
      go_wp2
      go_ret
      exact ⟨rt_bool (by rw [← HS.out]; simp), B3.out⟩
    · have HS : Hid (true = sumB z3) := by show true = sumB z3; rw [← HS.out]; symm; rw [decide_eq_true_iff]; omega
      go_wp2_with fail
      go_at_call 28
      refine (P2 _).mono ?_
      rintro e w4 ⟨rfl, hw⟩
      obtain rfl := hw.symm
      go_wp2
      go_ret
      exact ⟨rt_bool (by rw [← HS.out]; simp), B3.out⟩

set_option maxHeartbeats 4000000 in
theorem refFMay_any (x : BA) (p : P7) (w : World) : Calls Try.prog 11 #[x.val, p.val] w fun e w' => e = .returned (.bool (mayB x.nA p)) ∧ Below w.heap.size w w' := by
  rw [mayB_parts]
  obtain ⟨aA, nA, cA, aB, nB, cB, aM, nM, cM, aP, nP, cP⟩ := x
  obtain ⟨z0, z1, z2, z3, z4, z5, z6⟩ := p
  have HB : Hid (Below w.heap.size w ((w.alloc (.cells #[.slice aA nA cA, .slice aB nB cB, .slice aM nM cM, .slice aP nP cP] 26)).alloc (.cells #[.int .i64 z0, .int .i64 z1, .int .i64 z2, .int .i64 z3, .int .i64 z4, .int .i64 z5, .int .i64 z6] 31))) := (box_below _ _).alloc (box_below _ _).size _
  show Calls Try.prog 11 #[.agg #[.slice aA nA cA, .slice aB nB cB, .slice aM nM cM, .slice aP nP cP], .agg #[.int .i64 z0, .int .i64 z1, .int .i64 z2, .int .i64 z3, .int .i64 z4, .int .i64 z5, .int .i64 z6]] w fun e w' => e = .returned (.bool (hasB nA z1 && (hasB nA z2 && (z1 != z2 && (sumB z3 && classB z4))))) ∧ Below w.heap.size w w'
  unfold hasB sumB classB
  rcases Int.lt_or_le z1 0 with h1 | h1
  · go_enter Try.func11, Try.ntmps11
    go_wp2
    go_ret
    exact ⟨rt_bool (by simp; omega), HB.out⟩
  rcases Int.lt_or_le z1 nA with h2 | h2
  case inr =>
    go_enter Try.func11, Try.ntmps11
    go_wp2
    go_ret
    exact ⟨rt_bool (by simp; omega), HB.out⟩
  rcases Int.lt_or_le z2 0 with h3 | h3
  · go_enter Try.func11, Try.ntmps11
    go_wp2
    go_ret
    exact ⟨rt_bool (by simp; omega), HB.out⟩
  rcases Int.lt_or_le z2 nA with h4 | h4
  case inr =>
    go_enter Try.func11, Try.ntmps11
    go_wp2
    go_ret
    exact ⟨rt_bool (by simp; omega), HB.out⟩
  by_cases h5 : z1 = z2
  · subst h5
    go_enter Try.func11, Try.ntmps11
    go_wp2
    go_ret
    exact ⟨rt_bool (by simp), HB.out⟩
  have h5' : (z1 == z2) = false := by simpa using h5
  have H5 : Hid ((z1 != z2) = true) := by show (z1 != z2) = true; simpa using h5
  rw [H5.out]
  have H12 : Hid (decide (0 ≤ z1 ∧ z1 < (nA : Int)) = true ∧ decide (0 ≤ z2 ∧ z2 < (nA : Int)) = true) := ⟨decide_eq_true ⟨h1, h2⟩, decide_eq_true ⟨h3, h4⟩⟩
  rw [H12.out.1, H12.out.2]
  rcases Int.lt_or_le z3 1 with h6 | h6
  · go_enter Try.func11, Try.ntmps11
    go_wp2
    go_ret
    exact ⟨rt_bool (by simp; omega), HB.out⟩
  rcases Int.lt_or_le 1099511627776 z3 with h7 | h7
  · go_enter Try.func11, Try.ntmps11
    go_wp2
    go_ret
    exact ⟨rt_bool (by simp; omega), HB.out⟩
  have H3 : Hid (decide (1 ≤ z3 ∧ z3 ≤ 1099511627776) = true) := decide_eq_true ⟨h6, h7⟩
  rw [H3.out]
  rcases Int.lt_or_le z4 1 with h8 | h8
  · go_enter Try.func11, Try.ntmps11
    go_wp2
    go_ret
    exact ⟨rt_bool (by simp; omega), HB.out⟩
  · go_enter Try.func11, Try.ntmps11
    go_wp2
    go_ret
    exact ⟨rt_bool (by rw [Bool.eq_iff_iff]; simp; omega), HB.out⟩

end Go.Proofs.Ytdikimddkhahdaa
