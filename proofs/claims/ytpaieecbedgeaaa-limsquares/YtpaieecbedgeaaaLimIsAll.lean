/-
  lim.Is: are they books, any four lists.
-/
import Derived.Test.YtpaieecbedgeaaaLimIs
namespace Go.Proofs.Ytpaieecbedgeaaa
open Go.RowKit
set_option linter.unusedVariables false
set_option linter.unusedSimpArgs false

theorem rowsAll_pos {R : List (List Int)} {m : Nat} (hs : squareB R m = true) (hp : (R.all fun z => z.all posB) = true) : ∀ i k, i < m → k < m → posB (at2 R i k) = true := by
  obtain ⟨h1, h2⟩ := squareB_yes.1 hs
  rw [all_at (d := [])] at hp
  intro i k hi hk
  have := hp i (by omega)
  rw [all_at (d := 0)] at this
  exact this k (by rw [h2 i hi]; exact hk)

set_option maxHeartbeats 4000000 in
theorem limIs_any (x : BA) (b : Bks) (w : World) (h : Bk w x b) : Calls Try.prog 22 #[x.val] w fun e w' => e = .returned (.bool (booksB b)) ∧ Below w.heap.size w w' := by
  rw [← booksC_eq]
  obtain ⟨aA, nA, cA, aB, nB, cB, aM, nM, cM, aP, nP, cP⟩ := x
  have lA : nA = b.A.length := h.acc.1
  have lM : nM = b.M.length := h.mul.1
  have sA : nA ≤ 9223372036854775807 := h.sA
  obtain ⟨w2, hw2⟩ : ∃ w2, w2 = w.alloc (.cells #[.slice aA nA cA, .slice aB nB cB, .slice aM nM cM, .slice aP nP cP] 26) := ⟨_, rfl⟩
  have B2 : Hid (Below w.heap.size w w2) := by rw [hw2]; exact box_below _ _
  have X2 : Hid (Box4 w2 w.heap.size ⟨aA, nA, cA, aB, nB, cB, aM, nM, cM, aP, nP, cP⟩) := by rw [hw2]; exact Box4.new w ⟨aA, nA, cA, aB, nB, cB, aM, nM, cM, aP, nP, cP⟩ _ _
  have HX : Hid (Bk w2 ⟨aA, nA, cA, aB, nB, cB, aM, nM, cM, aP, nP, cP⟩ b) := h.below B2.out
  clear h
  unfold booksC
  rw [← lA, ← lM]
  have HLA : Hid (nA = b.A.length) := lA
  clear lA lM
  have M := mayHave_any nA
  rcases Nat.eq_zero_or_pos nA with h0 | h0
  · subst h0
    go_enter Try.func22, Try.ntmps22
    go_wp2
    go_ret
    exact ⟨rt_bool (by simp), box_below _ _⟩
  have i0 : 0 < (nA : Int) := by omega
  rw [decide_eq_true i0]
  obtain ⟨q1, hq1⟩ : ∃ q, partB nA = q := ⟨_, rfl⟩
  have HQ1 : Hid (partB nA = q1) := hq1
  rw [hq1] at M ⊢
  clear hq1
  obtain ⟨q2, hq2⟩ : ∃ q, (b.A.all fun x => acctB x.1 x.2.1 x.2.2) = q := ⟨_, rfl⟩
  have HQ2 : Hid ((b.A.all fun x => acctB x.1 x.2.1 x.2.2) = q2) := hq2
  rw [hq2]
  clear hq2
  obtain ⟨q3, hq3⟩ : ∃ q, squareB b.B nA = q := ⟨_, rfl⟩
  have HQ3 : Hid (squareB b.B nA = q3) := hq3
  rw [hq3]
  clear hq3
  obtain ⟨q4, hq4⟩ : ∃ q, (b.B.all fun z => z.all limB) = q := ⟨_, rfl⟩
  have HQ4 : Hid ((b.B.all fun z => z.all limB) = q4) := hq4
  rw [hq4]
  clear hq4
  obtain ⟨q5, hq5⟩ : ∃ q, decide (nM = nA) = q := ⟨_, rfl⟩
  have HQ5 : Hid (decide (nM = nA) = q5) := hq5
  rw [hq5]
  clear hq5
  obtain ⟨q6, hq6⟩ : ∃ q, b.M.all limB = q := ⟨_, rfl⟩
  have HQ6 : Hid (b.M.all limB = q6) := hq6
  rw [hq6]
  clear hq6
  obtain ⟨q7, hq7⟩ : ∃ q, squareB b.P nA = q := ⟨_, rfl⟩
  have HQ7 : Hid (squareB b.P nA = q7) := hq7
  rw [hq7]
  clear hq7
  obtain ⟨q8, hq8⟩ : ∃ q, (b.P.all fun z => z.all posB) = q := ⟨_, rfl⟩
  have HQ8 : Hid ((b.P.all fun z => z.all posB) = q8) := hq8
  rw [hq8]
  clear hq8
  obtain ⟨q9, hq9⟩ : ∃ q, turnB b.P = q := ⟨_, rfl⟩
  have HQ9 : Hid (turnB b.P = q9) := hq9
  rw [hq9]
  clear hq9
  go_enter Try.func22, Try.ntmps22
  go_wp2_with fail
  go_at_call 31
  refine (M _).mono ?_
  rintro e w3 ⟨rfl, hw⟩
  rw [← hw2] at hw
  obtain rfl := hw.symm
  clear M hw2 hw
  cases q1
  · go_wp2
    go_ret
    exact ⟨rt_bool (by simp), B2.out⟩
  have hn6 : nA ≤ 6 := by have := of_decide_eq_true HQ1.out; omega
  obtain ⟨x0, x1, x2, x3⟩ := X2.out
  have E := evAcc_any aA nA cA b.A w2 HX.out.acc sA
  rw [HQ2.out] at E
  go_wp2_with fail
  go_at_call 33
  refine E.mono ?_
  rintro e w3 ⟨rfl, hb⟩
  have B23 : Hid (Below w2.heap.size w2 w3) := hb
  have B3 : Hid (Below w.heap.size w w3) := B2.out.trans (hb.mono B2.out.size)
  have X3 : Hid (Box4 w3 w.heap.size ⟨aA, nA, cA, aB, nB, cB, aM, nM, cM, aP, nP, cP⟩) := X2.out.below hb
  have HX3 : Hid (Bk w3 ⟨aA, nA, cA, aB, nB, cB, aM, nM, cM, aP, nP, cP⟩ b) := HX.out.below hb
  clear hb E x0 x1 x2 x3 X2 HX B2
  cases q2
  · go_wp2
    go_ret
    exact ⟨rt_bool (by simp), B3.out⟩
  obtain ⟨x0, x1, x2, x3⟩ := X3.out
  have E := isSquare_any aB nB cB nA b.B w3 HX3.out.bil HX3.out.sB HX3.out.hB
  rw [HQ3.out] at E
  go_wp2_with fail
  go_at_call 35
  refine E.mono ?_
  rintro e w4 ⟨rfl, hb⟩
  have B4 : Hid (Below w.heap.size w w4) := B3.out.trans (hb.mono B3.out.size)
  have X4 : Hid (Box4 w4 w.heap.size ⟨aA, nA, cA, aB, nB, cB, aM, nM, cM, aP, nP, cP⟩) := X3.out.below hb
  have HX4 : Hid (Bk w4 ⟨aA, nA, cA, aB, nB, cB, aM, nM, cM, aP, nP, cP⟩ b) := HX3.out.below hb
  clear hb E x0 x1 x2 x3 X3 HX3 B3 B23
  cases q3
  · go_wp2
    go_ret
    exact ⟨rt_bool (by simp), B4.out⟩
  obtain ⟨x0, x1, x2, x3⟩ := X4.out
  have E := evLims_any aB nB cB b.B w4 HX4.out.bil HX4.out.sB HX4.out.hB
  rw [HQ4.out] at E
  go_wp2_with fail
  go_at_call 36
  refine E.mono ?_
  rintro e w5 ⟨rfl, hw⟩
  obtain rfl := hw.symm
  clear E hw
  cases q4
  · go_wp2
    go_ret
    exact ⟨rt_bool (by simp), B4.out⟩
  cases q5
  · have h' : ((nM : Int) == (nA : Int)) = false := by have := of_decide_eq_false HQ5.out; rw [beq_eq_false_iff_ne]; omega
    go_wp2
    go_ret
    exact ⟨rt_bool (by simp), B4.out⟩
  have hmn : nM = nA := of_decide_eq_true HQ5.out
  clear HQ5
  subst hmn
  have E := areLimits_any aM nM cM b.M w4 HX4.out.mul sA
  rw [HQ6.out] at E
  go_wp2_with fail
  go_at_call 37
  refine E.mono ?_
  rintro e w5 ⟨rfl, hw⟩
  obtain rfl := hw.symm
  clear E hw
  cases q6
  · go_wp2
    go_ret
    exact ⟨rt_bool (by simp), B4.out⟩
  have E := isSquare_any aP nP cP nM b.P w4 HX4.out.pos HX4.out.sP HX4.out.hP
  rw [HQ7.out] at E
  go_wp2_with fail
  go_at_call 35
  refine E.mono ?_
  rintro e w5 ⟨rfl, hb⟩
  have B5 : Hid (Below w.heap.size w w5) := B4.out.trans (hb.mono B4.out.size)
  have X5 : Hid (Box4 w5 w.heap.size ⟨aA, nM, cA, aB, nB, cB, aM, nM, cM, aP, nP, cP⟩) := X4.out.below hb
  have HX5 : Hid (Bk w5 ⟨aA, nM, cA, aB, nB, cB, aM, nM, cM, aP, nP, cP⟩ b) := HX4.out.below hb
  clear hb E x0 x1 x2 x3 X4 HX4 B4
  cases q7
  · go_wp2
    go_ret
    exact ⟨rt_bool (by simp), B5.out⟩
  obtain ⟨x0, x1, x2, x3⟩ := X5.out
  have E := evPoss_any aP nP cP b.P w5 HX5.out.pos HX5.out.sP HX5.out.hP
  rw [HQ8.out] at E
  go_wp2_with fail
  go_at_call 36
  refine E.mono ?_
  rintro e w6 ⟨rfl, hw⟩
  obtain rfl := hw.symm
  clear E hw
  cases q8
  · go_wp2
    go_ret
    exact ⟨rt_bool (by simp), B5.out⟩
  obtain ⟨bp, op, ha, hn, HS⟩ := RowsI.sq HX5.out.pos h0 HQ7.out
  have hn : nP = nM := hn
  have ha : aP = some ⟨bp, op, none⟩ := ha
  subst hn ha
  have E := turned_any bp op cP nP b.P w5 (squareB_yes.1 HQ7.out).1 hn6 HS (rowsAll_pos HQ7.out HQ8.out)
  rw [HQ9.out] at E
  clear HS
  go_wp2_with fail
  go_at_call 39
  refine E.mono ?_
  rintro e w6 ⟨rfl, hw⟩
  obtain rfl := hw.symm
  clear E hw
  go_wp2
  go_ret
  exact ⟨rt_bool (by simp), B5.out⟩

end Go.Proofs.Ytpaieecbedgeaaa
