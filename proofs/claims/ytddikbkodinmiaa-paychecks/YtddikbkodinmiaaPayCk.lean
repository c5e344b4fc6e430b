/-
  pay: Check: the program's answer and the document's.
-/
import Derived.Test.YtddikbkodinmiaaPayIs
namespace Go.Proofs.Ytddikbkodinmiaa
open Go.RowKit
set_option linter.unusedVariables false
set_option linter.unusedSimpArgs false

theorem ck_no {n cut cl i f o m c s u t : Int} (h : payB n i f o m c s u t = false) : (1 : Int) = ckS n cut cl i f o m c s u t := by simp [ckS, h]
theorem ck_yes {n cut cl i f o m c s u t : Int} (h : payB n i f o m c s u t = true) : mayS cut cl t c = ckS n cut cl i f o m c s u t := by simp [ckS, h]

set_option maxHeartbeats 4000000 in
theorem check_any (n : Int) (a : Option Addr) (len cap : Nat) (cut cl per : Int) (i f o m c s u t : Int) (w : World) :
    Calls Try.prog 8 #[.agg #[.int .i64 n, .slice a len cap, .int .i64 cut, .int .i64 cl, .int .i64 per], .int .i64 t, .agg #[.int .i64 i, .int .i64 f, .int .i64 o, .int .i64 m, .int .i64 c, .int .i64 s, .int .i64 u]] w fun e w' => e = .returned (.int .i64 (ckS n cut cl i f o m c s u t)) ∧ Below w.heap.size w w' := by
  have T1 := areTwoOf_any n a len cap cut cl per f o
  have T2 := isAmount_any m
  have T3 := isClass_any c
  have T4 := isTime_any i f o m c s u t
  have T5 := may_any n a len cap cut cl per t c
  have HN : Hid (payB n i f o m c s u t = false → (1 : Int) = ckS n cut cl i f o m c s u t) := ck_no
  have HY : Hid (payB n i f o m c s u t = true → mayS cut cl t c = ckS n cut cl i f o m c s u t) := ck_yes
  unfold payB at HN HY
  generalize ckS n cut cl i f o m c s u t = K at HN HY ⊢
  generalize twoB n f o = q1 at T1 HN HY
  generalize amB m = q2 at T2 HN HY
  generalize clB c = q3 at T3 HN HY
  generalize tmB s u t = q4 at T4 HN HY
  generalize mayS cut cl t c = M at T5 HY
  obtain ⟨w2, hw2⟩ : ∃ w2, w2 = (w.alloc (.cells #[.int .i64 n, .slice a len cap, .int .i64 cut, .int .i64 cl, .int .i64 per] 24)).alloc (.cells #[.int .i64 i, .int .i64 f, .int .i64 o, .int .i64 m, .int .i64 c, .int .i64 s, .int .i64 u] 26) := ⟨_, rfl⟩
  have B2 : Hid (Below w.heap.size w w2) := by rw [hw2]; exact (box_below _ _).alloc (box_below _ _).size _
  have R2 : Hid (RulAt w2 w.heap.size n a len cap cut cl per) := by rw [hw2]; exact (rul_new _ _ _ _ _ _ _ _ _ _).below (box_below _ _)
  have P2 : Hid (At7 w2 (w.heap.size + 1) 0 (i, f, o, m, c, s, u)) := by
    have := At7.new (w.alloc (.cells #[.int .i64 n, .slice a len cap, .int .i64 cut, .int .i64 cl, .int .i64 per] 24)) (i, f, o, m, c, s, u) 26 (0, 0)
    rw [size_alloc] at this
    rw [hw2]
    exact this
  rcases Int.lt_or_le i 1 with h1 | h1
  · have HK : Hid ((1 : Int) = K) := HN.out (by rw [decide_eq_false (by omega)]; rfl)
    have HB : Hid (Below w.heap.size w ((w.alloc (.cells #[.int .i64 n, .slice a len cap, .int .i64 cut, .int .i64 cl, .int .i64 per] 24)).alloc (.cells #[.int .i64 i, .int .i64 f, .int .i64 o, .int .i64 m, .int .i64 c, .int .i64 s, .int .i64 u] 26))) := by rw [← hw2]; exact B2.out
    clear T1 T2 T3 T4 T5 HN HY B2 R2 P2 hw2
    go_enter Try.func8, Try.ntmps8
    go_wp2
    go_ret
    exact ⟨rt_int HK.out, HB.out⟩
  rw [decide_eq_true h1] at HN HY
  simp only [Bool.true_and] at HN HY
  go_enter Try.func8, Try.ntmps8
  go_wp2_with fail
  go_at_call 18
  rw [← hw2]
  refine (T1 _).mono ?_
  rintro e w3 ⟨rfl, hb⟩
  have B3 : Hid (Below w.heap.size w w3) := B2.out.trans (hb.mono B2.out.size)
  have R3 : Hid (RulAt w3 w.heap.size n a len cap cut cl per) := R2.out.below hb
  have P3 : Hid (At7 w3 (w.heap.size + 1) 0 (i, f, o, m, c, s, u)) := P2.out.below hb
  clear hb hw2 T1 B2 R2 P2
  cases q1
  · have HK : Hid ((1 : Int) = K) := HN.out rfl
    clear HN HY
    go_wp2
    go_ret
    exact ⟨rt_int HK.out, B3.out⟩
  simp only [Bool.true_and] at HN HY
  obtain ⟨r0, r1, r2, r3, r4⟩ := R3.out
  obtain ⟨p0, p1, p2, p3, p4, p5, p6⟩ := P3.out
  simp only [P7.id, P7.fr, P7.to, P7.am, P7.cl, P7.st, P7.ti, Nat.zero_add] at p0 p1 p2 p3 p4 p5 p6
  go_wp2_with fail
  go_at_call 19
  refine (T2 _).mono ?_
  rintro e w4 ⟨rfl, hw⟩
  obtain rfl := hw.symm
  clear T2
  cases q2
  · have HK : Hid ((1 : Int) = K) := HN.out rfl
    clear HN HY
    go_wp2
    go_ret
    exact ⟨rt_int HK.out, B3.out⟩
  simp only [Bool.true_and] at HN HY
  go_wp2_with fail
  go_at_call 20
  refine (T3 _).mono ?_
  rintro e w4 ⟨rfl, hw⟩
  obtain rfl := hw.symm
  clear T3
  cases q3
  · have HK : Hid ((1 : Int) = K) := HN.out rfl
    clear HN HY
    go_wp2
    go_ret
    exact ⟨rt_int HK.out, B3.out⟩
  simp only [Bool.true_and] at HN HY
  go_wp2_with fail
  go_at_call 21
  refine (T4 _).mono ?_
  rintro e w5 ⟨rfl, hb⟩
  have B5 : Hid (Below w.heap.size w w5) := B3.out.trans (hb.mono B3.out.size)
  have R5 : Hid (RulAt w5 w.heap.size n a len cap cut cl per) := R3.out.below hb
  have P5 : Hid (At7 w5 (w.heap.size + 1) 0 (i, f, o, m, c, s, u)) := P3.out.below hb
  clear hb T4 B3 R3 P3 r0 r1 r2 r3 r4 p0 p1 p2 p3 p4 p5 p6
  cases q4
  · have HK : Hid ((1 : Int) = K) := HN.out rfl
    clear HN HY
    go_wp2
    go_ret
    exact ⟨rt_int HK.out, B5.out⟩
  have HK : Hid (M = K) := HY.out rfl
  obtain ⟨r0, r1, r2, r3, r4⟩ := R5.out
  obtain ⟨p0, p1, p2, p3, p4, p5, p6⟩ := P5.out
  simp only [P7.id, P7.fr, P7.to, P7.am, P7.cl, P7.st, P7.ti, Nat.zero_add] at p0 p1 p2 p3 p4 p5 p6
  clear HN HY
  go_wp2_with fail
  go_at_call 22
  refine (T5 _).mono ?_
  rintro e w6 ⟨rfl, hb⟩
  have B6 : Hid (Below w.heap.size w w6) := B5.out.trans (hb.mono B5.out.size)
  clear hb T5
  go_wp2
  go_ret
  exact ⟨rt_int HK.out, B6.out⟩

theorem pay_bad {n i f o m c s u t : Int} (h : ¬ (1 ≤ i ∧ (0 ≤ f ∧ f < n) ∧ (0 ≤ o ∧ o < n) ∧ f ≠ o ∧ (1 ≤ m ∧ m ≤ 1099511627776) ∧ (1 ≤ c ∧ c ≤ 3) ∧ 0 ≤ s ∧ s ≤ u ∧ t ≤ u ∧ u ≤ 1048576)) : payB n i f o m c s u t = false := by
  rw [Bool.eq_false_iff]
  simp only [ne_eq, payB, twoB, partyB, amB, clB, tmB, Bool.and_eq_true, decide_eq_true_iff, bne_iff_ne]
  rintro ⟨h1, ⟨h2, h3, h4⟩, h5, h6, h7⟩
  exact h ⟨h1, h2, h3, h4, h5, h6, h7⟩
theorem pay_good {n i f o m c s u t : Int} (h : 1 ≤ i ∧ (0 ≤ f ∧ f < n) ∧ (0 ≤ o ∧ o < n) ∧ f ≠ o ∧ (1 ≤ m ∧ m ≤ 1099511627776) ∧ (1 ≤ c ∧ c ≤ 3) ∧ 0 ≤ s ∧ s ≤ u ∧ t ≤ u ∧ u ≤ 1048576) : payB n i f o m c s u t = true := by
  simp only [payB, twoB, partyB, amB, clB, tmB, Bool.and_eq_true, decide_eq_true_iff, bne_iff_ne]
  obtain ⟨h1, h2, h3, h4, h5, h6, h7⟩ := h
  exact ⟨h1, ⟨h2, h3, h4⟩, h5, h6, h7⟩

end Go.Proofs.Ytddikbkodinmiaa
