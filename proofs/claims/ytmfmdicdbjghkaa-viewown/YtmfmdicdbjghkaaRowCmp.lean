/-
  row: which of two payments stands ahead: the program's answer and the document's.
-/
import Derived.Test.YtmfmdicdbjghkaaRowSpec
import Derived.Test.YtmfmdicdbjghkaaFactK
import Derived.Test.YtmfmdicdbjghkaaFactsIf
namespace Go.Proofs.Ytmfmdicdbjghkaa
open Go.RowKit
set_option linter.unusedVariables false
set_option linter.unusedSimpArgs false


theorem qLe_lt {a b : P7} (h : a.fr < b.fr) : true = qLe a b := (qLe_iff.2 (.inl h)).symm
theorem qLe_gt {a b : P7} (h : b.fr < a.fr) : false = qLe a b := (qLe_not.2 (.inl h)).symm
theorem qLe_rest {a b : P7} (h : a.fr = b.fr) : decide (a.cl ≤ b.cl) = qLe a b := by rw [Bool.eq_iff_iff, decide_eq_true_eq, qLe_iff]; omega
set_option maxHeartbeats 4000000 in
theorem refAhead_any (p q : P7) (w : World) : Calls Try.prog 21 #[p.val, q.val] w fun e w' => e = .returned (.bool (qLe p q)) ∧ Below w.heap.size w w' := by
  obtain ⟨i1, f1, o1, m1, c1, s1, u1⟩ := p
  obtain ⟨i2, f2, o2, m2, c2, s2, u2⟩ := q
  have B2 : Hid (Below w.heap.size w ((w.alloc (.cells #[.int .i64 i1, .int .i64 f1, .int .i64 o1, .int .i64 m1, .int .i64 c1, .int .i64 s1, .int .i64 u1] 34)).alloc (.cells #[.int .i64 i2, .int .i64 f2, .int .i64 o2, .int .i64 m2, .int .i64 c2, .int .i64 s2, .int .i64 u2] 34))) := (box_below _ _).alloc (box_below _ _).size _
  rcases (by omega : f1 < f2 ∨ f2 < f1 ∨ f1 = f2) with h | h | h
  · have H : Hid (true = qLe (i1, f1, o1, m1, c1, s1, u1) (i2, f2, o2, m2, c2, s2, u2)) := qLe_lt (a := (i1, f1, o1, m1, c1, s1, u1)) (b := (i2, f2, o2, m2, c2, s2, u2)) h
    go_enter Try.func21, Try.ntmps21
    go_wp2
    go_ret
    exact ⟨rt_bool H.out, B2.out⟩
  · have H : Hid (false = qLe (i1, f1, o1, m1, c1, s1, u1) (i2, f2, o2, m2, c2, s2, u2)) := qLe_gt (a := (i1, f1, o1, m1, c1, s1, u1)) (b := (i2, f2, o2, m2, c2, s2, u2)) h
    have h2 : ¬ f1 < f2 := by omega
    have h3 : (f1 == f2) = false := by simp; omega
    go_enter Try.func21, Try.ntmps21
    go_wp2
    go_ret
    exact ⟨rt_bool H.out, B2.out⟩
  · have H : Hid (decide (c1 ≤ c2) = qLe (i1, f1, o1, m1, c1, s1, u1) (i2, f2, o2, m2, c2, s2, u2)) := qLe_rest (a := (i1, f1, o1, m1, c1, s1, u1)) (b := (i2, f2, o2, m2, c2, s2, u2)) h
    subst h
    go_enter Try.func21, Try.ntmps21
    go_wp2
    go_ret
    exact ⟨rt_bool H.out, B2.out⟩

end Go.Proofs.Ytmfmdicdbjghkaa
