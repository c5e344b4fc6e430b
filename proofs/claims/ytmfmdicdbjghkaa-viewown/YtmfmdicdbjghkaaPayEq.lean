/-
  Two payments held against each other, as one operation.
-/
import Derived.Test.YtmfmdicdbjghkaaFactK
import Derived.Test.YtmfmdicdbjghkaaPayRows
namespace Go.Proofs.Ytmfmdicdbjghkaa
open Go.RowKit
set_option linter.unusedVariables false
set_option linter.unusedSimpArgs false

/-- Are they one payment? -/
def eqB7 (p q : P7) : Bool := p.id == q.id && (p.fr == q.fr && (p.to == q.to && (p.am == q.am && (p.cl == q.cl && (p.st == q.st && p.ti == q.ti)))))
theorem eqB7_iff {p q : P7} : eqB7 p q = true ↔ p = q := by
  obtain ⟨p0, p1, p2, p3, p4, p5, p6⟩ := p
  obtain ⟨q0, q1, q2, q3, q4, q5, q6⟩ := q
  simp [eqB7]
theorem eqB7_id {p q : P7} (h : ¬ p.id = q.id) : eqB7 p q = false := by
  rw [← Bool.not_eq_true, eqB7_iff]
  exact fun e => h (by rw [e])
theorem eqB7_self (p : P7) : eqB7 p p = true := eqB7_iff.2 rfl
theorem pay_eql {x y : Operand} (p0 p1 p2 p3 p4 p5 p6 q0 q1 q2 q3 q4 q5 q6 : Int) : ∀ w, (do eqGuard .eql 34 x y (.agg #[.int .i64 p0, .int .i64 p1, .int .i64 p2, .int .i64 p3, .int .i64 p4, .int .i64 p5, .int .i64 p6]) (.agg #[.int .i64 q0, .int .i64 q1, .int .i64 q2, .int .i64 q3, .int .i64 q4, .int .i64 q5, .int .i64 q6]); binOp .eql 34 (.agg #[.int .i64 p0, .int .i64 p1, .int .i64 p2, .int .i64 p3, .int .i64 p4, .int .i64 p5, .int .i64 p6]) (.agg #[.int .i64 q0, .int .i64 q1, .int .i64 q2, .int .i64 q3, .int .i64 q4, .int .i64 q5, .int .i64 q6]) : Sem Value).run Try.prog w = .ok (.bool (eqB7 (p0, p1, p2, p3, p4, p5, p6) (q0, q1, q2, q3, q4, q5, q6))) w := by
  intro w
  unfold eqB7
  simp only [P7.id, P7.fr, P7.to, P7.am, P7.cl, P7.st, P7.ti]
  cases h0 : (p0 == q0)
  · simp [eqGuard, go_sem, h0]
  · cases h1 : (p1 == q1)
    · simp [eqGuard, go_sem, h0, h1]
    · cases h2 : (p2 == q2)
      · simp [eqGuard, go_sem, h0, h1, h2]
      · cases h3 : (p3 == q3)
        · simp [eqGuard, go_sem, h0, h1, h2, h3]
        · cases h4 : (p4 == q4)
          · simp [eqGuard, go_sem, h0, h1, h2, h3, h4]
          · cases h5 : (p5 == q5)
            · simp [eqGuard, go_sem, h0, h1, h2, h3, h4, h5]
            · cases h6 : (p6 == q6)
              · have : ¬ p6 = q6 := by simpa using h6
                simp [eqGuard, go_sem, h0, h1, h2, h3, h4, h5, this]
              · have : p6 = q6 := by simpa using h6
                simp [eqGuard, go_sem, h0, h1, h2, h3, h4, h5, this]

section
variable {P : Program} {Q : Exit → Act → World → Prop} {L : List Fact} {T : List Nat} {a0 : Act} {w0 : World} {i : Nat} {o : Oper}
/-- A comparison whose answer is known. -/
theorem owes_eqlB (t t2 : TypeId) (x y : Operand) (B : Bool) (ho : o.op = .binOp .eql t x y t2) (hL : L.getD i Fact.any = Fact.is (.bool B))
    (h : ∀ a w, Leans L T a0 w0 o a w → Wants T o a ∧ ∃ v1 v2, a.eval x = v1 ∧ a.eval y = v2 ∧ ∀ w, (do eqGuard .eql t x y v1 v2; binOp .eql t v1 v2 : Sem Value).run P w = .ok (.bool B) w) : OwesT P Q L T a0 w0 i o := by
  refine owes_value fun a w hl => ?_
  obtain ⟨hg, v1, v2, hx, hy, hr⟩ := h a w hl
  refine ⟨hg, .bool B, ?_, by rw [hL]; rfl⟩
  unfold execOp
  rw [ho]
  simp only [hx, hy]
  have := hr w
  simp only [Sem.run_bind, this, Result.andThen]
  rfl
end

end Go.Proofs.Ytmfmdicdbjghkaa
