/-
  Payments: seven Ints; where one lies.
-/
import Derived.Test.YtmfmdicdbjghkaaNew
namespace Go.Proofs.Ytmfmdicdbjghkaa
open Go.RowKit
set_option linter.unusedVariables false
set_option linter.unusedSimpArgs false

/-- A payment: ID, From, To, Amount, Class, Start, Till. -/
abbrev P7 := Int × Int × Int × Int × Int × Int × Int
abbrev P7.id (p : P7) : Int := p.1
abbrev P7.fr (p : P7) : Int := p.2.1
abbrev P7.to (p : P7) : Int := p.2.2.1
abbrev P7.am (p : P7) : Int := p.2.2.2.1
abbrev P7.cl (p : P7) : Int := p.2.2.2.2.1
abbrev P7.st (p : P7) : Int := p.2.2.2.2.2.1
abbrev P7.ti (p : P7) : Int := p.2.2.2.2.2.2
/-- Its value. -/
abbrev P7.val (p : P7) : Value := .agg #[.int .i64 p.id, .int .i64 p.fr, .int .i64 p.to, .int .i64 p.am, .int .i64 p.cl, .int .i64 p.st, .int .i64 p.ti]
def p70 : P7 := (0, 0, 0, 0, 0, 0, 0)

/-- Seven int64s that lie at g, from o on. -/
def At7 (w : World) (g o : Nat) (p : P7) : Prop :=
  w.cell? ⟨g, o, none⟩ = some (.int .i64 p.id) ∧ w.cell? ⟨g, o + 1, none⟩ = some (.int .i64 p.fr) ∧ w.cell? ⟨g, o + 2, none⟩ = some (.int .i64 p.to) ∧ w.cell? ⟨g, o + 3, none⟩ = some (.int .i64 p.am) ∧ w.cell? ⟨g, o + 4, none⟩ = some (.int .i64 p.cl) ∧ w.cell? ⟨g, o + 5, none⟩ = some (.int .i64 p.st) ∧ w.cell? ⟨g, o + 6, none⟩ = some (.int .i64 p.ti)

theorem At7.below {w w' : World} {g o : Nat} {p : P7} (h : At7 w g o p) (hb : Below w.heap.size w w') : At7 w' g o p := by
  obtain ⟨h0, h1, h2, h3, h4, h5, h6⟩ := h
  have hg := block_lt_of_cell h0
  exact ⟨by rw [hb.cell (p := ⟨g, o, none⟩) hg]; exact h0, by rw [hb.cell (p := ⟨g, o + 1, none⟩) hg]; exact h1, by rw [hb.cell (p := ⟨g, o + 2, none⟩) hg]; exact h2, by rw [hb.cell (p := ⟨g, o + 3, none⟩) hg]; exact h3, by rw [hb.cell (p := ⟨g, o + 4, none⟩) hg]; exact h4, by rw [hb.cell (p := ⟨g, o + 5, none⟩) hg]; exact h5, by rw [hb.cell (p := ⟨g, o + 6, none⟩) hg]; exact h6⟩
theorem At7.new (w : World) (p : P7) (t : TypeId) (fr : Nat × Nat) : At7 (w.alloc (.cells #[.int .i64 p.id, .int .i64 p.fr, .int .i64 p.to, .int .i64 p.am, .int .i64 p.cl, .int .i64 p.st, .int .i64 p.ti] t fr)) w.heap.size 0 p :=
  ⟨by rw [cell_new]; rfl, by rw [cell_new]; rfl, by rw [cell_new]; rfl, by rw [cell_new]; rfl, by rw [cell_new]; rfl, by rw [cell_new]; rfl, by rw [cell_new]; rfl⟩

end Go.Proofs.Ytmfmdicdbjghkaa
