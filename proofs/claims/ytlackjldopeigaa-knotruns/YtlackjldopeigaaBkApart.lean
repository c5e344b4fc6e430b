/-
  A variable for books that holds nothing yet is apart from all books and payments that are laid out.
-/
import Derived.Test.YtlackjldopeigaaFreeSt
namespace Go.Proofs.Ytlackjldopeigaa
open Go.RowKit
set_option linter.unusedVariables false
set_option linter.unusedSimpArgs false

section
variable {w : World} {z : Nat}
theorem cell_apart (hz : BVar w z ba0) (cs : Array Value) {g i : Nat} {v : Value} (h : w.cell? ⟨g, i, none⟩ = some v) (hv : v ≠ .slice none 0 0) : (w.setRow z cs).cell? ⟨g, i, none⟩ = some v := by
  by_cases hg : g = z
  · exfalso
    subst hg
    rw [cell_of_row w g i _ _ _ hz] at h
    have hi : i < 4 := by
      have := (Array.getElem?_eq_some_iff.1 h).1
      simpa using this
    apply hv
    rcases (by omega : i = 0 ∨ i = 1 ∨ i = 2 ∨ i = 3) with rfl | rfl | rfl | rfl <;> (simp [ba0] at h; exact h.symm)
  · unfold World.cell? at h ⊢
    rw [setRow_other _ _ _ _ (by simpa using hg)]
    exact h
theorem PGood.apart {a : Option Addr} {n c : Nat} {L : List P7} (h : PGood w a n c L) (hz : BVar w z ba0) (cs : Array Value) : PGood (w.setRow z cs) a n c L := by
  refine ⟨⟨h.pays.1, ?_⟩, h.cap, h.max, h.nil0⟩
  rcases h.pays.2 with h0 | ⟨b, off, ha, hc⟩
  · exact .inl h0
  · refine .inr ⟨b, off, ha, fun i hi => ?_⟩
    obtain ⟨c0, c1, c2, c3, c4, c5, c6⟩ := hc i hi
    exact ⟨cell_apart hz cs c0 (by simp), cell_apart hz cs c1 (by simp), cell_apart hz cs c2 (by simp), cell_apart hz cs c3 (by simp), cell_apart hz cs c4 (by simp), cell_apart hz cs c5 (by simp), cell_apart hz cs c6 (by simp)⟩
theorem Sl.apart {a : Option Addr} {n : Nat} {L : List Int} (h : Sl .i64 w a n L) (hz : BVar w z ba0) (cs : Array Value) : Sl .i64 (w.setRow z cs) a n L := by
  refine ⟨h.1, h.2.1, ?_⟩
  rcases h.2.2 with h0 | ⟨b, off, ha, hc⟩
  · exact .inl h0
  · exact .inr ⟨b, off, ha, fun i hi => cell_apart hz cs (hc i hi) (by simp)⟩
theorem Accs.apart {a : Option Addr} {n : Nat} {L : List A3} (h : Accs w a n L) (hz : BVar w z ba0) (cs : Array Value) : Accs (w.setRow z cs) a n L := by
  refine ⟨h.1, ?_⟩
  rcases h.2 with h0 | ⟨b, off, ha, hc⟩
  · exact .inl h0
  · refine .inr ⟨b, off, ha, fun i hi => ?_⟩
    obtain ⟨c0, c1, c2⟩ := hc i hi
    exact ⟨cell_apart hz cs c0 (by simp), cell_apart hz cs c1 (by simp), cell_apart hz cs c2 (by simp)⟩
theorem RowsI.apart {a : Option Addr} {n : Nat} {R : List (List Int)} (h : RowsI w a n R) (hR : ∀ i, i < R.length → 0 < (R.getD i []).length) (hz : BVar w z ba0) (cs : Array Value) : RowsI (w.setRow z cs) a n R := by
  refine ⟨h.1, h.2.1, ?_⟩
  rcases h.2.2 with h0 | ⟨b, off, ha, hc⟩
  · exact .inl h0
  · refine .inr ⟨b, off, ha, fun i hi => ?_⟩
    obtain ⟨x, c, h1, h2, h3⟩ := hc i hi
    have hp := hR i hi
    exact ⟨x, c, cell_apart hz cs h1 (fun e => by
      have h5 := (Value.slice.inj e).2.1
      omega), h2.apart hz cs, h3⟩
theorem Bk.apart {y : BA} {b : Bks} (h : Bk w y b) (g : Good b) (hz : BVar w z ba0) (cs : Array Value) : Bk (w.setRow z cs) y b := by
  have n1 := g.n1
  have hb := g.bil
  have hp := g.pos
  exact ⟨h.acc.apart hz cs, h.bil.apart (fun i hi => by rw [g.bils i (by omega)]; omega) hz cs, h.mul.apart hz cs, h.pos.apart (fun i hi => by rw [g.poss i (by omega)]; omega) hz cs, h.sA, h.sB, h.sM, h.sP, h.hB, h.hP, h.oA, h.oM⟩
end

/-- Facts: such books; such payments; what Run answers; a variable for books. -/
def Fact.bk (b : Bks) : Fact := ⟨fun w v => ∃ y : BA, v = y.val ∧ Bk w y b, fun w w' v hb ⟨y, h1, h2⟩ => ⟨y, h1, h2.below hb⟩⟩
def Fact.pg (L : List P7) : Fact := ⟨fun w v => ∃ (a : Option Addr) (n c : Nat), v = .slice a n c ∧ PGood w a n c L, fun w w' v hb ⟨a, n, c, h1, h2⟩ => ⟨a, n, c, h1, h2.below hb⟩⟩
def Fact.free (R : Bks × List P7 × List P7) : Fact := ⟨fun w v => ∃ (y : BA) (a : Option Addr) (n c : Nat) (a2 : Option Addr) (n2 c2 : Nat), v = .tuple #[y.val, .slice a n c, .slice a2 n2 c2] ∧ Bk w y R.1 ∧ PGood w a n c R.2.1 ∧ PGood w a2 n2 c2 R.2.2,
  fun w w' v hb ⟨y, a, n, c, a2, n2, c2, h1, h2, h3, h4⟩ => ⟨y, a, n, c, a2, n2, c2, h1, h2.below hb, h3.below hb, h4.below hb⟩⟩
def Fact.bv (B : Nat) : Fact := ⟨fun w v => ∃ z : Nat, v = .pointer (some ⟨z, 0, none⟩) ∧ B ≤ z ∧ BVar w z ba0, fun w w' v hb ⟨z, h1, h2, h3⟩ => ⟨z, h1, h2, h3.below hb⟩⟩
theorem free_fact {f : FuncId} {args : Array Value} {w : World} {R : Bks × List P7 × List P7} (h : Calls Try.prog f args w (FreeEnd w R)) :
    Calls Try.prog f args w fun e w' => ∃ v, e = .returned v ∧ Below w.heap.size w w' ∧ (Fact.free R).1 w' v :=
  h.mono fun e w' ⟨y, a, n, c, a2, n2, c2, h1, h2, _, h4, _, h6, _, h8⟩ => ⟨_, h1, h8, y, a, n, c, a2, n2, c2, rfl, h2, h4, h6⟩

end Go.Proofs.Ytlackjldopeigaa
