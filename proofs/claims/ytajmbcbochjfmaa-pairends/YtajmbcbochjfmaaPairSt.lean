/-
  What a call holds that settles two by two: as one by one, but that two come to it at once.
-/
import Derived.Test.YtajmbcbochjfmaaFreeRunP
import Derived.Test.YtajmbcbochjfmaaPairSpec
import Derived.Test.YtajmbcbochjfmaaPairRows
namespace Go.Proofs.Ytajmbcbochjfmaa
open Go.RowKit
set_option linter.unusedVariables false
set_option linter.unusedSimpArgs false

section
variable {w wr u : World} {y : BA} {b : Bks} {a : Option Addr} {n c : Nat} {l d : List P7} {v : Value} {g : Nat} {p : P7}
theorem RunSt.adds (h : RunSt w wr y b a n c l v d) (hu : Below wr.heap.size wr u) (ps : List P7) {v' : Value} {w' : World} (ho : w'.ownsRow (w.heap.size + 2) 31 7 v' (d.length + ps.length) (payL (d ++ ps))) (g : u.grownBy w' v.ownBlock) (hv : v'.ownBlock = v.ownBlock ∨ v'.ownBlock = some u.heap.size) : RunSt w w' y b a n c l v' (d ++ ps) := by
  have h' := h.below hu
  have hlo : ∀ j, v.ownBlock = some j → w.heap.size + 2 ≤ j := fun j hj => (h'.own.lt j hj).1
  have hty : ∀ j, v.ownBlock = some j → ∃ cs f, u.heap[j]? = some (.cells cs 31 f) := fun j hj => by
    rcases h'.own.2 with ⟨hv0, _⟩ | ⟨g0, cap, cur, hv0, _, hg0, _⟩
    · rw [hv0] at hj; cases hj
    · rw [hv0] at hj
      have : g0 = j := by simpa [Value.ownBlock] using hj
      subst this
      exact ⟨_, _, hg0⟩
  have at0 : 0 < n → ∀ x, a = some x → x.block < u.heap.size := fun hn x hx => by
    obtain ⟨b1, o1, ha1, hc1⟩ := h'.row.at hn
    have hx2 := ha1.symm.trans hx
    simp at hx2
    rw [← hx2]
    exact block_lt_of_cell (hc1 0 hn).1
  have hbk : Bk w y b ∨ NewBk w' (w.heap.size + 2) y b := by
    rcases h'.bk with h1 | h1
    · exact .inl h1
    · refine .inr (h1.turn fun g0 cs T f hB hg hT => g.block g0 (lt_of_block hg) fun e => ?_)
      obtain ⟨cs', f', he⟩ := hty g0 e.symm
      rw [hg] at he
      simp at he
      exact hT he.2.1
  have hrow : PGood w' a n c l := h'.row.turn fun x hx hn => g.block _ (at0 hn x hx) fun e => (h'.off hn x hx).2 e.symm
  have hoff : 0 < n → ∀ x, a = some x → (x.block < w.heap.size ∨ w.heap.size + 2 ≤ x.block) ∧ v'.ownBlock ≠ some x.block := fun hn x hx => by
    refine ⟨(h'.off hn x hx).1, ?_⟩
    rcases hv with hv | hv
    · rw [hv]; exact (h'.off hn x hx).2
    · rw [hv]
      intro e
      have := at0 hn x hx
      simp at e
      omega
  have hbox : BVar w' w.heap.size y := (g.block _ h'.box.lt fun e => by have := hlo _ e.symm; omega).trans h'.box
  have hres : BVar w' (w.heap.size + 1) ba0 := (g.block _ h'.res.lt fun e => by have := hlo _ e.symm; omega).trans h'.res
  exact ⟨hbk, h'.good, hrow, hoff, h'.que, by rw [List.length_append]; exact ho, hbox, hres, h'.low.grown g (by have := h'.low.size; omega) fun j hj => by have := hlo j hj; omega⟩
theorem RunC.adds (h : RunC w wr y b a n c l v d) (hu : Below wr.heap.size wr u) (ps : List P7) {v' : Value} {w' : World} (ho : w'.ownsRow (w.heap.size + 2) 31 7 v' (d.length + ps.length) (payL (d ++ ps))) (k : u.grownBy w' v.ownBlock) (hv : v'.ownBlock = v.ownBlock ∨ v'.ownBlock = some u.heap.size) : RunC w w' y b a n c l v' (d ++ ps) := by
  have h' := h.below hu
  have hc := own_cells h'.own
  have hbk : NewBk w' (w.heap.size + 2) y b := h'.bk.turn fun g0 cs T f hB hg hT => k.block g0 (lt_of_block hg) fun e => by
    obtain ⟨_, cs', f', he⟩ := hc g0 e.symm
    rw [hg] at he
    simp at he
    exact hT he.2.1
  have hrow : PGood w' a n c l := h'.row.turn fun x hx hn => k.block _ (h'.lt hn x hx) fun e => (h'.off hn x hx).2 e.symm
  have hoff : 0 < n → ∀ x, a = some x → w.heap.size + 2 ≤ x.block ∧ v'.ownBlock ≠ some x.block := fun hn x hx => by
    refine ⟨(h'.off hn x hx).1, ?_⟩
    rcases hv with hv | hv
    · rw [hv]; exact (h'.off hn x hx).2
    · rw [hv]
      intro e
      have := h'.lt hn x hx
      simp at e
      omega
  have hbox : BVar w' (w.heap.size + 1) y := (k.block _ h'.box.lt fun e => by have := (hc _ e.symm).1; omega).trans h'.box
  exact ⟨hbk, h'.good, hrow, hoff, h'.que, h'.fr, by rw [List.length_append]; exact ho, hbox, h'.low.grown k (by have := h'.low.size; omega) fun j hj => by have := (hc j hj).1; omega⟩
theorem VarC.far {g2 : Nat} (h : VarC w wr a n v g p) (hg : g ≠ g2) (cs : Array Value) : VarC w (wr.setRow g2 cs) a n v g p := ⟨h.1.far hg _, h.2⟩
theorem RunC.frees (h : RunC w wr y b a n c l v d) (h40 : d.length ≤ 40) {R : Bks × List P7 × List P7} (e : (b, l, d) = R) : ∃ ad cd, v = .slice ad d.length cd ∧ FreeEnd w R (.returned (.tuple #[y.val, .slice a n c, .slice ad d.length cd])) wr := by
  rw [← e]
  exact h.free h40
end
/-- A function answers as Run does. -/
def RunsQ (f : FuncId) : Prop := ∀ (x : BA) (b : Bks) (a : Option Addr) (n c : Nat) (L : List P7) (t : Int) (w : World), Bk w x b → Good b → PGood w a n c L → Que L → FrOk L → Calls Try.prog f #[x.val, .slice a n c, .int .i64 t] w (FreeEnd w (runQ b L t))

theorem FrOk.drop2 {l : List P7} (h : FrOk l) (p q : P7) : FrOk (drop2 l p q) := (h.drop _).drop _

end Go.Proofs.Ytajmbcbochjfmaa
