/-
  Rows of payments that a call owns, each in a block of its own, numbers of which are written.
-/
import Derived.Test.YtmfmdicdbjghkaaViewSuch
namespace Go.Proofs.Ytmfmdicdbjghkaa
open Go.RowKit
set_option linter.unusedVariables false
set_option linter.unusedSimpArgs false

/-- Each of these is a row of so many payments in no block below B. -/
def OwnAll (B : Nat) (w : World) (l : List (Value × Nat)) : Prop := ∀ p ∈ l, ∃ xs, w.ownsRow B 34 7 p.1 p.2 xs
/-- No two of them lie in one block. -/
def Asunder (l : List (Value × Nat)) : Prop := l.Pairwise fun p q => ∀ k, p.1.ownBlock = some k → q.1.ownBlock ≠ some k
theorem pw_mem {α : Type} {R : α → α → Prop} {l : List α} (h : l.Pairwise R) {p q : α} (hp : p ∈ l) (hq : q ∈ l) : p = q ∨ R p q ∨ R q p := by
  induction l with
  | nil => simp at hp
  | cons x l ih =>
    obtain ⟨h1, h2⟩ := List.pairwise_cons.1 h
    rcases List.mem_cons.1 hp with e1 | e1
    · rcases List.mem_cons.1 hq with e2 | e2
      · exact .inl (e1.trans e2.symm)
      · exact .inr (.inl (e1 ▸ h1 q e2))
    · rcases List.mem_cons.1 hq with e2 | e2
      · exact .inr (.inr (e2 ▸ h1 p e1))
      · exact ih h2 e1 e2
theorem OwnAll.kept {B : Nat} {w w' : World} {l : List (Value × Nat)} (h : OwnAll B w l) (hb : Below w.heap.size w w') : OwnAll B w' l := fun p hp => let ⟨xs, hx⟩ := h p hp; ⟨xs, own_below hx hb⟩
theorem OwnAll.poke {B : Nat} {w : World} {l : List (Value × Nat)} (h : OwnAll B w l) (hd : Asunder l) {v : Value} {n i : Nat} (hp : (v, n) ∈ l) (hi : i < n) :
    ∃ g cap y, v = .slice (some ⟨g, 0, none⟩) n cap ∧ B ≤ g ∧ w.cell? ⟨g, i * 7, none⟩ = some y ∧ w.frozen? ⟨g, i * 7, none⟩ = false ∧ ∀ u, OwnAll B (w.setCell ⟨g, i * 7, none⟩ u) l := by
  obtain ⟨xs, hx⟩ : ∃ xs, w.ownsRow B 34 7 v n xs := h _ hp
  rcases hx.2 with ⟨_, h0⟩ | ⟨g, cap, cur, rfl, hB, hg, hc, hm, hs, ht⟩
  · omega
  · have hlen : i * 7 < xs.length := by rw [hx.1]; omega
    refine ⟨g, cap, xs[i * 7], rfl, hB, ?_, ?_, fun u p hpl => ?_⟩
    · have := hx.cellAt (i * 7) (by rw [hx.1] at hlen; exact hlen)
      rw [this]
      exact List.getElem?_eq_getElem hlen
    · exact hx.frozenAt (i * 7)
    · by_cases hb : p.1.ownBlock = some g
      · have : p = (.slice (some ⟨g, 0, none⟩) n cap, n) := by
          rcases pw_mem hd hpl hp with e | e | e
          · exact e
          · exact absurd rfl (e g hb)
          · exact absurd hb (e g rfl)
        subst this
        exact ⟨_, (hx.stored (i * 7) u).1⟩
      · obtain ⟨ys, hy⟩ := h p hpl
        exact ⟨ys, hy.kept (hx.stored (i * 7) u).2 (.inr hb)⟩

end Go.Proofs.Ytmfmdicdbjghkaa
