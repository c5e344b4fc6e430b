/-
  The frame behind a region that draws its order (Facts), slot by slot, so that the walk goes on behind it.
-/
import Derived.Test.YtmfmdicdbjghkaaFacts2
namespace Go.Proofs.Ytmfmdicdbjghkaa
open Go.RowKit

/-- Values laid into slots, one after the other. -/
def puts (a : Act) : List (Nat × Value) → Act
  | [] => a
  | p :: l => puts (a.put (some p.1) p.2) l
def Holds (q : Act) : List (Nat × Value) → Prop
  | [] => True
  | p :: l => q.tmps.getD p.1 undef = p.2 ∧ Holds q l

theorem puts_size : ∀ (l : List (Nat × Value)) (a : Act), (puts a l).tmps.size = a.tmps.size
  | [], a => rfl
  | p :: l, a => by rw [puts, puts_size l, size_put]
theorem puts_defers : ∀ (l : List (Nat × Value)) (a : Act), (puts a l).defers = a.defers
  | [], a => rfl
  | p :: l, a => by rw [puts, puts_defers l, defers_put]
theorem puts_at (q : Act) (s : Nat) (hs : s < q.tmps.size) : ∀ (l : List (Nat × Value)) (a : Act), a.tmps.size = q.tmps.size → Holds q l → (a.tmps.getD s undef = q.tmps.getD s undef ∨ s ∈ l.map Prod.fst) → (puts a l).tmps.getD s undef = q.tmps.getD s undef
  | [], a, _, _, h => by simpa [puts] using h
  | p :: l, a, hsz, hq, h => by
    rw [puts]
    refine puts_at q s hs l _ (by rw [size_put]; exact hsz) hq.2 ?_
    by_cases hp : p.1 = s
    · left
      rw [← hp, getD_put_same _ _ _ (by rw [hsz, hp]; exact hs)]
      exact hq.1.symm
    · rw [getD_put_ne _ _ _ _ hp]
      rcases h with h | h
      · exact .inl h
      · right
        simp only [List.map_cons, List.mem_cons] at h
        exact h.resolve_left (fun h => hp h.symm)

/-- The frame behind the region, slot by slot. -/
theorem frame_puts {q a0 : Act} (hsz : q.tmps.size = a0.tmps.size) (hdf : q.defers = a0.defers) (T : List Nat) (hold : ∀ s, T.contains s = false → q.tmps.getD s undef = a0.tmps.getD s undef) (l : List (Nat × Value)) (hq : Holds q l) (hT : l.map Prod.fst = T) :
    q = puts a0 l := by
  have ht : q.tmps = (puts a0 l).tmps := by
    apply Array.ext
    · rw [puts_size, hsz]
    · intro s h1 h2
      have := puts_at q s h1 l a0 hsz.symm hq (by
        by_cases hc : T.contains s = true
        · right; rw [hT]; simpa using hc
        · left; exact (hold s (by simpa using hc)).symm)
      simp only [Array.getD_eq_getD_getElem?, Array.getElem?_eq_getElem h1, Array.getElem?_eq_getElem h2, Option.getD_some] at this
      exact this.symm
  have hd : q.defers = (puts a0 l).defers := by rw [puts_defers, hdf]
  cases q
  cases hp : puts a0 l
  rw [hp] at ht hd
  simp only at ht hd
  rw [ht, hd]

end Go.Proofs.Ytmfmdicdbjghkaa
