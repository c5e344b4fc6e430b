/-
  Arguments that are slices of structs of int64s: their cells, row by row.
-/
import Derived.Test.YtmfmdicdbjghkaaPlain
import Derived.Deep.Slices
namespace Go.Proofs.Ytmfmdicdbjghkaa
open Go.ChangeShapes Go.WideShapes Go.ChangeAt Go.RowKit

/-- A slice of len rows of c int64s. -/
def PlainRows (w : World) (a : Option Addr) (len c : Nat) (Z : Nat → Nat → Int) : Prop :=
  len = 0 ∨ ∃ b off, a = some ⟨b, off, none⟩ ∧ b < w.heap.size ∧ ∀ i, i < len → ∀ j, j < c → w.cell? ⟨b, off + i * c + j, none⟩ = some (.int .i64 (Z i j)) ∧ (Lit.int .i64 (Z i j)).wf = true

theorem flat_add (b off i : Nat) : (⟨b, off, none⟩ : Addr).add i = ⟨b, off + i, none⟩ := by cases i <;> simp [Addr.add]

section
variable {H : Type} {enc : TypeId × Value → H} {P : Program} {W : World} {base : Nat}

theorem open_plain_slice {t e : TypeId} {d fuel c : Nat} {a : Option Addr} {len cap : Nat} {x : DataW H × List MemPlace} (ht : P.underlying t = some (.slice e)) (hp : plainI P d e = true) (hc : P.cellsOf e = c) (hc0 : 0 < c)
    (h : DataW.trod enc P W base (fun _ => true) true fuel t [.slice a len cap] = some x) : ∃ Z, PlainRows W a len c Z ∧ len ≤ cap ∧ cap ≤ maxLen ∧ (a = none → cap = 0) := by
  rcases Go.Deep.open_slice ht h with ⟨hcs, _⟩ | ⟨ad, len', cap', m, n, D, Pl, hcs, _, hl, hm, hmm, _, hel⟩
  · simp at hcs
    exact ⟨fun _ _ => 0, .inl hcs.2.1, by omega, by rw [hcs.2.2]; exact Nat.zero_le _, fun _ => hcs.2.2⟩
  · simp at hcs
    obtain ⟨rfl, rfl, rfl⟩ := hcs
    simp only [if_true] at hmm
    subst hmm
    rw [hc] at hel
    by_cases h0 : len = 0
    · exact ⟨fun _ _ => 0, .inl h0, hl, hm, fun h => by simp at h⟩
    have hall : ∀ p : Nat × Nat, ∃ z : Int, p.1 < len → p.2 < c → W.cell? ((ad.add (p.1 * c)).add p.2) = some (.int .i64 z) ∧ (Lit.int .i64 z).wf = true := by
      intro p
      by_cases hi : p.1 < len
      · by_cases hj : p.2 < c
        · obtain ⟨cs', h1, h2⟩ := hel p.1 (by omega)
          obtain ⟨_, hlen, hcell⟩ := World.cells?_some h1
          have hv : cs'[p.2]? = some (cs'[p.2]'(by rw [hlen]; exact hj)) := List.getElem?_eq_getElem _
          obtain ⟨z, hz, hw⟩ := open_plain d n e cs' _ hp h2 p.2 _ hv
          refine ⟨z, fun _ _ => ⟨?_, hw⟩⟩
          rw [hcell p.2 hj, hv, hz]
        · exact ⟨0, fun _ h => absurd h hj⟩
      · exact ⟨0, fun h => absurd h hi⟩
    obtain ⟨f, hq⟩ := Classical.axiomOfChoice hall
    obtain ⟨b, off, spot⟩ := ad
    have hs0 := (hq (0, 0) (by show 0 < len; omega) hc0).1
    have hspot : spot = none := by
      have := hs0
      simp [Addr.add] at this
      exact World.cell?_spot this
    subst hspot
    simp only [flat_add] at hq hs0
    exact ⟨fun i j => f (i, j), .inr ⟨b, off, rfl, block_lt_of_cell hs0, fun i hi j hj => hq (i, j) hi hj⟩, hl, hm, fun h => by simp at h⟩
end

end Go.Proofs.Ytmfmdicdbjghkaa
