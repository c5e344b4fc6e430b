/-
  Rows that the call keeps of what came in: the spine is its own, each row lies where it came in.
-/
import Derived.Test.YtdecdjjknbbolaaLogOur
namespace Go.Proofs.Ytdecdjjknbbolaa
open Go.RowKit
set_option linter.unusedVariables false
set_option linter.unusedSimpArgs false

/-- A spine of the call's own; its rows lay there at w0. -/
structure Spn (w0 w : World) (v : Value) (vs : List Value) (R : List (List Int)) : Prop where
  own : w.ownsRow w0.heap.size 26 1 v R.length vs
  bs : ∀ z ∈ R, Bs z
  row : ∀ i, i < R.length → ∃ x c, vs.getD i undef = .slice x (R.getD i []).length c ∧ Sl .u8 w0 x (R.getD i []).length (R.getD i [])

/-- The block of a spine. -/
def SpX (v : Value) : Nat → Prop := fun j => v.ownBlock = some j

theorem Spn.none (w0 w : World) : Spn w0 w (.slice none 0 0) [] [] := ⟨World.ownsRow_nil _ _ _ _, fun z hz => by simp at hz, fun i hi => by simp at hi⟩
theorem Spn.lt {w0 w : World} {v : Value} {vs : List Value} {R : List (List Int)} (h : Spn w0 w v vs R) : ∀ j, SpX v j → w0.heap.size ≤ j ∧ j < w.heap.size := fun j hj => h.own.lt j hj
theorem Spn.below {w0 w w' : World} {v : Value} {vs : List Value} {R : List (List Int)} (h : Spn w0 w v vs R) (k : Below w.heap.size w w') : Spn w0 w' v vs R := ⟨own_below h.own k, h.bs, h.row⟩
theorem Spn.only {w0 w w' : World} {v : Value} {vs : List Value} {R : List (List Int)} {S : Nat → Prop} (h : Spn w0 w v vs R) (o : Only S w w') (hS : ∀ j, SpX v j → ¬ S j) : Spn w0 w' v vs R := by
  refine ⟨⟨h.own.1, ?_⟩, h.bs, h.row⟩
  rcases h.own.2 with hn | ⟨g, cap, cur, hv, hb, hg, rest⟩
  · exact .inl hn
  · refine .inr ⟨g, cap, cur, hv, hb, (o.block g (lt_of_block hg) (hS g ?_)).trans hg, rest⟩
    rw [SpX, hv]
    rfl
theorem Spn.rowsIn {w0 w : World} {a : Option Addr} {n c : Nat} {vs : List Value} {R : List (List Int)} (h : Spn w0 w (.slice a n c) vs R) (k : Below w0.heap.size w0 w) : RowsIn w a n R := by
  have hl : vs.length = R.length := by have := h.own.1; omega
  obtain ⟨a', c', he⟩ := own_form h.own
  simp at he
  obtain ⟨rfl, hn, rfl⟩ := he
  refine ⟨hn, h.bs, ?_⟩
  by_cases h0 : R = []
  · exact .inl h0
  · have hp : 0 < R.length := List.length_pos_iff.2 h0
    rcases h.own.2 with ⟨_, h1⟩ | ⟨g, cap, cur, hv, hb, _⟩
    · omega
    simp at hv
    obtain ⟨rfl, _, rfl⟩ := hv
    subst hn
    refine .inr ⟨g, 0, rfl, fun i hi => ?_⟩
    obtain ⟨x, cx, hv, hs⟩ := h.row i hi
    refine ⟨x, cx, ?_, hs.below k⟩
    rw [Nat.zero_add, h.own.cellAt i (by omega), ← hv]
    simp [List.getD_eq_getElem?_getD, show i < vs.length by omega]

/-- One row more. -/
theorem Spn.more {w0 w w2 : World} {v v' vr : Value} {vs : List Value} {R : List (List Int)} {z : List Int} {x : Option Addr} {c : Nat} (h : Spn w0 w v vs R) (hv : vr = .slice x z.length c) (hz : Sl .u8 w0 x z.length z)
    (o2 : w2.ownsRow w0.heap.size 26 1 v' (R.length + 1) (vs ++ [vr])) : Spn w0 w2 v' (vs ++ [vr]) (R ++ [z]) := by
  have hl : vs.length = R.length := by have := h.own.1; omega
  refine ⟨by simpa using o2, ?_, ?_⟩
  · intro y hy
    rcases List.mem_append.1 hy with hy | hy
    · exact h.bs y hy
    · simp at hy; rw [hy]; exact hz.2.1
  · intro i hi
    rcases (show i < R.length ∨ i = R.length by simp at hi; omega) with h1 | rfl
    · have e1 : (vs ++ [vr]).getD i undef = vs.getD i undef := by simp [List.getD_eq_getElem?_getD, List.getElem?_append, hl, h1]
      have e2 : (R ++ [z]).getD i [] = R.getD i [] := by simp [List.getD_eq_getElem?_getD, List.getElem?_append, h1]
      rw [e1, e2]
      exact h.row i h1
    · have e1 : (vs ++ [vr]).getD R.length undef = vr := by simp [List.getD_eq_getElem?_getD, List.getElem?_append, hl]
      have e2 : (R ++ [z]).getD R.length [] = z := by simp [List.getD_eq_getElem?_getD, List.getElem?_append]
      rw [e1, e2]
      exact ⟨x, c, hv, hz⟩

/-- A log beside a spine that grows. -/
theorem Our.spine {w0 w w1 w2 : World} {X : Nat → Prop} {b l : Nat} {d : D} {g : Lg} {v v' : Value} (h : Our w0 w X b l d g) (hX : ∀ j, SpX v j → X j) (k : Below w.heap.size w w1) (g2 : w1.grownBy w2 v.ownBlock) (hv : v'.ownBlock = v.ownBlock ∨ v'.ownBlock = some w1.heap.size) (hlt : ∀ j, SpX v' j → j < w2.heap.size)
    (hlo : ∀ j, SpX v j → w0.heap.size ≤ j) (X' : Nat → Prop) (hX' : ∀ j, X' j → X j ∨ SpX v' j) : Our w0 w2 X' b l d g := by
  obtain ⟨S, hk, hS, hXl, hb⟩ := h
  have ks := k.size
  have gs := g2.size
  have o : Only (SpX v) w w2 := Only.grown (Below.onlyS k (SpX v)) g2 (fun j hj => hj)
  have hnew : ∀ j, SpX v' j → X j ∨ w.heap.size ≤ j := by
    intro j hj
    rcases hv with hv | hv
    · exact .inl (hX j (by rw [SpX, ← hv]; exact hj))
    · rw [SpX, hv] at hj; simp at hj; right; omega
  refine ⟨S, ⟨hk.deck.only o (fun j hj hs => (hS j hj.1).2.2 (hX j hs)), hk.sl, (o.block l (lt_of_block hk.at') (fun hs => (hS l hk.sl).2.2 (hX l hs))).trans hk.at'⟩, ?_, ?_, ?_⟩
  · intro j hj
    refine ⟨(hS j hj).1, by have := (hS j hj).2.1; omega, fun hx => ?_⟩
    rcases hX' j hx with h1 | h1
    · exact (hS j hj).2.2 h1
    · rcases hnew j h1 with h2 | h2
      · exact (hS j hj).2.2 h2
      · have := (hS j hj).2.1; omega
  · intro j hj
    rcases hX' j hj with h1 | h1
    · have := hXl j h1; omega
    · exact hlt j h1
  · exact hb.trans (Only.below o (fun j hj => hlo j hj) hb.size)

end Go.Proofs.Ytdecdjjknbbolaa
