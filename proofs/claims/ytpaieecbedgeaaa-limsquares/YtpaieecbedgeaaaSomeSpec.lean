/-
  Books of three accounts, as the laws make them (some): what they hold, and how they lie while they are made.
-/
import Derived.Test.YtpaieecbedgeaaaLimNew
namespace Go.Proofs.Ytpaieecbedgeaaa
open Go.RowKit
set_option linter.unusedVariables false
set_option linter.unusedSimpArgs false

/-- What the i-th has. -/
def balV (zs : List Int) (i : Nat) : Int := if i < zs.length then bits .and .i64 (zs.getD i 0) 63 else 0
def someA (zs : List Int) (z1 z4 : Bool) : List A3 := [(balV zs 0, if z1 then 7 else 0, 0), (balV zs 1, 0, if z1 then 5 else 0), (balV zs 2, if z1 then 3 else 0, if z4 then 9 else 0)]
def someB (z2 : Bool) : List (List Int) := [[-1, if z2 then 6 else -1, -1], [-1, -1, if z2 then 0 else -1], [-1, -1, -1]]
def someM (z2 z4 : Bool) : List Int := [if z4 then 8 else -1, -1, if z2 then 4 else -1]
def someP (z4 : Bool) : List (List Int) := [[0, if z4 then 3 else 0, 0], [if z4 then -3 else 0, 0, 0], [0, 0, 0]]
/-- The books. -/
def someK (zs : List Int) (z1 z2 z4 : Bool) : Bks := ⟨someA zs z1 z4, someB z2, someM z2 z4, someP z4⟩
def bitB (way m : Int) : Bool := bits .and .i64 way m == m

/-- Books that are being made: where each list lies. -/
structure Lay (w : World) (H z b0 b1 b2 sB sM p0 p1 p2 sP : Nat) (v : Value) (B0 B1 B2 M P0 P1 P2 : List Int) : Prop where
  lies : b0 = H + 1 ∧ b1 = H + 2 ∧ b2 = H + 3 ∧ sB = H + 4 ∧ sM = H + 5 ∧ p0 = H + 6 ∧ p1 = H + 7 ∧ p2 = H + 8 ∧ sP = H + 9 ∧ z = H + 10
  res : w.heap[H]? = some (.cells #[.slice none 0 0, .slice none 0 0, .slice none 0 0, .slice none 0 0] 26 (0, 0))
  box : w.heap[z]? = some (.cells #[v, .slice (some ⟨sB, 0, none⟩) 3 3, .slice (some ⟨sM, 0, none⟩) 3 3, .slice (some ⟨sP, 0, none⟩) 3 3] 26 (0, 0))
  spB : w.heap[sB]? = some (.cells #[.slice (some ⟨b0, 0, none⟩) 3 3, .slice (some ⟨b1, 0, none⟩) 3 3, .slice (some ⟨b2, 0, none⟩) 3 3] 24 (0, 0))
  r0 : Blk w b0 B0
  r1 : Blk w b1 B1
  r2 : Blk w b2 B2
  mul : Blk w sM M
  spP : w.heap[sP]? = some (.cells #[.slice (some ⟨p0, 0, none⟩) 3 3, .slice (some ⟨p1, 0, none⟩) 3 3, .slice (some ⟨p2, 0, none⟩) 3 3] 24 (0, 0))
  q0 : Blk w p0 P0
  q1 : Blk w p1 P1
  q2 : Blk w p2 P2

section
variable {w w' : World} {H z b0 b1 b2 sB sM p0 p1 p2 sP : Nat} {v : Value} {B0 B1 B2 M P0 P1 P2 : List Int}

theorem Lay.kept (h : Lay w H z b0 b1 b2 sB sM p0 p1 p2 sP v B0 B1 B2 M P0 P1 P2) (k : ∀ i, i ≤ z → w'.heap[i]? = w.heap[i]?) : Lay w' H z b0 b1 b2 sB sM p0 p1 p2 sP v B0 B1 B2 M P0 P1 P2 := by
  have e := h.lies
  exact ⟨e, (k _ (by omega)).trans h.res, (k _ (by omega)).trans h.box, (k _ (by omega)).trans h.spB, (k _ (by omega)).trans h.r0, (k _ (by omega)).trans h.r1, (k _ (by omega)).trans h.r2, (k _ (by omega)).trans h.mul, (k _ (by omega)).trans h.spP, (k _ (by omega)).trans h.q0, (k _ (by omega)).trans h.q1, (k _ (by omega)).trans h.q2⟩
theorem Lay.drew (h : Lay w H z b0 b1 b2 sB sM p0 p1 p2 sP v B0 B1 B2 M P0 P1 P2) : Lay w.drew H z b0 b1 b2 sB sM p0 p1 p2 sP v B0 B1 B2 M P0 P1 P2 := h.kept fun _ _ => rfl
theorem Lay.lt (h : Lay w H z b0 b1 b2 sB sM p0 p1 p2 sP v B0 B1 B2 M P0 P1 P2) : z < w.heap.size := lt_of_block h.box
theorem Lay.below (h : Lay w H z b0 b1 b2 sB sM p0 p1 p2 sP v B0 B1 B2 M P0 P1 P2) (k : Below w.heap.size w w') : Lay w' H z b0 b1 b2 sB sM p0 p1 p2 sP v B0 B1 B2 M P0 P1 P2 :=
  h.kept fun i hi => k.block i (by have := h.lt; omega)
theorem Lay.acc (h : Lay w H z b0 b1 b2 sB sM p0 p1 p2 sP v B0 B1 B2 M P0 P1 P2) (u : Value) : Lay (w.setCell ⟨z, 0, none⟩ u) H z b0 b1 b2 sB sM p0 p1 p2 sP u B0 B1 B2 M P0 P1 P2 := by
  have e := h.lies
  have k : ∀ i, i ≠ z → (w.setCell ⟨z, 0, none⟩ u).heap[i]? = w.heap[i]? := fun i hi => heap_setCell_other w ⟨z, 0, none⟩ i u hi
  refine ⟨e, (k _ (by omega)).trans h.res, ?_, (k _ (by omega)).trans h.spB, (k _ (by omega)).trans h.r0, (k _ (by omega)).trans h.r1, (k _ (by omega)).trans h.r2, (k _ (by omega)).trans h.mul, (k _ (by omega)).trans h.spP, (k _ (by omega)).trans h.q0, (k _ (by omega)).trans h.q1, (k _ (by omega)).trans h.q2⟩
  rw [heap_setCell_same w z 0 _ _ _ h.box]
  rfl
theorem Lay.far (h : Lay w H z b0 b1 b2 sB sM p0 p1 p2 sP v B0 B1 B2 M P0 P1 P2) {g : Nat} (hg : z < g) (i : Nat) (u : Value) : Lay (w.setCell ⟨g, i, none⟩ u) H z b0 b1 b2 sB sM p0 p1 p2 sP v B0 B1 B2 M P0 P1 P2 :=
  h.kept fun j hj => heap_setCell_other w ⟨g, i, none⟩ j u (by show j ≠ g; omega)
theorem Lay.set0 (h : Lay w H z b0 b1 b2 sB sM p0 p1 p2 sP v B0 B1 B2 M P0 P1 P2) (i : Nat) (x : Int) : Lay (w.setCell ⟨b0, i, none⟩ (.int .i64 x)) H z b0 b1 b2 sB sM p0 p1 p2 sP v (B0.set i x) B1 B2 M P0 P1 P2 := by
  have e := h.lies
  have k : ∀ j, j ≠ b0 → (w.setCell ⟨b0, i, none⟩ (.int .i64 x)).heap[j]? = w.heap[j]? := fun j hj => heap_setCell_other w ⟨b0, i, none⟩ j _ hj
  exact ⟨e, (k _ (by omega)).trans h.res, (k _ (by omega)).trans h.box, (k _ (by omega)).trans h.spB, h.r0.set i x, (k _ (by omega)).trans h.r1, (k _ (by omega)).trans h.r2, (k _ (by omega)).trans h.mul, (k _ (by omega)).trans h.spP, (k _ (by omega)).trans h.q0, (k _ (by omega)).trans h.q1, (k _ (by omega)).trans h.q2⟩
theorem Lay.set1 (h : Lay w H z b0 b1 b2 sB sM p0 p1 p2 sP v B0 B1 B2 M P0 P1 P2) (i : Nat) (x : Int) : Lay (w.setCell ⟨b1, i, none⟩ (.int .i64 x)) H z b0 b1 b2 sB sM p0 p1 p2 sP v B0 (B1.set i x) B2 M P0 P1 P2 := by
  have e := h.lies
  have k : ∀ j, j ≠ b1 → (w.setCell ⟨b1, i, none⟩ (.int .i64 x)).heap[j]? = w.heap[j]? := fun j hj => heap_setCell_other w ⟨b1, i, none⟩ j _ hj
  exact ⟨e, (k _ (by omega)).trans h.res, (k _ (by omega)).trans h.box, (k _ (by omega)).trans h.spB, (k _ (by omega)).trans h.r0, h.r1.set i x, (k _ (by omega)).trans h.r2, (k _ (by omega)).trans h.mul, (k _ (by omega)).trans h.spP, (k _ (by omega)).trans h.q0, (k _ (by omega)).trans h.q1, (k _ (by omega)).trans h.q2⟩
theorem Lay.setM (h : Lay w H z b0 b1 b2 sB sM p0 p1 p2 sP v B0 B1 B2 M P0 P1 P2) (i : Nat) (x : Int) : Lay (w.setCell ⟨sM, i, none⟩ (.int .i64 x)) H z b0 b1 b2 sB sM p0 p1 p2 sP v B0 B1 B2 (M.set i x) P0 P1 P2 := by
  have e := h.lies
  have k : ∀ j, j ≠ sM → (w.setCell ⟨sM, i, none⟩ (.int .i64 x)).heap[j]? = w.heap[j]? := fun j hj => heap_setCell_other w ⟨sM, i, none⟩ j _ hj
  exact ⟨e, (k _ (by omega)).trans h.res, (k _ (by omega)).trans h.box, (k _ (by omega)).trans h.spB, (k _ (by omega)).trans h.r0, (k _ (by omega)).trans h.r1, (k _ (by omega)).trans h.r2, h.mul.set i x, (k _ (by omega)).trans h.spP, (k _ (by omega)).trans h.q0, (k _ (by omega)).trans h.q1, (k _ (by omega)).trans h.q2⟩
theorem Lay.setP0 (h : Lay w H z b0 b1 b2 sB sM p0 p1 p2 sP v B0 B1 B2 M P0 P1 P2) (i : Nat) (x : Int) : Lay (w.setCell ⟨p0, i, none⟩ (.int .i64 x)) H z b0 b1 b2 sB sM p0 p1 p2 sP v B0 B1 B2 M (P0.set i x) P1 P2 := by
  have e := h.lies
  have k : ∀ j, j ≠ p0 → (w.setCell ⟨p0, i, none⟩ (.int .i64 x)).heap[j]? = w.heap[j]? := fun j hj => heap_setCell_other w ⟨p0, i, none⟩ j _ hj
  exact ⟨e, (k _ (by omega)).trans h.res, (k _ (by omega)).trans h.box, (k _ (by omega)).trans h.spB, (k _ (by omega)).trans h.r0, (k _ (by omega)).trans h.r1, (k _ (by omega)).trans h.r2, (k _ (by omega)).trans h.mul, (k _ (by omega)).trans h.spP, h.q0.set i x, (k _ (by omega)).trans h.q1, (k _ (by omega)).trans h.q2⟩
theorem Lay.setP1 (h : Lay w H z b0 b1 b2 sB sM p0 p1 p2 sP v B0 B1 B2 M P0 P1 P2) (i : Nat) (x : Int) : Lay (w.setCell ⟨p1, i, none⟩ (.int .i64 x)) H z b0 b1 b2 sB sM p0 p1 p2 sP v B0 B1 B2 M P0 (P1.set i x) P2 := by
  have e := h.lies
  have k : ∀ j, j ≠ p1 → (w.setCell ⟨p1, i, none⟩ (.int .i64 x)).heap[j]? = w.heap[j]? := fun j hj => heap_setCell_other w ⟨p1, i, none⟩ j _ hj
  exact ⟨e, (k _ (by omega)).trans h.res, (k _ (by omega)).trans h.box, (k _ (by omega)).trans h.spB, (k _ (by omega)).trans h.r0, (k _ (by omega)).trans h.r1, (k _ (by omega)).trans h.r2, (k _ (by omega)).trans h.mul, (k _ (by omega)).trans h.spP, (k _ (by omega)).trans h.q0, h.q1.set i x, (k _ (by omega)).trans h.q2⟩
end

/-- A cell of one's own row is written. -/
theorem own_set {w : World} {B s n g c i : Nat} {T : TypeId} {xs : List Value} (h : w.ownsRow B T s (.slice (some ⟨g, 0, none⟩) n c) n xs) (hi : i < n * s) (u : Value) : (w.setCell ⟨g, i, none⟩ u).ownsRow B T s (.slice (some ⟨g, 0, none⟩) n c) n (xs.set i u) := by
  refine ⟨by rw [List.length_set]; exact h.1, ?_⟩
  rcases h.2 with ⟨hv, h0⟩ | ⟨g', cap, cur, hv, hb, hg, h1, h2, h3, h4⟩
  · simp at hv
  · simp at hv
    obtain ⟨rfl, rfl⟩ := hv
    refine .inr ⟨g, c, cur.setIfInBounds i u, rfl, hb, ?_, h1, h2, by simp [h3], ?_⟩
    · exact heap_setCell_same w g i _ _ _ hg
    · rw [Array.toList_setIfInBounds, List.take_set, h4]
theorem own_row_block {w : World} {B s n g c : Nat} {T : TypeId} {xs : List Value} (h : w.ownsRow B T s (.slice (some ⟨g, 0, none⟩) n c) n xs) : B ≤ g ∧ (∀ j, w.frozen? ⟨g, j, none⟩ = false) ∧ ∀ j, j < n * s → w.cell? ⟨g, j, none⟩ = xs[j]? := by
  rcases h.2 with ⟨hv, h0⟩ | ⟨g', cap, cur, hv, hb, hg, h1, h2, h3, h4⟩
  · simp at hv
  · have hv' := hv
    simp at hv
    obtain ⟨rfl, rfl⟩ := hv
    exact ⟨hb, fun j => frozen_of_row w g j _ _ hg, fun j hj => h.cellAt j hj⟩

/-- Three blocks and a spine are rows. -/
theorem made_three {w : World} {B s b0 b1 b2 : Nat} {B0 B1 B2 : List Int} (hs : w.heap[s]? = some (.cells #[.slice (some ⟨b0, 0, none⟩) 3 3, .slice (some ⟨b1, 0, none⟩) 3 3, .slice (some ⟨b2, 0, none⟩) 3 3] 24 (0, 0))) (h0 : Blk w b0 B0) (h1 : Blk w b1 B1) (h2 : Blk w b2 B2)
    (l0 : B0.length = 3) (l1 : B1.length = 3) (l2 : B2.length = 3) (wf : ∀ z ∈ [B0, B1, B2], W64 z) (hB : B ≤ s ∧ B ≤ b0 ∧ B ≤ b1 ∧ B ≤ b2) (hd : b0 ≠ s ∧ b1 ≠ s ∧ b2 ≠ s ∧ b0 ≠ b1 ∧ b0 ≠ b2 ∧ b1 ≠ b2) :
    ∃ vs, MadeI w B (.slice (some ⟨s, 0, none⟩) 3 3) vs [B0, B1, B2] := by
  have o : ∀ {b : Nat} {zs : List Int}, Blk w b zs → B ≤ b → zs.length = 3 → w.ownsRow B 2 1 (.slice (some ⟨b, 0, none⟩) 3 3) zs.length (zs.map (Value.int .i64)) := fun h hb hl => by
    have := blk_own h hb (by rw [hl]; decide)
    rw [hl] at this ⊢
    exact this
  refine ⟨[.slice (some ⟨b0, 0, none⟩) 3 3, .slice (some ⟨b1, 0, none⟩) 3 3, .slice (some ⟨b2, 0, none⟩) 3 3], ⟨⟨rfl, .inr ⟨s, 3, _, rfl, hB.1, hs, Nat.le_refl _, by decide, rfl, rfl⟩⟩, ?_, ?_, ?_, wf⟩⟩
  · intro i hi
    rcases (show i = 0 ∨ i = 1 ∨ i = 2 by simp at hi; omega) with rfl | rfl | rfl
    · exact o h0 hB.2.1 l0
    · exact o h1 hB.2.2.1 l1
    · exact o h2 hB.2.2.2 l2
  · intro i hi
    rcases (show i = 0 ∨ i = 1 ∨ i = 2 by simp at hi; omega) with rfl | rfl | rfl
    · exact .inr (by simp [Value.ownBlock]; omega)
    · exact .inr (by simp [Value.ownBlock]; omega)
    · exact .inr (by simp [Value.ownBlock]; omega)
  · intro i j hi hj hij
    rcases (show i = 0 ∨ i = 1 ∨ i = 2 by simp at hi; omega) with rfl | rfl | rfl <;> rcases (show j = 0 ∨ j = 1 ∨ j = 2 by simp at hj; omega) with rfl | rfl | rfl
    all_goals first | exact absurd rfl hij | exact .inr (by simp [Value.ownBlock]; omega)

end Go.Proofs.Ytpaieecbedgeaaa
