/-
  Texts of this seat in one: SomeSpec, Some, LimPoke.
-/
import Derived.Test.YtlackjldopeigaaLimTwo
import Derived.Deep.CutRange

/-
  Books of three accounts, as the laws make them (some): what they hold, and how they lie while they are made.
-/
namespace Go.Proofs.Ytlackjldopeigaa
open Go.RowKit
set_option linter.unusedVariables false
set_option linter.unusedSimpArgs false

/-- What the i-th has. -/
def balV (zs : List Int) (i : Nat) : Int := if i < zs.length then bits .and .i64 (zs.getD i 0) 63 else 0
def someA (zs : List Int) (z1 z4 : Bool) : List A3 := [(balV zs 0, if z1 then 7 else 0, 0), (balV zs 1, 0, if z1 then 5 else 0), (balV zs 2, if z1 then 3 else 0, if z4 then 9 else 0)]
def someB (z2 : Bool) : List (List Int) := [[-1, if z2 then 6 else -1, -1], [-1, -1, if z2 then 0 else -1], [-1, -1, -1]]
def someM (z2 z4 : Bool) : List Int := [if z4 then 8 else -1, -1, if z2 then 4 else -1]
def someP (z4 : Bool) : List (List Int) := [[0, if z4 then 3 else 0, 0], [if z4 then -3 else 0, 0, 0], [0, 0, 0]]
/-- The books. -/
def someK (zs : List Int) (z1 z2 z4 : Bool) : Bks := ⟨someA zs z1 z4, someB z2, someM z2 z4, someP z4⟩
def bitB (way m : Int) : Bool := bits .and .i64 way m == m

/-- Books that are being made: where each list lies. -/
structure Lay (w : World) (H z b0 b1 b2 sB sM p0 p1 p2 sP : Nat) (v : Value) (B0 B1 B2 M P0 P1 P2 : List Int) : Prop where
  lies : b0 = H + 1 ∧ b1 = H + 2 ∧ b2 = H + 3 ∧ sB = H + 4 ∧ sM = H + 5 ∧ p0 = H + 6 ∧ p1 = H + 7 ∧ p2 = H + 8 ∧ sP = H + 9 ∧ z = H + 10
  res : w.heap[H]? = some (.cells #[.slice none 0 0, .slice none 0 0, .slice none 0 0, .slice none 0 0] 27 (0, 0))
  box : w.heap[z]? = some (.cells #[v, .slice (some ⟨sB, 0, none⟩) 3 3, .slice (some ⟨sM, 0, none⟩) 3 3, .slice (some ⟨sP, 0, none⟩) 3 3] 27 (0, 0))
  spB : w.heap[sB]? = some (.cells #[.slice (some ⟨b0, 0, none⟩) 3 3, .slice (some ⟨b1, 0, none⟩) 3 3, .slice (some ⟨b2, 0, none⟩) 3 3] 22 (0, 0))
  r0 : Blk w b0 B0
  r1 : Blk w b1 B1
  r2 : Blk w b2 B2
  mul : Blk w sM M
  spP : w.heap[sP]? = some (.cells #[.slice (some ⟨p0, 0, none⟩) 3 3, .slice (some ⟨p1, 0, none⟩) 3 3, .slice (some ⟨p2, 0, none⟩) 3 3] 22 (0, 0))
  q0 : Blk w p0 P0
  q1 : Blk w p1 P1
  q2 : Blk w p2 P2

section
variable {w w' : World} {H z b0 b1 b2 sB sM p0 p1 p2 sP : Nat} {v : Value} {B0 B1 B2 M P0 P1 P2 : List Int}

theorem Lay.kept (h : Lay w H z b0 b1 b2 sB sM p0 p1 p2 sP v B0 B1 B2 M P0 P1 P2) (k : ∀ i, i ≤ z → w'.heap[i]? = w.heap[i]?) : Lay w' H z b0 b1 b2 sB sM p0 p1 p2 sP v B0 B1 B2 M P0 P1 P2 := by
  have e := h.lies
  exact ⟨e, (k _ (by omega)).trans h.res, (k _ (by omega)).trans h.box, (k _ (by omega)).trans h.spB, (k _ (by omega)).trans h.r0, (k _ (by omega)).trans h.r1, (k _ (by omega)).trans h.r2, (k _ (by omega)).trans h.mul, (k _ (by omega)).trans h.spP, (k _ (by omega)).trans h.q0, (k _ (by omega)).trans h.q1, (k _ (by omega)).trans h.q2⟩
theorem Lay.drew (h : Lay w H z b0 b1 b2 sB sM p0 p1 p2 sP v B0 B1 B2 M P0 P1 P2) : Lay w.drew H z b0 b1 b2 sB sM p0 p1 p2 sP v B0 B1 B2 M P0 P1 P2 := h.kept fun _ _ => rfl
theorem Lay.lt (h : Lay w H z b0 b1 b2 sB sM p0 p1 p2 sP v B0 B1 B2 M P0 P1 P2) : z < w.heap.size := lt_of_block h.box
theorem Lay.below (h : Lay w H z b0 b1 b2 sB sM p0 p1 p2 sP v B0 B1 B2 M P0 P1 P2) (k : Below w.heap.size w w') : Lay w' H z b0 b1 b2 sB sM p0 p1 p2 sP v B0 B1 B2 M P0 P1 P2 :=
  h.kept fun i hi => k.block i (by have := h.lt; omega)
theorem Lay.acc (h : Lay w H z b0 b1 b2 sB sM p0 p1 p2 sP v B0 B1 B2 M P0 P1 P2) (u : Value) : Lay (w.setCell ⟨z, 0, none⟩ u) H z b0 b1 b2 sB sM p0 p1 p2 sP u B0 B1 B2 M P0 P1 P2 := by
  have e := h.lies
  have k : ∀ i, i ≠ z → (w.setCell ⟨z, 0, none⟩ u).heap[i]? = w.heap[i]? := fun i hi => heap_setCell_other w ⟨z, 0, none⟩ i u hi
  refine ⟨e, (k _ (by omega)).trans h.res, ?_, (k _ (by omega)).trans h.spB, (k _ (by omega)).trans h.r0, (k _ (by omega)).trans h.r1, (k _ (by omega)).trans h.r2, (k _ (by omega)).trans h.mul, (k _ (by omega)).trans h.spP, (k _ (by omega)).trans h.q0, (k _ (by omega)).trans h.q1, (k _ (by omega)).trans h.q2⟩
  rw [heap_setCell_same w z 0 _ _ _ h.box]
  rfl
theorem Lay.far (h : Lay w H z b0 b1 b2 sB sM p0 p1 p2 sP v B0 B1 B2 M P0 P1 P2) {g : Nat} (hg : z < g) (i : Nat) (u : Value) : Lay (w.setCell ⟨g, i, none⟩ u) H z b0 b1 b2 sB sM p0 p1 p2 sP v B0 B1 B2 M P0 P1 P2 :=
  h.kept fun j hj => heap_setCell_other w ⟨g, i, none⟩ j u (by show j ≠ g; omega)
theorem Lay.set0 (h : Lay w H z b0 b1 b2 sB sM p0 p1 p2 sP v B0 B1 B2 M P0 P1 P2) (i : Nat) (x : Int) : Lay (w.setCell ⟨b0, i, none⟩ (.int .i64 x)) H z b0 b1 b2 sB sM p0 p1 p2 sP v (B0.set i x) B1 B2 M P0 P1 P2 := by
  have e := h.lies
  have k : ∀ j, j ≠ b0 → (w.setCell ⟨b0, i, none⟩ (.int .i64 x)).heap[j]? = w.heap[j]? := fun j hj => heap_setCell_other w ⟨b0, i, none⟩ j _ hj
  exact ⟨e, (k _ (by omega)).trans h.res, (k _ (by omega)).trans h.box, (k _ (by omega)).trans h.spB, h.r0.set i x, (k _ (by omega)).trans h.r1, (k _ (by omega)).trans h.r2, (k _ (by omega)).trans h.mul, (k _ (by omega)).trans h.spP, (k _ (by omega)).trans h.q0, (k _ (by omega)).trans h.q1, (k _ (by omega)).trans h.q2⟩
theorem Lay.set1 (h : Lay w H z b0 b1 b2 sB sM p0 p1 p2 sP v B0 B1 B2 M P0 P1 P2) (i : Nat) (x : Int) : Lay (w.setCell ⟨b1, i, none⟩ (.int .i64 x)) H z b0 b1 b2 sB sM p0 p1 p2 sP v B0 (B1.set i x) B2 M P0 P1 P2 := by
  have e := h.lies
  have k : ∀ j, j ≠ b1 → (w.setCell ⟨b1, i, none⟩ (.int .i64 x)).heap[j]? = w.heap[j]? := fun j hj => heap_setCell_other w ⟨b1, i, none⟩ j _ hj
  exact ⟨e, (k _ (by omega)).trans h.res, (k _ (by omega)).trans h.box, (k _ (by omega)).trans h.spB, (k _ (by omega)).trans h.r0, h.r1.set i x, (k _ (by omega)).trans h.r2, (k _ (by omega)).trans h.mul, (k _ (by omega)).trans h.spP, (k _ (by omega)).trans h.q0, (k _ (by omega)).trans h.q1, (k _ (by omega)).trans h.q2⟩
theorem Lay.setM (h : Lay w H z b0 b1 b2 sB sM p0 p1 p2 sP v B0 B1 B2 M P0 P1 P2) (i : Nat) (x : Int) : Lay (w.setCell ⟨sM, i, none⟩ (.int .i64 x)) H z b0 b1 b2 sB sM p0 p1 p2 sP v B0 B1 B2 (M.set i x) P0 P1 P2 := by
  have e := h.lies
  have k : ∀ j, j ≠ sM → (w.setCell ⟨sM, i, none⟩ (.int .i64 x)).heap[j]? = w.heap[j]? := fun j hj => heap_setCell_other w ⟨sM, i, none⟩ j _ hj
  exact ⟨e, (k _ (by omega)).trans h.res, (k _ (by omega)).trans h.box, (k _ (by omega)).trans h.spB, (k _ (by omega)).trans h.r0, (k _ (by omega)).trans h.r1, (k _ (by omega)).trans h.r2, h.mul.set i x, (k _ (by omega)).trans h.spP, (k _ (by omega)).trans h.q0, (k _ (by omega)).trans h.q1, (k _ (by omega)).trans h.q2⟩
theorem Lay.setP0 (h : Lay w H z b0 b1 b2 sB sM p0 p1 p2 sP v B0 B1 B2 M P0 P1 P2) (i : Nat) (x : Int) : Lay (w.setCell ⟨p0, i, none⟩ (.int .i64 x)) H z b0 b1 b2 sB sM p0 p1 p2 sP v B0 B1 B2 M (P0.set i x) P1 P2 := by
  have e := h.lies
  have k : ∀ j, j ≠ p0 → (w.setCell ⟨p0, i, none⟩ (.int .i64 x)).heap[j]? = w.heap[j]? := fun j hj => heap_setCell_other w ⟨p0, i, none⟩ j _ hj
  exact ⟨e, (k _ (by omega)).trans h.res, (k _ (by omega)).trans h.box, (k _ (by omega)).trans h.spB, (k _ (by omega)).trans h.r0, (k _ (by omega)).trans h.r1, (k _ (by omega)).trans h.r2, (k _ (by omega)).trans h.mul, (k _ (by omega)).trans h.spP, h.q0.set i x, (k _ (by omega)).trans h.q1, (k _ (by omega)).trans h.q2⟩
theorem Lay.setP1 (h : Lay w H z b0 b1 b2 sB sM p0 p1 p2 sP v B0 B1 B2 M P0 P1 P2) (i : Nat) (x : Int) : Lay (w.setCell ⟨p1, i, none⟩ (.int .i64 x)) H z b0 b1 b2 sB sM p0 p1 p2 sP v B0 B1 B2 M P0 (P1.set i x) P2 := by
  have e := h.lies
  have k : ∀ j, j ≠ p1 → (w.setCell ⟨p1, i, none⟩ (.int .i64 x)).heap[j]? = w.heap[j]? := fun j hj => heap_setCell_other w ⟨p1, i, none⟩ j _ hj
  exact ⟨e, (k _ (by omega)).trans h.res, (k _ (by omega)).trans h.box, (k _ (by omega)).trans h.spB, (k _ (by omega)).trans h.r0, (k _ (by omega)).trans h.r1, (k _ (by omega)).trans h.r2, (k _ (by omega)).trans h.mul, (k _ (by omega)).trans h.spP, (k _ (by omega)).trans h.q0, h.q1.set i x, (k _ (by omega)).trans h.q2⟩
end

/-- A cell of one's own row is written. -/
theorem own_set {w : World} {B s n g c i : Nat} {T : TypeId} {xs : List Value} (h : w.ownsRow B T s (.slice (some ⟨g, 0, none⟩) n c) n xs) (hi : i < n * s) (u : Value) : (w.setCell ⟨g, i, none⟩ u).ownsRow B T s (.slice (some ⟨g, 0, none⟩) n c) n (xs.set i u) := by
  refine ⟨by rw [List.length_set]; exact h.1, ?_⟩
  rcases h.2 with ⟨hv, h0⟩ | ⟨g', cap, cur, hv, hb, hg, h1, h2, h3, h4⟩
  · simp at hv
  · simp at hv
    obtain ⟨rfl, rfl⟩ := hv
    refine .inr ⟨g, c, cur.setIfInBounds i u, rfl, hb, ?_, h1, h2, by simp [h3], ?_⟩
    · exact heap_setCell_same w g i _ _ _ hg
    · rw [Array.toList_setIfInBounds, List.take_set, h4]
theorem own_row_block {w : World} {B s n g c : Nat} {T : TypeId} {xs : List Value} (h : w.ownsRow B T s (.slice (some ⟨g, 0, none⟩) n c) n xs) : B ≤ g ∧ (∀ j, w.frozen? ⟨g, j, none⟩ = false) ∧ ∀ j, j < n * s → w.cell? ⟨g, j, none⟩ = xs[j]? := by
  rcases h.2 with ⟨hv, h0⟩ | ⟨g', cap, cur, hv, hb, hg, h1, h2, h3, h4⟩
  · simp at hv
  · have hv' := hv
    simp at hv
    obtain ⟨rfl, rfl⟩ := hv
    exact ⟨hb, fun j => frozen_of_row w g j _ _ hg, fun j hj => h.cellAt j hj⟩

/-- Three blocks and a spine are rows. -/
theorem made_three {w : World} {B s b0 b1 b2 : Nat} {B0 B1 B2 : List Int} (hs : w.heap[s]? = some (.cells #[.slice (some ⟨b0, 0, none⟩) 3 3, .slice (some ⟨b1, 0, none⟩) 3 3, .slice (some ⟨b2, 0, none⟩) 3 3] 22 (0, 0))) (h0 : Blk w b0 B0) (h1 : Blk w b1 B1) (h2 : Blk w b2 B2)
    (l0 : B0.length = 3) (l1 : B1.length = 3) (l2 : B2.length = 3) (wf : ∀ z ∈ [B0, B1, B2], W64 z) (hB : B ≤ s ∧ B ≤ b0 ∧ B ≤ b1 ∧ B ≤ b2) (hd : b0 ≠ s ∧ b1 ≠ s ∧ b2 ≠ s ∧ b0 ≠ b1 ∧ b0 ≠ b2 ∧ b1 ≠ b2) :
    ∃ vs, MadeI w B (.slice (some ⟨s, 0, none⟩) 3 3) vs [B0, B1, B2] := by
  have o : ∀ {b : Nat} {zs : List Int}, Blk w b zs → B ≤ b → zs.length = 3 → w.ownsRow B 2 1 (.slice (some ⟨b, 0, none⟩) 3 3) zs.length (zs.map (Value.int .i64)) := fun h hb hl => by
    have := blk_own h hb (by rw [hl]; decide)
    rw [hl] at this ⊢
    exact this
  refine ⟨[.slice (some ⟨b0, 0, none⟩) 3 3, .slice (some ⟨b1, 0, none⟩) 3 3, .slice (some ⟨b2, 0, none⟩) 3 3], ⟨⟨rfl, .inr ⟨s, 3, _, rfl, hB.1, hs, Nat.le_refl _, by decide, rfl, rfl⟩⟩, ?_, ?_, ?_, wf⟩⟩
  · intro i hi
    rcases (show i = 0 ∨ i = 1 ∨ i = 2 by simp at hi; omega) with rfl | rfl | rfl
    · exact o h0 hB.2.1 l0
    · exact o h1 hB.2.2.1 l1
    · exact o h2 hB.2.2.2 l2
  · intro i hi
    rcases (show i = 0 ∨ i = 1 ∨ i = 2 by simp at hi; omega) with rfl | rfl | rfl
    · exact .inr (by simp [Value.ownBlock]; omega)
    · exact .inr (by simp [Value.ownBlock]; omega)
    · exact .inr (by simp [Value.ownBlock]; omega)
  · intro i j hi hj hij
    rcases (show i = 0 ∨ i = 1 ∨ i = 2 by simp at hi; omega) with rfl | rfl | rfl <;> rcases (show j = 0 ∨ j = 1 ∨ j = 2 by simp at hj; omega) with rfl | rfl | rfl
    all_goals first | exact absurd rfl hij | exact .inr (by simp [Value.ownBlock]; omega)

end Go.Proofs.Ytlackjldopeigaa

/-
  Books of three accounts, as the laws make them (some).
-/
namespace Go.Proofs.Ytlackjldopeigaa
open Go.RowKit
set_option linter.unusedVariables false
set_option linter.unusedSimpArgs false

theorem some_start (w w1 : World) (h : w1 = (((((((((((w.alloc (.cells #[.slice none 0 0, .slice none 0 0, .slice none 0 0, .slice none 0 0] 27)).alloc (.cells #[.int .i64 (-1), .int .i64 (-1), .int .i64 (-1)] 2)).alloc (.cells #[.int .i64 (-1), .int .i64 (-1), .int .i64 (-1)] 2)).alloc (.cells #[.int .i64 (-1), .int .i64 (-1), .int .i64 (-1)] 2)).alloc (.cells #[.slice (some ⟨w.heap.size + 1, 0, none⟩) 3 3, .slice (some ⟨w.heap.size + 1 + 1, 0, none⟩) 3 3, .slice (some ⟨w.heap.size + 1 + 1 + 1, 0, none⟩) 3 3] 22)).alloc (.cells #[.int .i64 (-1), .int .i64 (-1), .int .i64 (-1)] 2)).alloc (.cells #[.int .i64 0, .int .i64 0, .int .i64 0] 2)).alloc (.cells #[.int .i64 0, .int .i64 0, .int .i64 0] 2)).alloc (.cells #[.int .i64 0, .int .i64 0, .int .i64 0] 2)).alloc (.cells #[.slice (some ⟨w.heap.size + 1 + 1 + 1 + 1 + 1 + 1, 0, none⟩) 3 3, .slice (some ⟨w.heap.size + 1 + 1 + 1 + 1 + 1 + 1 + 1, 0, none⟩) 3 3, .slice (some ⟨w.heap.size + 1 + 1 + 1 + 1 + 1 + 1 + 1 + 1, 0, none⟩) 3 3] 22)).alloc (.cells #[.slice none 0 0, .slice (some ⟨w.heap.size + 1 + 1 + 1 + 1, 0, none⟩) 3 3, .slice (some ⟨w.heap.size + 1 + 1 + 1 + 1 + 1, 0, none⟩) 3 3, .slice (some ⟨w.heap.size + 1 + 1 + 1 + 1 + 1 + 1 + 1 + 1 + 1, 0, none⟩) 3 3] 27))) : Lay w1 w.heap.size (w.heap.size + 10) (w.heap.size + 1) (w.heap.size + 2) (w.heap.size + 3) (w.heap.size + 4) (w.heap.size + 5) (w.heap.size + 6) (w.heap.size + 7) (w.heap.size + 8) (w.heap.size + 9) (.slice none 0 0) [-1, -1, -1] [-1, -1, -1] [-1, -1, -1] [-1, -1, -1] [0, 0, 0] [0, 0, 0] [0, 0, 0] ∧ Below w.heap.size w w1 ∧ w1.heap.size = w.heap.size + 11 := by
  have at' : ∀ (u : World) (o : Obj) (n : Nat), u.heap.size = n → (u.alloc o).heap[n]? = some o := fun u o n e => by rw [← e]; exact heap_alloc_new u o
  have old : ∀ (u : World) (o : Obj) (n : Nat), n < u.heap.size → (u.alloc o).heap[n]? = u.heap[n]? := fun u o n e => Below.heap_alloc u o n e
  subst h
  refine ⟨⟨by omega, ?_, ?_, ?_, ?_, ?_, ?_, ?_, ?_, ?_, ?_, ?_⟩, ?_, by simp only [size_alloc]⟩
  · rw [old _ _ _ (by simp only [size_alloc] <;> omega)]; rw [old _ _ _ (by simp only [size_alloc] <;> omega)]; rw [old _ _ _ (by simp only [size_alloc] <;> omega)]; rw [old _ _ _ (by simp only [size_alloc] <;> omega)]; rw [old _ _ _ (by simp only [size_alloc] <;> omega)]; rw [old _ _ _ (by simp only [size_alloc] <;> omega)]; rw [old _ _ _ (by simp only [size_alloc] <;> omega)]; rw [old _ _ _ (by simp only [size_alloc] <;> omega)]; rw [old _ _ _ (by simp only [size_alloc] <;> omega)]; rw [old _ _ _ (by simp only [size_alloc] <;> omega)]; exact at' _ _ _ (by simp only [size_alloc] <;> omega)
  · exact at' _ _ _ (by simp only [size_alloc] <;> omega)
  · rw [old _ _ _ (by simp only [size_alloc] <;> omega)]; rw [old _ _ _ (by simp only [size_alloc] <;> omega)]; rw [old _ _ _ (by simp only [size_alloc] <;> omega)]; rw [old _ _ _ (by simp only [size_alloc] <;> omega)]; rw [old _ _ _ (by simp only [size_alloc] <;> omega)]; rw [old _ _ _ (by simp only [size_alloc] <;> omega)]; exact at' _ _ _ (by simp only [size_alloc] <;> omega)
  · unfold Blk; rw [old _ _ _ (by simp only [size_alloc] <;> omega)]; rw [old _ _ _ (by simp only [size_alloc] <;> omega)]; rw [old _ _ _ (by simp only [size_alloc] <;> omega)]; rw [old _ _ _ (by simp only [size_alloc] <;> omega)]; rw [old _ _ _ (by simp only [size_alloc] <;> omega)]; rw [old _ _ _ (by simp only [size_alloc] <;> omega)]; rw [old _ _ _ (by simp only [size_alloc] <;> omega)]; rw [old _ _ _ (by simp only [size_alloc] <;> omega)]; rw [old _ _ _ (by simp only [size_alloc] <;> omega)]; exact at' _ _ _ (by simp only [size_alloc] <;> omega)
  · unfold Blk; rw [old _ _ _ (by simp only [size_alloc] <;> omega)]; rw [old _ _ _ (by simp only [size_alloc] <;> omega)]; rw [old _ _ _ (by simp only [size_alloc] <;> omega)]; rw [old _ _ _ (by simp only [size_alloc] <;> omega)]; rw [old _ _ _ (by simp only [size_alloc] <;> omega)]; rw [old _ _ _ (by simp only [size_alloc] <;> omega)]; rw [old _ _ _ (by simp only [size_alloc] <;> omega)]; rw [old _ _ _ (by simp only [size_alloc] <;> omega)]; exact at' _ _ _ (by simp only [size_alloc] <;> omega)
  · unfold Blk; rw [old _ _ _ (by simp only [size_alloc] <;> omega)]; rw [old _ _ _ (by simp only [size_alloc] <;> omega)]; rw [old _ _ _ (by simp only [size_alloc] <;> omega)]; rw [old _ _ _ (by simp only [size_alloc] <;> omega)]; rw [old _ _ _ (by simp only [size_alloc] <;> omega)]; rw [old _ _ _ (by simp only [size_alloc] <;> omega)]; rw [old _ _ _ (by simp only [size_alloc] <;> omega)]; exact at' _ _ _ (by simp only [size_alloc] <;> omega)
  · unfold Blk; rw [old _ _ _ (by simp only [size_alloc] <;> omega)]; rw [old _ _ _ (by simp only [size_alloc] <;> omega)]; rw [old _ _ _ (by simp only [size_alloc] <;> omega)]; rw [old _ _ _ (by simp only [size_alloc] <;> omega)]; rw [old _ _ _ (by simp only [size_alloc] <;> omega)]; exact at' _ _ _ (by simp only [size_alloc] <;> omega)
  · rw [old _ _ _ (by simp only [size_alloc] <;> omega)]; exact at' _ _ _ (by simp only [size_alloc] <;> omega)
  · unfold Blk; rw [old _ _ _ (by simp only [size_alloc] <;> omega)]; rw [old _ _ _ (by simp only [size_alloc] <;> omega)]; rw [old _ _ _ (by simp only [size_alloc] <;> omega)]; rw [old _ _ _ (by simp only [size_alloc] <;> omega)]; exact at' _ _ _ (by simp only [size_alloc] <;> omega)
  · unfold Blk; rw [old _ _ _ (by simp only [size_alloc] <;> omega)]; rw [old _ _ _ (by simp only [size_alloc] <;> omega)]; rw [old _ _ _ (by simp only [size_alloc] <;> omega)]; exact at' _ _ _ (by simp only [size_alloc] <;> omega)
  · unfold Blk; rw [old _ _ _ (by simp only [size_alloc] <;> omega)]; rw [old _ _ _ (by simp only [size_alloc] <;> omega)]; exact at' _ _ _ (by simp only [size_alloc] <;> omega)
  · refine ⟨rfl, rfl, rfl, by simp only [size_alloc] <;> omega, fun k hk => ?_⟩
    rw [old _ _ _ (by simp only [size_alloc] <;> omega)]; rw [old _ _ _ (by simp only [size_alloc] <;> omega)]; rw [old _ _ _ (by simp only [size_alloc] <;> omega)]; rw [old _ _ _ (by simp only [size_alloc] <;> omega)]; rw [old _ _ _ (by simp only [size_alloc] <;> omega)]; rw [old _ _ _ (by simp only [size_alloc] <;> omega)]; rw [old _ _ _ (by simp only [size_alloc] <;> omega)]; rw [old _ _ _ (by simp only [size_alloc] <;> omega)]; rw [old _ _ _ (by simp only [size_alloc] <;> omega)]; rw [old _ _ _ (by simp only [size_alloc] <;> omega)]; exact Below.heap_alloc w _ k hk

theorem bal_yes {zs : List Int} {n k : Nat} (hn : n = zs.length) (h : k < n) : bits .and .i64 (zs.getD k 0) 63 = balV zs k := by unfold balV; rw [if_pos (by omega)]
theorem bal_no {zs : List Int} {n k : Nat} (hn : n = zs.length) (h : ¬ k < n) : 0 = balV zs k := by unfold balV; rw [if_neg (by omega)]
/-- The first k accounts. -/
def accK (zs : List Int) (k : Nat) : List A3 := (List.range k).map fun i => (balV zs i, 0, 0)
theorem accK_succ (zs : List Int) (k : Nat) : accK zs (k + 1) = accK zs k ++ [(balV zs k, 0, 0)] := by simp [accK, List.range_succ]
theorem accK_len (zs : List Int) (k : Nat) : (accK zs k).length = k := by simp [accK]

theorem someB_wf (z2 : Bool) : ∀ z ∈ someB z2, W64 z := by
  cases z2
  all_goals
    show ∀ z ∈ _, ∀ n ∈ z, IntKind.i64.wrap n = n
    decide
theorem someM_wf (z2 z4 : Bool) : W64 (someM z2 z4) := by
  cases z2 <;> cases z4
  all_goals
    show ∀ n ∈ _, IntKind.i64.wrap n = n
    decide
theorem someP_wf (z4 : Bool) : ∀ z ∈ someP z4, W64 z := by
  cases z4
  all_goals
    show ∀ z ∈ _, ∀ n ∈ z, IntKind.i64.wrap n = n
    decide

/-- What they leave. -/
def SomeEnd (w : World) (b : Bks) (e : Ending) (w' : World) : Prop := ∃ y : BA, e = .returned y.val ∧ NewBk w' w.heap.size y b ∧ Below w.heap.size w w'
/-- Where each list lies, behind H. -/
structure Lay3 (w : World) (H g vc : Nat) (A : List A3) (B0 B1 B2 M P0 P1 P2 : List Int) : Prop where
  gt : H + 10 < g
  acc : w.ownsRow (H + 11) 53 3 (.slice (some ⟨g, 0, none⟩) 3 vc) 3 (accL A)
  len : A.length = 3
  spB : w.heap[H + 4]? = some (.cells #[.slice (some ⟨H + 1, 0, none⟩) 3 3, .slice (some ⟨H + 2, 0, none⟩) 3 3, .slice (some ⟨H + 3, 0, none⟩) 3 3] 22 (0, 0))
  r0 : Blk w (H + 1) B0
  r1 : Blk w (H + 2) B1
  r2 : Blk w (H + 3) B2
  mul : Blk w (H + 5) M
  spP : w.heap[H + 9]? = some (.cells #[.slice (some ⟨H + 6, 0, none⟩) 3 3, .slice (some ⟨H + 7, 0, none⟩) 3 3, .slice (some ⟨H + 8, 0, none⟩) 3 3] 22 (0, 0))
  q0 : Blk w (H + 6) P0
  q1 : Blk w (H + 7) P1
  q2 : Blk w (H + 8) P2
/-- The books themselves. -/
def ba3 (H g vc : Nat) : BA := ⟨some ⟨g, 0, none⟩, 3, vc, some ⟨H + 4, 0, none⟩, 3, 3, some ⟨H + 5, 0, none⟩, 3, 3, some ⟨H + 9, 0, none⟩, 3, 3⟩
theorem Lay3.newBk {w : World} {H g vc : Nat} {A : List A3} {B0 B1 B2 M P0 P1 P2 : List Int} (h : Lay3 w H g vc A B0 B1 B2 M P0 P1 P2)
    (ll : B0.length = 3 ∧ B1.length = 3 ∧ B2.length = 3 ∧ M.length = 3 ∧ P0.length = 3 ∧ P1.length = 3 ∧ P2.length = 3) (wB : ∀ z ∈ [B0, B1, B2], W64 z) (wM : W64 M) (wP : ∀ z ∈ [P0, P1, P2], W64 z) : NewBk w H (ba3 H g vc) ⟨A, [B0, B1, B2], M, [P0, P1, P2]⟩ := by
  obtain ⟨l0, l1, l2, lM, m0, m1, m2⟩ := ll
  refine ⟨?_, ?_, ?_, ?_, wM⟩
  · show w.ownsRow _ _ _ _ A.length _
    rw [h.len]
    exact own_base h.acc (by omega)
  · exact made_three h.spB h.r0 h.r1 h.r2 l0 l1 l2 wB (by omega) (by omega)
  · have := blk_own h.mul (B := H) (by omega) (by rw [lM]; decide)
    show w.ownsRow _ _ _ _ M.length _
    rw [lM] at this ⊢
    exact this
  · exact made_three h.spP h.q0 h.q1 h.q2 m0 m1 m2 wP (by omega) (by omega)
/-- What they leave, and where. -/
def SomeEnd3 (w : World) (A : List A3) (B0 B1 B2 M P0 P1 P2 : List Int) (e : Ending) (w' : World) : Prop := ∃ g vc, e = .returned (ba3 w.heap.size g vc).val ∧ Lay3 w' w.heap.size g vc A B0 B1 B2 M P0 P1 P2 ∧ Below w.heap.size w w'

def SomeEndK (w : World) (zs : List Int) (z1 z2 z4 : Bool) (e : Ending) (w' : World) : Prop := SomeEnd3 w (someA zs z1 z4) [-1, if z2 then 6 else -1, -1] [-1, -1, if z2 then 0 else -1] [-1, -1, -1] [if z4 then 8 else -1, -1, if z2 then 4 else -1] [0, if z4 then 3 else 0, 0] [if z4 then -3 else 0, 0, 0] [0, 0, 0] e w'

/-- Behind the last store they are made. -/
theorem some_done {w wf : World} {z b0 b1 b2 sB sM p0 p1 p2 sP g vc : Nat} {B0 B1 B2 M P0 P1 P2 : List Int} {A : List A3} (lay : Lay wf w.heap.size z b0 b1 b2 sB sM p0 p1 p2 sP (.slice (some ⟨g, 0, none⟩) 3 vc) B0 B1 B2 M P0 P1 P2) (own : wf.ownsRow (z + 1) 53 3 (.slice (some ⟨g, 0, none⟩) 3 vc) 3 (accL A)) (hA : A.length = 3) (bel : Below w.heap.size w wf) :
    SomeEnd3 w A B0 B1 B2 M P0 P1 P2 (.returned (BA.val ⟨some ⟨g, 0, none⟩, 3, vc, some ⟨sB, 0, none⟩, 3, 3, some ⟨sM, 0, none⟩, 3, 3, some ⟨sP, 0, none⟩, 3, 3⟩)) (wf.setRow w.heap.size #[.slice (some ⟨g, 0, none⟩) 3 vc, .slice (some ⟨sB, 0, none⟩) 3 3, .slice (some ⟨sM, 0, none⟩) 3 3, .slice (some ⟨sP, 0, none⟩) 3 3]) := by
  obtain ⟨rfl, rfl, rfl, rfl, rfl, rfl, rfl, rfl, rfl, rfl⟩ := lay.lies
  have k : ∀ i, w.heap.size + 1 ≤ i → ∀ cs : Array Value, (wf.setRow w.heap.size cs).heap[i]? = wf.heap[i]? := fun i hi cs => setRow_other wf w.heap.size i _ (by omega)
  refine ⟨g, vc, rfl, ⟨?_, ?_, hA, (k _ (by omega) _).trans lay.spB, (k _ (by omega) _).trans lay.r0, (k _ (by omega) _).trans lay.r1, (k _ (by omega) _).trans lay.r2, (k _ (by omega) _).trans lay.mul, (k _ (by omega) _).trans lay.spP, (k _ (by omega) _).trans lay.q0, (k _ (by omega) _).trans lay.q1, (k _ (by omega) _).trans lay.q2⟩, below_setRow bel (Nat.le_refl _) _⟩
  · have := (own_row_block own).1; omega
  · exact own_kept own fun i hi => k i (by have hi : w.heap.size + 10 + 1 ≤ i := hi; omega) _
theorem some_box {w wf : World} {z b0 b1 b2 sB sM p0 p1 p2 sP g vc : Nat} {B0 B1 B2 M P0 P1 P2 : List Int} (lay : Lay wf w.heap.size z b0 b1 b2 sB sM p0 p1 p2 sP (.slice (some ⟨g, 0, none⟩) 3 vc) B0 B1 B2 M P0 P1 P2) :
    Box4 (wf.setRow w.heap.size #[.slice (some ⟨g, 0, none⟩) 3 vc, .slice (some ⟨sB, 0, none⟩) 3 3, .slice (some ⟨sM, 0, none⟩) 3 3, .slice (some ⟨sP, 0, none⟩) 3 3]) w.heap.size ⟨some ⟨g, 0, none⟩, 3, vc, some ⟨sB, 0, none⟩, 3, 3, some ⟨sM, 0, none⟩, 3, 3, some ⟨sP, 0, none⟩, 3, 3⟩ := by
  have hr := setRow_heap wf w.heap.size _ #[.slice (some ⟨g, 0, none⟩) 3 vc, .slice (some ⟨sB, 0, none⟩) 3 3, .slice (some ⟨sM, 0, none⟩) 3 3, .slice (some ⟨sP, 0, none⟩) 3 3] _ _ lay.res
  refine ⟨?_, ?_, ?_, ?_⟩ <;> (rw [cell_of_row _ _ _ _ _ _ hr]; rfl)

set_option maxHeartbeats 8000000 in
set_option maxRecDepth 100000 in
theorem some3_any (a : Option Addr) (n c : Nat) (zs : List Int) (way : Int) (w : World) (h : Sl .i64 w a n zs) (hm : n ≤ 9223372036854775807) : Calls Try.prog 9 #[.slice a n c, .int .i64 way] w (SomeEndK w zs (bitB way 1) (bitB way 2) (bitB way 4)) := by
  obtain ⟨w1, hw1⟩ : ∃ w1, w1 = (((((((((((w.alloc (.cells #[.slice none 0 0, .slice none 0 0, .slice none 0 0, .slice none 0 0] 27)).alloc (.cells #[.int .i64 (-1), .int .i64 (-1), .int .i64 (-1)] 2)).alloc (.cells #[.int .i64 (-1), .int .i64 (-1), .int .i64 (-1)] 2)).alloc (.cells #[.int .i64 (-1), .int .i64 (-1), .int .i64 (-1)] 2)).alloc (.cells #[.slice (some ⟨w.heap.size + 1, 0, none⟩) 3 3, .slice (some ⟨w.heap.size + 1 + 1, 0, none⟩) 3 3, .slice (some ⟨w.heap.size + 1 + 1 + 1, 0, none⟩) 3 3] 22)).alloc (.cells #[.int .i64 (-1), .int .i64 (-1), .int .i64 (-1)] 2)).alloc (.cells #[.int .i64 0, .int .i64 0, .int .i64 0] 2)).alloc (.cells #[.int .i64 0, .int .i64 0, .int .i64 0] 2)).alloc (.cells #[.int .i64 0, .int .i64 0, .int .i64 0] 2)).alloc (.cells #[.slice (some ⟨w.heap.size + 1 + 1 + 1 + 1 + 1 + 1, 0, none⟩) 3 3, .slice (some ⟨w.heap.size + 1 + 1 + 1 + 1 + 1 + 1 + 1, 0, none⟩) 3 3, .slice (some ⟨w.heap.size + 1 + 1 + 1 + 1 + 1 + 1 + 1 + 1, 0, none⟩) 3 3] 22)).alloc (.cells #[.slice none 0 0, .slice (some ⟨w.heap.size + 1 + 1 + 1 + 1, 0, none⟩) 3 3, .slice (some ⟨w.heap.size + 1 + 1 + 1 + 1 + 1, 0, none⟩) 3 3, .slice (some ⟨w.heap.size + 1 + 1 + 1 + 1 + 1 + 1 + 1 + 1 + 1, 0, none⟩) 3 3] 27)) := ⟨_, rfl⟩
  have S0 := some_start w w1 hw1
  obtain ⟨z, hz⟩ : ∃ z, w.heap.size + 1 + 1 + 1 + 1 + 1 + 1 + 1 + 1 + 1 + 1 = z := ⟨_, rfl⟩
  have HZ : Hid (w.heap.size + 1 + 1 + 1 + 1 + 1 + 1 + 1 + 1 + 1 + 1 = z) := hz
  clear hz
  obtain ⟨H10, h10⟩ : ∃ x, w.heap.size + 10 = x := ⟨_, rfl⟩
  obtain ⟨b0, hb0⟩ : ∃ x, w.heap.size + 1 = x := ⟨_, rfl⟩
  obtain ⟨b1, hb1⟩ : ∃ x, w.heap.size + 2 = x := ⟨_, rfl⟩
  obtain ⟨b2, hb2⟩ : ∃ x, w.heap.size + 3 = x := ⟨_, rfl⟩
  obtain ⟨sB, hsB⟩ : ∃ x, w.heap.size + 4 = x := ⟨_, rfl⟩
  obtain ⟨sM, hsM⟩ : ∃ x, w.heap.size + 5 = x := ⟨_, rfl⟩
  obtain ⟨p0, hp0⟩ : ∃ x, w.heap.size + 6 = x := ⟨_, rfl⟩
  obtain ⟨p1, hp1⟩ : ∃ x, w.heap.size + 7 = x := ⟨_, rfl⟩
  obtain ⟨p2, hp2⟩ : ∃ x, w.heap.size + 8 = x := ⟨_, rfl⟩
  obtain ⟨sP, hsP⟩ : ∃ x, w.heap.size + 9 = x := ⟨_, rfl⟩
  rw [h10, hb0, hb1, hb2, hsB, hsM, hp0, hp1, hp2, hsP] at S0
  have ez : H10 = z := by have := HZ.out; omega
  rw [ez] at S0
  have HLAY : Hid (Lay w1 w.heap.size z b0 b1 b2 sB sM p0 p1 p2 sP (.slice none 0 0) [-1, -1, -1] [-1, -1, -1] [-1, -1, -1] [-1, -1, -1] [0, 0, 0] [0, 0, 0] [0, 0, 0]) := S0.1
  have HB1 : Hid (Below w.heap.size w w1) := S0.2.1
  have HS1 : Hid (w1.heap.size = z + 1) := by show w1.heap.size = z + 1; have := S0.2.2; have := HZ.out; omega
  have HH : Hid (w.heap.size ≤ z ∧ z = w.heap.size + 10) := by show w.heap.size ≤ z ∧ z = w.heap.size + 10; have := HZ.out; omega
  clear S0 h10 ez hb0 hb1 hb2 hsB hsM hp0 hp1 hp2 hsP
  obtain ⟨k0, hk0, hx0, hx1, hx2⟩ := info_parts infoAcct
  have HN : Hid (n = zs.length) := h.1
  have HSL : Hid (Sl .i64 w a n zs) := h
  clear h
  obtain ⟨z1, e1⟩ : ∃ z, bitB way 1 = z := ⟨_, rfl⟩
  obtain ⟨z2, e2⟩ : ∃ z, bitB way 2 = z := ⟨_, rfl⟩
  obtain ⟨z4, e4⟩ : ∃ z, bitB way 4 = z := ⟨_, rfl⟩
  rw [e1, e2, e4]
  unfold bitB at e1 e2 e4
  go_enter Try.func9, Try.ntmps9
  go_wp2
  rw [← hw1, HZ.out]
  clear hw1
  go_loopw [6] (fun i wr => ∃ (k : Nat) (va : Option Addr) (vn vc : Nat), k ≤ 3 ∧ i = .int .i64 k ∧ Lay wr w.heap.size z b0 b1 b2 sB sM p0 p1 p2 sP (.slice va vn vc) [-1, -1, -1] [-1, -1, -1] [-1, -1, -1] [-1, -1, -1] [0, 0, 0] [0, 0, 0] [0, 0, 0] ∧ wr.ownsRow (z + 1) 53 3 (.slice va vn vc) k (accL (accK zs k)) ∧ Below w.heap.size w wr) (fun i _ => 3 - (intOf i).toNat)
  case atStart => exact ⟨0, none, 0, 0, by omega, rfl, HLAY.out, World.ownsRow_nil _ _ _ _, HB1.out⟩
  case round =>
    obtain ⟨k, va, vn, vc, hk, rfl, lay, own, bel⟩ := hrel
    have HL : Hid (Lay wr w.heap.size z b0 b1 b2 sB sM p0 p1 p2 sP (.slice va vn vc) [-1, -1, -1] [-1, -1, -1] [-1, -1, -1] [-1, -1, -1] [0, 0, 0] [0, 0, 0] [0, 0, 0]) := lay
    have HO : Hid (wr.ownsRow (z + 1) 53 3 (.slice va vn vc) k (accL (accK zs k))) := own
    have HB : Hid (Below w.heap.size w wr) := bel
    have hzl : z < wr.heap.size := lay.lt
    clear lay own bel HLAY HB1
    by_cases hlt : k < 3
    · have i3 : (k : Int) < 3 := by omega
      have xc : wr.cell? ⟨z, 0, none⟩ = some (.slice va vn vc) := by rw [cell_of_row wr z 0 _ _ _ HL.out.box]; rfl
      by_cases hkn : k < n
      · have ik : (k : Int) < (n : Int) := by omega
        obtain ⟨b, off, ha, hc⟩ : ∃ b off, a = some ⟨b, off, none⟩ ∧ wr.cell? ⟨b, off + k, none⟩ = some (.int .i64 (zs.getD k 0)) := by
          rcases HSL.out.2.2 with h0 | ⟨b, off, ha, hc⟩
          · have := HN.out; rw [h0] at this; simp at this; omega
          · refine ⟨b, off, ha, ?_⟩
            have h1 := hc k (by have := HN.out; omega)
            exact (HB.out.cell (p := ⟨b, off + k, none⟩) (block_lt_of_cell h1)).trans h1
        obtain ⟨x, hx⟩ : ∃ x, zs.getD k 0 = x := ⟨_, rfl⟩
        rw [hx] at hc
        have hbl : b < wr.heap.size := block_lt_of_cell hc
        have HX : Hid (bits .and .i64 x 63 = balV zs k) := by rw [← hx]; exact bal_yes HN.out hkn
        clear HSL hx
        subst ha
        have own1 : ((wr.alloc (.cells #[.int .i64 (bits .and .i64 x 63), .int .i64 0, .int .i64 0] 53)).alloc (.cells #[.int .i64 (bits .and .i64 x 63), .int .i64 0, .int .i64 0] 53)).ownsRow (z + 1) 53 3 (.slice va vn vc) k (accL (accK zs k)) := own_below (own_below HO.out (box_below _ _)) (box_below _ _)
        go_wp2_with (at_builtin; refine wpList_append_own_at _ rfl _ _ 24 rfl (z + 1) 53 k0 _ 3 24 Try.underlying24 hk0 hx0 hx1 hx2 rfl (by decide) (.slice va vn vc) k (accL (accK zs k)) rfl own1 ⟨wr.heap.size + 1, 0, none⟩ 1 1 [.int .i64 (bits .and .i64 x 63), .int .i64 0, .int .i64 0] rfl rfl ?q1 ?q2 ?q3 ?q4 ?q5 ?_)
        case q1 =>
          intro j u hj
          have hc := cell_new (wr.alloc (.cells #[.int .i64 (bits .and .i64 x 63), .int .i64 0, .int .i64 0] 53)) #[.int .i64 (bits .and .i64 x 63), .int .i64 0, .int .i64 0] 53 (0, 0) j
          rw [size_alloc] at hc
          rw [Addr.add_flat, Nat.zero_add]
          refine Eq.trans hc ?_
          rw [← hj]
          simp
        case q2 => intro u hu; simp at hu; rcases hu with rfl | rfl <;> rfl
        case q3 => unfold maxLen; omega
        case q4 => omega
        case q5 => simp; omega
        intro v' w5 o5 g5 _ at5
        have HB5 : Hid (Below w.heap.size w w5) := by
          refine ((HB.out.alloc HB.out.size _).alloc (by have := HB.out.size; simp; omega) _).grown g5 (by have := HB.out.size; simp; omega) ?_
          intro b hb
          have := (HO.out.lt b hb).1
          have := HH.out
          omega
        have HL5 : Hid (Lay w5 w.heap.size z b0 b1 b2 sB sM p0 p1 p2 sP (.slice va vn vc) [-1, -1, -1] [-1, -1, -1] [-1, -1, -1] [-1, -1, -1] [0, 0, 0] [0, 0, 0] [0, 0, 0]) := by
          refine ((HL.out.below (box_below _ _)).below (box_below _ _)).kept fun i hi => g5.block i (by simp; omega) (fun he => ?_)
          have := (HO.out.lt i he.symm).1
          omega
        have HO5 : Hid (w5.ownsRow (z + 1) 53 3 v' (k + 1) (accL (accK zs (k + 1)))) := by
          rw [accK_succ, accL_append]
          have e : accL [(balV zs k, 0, 0)] = [.int .i64 (bits .and .i64 x 63), .int .i64 0, .int .i64 0] := by rw [← HX.out]; rfl
          rw [e]
          exact o5
        obtain ⟨va', vc', rfl⟩ := own_slice o5
        have xc5 : w5.cell? ⟨z, 0, none⟩ = some (.slice va vn vc) := by rw [cell_of_row w5 z 0 _ _ _ HL5.out.box]; rfl
        have xf5 : w5.frozen? ⟨z, 0, none⟩ = false := frozen_of_row w5 z 0 _ _ HL5.out.box
        clear o5 g5 at5 own1 HO HL HB hzl
        go_wp2
        go_roundw
        case rel =>
          refine ⟨k + 1, va', k + 1, vc', by omega, by go_num, HL5.out.acc _, ?_, HB5.out.setCell (p := ⟨z, 0, none⟩) HH.out.1 _⟩
          exact own_kept HO5.out (Kept.set _ _ _ (by show ¬ z + 1 ≤ z; omega))
        case measure => simp [intOf]; omega

      · have HX : Hid (0 = balV zs k) := bal_no HN.out hkn
        clear HSL
        have own1 : ((wr.alloc (.cells #[.int .i64 0, .int .i64 0, .int .i64 0] 53)).alloc (.cells #[.int .i64 0, .int .i64 0, .int .i64 0] 53)).ownsRow (z + 1) 53 3 (.slice va vn vc) k (accL (accK zs k)) := own_below (own_below HO.out (box_below _ _)) (box_below _ _)
        go_wp2_with (at_builtin; refine wpList_append_own_at _ rfl _ _ 24 rfl (z + 1) 53 k0 _ 3 24 Try.underlying24 hk0 hx0 hx1 hx2 rfl (by decide) (.slice va vn vc) k (accL (accK zs k)) rfl own1 ⟨wr.heap.size + 1, 0, none⟩ 1 1 [.int .i64 0, .int .i64 0, .int .i64 0] rfl rfl ?q6 ?q7 ?q8 ?q9 ?q10 ?_)
        case q6 =>
          intro j u hj
          have hc := cell_new (wr.alloc (.cells #[.int .i64 0, .int .i64 0, .int .i64 0] 53)) #[.int .i64 0, .int .i64 0, .int .i64 0] 53 (0, 0) j
          rw [size_alloc] at hc
          rw [Addr.add_flat, Nat.zero_add]
          refine Eq.trans hc ?_
          rw [← hj]
          simp
        case q7 => intro u hu; simp at hu; rcases hu with rfl | rfl <;> rfl
        case q8 => unfold maxLen; omega
        case q9 => omega
        case q10 => simp; omega
        intro v' w5 o5 g5 _ at5
        have HB5 : Hid (Below w.heap.size w w5) := by
          refine ((HB.out.alloc HB.out.size _).alloc (by have := HB.out.size; simp; omega) _).grown g5 (by have := HB.out.size; simp; omega) ?_
          intro b hb
          have := (HO.out.lt b hb).1
          have := HH.out
          omega
        have HL5 : Hid (Lay w5 w.heap.size z b0 b1 b2 sB sM p0 p1 p2 sP (.slice va vn vc) [-1, -1, -1] [-1, -1, -1] [-1, -1, -1] [-1, -1, -1] [0, 0, 0] [0, 0, 0] [0, 0, 0]) := by
          refine ((HL.out.below (box_below _ _)).below (box_below _ _)).kept fun i hi => g5.block i (by simp; omega) (fun he => ?_)
          have := (HO.out.lt i he.symm).1
          omega
        have HO5 : Hid (w5.ownsRow (z + 1) 53 3 v' (k + 1) (accL (accK zs (k + 1)))) := by
          rw [accK_succ, accL_append]
          have e : accL [(balV zs k, 0, 0)] = [.int .i64 0, .int .i64 0, .int .i64 0] := by rw [← HX.out]; rfl
          rw [e]
          exact o5
        obtain ⟨va', vc', rfl⟩ := own_slice o5
        have xc5 : w5.cell? ⟨z, 0, none⟩ = some (.slice va vn vc) := by rw [cell_of_row w5 z 0 _ _ _ HL5.out.box]; rfl
        have xf5 : w5.frozen? ⟨z, 0, none⟩ = false := frozen_of_row w5 z 0 _ _ HL5.out.box
        clear o5 g5 at5 own1 HO HL HB hzl
        go_wp2
        go_roundw
        case rel =>
          refine ⟨k + 1, va', k + 1, vc', by omega, by go_num, HL5.out.acc _, ?_, HB5.out.setCell (p := ⟨z, 0, none⟩) HH.out.1 _⟩
          exact own_kept HO5.out (Kept.set _ _ _ (by show ¬ z + 1 ≤ z; omega))
        case measure => simp [intOf]; omega
    · obtain rfl : k = 3 := by omega
      obtain ⟨g, hva, hvn⟩ : ∃ g, va = some ⟨g, 0, none⟩ ∧ vn = 3 := by
        rcases HO.out.2 with ⟨_, h0⟩ | ⟨g, cap, cur, hv, _⟩
        · omega
        · simp at hv; exact ⟨g, hv.1, hv.2.1⟩
      subst hva hvn
      have HO0 : Hid (wr.ownsRow (z + 1) 53 3 (.slice (some ⟨g, 0, none⟩) 3 vc) 3 [.int .i64 (balV zs 0), .int .i64 0, .int .i64 0, .int .i64 (balV zs 1), .int .i64 0, .int .i64 0, .int .i64 (balV zs 2), .int .i64 0, .int .i64 0]) := HO.out
      have hzg : z + 1 ≤ g := (own_row_block HO.out).1
      have HD : Hid (z < g) := by show z < g; omega
      have HE := HL.out.lies
      have HLIES : Hid (b0 = w.heap.size + 1 ∧ b1 = w.heap.size + 2 ∧ b2 = w.heap.size + 3 ∧ sB = w.heap.size + 4 ∧ sM = w.heap.size + 5 ∧ p0 = w.heap.size + 6 ∧ p1 = w.heap.size + 7 ∧ p2 = w.heap.size + 8 ∧ sP = w.heap.size + 9 ∧ z = w.heap.size + 10) := HE
      clear HE HO hzg hzl
      go_upto_if 41 with fail
      go_cut [6] from 42 (fun _ wc => Lay wc w.heap.size z b0 b1 b2 sB sM p0 p1 p2 sP (.slice (some ⟨g, 0, none⟩) 3 vc) [-1, -1, -1] [-1, -1, -1] [-1, -1, -1] [-1, -1, -1] [0, 0, 0] [0, 0, 0] [0, 0, 0] ∧ wc.ownsRow (z + 1) 53 3 (.slice (some ⟨g, 0, none⟩) 3 vc) 3 [.int .i64 (balV zs 0), .int .i64 (if z1 then 7 else 0), .int .i64 0, .int .i64 (balV zs 1), .int .i64 0, .int .i64 (if z1 then 5 else 0), .int .i64 (balV zs 2), .int .i64 (if z1 then 3 else 0), .int .i64 0] ∧ Below w.heap.size w wc)
      case first =>
        cases z1
        · go_wp2
          go_meet
          case rel => exact ⟨HL.out, HO0.out, HB.out⟩
        · obtain ⟨w5, hw5⟩ : ∃ x, x = (((wr.setCell ⟨g, 1, none⟩ (.int .i64 7)).setCell ⟨g, 5, none⟩ (.int .i64 5)).setCell ⟨g, 7, none⟩ (.int .i64 3)).drew := ⟨_, rfl⟩
          have HL5 : Hid (Lay w5 w.heap.size z b0 b1 b2 sB sM p0 p1 p2 sP (.slice (some ⟨g, 0, none⟩) 3 vc) [-1, -1, -1] [-1, -1, -1] [-1, -1, -1] [-1, -1, -1] [0, 0, 0] [0, 0, 0] [0, 0, 0]) := by rw [hw5]; exact (((HL.out.far HD.out 1 (.int .i64 7)).far HD.out 5 (.int .i64 5)).far HD.out 7 (.int .i64 3)).drew
          have HO5 : Hid (w5.ownsRow (z + 1) 53 3 (.slice (some ⟨g, 0, none⟩) 3 vc) 3 [.int .i64 (balV zs 0), .int .i64 7, .int .i64 0, .int .i64 (balV zs 1), .int .i64 0, .int .i64 5, .int .i64 (balV zs 2), .int .i64 3, .int .i64 0]) := by rw [hw5]; exact (own_set (own_set (own_set HO0.out (i := 1) (by decide) (.int .i64 7)) (i := 5) (by decide) (.int .i64 5)) (i := 7) (by decide) (.int .i64 3))
          have HB5 : Hid (Below w.heap.size w w5) := by rw [hw5]; exact (((HB.out.setCell (p := ⟨g, 1, none⟩) (by have := HLIES.out; have := HD.out; show w.heap.size ≤ g; omega) (.int .i64 7)).setCell (p := ⟨g, 5, none⟩) (by have := HLIES.out; have := HD.out; show w.heap.size ≤ g; omega) (.int .i64 5)).setCell (p := ⟨g, 7, none⟩) (by have := HLIES.out; have := HD.out; show w.heap.size ≤ g; omega) (.int .i64 3)).drew
          have x0 : wr.cell? ⟨z, 0, none⟩ = some (.slice (some ⟨g, 0, none⟩) 3 vc) := by rw [cell_of_row wr z 0 _ _ _ HL.out.box]; rfl
          have cg1 : wr.cell? ⟨g, 1, none⟩ = some (.int .i64 0) := (own_row_block HO0.out).2.2 1 (by decide)
          have fg1 : wr.frozen? ⟨g, 1, none⟩ = false := (own_row_block HO0.out).2.1 1
          have cg5 : wr.cell? ⟨g, 5, none⟩ = some (.int .i64 0) := (own_row_block HO0.out).2.2 5 (by decide)
          have fg5 : wr.frozen? ⟨g, 5, none⟩ = false := (own_row_block HO0.out).2.1 5
          have cg7 : wr.cell? ⟨g, 7, none⟩ = some (.int .i64 0) := (own_row_block HO0.out).2.2 7 (by decide)
          have fg7 : wr.frozen? ⟨g, 7, none⟩ = false := (own_row_block HO0.out).2.1 7
          have nzg : ¬ z = g := by have := HLIES.out; have := HD.out; omega
          have ngz : ¬ g = z := by have := HLIES.out; have := HD.out; omega
          go_wp2
          go_region
          rw [← hw5]
          clear hw5
          go_wp2
          go_meet
          case rel => exact ⟨HL5.out, HO5.out, HB5.out⟩
      case rest =>
      obtain ⟨hc1, hc2, hc3⟩ := hcut
      obtain ⟨w5, hw5⟩ : ∃ x, x = wc := ⟨_, rfl⟩
      subst hw5
      have HL5 : Hid (Lay w5 w.heap.size z b0 b1 b2 sB sM p0 p1 p2 sP (.slice (some ⟨g, 0, none⟩) 3 vc) [-1, -1, -1] [-1, -1, -1] [-1, -1, -1] [-1, -1, -1] [0, 0, 0] [0, 0, 0] [0, 0, 0]) := hc1
      have HO5 : Hid (w5.ownsRow (z + 1) 53 3 (.slice (some ⟨g, 0, none⟩) 3 vc) 3 [.int .i64 (balV zs 0), .int .i64 (if z1 then 7 else 0), .int .i64 0, .int .i64 (balV zs 1), .int .i64 0, .int .i64 (if z1 then 5 else 0), .int .i64 (balV zs 2), .int .i64 (if z1 then 3 else 0), .int .i64 0]) := hc2
      have HB5 : Hid (Below w.heap.size w w5) := hc3
      clear hc1 hc2 hc3 HL HO0 HB e1
      go_upto_if 56 with fail
      go_cut [6] from 57 (fun _ wc => Lay wc w.heap.size z b0 b1 b2 sB sM p0 p1 p2 sP (.slice (some ⟨g, 0, none⟩) 3 vc) [-1, (if z2 then 6 else -1), -1] [-1, -1, (if z2 then 0 else -1)] [-1, -1, -1] [-1, -1, (if z2 then 4 else -1)] [0, 0, 0] [0, 0, 0] [0, 0, 0] ∧ wc.ownsRow (z + 1) 53 3 (.slice (some ⟨g, 0, none⟩) 3 vc) 3 [.int .i64 (balV zs 0), .int .i64 (if z1 then 7 else 0), .int .i64 0, .int .i64 (balV zs 1), .int .i64 0, .int .i64 (if z1 then 5 else 0), .int .i64 (balV zs 2), .int .i64 (if z1 then 3 else 0), .int .i64 0] ∧ Below w.heap.size w wc)
      case first =>
        cases z2
        · go_wp2
          go_meet
          case rel => exact ⟨HL5.out, HO5.out, HB5.out⟩
        · obtain ⟨w6, hw6⟩ : ∃ x, x = (((w5.setCell ⟨b0, 1, none⟩ (.int .i64 6)).setCell ⟨b1, 2, none⟩ (.int .i64 0)).setCell ⟨sM, 2, none⟩ (.int .i64 4)).drew := ⟨_, rfl⟩
          have HL6 : Hid (Lay w6 w.heap.size z b0 b1 b2 sB sM p0 p1 p2 sP (.slice (some ⟨g, 0, none⟩) 3 vc) [-1, 6, -1] [-1, -1, 0] [-1, -1, -1] [-1, -1, 4] [0, 0, 0] [0, 0, 0] [0, 0, 0]) := by rw [hw6]; exact (((HL5.out.set0 1 6).set1 2 0).setM 2 4).drew
          have HO6 : Hid (w6.ownsRow (z + 1) 53 3 (.slice (some ⟨g, 0, none⟩) 3 vc) 3 [.int .i64 (balV zs 0), .int .i64 (if z1 then 7 else 0), .int .i64 0, .int .i64 (balV zs 1), .int .i64 0, .int .i64 (if z1 then 5 else 0), .int .i64 (balV zs 2), .int .i64 (if z1 then 3 else 0), .int .i64 0]) := by rw [hw6]; exact (own_kept (own_kept (own_kept HO5.out (Kept.set _ ⟨b0, 1, none⟩ (.int .i64 6) (by have := HLIES.out; show ¬ z + 1 ≤ b0; omega))) (Kept.set _ ⟨b1, 2, none⟩ (.int .i64 0) (by have := HLIES.out; show ¬ z + 1 ≤ b1; omega))) (Kept.set _ ⟨sM, 2, none⟩ (.int .i64 4) (by have := HLIES.out; show ¬ z + 1 ≤ sM; omega)))
          have HB6 : Hid (Below w.heap.size w w6) := by rw [hw6]; exact (((HB5.out.setCell (p := ⟨b0, 1, none⟩) (by have := HLIES.out; have := HD.out; show w.heap.size ≤ b0; omega) (.int .i64 6)).setCell (p := ⟨b1, 2, none⟩) (by have := HLIES.out; have := HD.out; show w.heap.size ≤ b1; omega) (.int .i64 0)).setCell (p := ⟨sM, 2, none⟩) (by have := HLIES.out; have := HD.out; show w.heap.size ≤ sM; omega) (.int .i64 4)).drew
          have x1 : w5.cell? ⟨z, 1, none⟩ = some (.slice (some ⟨sB, 0, none⟩) 3 3) := by rw [cell_of_row w5 z 1 _ _ _ HL5.out.box]; rfl
          have x2 : w5.cell? ⟨z, 2, none⟩ = some (.slice (some ⟨sM, 0, none⟩) 3 3) := by rw [cell_of_row w5 z 2 _ _ _ HL5.out.box]; rfl
          have s0 : w5.cell? ⟨sB, 0, none⟩ = some (.slice (some ⟨b0, 0, none⟩) 3 3) := by rw [cell_of_row w5 sB 0 _ _ _ HL5.out.spB]; rfl
          have s1 : w5.cell? ⟨sB, 1, none⟩ = some (.slice (some ⟨b1, 0, none⟩) 3 3) := by rw [cell_of_row w5 sB 1 _ _ _ HL5.out.spB]; rfl
          have cb01 : w5.cell? ⟨b0, 1, none⟩ = some (.int .i64 (-1)) := HL5.out.r0.cell (i := 1) (by simp)
          have fb01 : w5.frozen? ⟨b0, 1, none⟩ = false := HL5.out.r0.free 1
          have cb12 : w5.cell? ⟨b1, 2, none⟩ = some (.int .i64 (-1)) := HL5.out.r1.cell (i := 2) (by simp)
          have fb12 : w5.frozen? ⟨b1, 2, none⟩ = false := HL5.out.r1.free 2
          have csM2 : w5.cell? ⟨sM, 2, none⟩ = some (.int .i64 (-1)) := HL5.out.mul.cell (i := 2) (by simp)
          have fsM2 : w5.frozen? ⟨sM, 2, none⟩ = false := HL5.out.mul.free 2
          have nzsB : ¬ z = sB := by have := HLIES.out; have := HD.out; omega
          have nzb0 : ¬ z = b0 := by have := HLIES.out; have := HD.out; omega
          have nzb1 : ¬ z = b1 := by have := HLIES.out; have := HD.out; omega
          have nzsM : ¬ z = sM := by have := HLIES.out; have := HD.out; omega
          have nsBz : ¬ sB = z := by have := HLIES.out; have := HD.out; omega
          have nsBb0 : ¬ sB = b0 := by have := HLIES.out; have := HD.out; omega
          have nsBb1 : ¬ sB = b1 := by have := HLIES.out; have := HD.out; omega
          have nsBsM : ¬ sB = sM := by have := HLIES.out; have := HD.out; omega
          have nb0z : ¬ b0 = z := by have := HLIES.out; have := HD.out; omega
          have nb0sB : ¬ b0 = sB := by have := HLIES.out; have := HD.out; omega
          have nb0b1 : ¬ b0 = b1 := by have := HLIES.out; have := HD.out; omega
          have nb0sM : ¬ b0 = sM := by have := HLIES.out; have := HD.out; omega
          have nb1z : ¬ b1 = z := by have := HLIES.out; have := HD.out; omega
          have nb1sB : ¬ b1 = sB := by have := HLIES.out; have := HD.out; omega
          have nb1b0 : ¬ b1 = b0 := by have := HLIES.out; have := HD.out; omega
          have nb1sM : ¬ b1 = sM := by have := HLIES.out; have := HD.out; omega
          have nsMz : ¬ sM = z := by have := HLIES.out; have := HD.out; omega
          have nsMsB : ¬ sM = sB := by have := HLIES.out; have := HD.out; omega
          have nsMb0 : ¬ sM = b0 := by have := HLIES.out; have := HD.out; omega
          have nsMb1 : ¬ sM = b1 := by have := HLIES.out; have := HD.out; omega
          go_wp2
          go_region
          rw [← hw6]
          clear hw6
          go_wp2
          go_meet
          case rel => exact ⟨HL6.out, HO6.out, HB6.out⟩
      case rest =>
      obtain ⟨hc1, hc2, hc3⟩ := hcut
      obtain ⟨w6, hw6⟩ : ∃ x, x = wc := ⟨_, rfl⟩
      subst hw6
      have HL6 : Hid (Lay w6 w.heap.size z b0 b1 b2 sB sM p0 p1 p2 sP (.slice (some ⟨g, 0, none⟩) 3 vc) [-1, (if z2 then 6 else -1), -1] [-1, -1, (if z2 then 0 else -1)] [-1, -1, -1] [-1, -1, (if z2 then 4 else -1)] [0, 0, 0] [0, 0, 0] [0, 0, 0]) := hc1
      have HO6 : Hid (w6.ownsRow (z + 1) 53 3 (.slice (some ⟨g, 0, none⟩) 3 vc) 3 [.int .i64 (balV zs 0), .int .i64 (if z1 then 7 else 0), .int .i64 0, .int .i64 (balV zs 1), .int .i64 0, .int .i64 (if z1 then 5 else 0), .int .i64 (balV zs 2), .int .i64 (if z1 then 3 else 0), .int .i64 0]) := hc2
      have HB6 : Hid (Below w.heap.size w w6) := hc3
      clear hc1 hc2 hc3 HL5 HO5 HB5 e2
      go_upto_if 72 with fail
      go_cut [6] from 73 (fun _ wc => Lay wc w.heap.size z b0 b1 b2 sB sM p0 p1 p2 sP (.slice (some ⟨g, 0, none⟩) 3 vc) [-1, (if z2 then 6 else -1), -1] [-1, -1, (if z2 then 0 else -1)] [-1, -1, -1] [(if z4 then 8 else -1), -1, (if z2 then 4 else -1)] [0, (if z4 then 3 else 0), 0] [(if z4 then (-3) else 0), 0, 0] [0, 0, 0] ∧ wc.ownsRow (z + 1) 53 3 (.slice (some ⟨g, 0, none⟩) 3 vc) 3 [.int .i64 (balV zs 0), .int .i64 (if z1 then 7 else 0), .int .i64 0, .int .i64 (balV zs 1), .int .i64 0, .int .i64 (if z1 then 5 else 0), .int .i64 (balV zs 2), .int .i64 (if z1 then 3 else 0), .int .i64 (if z4 then 9 else 0)] ∧ Below w.heap.size w wc)
      case first =>
        cases z4
        · go_wp2
          go_meet
          case rel => exact ⟨HL6.out, HO6.out, HB6.out⟩
        · obtain ⟨w7, hw7⟩ : ∃ x, x = ((((w6.setCell ⟨p0, 1, none⟩ (.int .i64 3)).setCell ⟨p1, 0, none⟩ (.int .i64 (-3))).setCell ⟨g, 8, none⟩ (.int .i64 9)).setCell ⟨sM, 0, none⟩ (.int .i64 8)).drew := ⟨_, rfl⟩
          have HL7 : Hid (Lay w7 w.heap.size z b0 b1 b2 sB sM p0 p1 p2 sP (.slice (some ⟨g, 0, none⟩) 3 vc) [-1, (if z2 then 6 else -1), -1] [-1, -1, (if z2 then 0 else -1)] [-1, -1, -1] [8, -1, (if z2 then 4 else -1)] [0, 3, 0] [(-3), 0, 0] [0, 0, 0]) := by rw [hw7]; exact ((((HL6.out.setP0 1 3).setP1 0 (-3)).far HD.out 8 (.int .i64 9)).setM 0 8).drew
          have HO7 : Hid (w7.ownsRow (z + 1) 53 3 (.slice (some ⟨g, 0, none⟩) 3 vc) 3 [.int .i64 (balV zs 0), .int .i64 (if z1 then 7 else 0), .int .i64 0, .int .i64 (balV zs 1), .int .i64 0, .int .i64 (if z1 then 5 else 0), .int .i64 (balV zs 2), .int .i64 (if z1 then 3 else 0), .int .i64 9]) := by rw [hw7]; exact (own_kept (own_set (own_kept (own_kept HO6.out (Kept.set _ ⟨p0, 1, none⟩ (.int .i64 3) (by have := HLIES.out; show ¬ z + 1 ≤ p0; omega))) (Kept.set _ ⟨p1, 0, none⟩ (.int .i64 (-3)) (by have := HLIES.out; show ¬ z + 1 ≤ p1; omega))) (i := 8) (by decide) (.int .i64 9)) (Kept.set _ ⟨sM, 0, none⟩ (.int .i64 8) (by have := HLIES.out; show ¬ z + 1 ≤ sM; omega)))
          have HB7 : Hid (Below w.heap.size w w7) := by rw [hw7]; exact ((((HB6.out.setCell (p := ⟨p0, 1, none⟩) (by have := HLIES.out; have := HD.out; show w.heap.size ≤ p0; omega) (.int .i64 3)).setCell (p := ⟨p1, 0, none⟩) (by have := HLIES.out; have := HD.out; show w.heap.size ≤ p1; omega) (.int .i64 (-3))).setCell (p := ⟨g, 8, none⟩) (by have := HLIES.out; have := HD.out; show w.heap.size ≤ g; omega) (.int .i64 9)).setCell (p := ⟨sM, 0, none⟩) (by have := HLIES.out; have := HD.out; show w.heap.size ≤ sM; omega) (.int .i64 8)).drew
          have x0 : w6.cell? ⟨z, 0, none⟩ = some (.slice (some ⟨g, 0, none⟩) 3 vc) := by rw [cell_of_row w6 z 0 _ _ _ HL6.out.box]; rfl
          have x2 : w6.cell? ⟨z, 2, none⟩ = some (.slice (some ⟨sM, 0, none⟩) 3 3) := by rw [cell_of_row w6 z 2 _ _ _ HL6.out.box]; rfl
          have x3 : w6.cell? ⟨z, 3, none⟩ = some (.slice (some ⟨sP, 0, none⟩) 3 3) := by rw [cell_of_row w6 z 3 _ _ _ HL6.out.box]; rfl
          have t0 : w6.cell? ⟨sP, 0, none⟩ = some (.slice (some ⟨p0, 0, none⟩) 3 3) := by rw [cell_of_row w6 sP 0 _ _ _ HL6.out.spP]; rfl
          have t1 : w6.cell? ⟨sP, 1, none⟩ = some (.slice (some ⟨p1, 0, none⟩) 3 3) := by rw [cell_of_row w6 sP 1 _ _ _ HL6.out.spP]; rfl
          have cp01 : w6.cell? ⟨p0, 1, none⟩ = some (.int .i64 0) := HL6.out.q0.cell (i := 1) (by simp)
          have fp01 : w6.frozen? ⟨p0, 1, none⟩ = false := HL6.out.q0.free 1
          have cp10 : w6.cell? ⟨p1, 0, none⟩ = some (.int .i64 0) := HL6.out.q1.cell (i := 0) (by simp)
          have fp10 : w6.frozen? ⟨p1, 0, none⟩ = false := HL6.out.q1.free 0
          have cg8 : w6.cell? ⟨g, 8, none⟩ = some (.int .i64 0) := (own_row_block HO6.out).2.2 8 (by decide)
          have fg8 : w6.frozen? ⟨g, 8, none⟩ = false := (own_row_block HO6.out).2.1 8
          have csM0 : w6.cell? ⟨sM, 0, none⟩ = some (.int .i64 (-1)) := HL6.out.mul.cell (i := 0) (by simp)
          have fsM0 : w6.frozen? ⟨sM, 0, none⟩ = false := HL6.out.mul.free 0
          have nzsP : ¬ z = sP := by have := HLIES.out; have := HD.out; omega
          have nzp0 : ¬ z = p0 := by have := HLIES.out; have := HD.out; omega
          have nzp1 : ¬ z = p1 := by have := HLIES.out; have := HD.out; omega
          have nzg : ¬ z = g := by have := HLIES.out; have := HD.out; omega
          have nzsM : ¬ z = sM := by have := HLIES.out; have := HD.out; omega
          have nsPz : ¬ sP = z := by have := HLIES.out; have := HD.out; omega
          have nsPp0 : ¬ sP = p0 := by have := HLIES.out; have := HD.out; omega
          have nsPp1 : ¬ sP = p1 := by have := HLIES.out; have := HD.out; omega
          have nsPg : ¬ sP = g := by have := HLIES.out; have := HD.out; omega
          have nsPsM : ¬ sP = sM := by have := HLIES.out; have := HD.out; omega
          have np0z : ¬ p0 = z := by have := HLIES.out; have := HD.out; omega
          have np0sP : ¬ p0 = sP := by have := HLIES.out; have := HD.out; omega
          have np0p1 : ¬ p0 = p1 := by have := HLIES.out; have := HD.out; omega
          have np0g : ¬ p0 = g := by have := HLIES.out; have := HD.out; omega
          have np0sM : ¬ p0 = sM := by have := HLIES.out; have := HD.out; omega
          have np1z : ¬ p1 = z := by have := HLIES.out; have := HD.out; omega
          have np1sP : ¬ p1 = sP := by have := HLIES.out; have := HD.out; omega
          have np1p0 : ¬ p1 = p0 := by have := HLIES.out; have := HD.out; omega
          have np1g : ¬ p1 = g := by have := HLIES.out; have := HD.out; omega
          have np1sM : ¬ p1 = sM := by have := HLIES.out; have := HD.out; omega
          have ngz : ¬ g = z := by have := HLIES.out; have := HD.out; omega
          have ngsP : ¬ g = sP := by have := HLIES.out; have := HD.out; omega
          have ngp0 : ¬ g = p0 := by have := HLIES.out; have := HD.out; omega
          have ngp1 : ¬ g = p1 := by have := HLIES.out; have := HD.out; omega
          have ngsM : ¬ g = sM := by have := HLIES.out; have := HD.out; omega
          have nsMz : ¬ sM = z := by have := HLIES.out; have := HD.out; omega
          have nsMsP : ¬ sM = sP := by have := HLIES.out; have := HD.out; omega
          have nsMp0 : ¬ sM = p0 := by have := HLIES.out; have := HD.out; omega
          have nsMp1 : ¬ sM = p1 := by have := HLIES.out; have := HD.out; omega
          have nsMg : ¬ sM = g := by have := HLIES.out; have := HD.out; omega
          go_wp2
          go_region
          rw [← hw7]
          clear hw7
          go_wp2
          go_meet
          case rel => exact ⟨HL7.out, HO7.out, HB7.out⟩
      case rest =>
      obtain ⟨hc1, hc2, hc3⟩ := hcut
      obtain ⟨w7, hw7⟩ : ∃ x, x = wc := ⟨_, rfl⟩
      subst hw7
      have HL7 : Hid (Lay w7 w.heap.size z b0 b1 b2 sB sM p0 p1 p2 sP (.slice (some ⟨g, 0, none⟩) 3 vc) [-1, (if z2 then 6 else -1), -1] [-1, -1, (if z2 then 0 else -1)] [-1, -1, -1] [(if z4 then 8 else -1), -1, (if z2 then 4 else -1)] [0, (if z4 then 3 else 0), 0] [(if z4 then (-3) else 0), 0, 0] [0, 0, 0]) := hc1
      have HO7 : Hid (w7.ownsRow (z + 1) 53 3 (.slice (some ⟨g, 0, none⟩) 3 vc) 3 [.int .i64 (balV zs 0), .int .i64 (if z1 then 7 else 0), .int .i64 0, .int .i64 (balV zs 1), .int .i64 0, .int .i64 (if z1 then 5 else 0), .int .i64 (balV zs 2), .int .i64 (if z1 then 3 else 0), .int .i64 (if z4 then 9 else 0)]) := hc2
      have HB7 : Hid (Below w.heap.size w w7) := hc3
      clear hc1 hc2 hc3 HL6 HO6 HB6 e4
      have R : Hid (SomeEndK w zs z1 z2 z4 (.returned (BA.val ⟨some ⟨g, 0, none⟩, 3, vc, some ⟨sB, 0, none⟩, 3, 3, some ⟨sM, 0, none⟩, 3, 3, some ⟨sP, 0, none⟩, 3, 3⟩)) (w7.setRow w.heap.size #[.slice (some ⟨g, 0, none⟩) 3 vc, .slice (some ⟨sB, 0, none⟩) 3 3, .slice (some ⟨sM, 0, none⟩) 3 3, .slice (some ⟨sP, 0, none⟩) 3 3])) := some_done (A := someA zs z1 z4) HL7.out HO7.out rfl HB7.out
      have D : Hid (Box4 (w7.setRow w.heap.size #[.slice (some ⟨g, 0, none⟩) 3 vc, .slice (some ⟨sB, 0, none⟩) 3 3, .slice (some ⟨sM, 0, none⟩) 3 3, .slice (some ⟨sP, 0, none⟩) 3 3]) w.heap.size ⟨some ⟨g, 0, none⟩, 3, vc, some ⟨sB, 0, none⟩, 3, 3, some ⟨sM, 0, none⟩, 3, 3, some ⟨sP, 0, none⟩, 3, 3⟩) := some_box HL7.out
      have rs := HL7.out.res
      have y0 : w7.cell? ⟨z, 0, none⟩ = some (.slice (some ⟨g, 0, none⟩) 3 vc) := by rw [cell_of_row w7 z 0 _ _ _ HL7.out.box]; rfl
      have y1 : w7.cell? ⟨z, 1, none⟩ = some (.slice (some ⟨sB, 0, none⟩) 3 3) := by rw [cell_of_row w7 z 1 _ _ _ HL7.out.box]; rfl
      have y2 : w7.cell? ⟨z, 2, none⟩ = some (.slice (some ⟨sM, 0, none⟩) 3 3) := by rw [cell_of_row w7 z 2 _ _ _ HL7.out.box]; rfl
      have y3 : w7.cell? ⟨z, 3, none⟩ = some (.slice (some ⟨sP, 0, none⟩) 3 3) := by rw [cell_of_row w7 z 3 _ _ _ HL7.out.box]; rfl
      go_wp2_with (refine wpList_store_row rfl 27 _ _ rfl w.heap.size #[.slice (some ⟨g, 0, none⟩) 3 vc, .slice (some ⟨sB, 0, none⟩) 3 3, .slice (some ⟨sM, 0, none⟩) 3 3, .slice (some ⟨sP, 0, none⟩) 3 3] rfl rfl _ _ rs booksSize (by simp) (by simp [Value.oneCell']) ?_)
      generalize w7.setRow w.heap.size #[.slice (some ⟨g, 0, none⟩) 3 vc, .slice (some ⟨sB, 0, none⟩) 3 3, .slice (some ⟨sM, 0, none⟩) 3 3, .slice (some ⟨sP, 0, none⟩) 3 3] = w9 at R D ⊢
      obtain ⟨d0, d1, d2, d3⟩ := D.out
      exact bodyPost_ret (v := BA.val ⟨some ⟨g, 0, none⟩, 3, vc, some ⟨sB, 0, none⟩, 3, 3, some ⟨sM, 0, none⟩, 3, 3, some ⟨sP, 0, none⟩, 3, 3⟩) (by simp [results, Try.results9, d0, d1, d2, d3, go_sem]) rfl R.out

theorem some_any (a : Option Addr) (n c : Nat) (zs : List Int) (way : Int) (w : World) (h : Sl .i64 w a n zs) (hm : n ≤ 9223372036854775807) : Calls Try.prog 9 #[.slice a n c, .int .i64 way] w (SomeEnd w (someK zs (bitB way 1) (bitB way 2) (bitB way 4))) :=
  (some3_any a n c zs way w h hm).mono fun e w' ⟨g, vc, h1, h2, h3⟩ => ⟨_, h1, h2.newBk ⟨rfl, rfl, rfl, rfl, rfl, rfl, rfl⟩ (someB_wf _) (someM_wf _ _) (someP_wf _), h3⟩

end Go.Proofs.Ytlackjldopeigaa

/-
  Books that a call made, one number of which is written.
-/
namespace Go.Proofs.Ytlackjldopeigaa
open Go.RowKit
set_option linter.unusedVariables false
set_option linter.unusedSimpArgs false

/-- An int64 is written somewhere: a row of int64s is still one. -/
theorem own_poke {w : World} {B : Nat} {v : Value} {zs : List Int} {n : Nat} (h : w.ownsRow B 2 1 v n (zs.map (Value.int .i64))) (g i : Nat) (y : Int) :
    (w.setCell ⟨g, i, none⟩ (.int .i64 y)).ownsRow B 2 1 v n ((if v.ownBlock = some g then zs.set i y else zs).map (Value.int .i64)) := by
  rcases h.2 with ⟨rfl, h0⟩ | ⟨g', cap, cur, rfl, hb, hg, h1, h2, h3, h4⟩
  · simp only [Value.ownBlock]
    exact ⟨h.1, .inl ⟨rfl, h0⟩⟩
  · simp only [Value.ownBlock, Option.some.injEq]
    by_cases hgg : g' = g
    · subst hgg
      rw [if_pos rfl]
      refine ⟨by have := h.1; simp at this ⊢; exact this, .inr ⟨g', cap, cur.setIfInBounds i (.int .i64 y), rfl, hb, heap_setCell_same w g' i _ _ _ hg, h1, h2, by simp [h3], ?_⟩⟩
      rw [Array.toList_setIfInBounds, List.take_set, h4, List.map_set]
    · rw [if_neg hgg]
      exact ⟨h.1, .inr ⟨g', cap, cur, rfl, hb, (heap_setCell_other w ⟨g, i, none⟩ g' _ hgg).trans hg, h1, h2, h3, h4⟩⟩
theorem w64_set {zs : List Int} (h : W64 zs) {y : Int} (hy : IntKind.i64.wrap y = y) (i : Nat) : W64 (zs.set i y) := fun n hn => by
  rcases List.mem_or_eq_of_mem_set hn with h1 | rfl
  · exact h n h1
  · exact hy
/-- A row of another type lies elsewhere. -/
theorem own_else {w : World} {B s : Nat} {T : TypeId} {v : Value} {n g i : Nat} {xs : List Value} {cur : Array Value} (h : w.ownsRow B T s v n xs) (hg : w.heap[g]? = some (.cells cur 2 (0, 0))) (ht : T ≠ 2) (u : Value) : (w.setCell ⟨g, i, none⟩ u).ownsRow B T s v n xs := by
  refine ⟨h.1, ?_⟩
  rcases h.2 with h0 | ⟨g', cap, cur', hv, hb, hg', rest⟩
  · exact .inl h0
  · refine .inr ⟨g', cap, cur', hv, hb, (heap_setCell_other w ⟨g, i, none⟩ g' _ (fun e => ?_)).trans hg', rest⟩
    have e : g' = g := e
    subst e
    rw [hg'] at hg
    simp at hg
    exact ht hg.2

theorem MadeI.poke {w : World} {B g i : Nat} {v : Value} {vs : List Value} {R : List (List Int)} {cur : Array Value} (h : MadeI w B v vs R) (hg : w.heap[g]? = some (.cells cur 2 (0, 0))) {y : Int} (hy : IntKind.i64.wrap y = y) :
    ∃ R', MadeI (w.setCell ⟨g, i, none⟩ (.int .i64 y)) B v vs R' ∧ R'.length = R.length ∧ ∀ j, (R'.getD j []).length = (R.getD j []).length := by
  obtain ⟨f, hf⟩ : ∃ f : Nat → List Int, f = fun j => if (vs.getD j undef).ownBlock = some g then (R.getD j []).set i y else R.getD j [] := ⟨_, rfl⟩
  have lf : ∀ j, (f j).length = (R.getD j []).length := fun j => by rw [hf]; simp only; split <;> simp
  have gd : ∀ j, j < R.length → ((List.range R.length).map f).getD j [] = f j := fun j hj => by simp [List.getD_eq_getElem?_getD, hj]
  refine ⟨(List.range R.length).map f, ⟨?_, ?_, ?_, ?_, ?_⟩, by simp, ?_⟩
  · have := own_else h.own hg (by decide) (.int .i64 y) (i := i)
    simpa using this
  · intro j hj
    have hj : j < R.length := by simpa using hj
    rw [gd j hj, lf]
    have := own_poke (h.row j hj) g i y
    rw [hf]
    exact this
  · intro j hj
    exact h.spine j (by simpa using hj)
  · intro j k hj hk
    exact h.rows j k (by simpa using hj) (by simpa using hk)
  · intro z hz
    obtain ⟨j, hj, rfl⟩ := List.mem_map.1 hz
    rw [hf]
    simp only
    split
    · exact w64_set (getD_w64 h.bs j) hy i
    · exact getD_w64 h.bs j
  · intro j
    by_cases hj : j < R.length
    · rw [gd j hj, lf]
    · simp [List.getD_eq_getElem?_getD, hj]

theorem cell_far {w : World} {p q : Addr} {v : Value} (h : q.block ≠ p.block) : (w.setCell p v).cell? q = w.cell? q := by
  unfold World.cell?
  rw [heap_setCell_other w p q.block v h]
theorem types_apart {w : World} {g g' : Nat} {cs cs' : Array Value} {t t' : TypeId} {fr fr' : Nat × Nat} (h : w.heap[g]? = some (.cells cs t fr)) (h' : w.heap[g']? = some (.cells cs' t' fr')) (ht : t ≠ t') : g ≠ g' := fun e => by
  subst e
  rw [h] at h'
  simp at h'
  exact ht h'.2.1

/-- Three rows of three. -/
structure Sh3 (k : Bks) : Prop where
  a : k.A.length = 3
  b : k.B.length = 3
  bs : ∀ i, i < 3 → (k.B.getD i []).length = 3
  m : k.M.length = 3
  p : k.P.length = 3
  ps : ∀ i, i < 3 → (k.P.getD i []).length = 3
theorem sh3_some (zs : List Int) (z1 z2 z4 : Bool) : Sh3 (someK zs z1 z2 z4) := by
  refine ⟨rfl, rfl, ?_, rfl, rfl, ?_⟩
  all_goals
    intro i hi
    rcases (show i = 0 ∨ i = 1 ∨ i = 2 by omega) with rfl | rfl | rfl <;> rfl

theorem NewBk.poke {w : World} {B g i : Nat} {x : BA} {k : Bks} {cur : Array Value} (h : NewBk w B x k) (s : Sh3 k) (hg : w.heap[g]? = some (.cells cur 2 (0, 0))) {y : Int} (hy : IntKind.i64.wrap y = y) :
    ∃ k', NewBk (w.setCell ⟨g, i, none⟩ (.int .i64 y)) B x k' ∧ k'.A = k.A ∧ Sh3 k' := by
  obtain ⟨vb, hb⟩ := h.bil
  obtain ⟨vp, hp⟩ := h.pos
  obtain ⟨RB, hb', lb, sb⟩ := hb.poke hg hy (i := i)
  obtain ⟨RP, hp', lp, sp⟩ := hp.poke hg hy (i := i)
  have hm := own_poke h.mul g i y
  refine ⟨⟨k.A, RB, (if (Value.slice x.aM x.nM x.cM).ownBlock = some g then k.M.set i y else k.M), RP⟩, ⟨own_else h.acc hg (by decide) _, ⟨vb, hb'⟩, ?_, ⟨vp, hp'⟩, ?_⟩, rfl, ⟨s.a, lb.trans s.b, fun j hj => (sb j).trans (s.bs j hj), ?_, lp.trans s.p, fun j hj => (sp j).trans (s.ps j hj)⟩⟩
  · have e : (if (Value.slice x.aM x.nM x.cM).ownBlock = some g then k.M.set i y else k.M).length = k.M.length := by split <;> simp
    show World.ownsRow _ _ _ _ _ (List.length _) _
    rw [e]
    exact hm
  · show W64 _
    split
    · exact w64_set h.wf hy i
    · exact h.wf
  · show List.length _ = 3
    split
    · rw [List.length_set]; exact s.m
    · exact s.m

/-- A row of three that is one's own: its cells. -/
theorem own_three {w : World} {B : Nat} {v : Value} {zs : List Int} (h : w.ownsRow B 2 1 v zs.length (zs.map (Value.int .i64))) (hl : zs.length = 3) (wf : W64 zs) : ∃ g c cur, v = .slice (some ⟨g, 0, none⟩) 3 c ∧ B ≤ g ∧ w.heap[g]? = some (.cells cur 2 (0, 0)) ∧ (∀ j, w.frozen? ⟨g, j, none⟩ = false) ∧ ∀ j, j < 3 → ∃ y, w.cell? ⟨g, j, none⟩ = some (.int .i64 y) ∧ -9223372036854775808 ≤ y ∧ y ≤ 9223372036854775807 := by
  rcases h.2 with ⟨_, h0⟩ | ⟨g, c, cur, hv, hb, hg, _⟩
  · omega
  · rw [hl] at hv
    refine ⟨g, c, cur, hv, hb, hg, fun j => frozen_of_row w g j _ _ hg, fun j hj => ?_⟩
    subst hv
    have h' := h
    rw [hl] at h'
    have hc := (own_row_block h').2.2 j (by omega)
    have e : (zs.map (Value.int .i64))[j]? = some (.int .i64 (zs.getD j 0)) := by simp [List.getD_eq_getElem?_getD, show j < zs.length by omega]
    exact ⟨_, hc.trans e, wf_i64 (wf _ (getD_mem (by omega)))⟩
theorem MadeI.three {w : World} {B n c : Nat} {a : Option Addr} {vs : List Value} {R : List (List Int)} (h : MadeI w B (.slice a n c) vs R) (hl : R.length = 3) (hs : ∀ i, i < 3 → (R.getD i []).length = 3) : ∃ b, a = some ⟨b, 0, none⟩ ∧ n = 3 ∧ (∃ cs, w.heap[b]? = some (.cells cs 22 (0, 0))) ∧ ∀ i, i < 3 →
    ∃ g c cur, w.cell? ⟨b, i, none⟩ = some (.slice (some ⟨g, 0, none⟩) 3 c) ∧ B ≤ g ∧ w.heap[g]? = some (.cells cur 2 (0, 0)) ∧ (∀ j, w.frozen? ⟨g, j, none⟩ = false) ∧ ∀ j, j < 3 → ∃ y, w.cell? ⟨g, j, none⟩ = some (.int .i64 y) ∧ -9223372036854775808 ≤ y ∧ y ≤ 9223372036854775807 := by
  have ho := h.own
  rw [hl] at ho
  rcases ho.2 with ⟨_, h0⟩ | ⟨b, c', cur, hv, hbs⟩
  · omega
  · simp at hv
    obtain ⟨⟨rfl, rfl, rfl⟩, _, hcs, _⟩ := (⟨hv, hbs⟩ : _ ∧ _)
    refine ⟨b, rfl, rfl, ⟨_, hcs⟩, fun i hi => ?_⟩
    obtain ⟨g, cc, cur', e, hb, hg, hf, hc⟩ := own_three (h.row i (by omega)) (hs i hi) (getD_w64 h.bs i)
    refine ⟨g, cc, cur', ?_, hb, hg, hf, hc⟩
    have hlv : vs.length = 3 := by have := ho.1; omega
    rw [(own_row_block ho).2.2 i (by omega), ← e]
    simp [List.getD_eq_getElem?_getD, show i < vs.length by omega]

/-- The first balance is written. -/
theorem NewBk.first {w : World} {B : Nat} {x : BA} {k : Bks} {b0 c0 r0 : Int} {A' : List A3} (h : NewBk w B x k) (s : Sh3 k) (ha : k.A = (b0, c0, r0) :: A') : ∃ g, x.aA = some ⟨g, 0, none⟩ ∧ x.nA = 3 ∧ B ≤ g ∧ w.frozen? ⟨g, 0, none⟩ = false ∧ w.cell? ⟨g, 0, none⟩ = some (.int .i64 b0) ∧ (∃ cs, w.heap[g]? = some (.cells cs 53 (0, 0))) ∧
    ∀ y, NewBk (w.setCell ⟨g, 0, none⟩ (.int .i64 y)) B x ⟨(y, c0, r0) :: A', k.B, k.M, k.P⟩ := by
  have ho := h.acc
  rw [s.a] at ho
  rcases ho.2 with ⟨_, h0⟩ | ⟨g, c, cur, hv, hb, hg, _⟩
  · omega
  · simp at hv
    have e1 : x.aA = some ⟨g, 0, none⟩ := hv.1
    have e2 : x.nA = 3 := hv.2.1
    rw [e1, e2] at ho
    obtain ⟨q1, q2, q3⟩ := own_row_block ho
    have el : accL k.A = .int .i64 b0 :: .int .i64 c0 :: .int .i64 r0 :: accL A' := by rw [ha]; rfl
    refine ⟨g, e1, e2, hb, q2 0, by rw [q3 0 (by decide), el]; rfl, ⟨_, hg⟩, fun y => ?_⟩
    have other : ∀ {t : TypeId} {B' s' n' : Nat} {v' : Value} {xs' : List Value}, w.ownsRow B' t s' v' n' xs' → t ≠ 53 → (w.setCell ⟨g, 0, none⟩ (.int .i64 y)).ownsRow B' t s' v' n' xs' := fun ho' ht => by
      refine ⟨ho'.1, ?_⟩
      rcases ho'.2 with h0 | ⟨g', cap', cur', hv', hb', hg', rest⟩
      · exact .inl h0
      · refine .inr ⟨g', cap', cur', hv', hb', (heap_setCell_other w ⟨g, 0, none⟩ g' _ (fun e => ?_)).trans hg', rest⟩
        have e : g' = g := e
        subst e
        rw [hg] at hg'
        simp at hg'
        exact ht hg'.2.symm
    have mk : ∀ {v : Value} {vs : List Value} {R : List (List Int)}, MadeI w B v vs R → MadeI (w.setCell ⟨g, 0, none⟩ (.int .i64 y)) B v vs R := fun hm =>
      ⟨other hm.own (by decide), fun i hi => other (hm.row i hi) (by decide), hm.spine, hm.rows, hm.bs⟩
    refine ⟨?_, h.bil.imp fun _ hm => mk hm, other h.mul (by decide), h.pos.imp fun _ hm => mk hm, h.wf⟩
    have hs := own_set ho (i := 0) (by decide) (.int .i64 y)
    have hlen : ((y, c0, r0) :: A' : List A3).length = 3 := by have := s.a; rw [ha] at this; simpa using this
    show World.ownsRow _ _ _ _ _ (List.length ((y, c0, r0) :: A')) _
    rw [hlen, e1, e2]
    rw [el] at hs
    exact hs

end Go.Proofs.Ytlackjldopeigaa
