/-
  Rows of int64s: as they are read, as a call makes them; what stays where other blocks alone are turned.
-/
import Derived.Test.YtpaieecbedgeaaaNew
import Derived.Test.YtpaieecbedgeaaaBytes
import Derived.Test.YtpaieecbedgeaaaBlkI
import Derived.Maps.AppendAt
namespace Go.Proofs.Ytpaieecbedgeaaa
open Go.RowKit
set_option linter.unusedVariables false
set_option linter.unusedSimpArgs false

theorem infoRow64 : (Try.prog.info? 24).map (fun i => (i.zero, i.size, i.bytes)) = some (some (.slice none 0 0), 1, 24) := by kernel_rfl

/-- All are int64s. -/
def W64 (z : List Int) : Prop := ∀ n ∈ z, IntKind.i64.wrap n = n
theorem W64.nil : W64 [] := fun x hx => by simp at hx

/-- The blocks of S are as they were. -/
def Kept (S : Nat → Prop) (w w' : World) : Prop := ∀ k, S k → w'.heap[k]? = w.heap[k]?
theorem Kept.cell {S : Nat → Prop} {w w' : World} (h : Kept S w w') (p : Addr) (hp : S p.block) : w'.cell? p = w.cell? p := by
  unfold World.cell?
  rw [h _ hp]
theorem Kept.refl (S : Nat → Prop) (w : World) : Kept S w w := fun _ _ => rfl
theorem Kept.trans {S : Nat → Prop} {w w' w2 : World} (h : Kept S w w') (k : Kept S w' w2) : Kept S w w2 := fun i hi => (k i hi).trans (h i hi)
theorem Kept.set {S : Nat → Prop} (w : World) (p : Addr) (v : Value) (hp : ¬ S p.block) : Kept S w (w.setCell p v) := fun k hk => heap_setCell_other w p k v (fun e => hp (e ▸ hk))

theorem own_kept {w w' : World} {B : Nat} {T : TypeId} {size : Nat} {v : Value} {n : Nat} {xs : List Value} (h : w.ownsRow B T size v n xs) (k : Kept (fun b => B ≤ b) w w') : w'.ownsRow B T size v n xs := by
  refine ⟨h.1, ?_⟩
  rcases h.2 with hn | ⟨g, cap, cur, hv, hb, hg, rest⟩
  · exact .inl hn
  · exact .inr ⟨g, cap, cur, hv, hb, (k g hb).trans hg, rest⟩

/-- Rows of int64s, as they are read. -/
def RowsI (w : World) (a : Option Addr) (n : Nat) (R : List (List Int)) : Prop :=
  n = R.length ∧ (∀ z ∈ R, W64 z) ∧ (R = [] ∨ ∃ b off, a = some ⟨b, off, none⟩ ∧ ∀ i, i < R.length → ∃ x c, w.cell? ⟨b, off + i, none⟩ = some (.slice x (R.getD i []).length c) ∧ Sl .i64 w x (R.getD i []).length (R.getD i []) ∧ (x = none → c = 0))

theorem RowsI.below {w w' : World} {a : Option Addr} {n : Nat} {R : List (List Int)} (h : RowsI w a n R) (k : Below w.heap.size w w') : RowsI w' a n R := by
  refine ⟨h.1, h.2.1, ?_⟩
  rcases h.2.2 with h0 | ⟨b, off, ha, hc⟩
  · exact .inl h0
  · refine .inr ⟨b, off, ha, fun i hi => ?_⟩
    obtain ⟨x, c, h1, h2, h3⟩ := hc i hi
    exact ⟨x, c, (k.cell (p := ⟨b, off + i, none⟩) (block_lt_of_cell h1)).trans h1, h2.below k, h3⟩

/-- Rows of int64s that the call has made since block B: the spine and each row are its own, apart from each other. -/
structure MadeI (w : World) (B : Nat) (v : Value) (vs : List Value) (R : List (List Int)) : Prop where
  own : w.ownsRow B 24 1 v R.length vs
  row : ∀ i, i < R.length → w.ownsRow B 2 1 (vs.getD i undef) (R.getD i []).length ((R.getD i []).map (Value.int .i64))
  spine : ∀ i, i < R.length → (vs.getD i undef).ownBlock = none ∨ (vs.getD i undef).ownBlock ≠ v.ownBlock
  rows : ∀ i j, i < R.length → j < R.length → i ≠ j → (vs.getD i undef).ownBlock = none ∨ (vs.getD i undef).ownBlock ≠ (vs.getD j undef).ownBlock
  bs : ∀ z ∈ R, W64 z

theorem MadeI.start (w : World) (B : Nat) : MadeI w B (.slice none 0 0) [] [] :=
  ⟨World.ownsRow_nil _ _ _ _, fun i hi => by simp at hi, fun i hi => by simp at hi, fun i j hi => by simp at hi, fun z hz => by simp at hz⟩

theorem getD_w64 {R : List (List Int)} (h : ∀ z ∈ R, W64 z) (i : Nat) : W64 (R.getD i []) := by
  by_cases hi : i < R.length
  · have : R.getD i [] = R[i] := by simp [List.getD_eq_getElem?_getD, hi]
    rw [this]
    exact h _ (List.getElem_mem hi)
  · have : R.getD i [] = [] := by simp [List.getD_eq_getElem?_getD, hi]
    rw [this]
    exact W64.nil

theorem MadeI.read {w : World} {B : Nat} {a : Option Addr} {n c : Nat} {vs : List Value} {R : List (List Int)} (h : MadeI w B (.slice a n c) vs R) : RowsI w a n R := by
  have hl := h.own.1
  obtain ⟨a', c', he⟩ := own_form h.own
  simp at he
  obtain ⟨rfl, hn, rfl⟩ := he
  refine ⟨hn, h.bs, ?_⟩
  by_cases h0 : R = []
  · exact .inl h0
  · have hp : 0 < R.length := List.length_pos_iff.2 h0
    obtain ⟨g, c2, hg⟩ := own_some h.own (by
      rintro he
      rcases h.own.2 with ⟨_, h1⟩ | ⟨g, cap, cur, hv, _⟩
      · omega
      · rw [he] at hv; simp at hv)
    simp at hg
    obtain ⟨rfl, _, rfl⟩ := hg
    subst hn
    refine .inr ⟨g, 0, rfl, fun i hi => ?_⟩
    obtain ⟨x, cx, hv, hs, hnn⟩ := Sl.own (h.row i hi) (getD_w64 h.bs i)
    refine ⟨x, cx, ?_, hs, hnn⟩
    rw [Nat.zero_add, h.own.cellAt i (by omega), ← hv]
    simp [List.getD_eq_getElem?_getD, show i < vs.length by omega]

theorem MadeI.below {w w' : World} {B : Nat} {v : Value} {vs : List Value} {R : List (List Int)} (h : MadeI w B v vs R) (k : Below w.heap.size w w') : MadeI w' B v vs R :=
  ⟨own_below h.own k, fun i hi => own_below (h.row i hi) k, h.spine, h.rows, h.bs⟩

/-- One row more: it is new; the spine is as it lay, or new. -/
theorem MadeI.more {w w1 w2 : World} {B : Nat} {v v' vr : Value} {vs : List Value} {R : List (List Int)} {z : List Int} (h : MadeI w B v vs R) (k : Below w.heap.size w w1) (hz : W64 z) (o : w1.ownsRow w.heap.size 2 1 vr z.length (z.map (Value.int .i64)))
    (hB : B ≤ w.heap.size) (g : w1.grownBy w2 v.ownBlock) (o2 : w2.ownsRow B 24 1 v' (R.length + 1) (vs ++ [vr])) (hv : v'.ownBlock = v.ownBlock ∨ ∃ j, v'.ownBlock = some j ∧ w1.heap.size ≤ j) : MadeI w2 B v' (vs ++ [vr]) (R ++ [z]) := by
  have hl : vs.length = R.length := by have := h.own.1; omega
  have hlow : ∀ b, v.ownBlock = some b → b < w.heap.size := fun b hb => (h.own.lt b hb).2
  have hrl : ∀ i, i < R.length → ∀ b, (vs.getD i undef).ownBlock = some b → b < w.heap.size := fun i hi b hb => ((h.row i hi).lt b hb).2
  have hnew : ∀ b, vr.ownBlock = some b → w.heap.size ≤ b ∧ b < w1.heap.size := fun b hb => o.lt b hb
  have gi : ∀ i, i < R.length → (vs ++ [vr]).getD i undef = vs.getD i undef := fun i hi => by simp [List.getD_eq_getElem?_getD, List.getElem?_append, hl, hi]
  have gr : ∀ i, i < R.length → (R ++ [z]).getD i [] = R.getD i [] := fun i hi => by simp [List.getD_eq_getElem?_getD, List.getElem?_append, hi]
  have gn : (vs ++ [vr]).getD R.length undef = vr := by simp [List.getD_eq_getElem?_getD, List.getElem?_append, hl]
  have gz : (R ++ [z]).getD R.length [] = z := by simp [List.getD_eq_getElem?_getD, List.getElem?_append]
  have split : ∀ i, i < (R ++ [z]).length → i < R.length ∨ i = R.length := fun i hi => by simp at hi; omega
  refine ⟨by simpa using o2, ?_, ?_, ?_, ?_⟩
  · intro i hi
    rcases split i hi with h1 | rfl
    · rw [gi i h1, gr i h1]
      exact (own_below (h.row i h1) k).kept g (h.spine i h1)
    · rw [gn, gz]
      refine (own_base o hB).kept g ?_
      cases hb : vr.ownBlock with
      | none => exact .inl rfl
      | some b =>
        refine .inr (fun he => ?_)
        have := hlow b he.symm
        have := (hnew b hb).1
        omega
  · intro i hi
    rcases split i hi with h1 | rfl
    · rw [gi i h1]
      rcases hv with hv | ⟨j, hv, hj⟩
      · rw [hv]; exact h.spine i h1
      · cases hb : (vs.getD i undef).ownBlock with
        | none => exact .inl rfl
        | some b => exact .inr (by rw [hv]; intro he; have := hrl i h1 b hb; have := k.size; simp at he; omega)
    · rw [gn]
      cases hb : vr.ownBlock with
      | none => exact .inl rfl
      | some b =>
        refine .inr (fun he => ?_)
        have := hnew b hb
        rcases hv with hv | ⟨j, hv, hj⟩
        · rw [hv] at he; have := hlow b he.symm; omega
        · rw [hv] at he; simp at he; omega
  · intro i j hi hj hij
    rcases split i hi with h1 | rfl
    · rcases split j hj with h2 | rfl
      · rw [gi i h1, gi j h2]; exact h.rows i j h1 h2 hij
      · rw [gi i h1, gn]
        cases hb : (vs.getD i undef).ownBlock with
        | none => exact .inl rfl
        | some b => exact .inr (fun he => by have := hrl i h1 b hb; have := (hnew b he.symm).1; omega)
    · rcases split j hj with h2 | rfl
      · rw [gn, gi j h2]
        cases hb : vr.ownBlock with
        | none => exact .inl rfl
        | some b => exact .inr (fun he => by have := hrl j h2 b he.symm; have := (hnew b hb).1; omega)
      · exact absurd rfl hij
  · intro y hy
    rcases List.mem_append.1 hy with hy | hy
    · exact h.bs y hy
    · simp at hy; rw [hy]; exact hz

theorem MadeI.kept {w w' : World} {B : Nat} {v : Value} {vs : List Value} {R : List (List Int)} (h : MadeI w B v vs R) (k : Kept (fun b => B ≤ b) w w') : MadeI w' B v vs R :=
  ⟨own_kept h.own k, fun i hi => own_kept (h.row i hi) k, h.spine, h.rows, h.bs⟩
theorem MadeI.base {w : World} {B B' : Nat} {v : Value} {vs : List Value} {R : List (List Int)} (h : MadeI w B v vs R) (k : B' ≤ B) : MadeI w B' v vs R :=
  ⟨own_base h.own k, fun i hi => own_base (h.row i hi) k, h.spine, h.rows, h.bs⟩

/-- A spine of m rows that is being filled: the first ones are made, the others are nil. -/
structure PartI (w : World) (g m : Nat) (vs : List Value) (R : List (List Int)) : Prop where
  len : vs.length = R.length
  fits : R.length ≤ m
  spine : w.heap[g]? = some (.cells (vs ++ List.replicate (m - R.length) (Value.slice none 0 0)).toArray 24 (0, 0))
  row : ∀ i, i < R.length → w.ownsRow (g + 1) 2 1 (vs.getD i undef) (R.getD i []).length ((R.getD i []).map (Value.int .i64))
  rows : ∀ i j, i < R.length → j < R.length → i ≠ j → (vs.getD i undef).ownBlock = none ∨ (vs.getD i undef).ownBlock ≠ (vs.getD j undef).ownBlock
  bs : ∀ z ∈ R, W64 z

theorem PartI.start {w : World} {g m : Nat} (h : w.heap[g]? = some (.cells (List.replicate m (Value.slice none 0 0)).toArray 24 (0, 0))) : PartI w g m [] [] :=
  ⟨rfl, Nat.zero_le _, by simpa using h, fun i hi => by simp at hi, fun i j hi => by simp at hi, fun z hz => by simp at hz⟩
theorem PartI.below {w w' : World} {g m : Nat} {vs : List Value} {R : List (List Int)} (h : PartI w g m vs R) (k : Below w.heap.size w w') : PartI w' g m vs R :=
  ⟨h.len, h.fits, (k.block g (lt_of_block h.spine)).trans h.spine, fun i hi => own_below (h.row i hi) k, h.rows, h.bs⟩
theorem PartI.cell {w : World} {g m : Nat} {vs : List Value} {R : List (List Int)} (h : PartI w g m vs R) (hk : R.length < m) : w.cell? ⟨g, R.length, none⟩ = some (.slice none 0 0) := by
  have hl := h.len
  rw [cell_of_row w g _ _ _ _ h.spine]
  simp only [List.getElem?_toArray]
  rw [List.getElem?_append_right (by omega), List.getElem?_replicate, if_pos (by omega)]
theorem PartI.free {w : World} {g m : Nat} {vs : List Value} {R : List (List Int)} (h : PartI w g m vs R) (i : Nat) : w.frozen? ⟨g, i, none⟩ = false := frozen_of_row w g i _ _ h.spine

theorem PartI.more {w w1 : World} {g m : Nat} {vs : List Value} {R : List (List Int)} {vr : Value} {z : List Int} (h : PartI w g m vs R) (hk : R.length < m) (k : Below w.heap.size w w1) (hz : W64 z)
    (o : w1.ownsRow w.heap.size 2 1 vr z.length (z.map (Value.int .i64))) : PartI (w1.setCell ⟨g, R.length, none⟩ vr) g m (vs ++ [vr]) (R ++ [z]) := by
  have hg := lt_of_block h.spine
  have h1 := h.below k
  have hl := h.len
  have gi : ∀ i, i < R.length → (vs ++ [vr]).getD i undef = vs.getD i undef := fun i hi => by simp [List.getD_eq_getElem?_getD, List.getElem?_append, hl, hi]
  have gr : ∀ i, i < R.length → (R ++ [z]).getD i [] = R.getD i [] := fun i hi => by simp [List.getD_eq_getElem?_getD, List.getElem?_append, hi]
  have gn : (vs ++ [vr]).getD R.length undef = vr := by simp [List.getD_eq_getElem?_getD, List.getElem?_append, hl]
  have gz : (R ++ [z]).getD R.length [] = z := by simp [List.getD_eq_getElem?_getD, List.getElem?_append]
  have split : ∀ i, i < (R ++ [z]).length → i < R.length ∨ i = R.length := fun i hi => by simp at hi; omega
  have ap : ∀ {B : Nat} {v : Value} {n : Nat} {xs : List Value}, w1.ownsRow B 2 1 v n xs → g < B → (w1.setCell ⟨g, R.length, none⟩ vr).ownsRow B 2 1 v n xs := fun ho hB =>
    own_kept ho (Kept.set w1 ⟨g, R.length, none⟩ vr (by show ¬ _ ≤ g; omega))
  refine ⟨by simp [hl], by simp; omega, ?_, ?_, ?_, ?_⟩
  · rw [heap_setCell_same w1 g R.length _ _ _ h1.spine]
    have e : (vs ++ List.replicate (m - R.length) (Value.slice none 0 0)).set R.length vr = (vs ++ [vr]) ++ List.replicate (m - (R ++ [z]).length) (Value.slice none 0 0) := by
      have : m - R.length = (m - (R.length + 1)) + 1 := by omega
      rw [this, List.replicate_succ, ← hl, List.set_append_right _ _ (Nat.le_refl _)]
      simp [hl]
    simp only [List.setIfInBounds_toArray, e]
  · intro i hi
    rcases split i hi with h2 | rfl
    · rw [gi i h2, gr i h2]
      exact ap (h1.row i h2) (by omega)
    · rw [gn, gz]
      exact ap (own_base o (by omega)) (by omega)
  · intro i j hi hj hij
    rcases split i hi with h2 | rfl
    · rcases split j hj with h3 | rfl
      · rw [gi i h2, gi j h3]; exact h.rows i j h2 h3 hij
      · rw [gi i h2, gn]
        cases hb : (vs.getD i undef).ownBlock with
        | none => exact .inl rfl
        | some b => exact .inr (fun he => by have := ((h.row i h2).lt b hb).2; have := (o.lt b he.symm).1; omega)
    · rcases split j hj with h3 | rfl
      · rw [gn, gi j h3]
        cases hb : vr.ownBlock with
        | none => exact .inl rfl
        | some b => exact .inr (fun he => by have := ((h.row j h3).lt b he.symm).2; have := (o.lt b hb).1; omega)
      · exact absurd rfl hij
  · intro y hy
    rcases List.mem_append.1 hy with hy | hy
    · exact h.bs y hy
    · simp at hy; rw [hy]; exact hz

theorem PartI.all {w : World} {g : Nat} {vs : List Value} {R : List (List Int)} (h : PartI w g R.length vs R) {B : Nat} (hB : B ≤ g) (hm : R.length ≤ maxLen) : MadeI w B (.slice (some ⟨g, 0, none⟩) R.length R.length) vs R := by
  have hsp := h.spine
  simp only [Nat.sub_self, List.replicate_zero, List.append_nil] at hsp
  refine ⟨⟨by rw [h.len]; omega, .inr ⟨g, R.length, vs.toArray, rfl, hB, hsp, Nat.le_refl _, hm, by simp [h.len], ?_⟩⟩, fun i hi => own_base (h.row i hi) (by omega), ?_, h.rows, h.bs⟩
  · rw [Nat.mul_one, ← h.len]; simp
  · intro i hi
    cases hb : (vs.getD i undef).ownBlock with
    | none => exact .inl rfl
    | some b =>
      refine .inr (fun he => ?_)
      have := ((h.row i hi).lt b hb).1
      simp [Value.ownBlock] at he
      omega

end Go.Proofs.Ytpaieecbedgeaaa
