/-
  Rows of bytes: as they are read, as a call makes them; records as bytes.
-/
import Derived.Test.YtdecdjjknbbolaaArith
import Derived.Test.YtdecdjjknbbolaaBytes
import Derived.Test.YtdecdjjknbbolaaSl
import Derived.Maps.AppendAt
namespace Go.Proofs.Ytdecdjjknbbolaa
open Go.RowKit
set_option linter.unusedVariables false
set_option linter.unusedSimpArgs false


/-- A record's bytes. -/
def recS (z : List Int) : List Int := [((z.length / 256 : Nat) : Int), ((z.length % 256 : Nat) : Int)] ++ z

/-- The records that are whole, and how many bytes are left: with so many steps at most. -/
def scanF : Nat → List Int → List (List Int) × Nat
  | f + 1, h :: l :: t => if 60000 < (h * 256 + l).toNat ∨ t.length < (h * 256 + l).toNat then ([], t.length + 2) else
      (t.take (h * 256 + l).toNat :: (scanF f (t.drop (h * 256 + l).toNat)).1, (scanF f (t.drop (h * 256 + l).toNat)).2)
  | _, x => ([], x.length)
/-- The records that are whole, and how many bytes are left. -/
def scanS (z : List Int) : List (List Int) × Nat := scanF z.length z

theorem scanF_short (f : Nat) (z : List Int) (h : z.length < 2) : scanF f z = ([], z.length) := by
  match f, z, h with
  | 0, _, _ => rfl
  | _ + 1, [], _ => rfl
  | _ + 1, [_], _ => rfl
theorem scanF_step (f : Nat) (h l : Int) (t : List Int) : scanF (f + 1) (h :: l :: t) = if 60000 < (h * 256 + l).toNat ∨ t.length < (h * 256 + l).toNat then ([], t.length + 2) else
      (t.take (h * 256 + l).toNat :: (scanF f (t.drop (h * 256 + l).toNat)).1, (scanF f (t.drop (h * 256 + l).toNat)).2) := rfl
/-- Enough steps, however many. -/
theorem scanF_two (f : Nat) : ∀ (g : Nat) (z : List Int), z.length ≤ f → z.length ≤ g → scanF f z = scanF g z := by
  induction f with
  | zero =>
    intro g z hf hg
    rw [scanF_short 0 z (by omega), scanF_short g z (by omega)]
  | succ f ih =>
    intro g z hf hg
    match z, hf, hg with
    | [], _, _ => rw [scanF_short _ _ (by simp), scanF_short _ _ (by simp)]
    | [x], _, _ => rw [scanF_short _ _ (by simp), scanF_short _ _ (by simp)]
    | h :: l :: t, hf, hg =>
      simp only [List.length_cons] at hf hg
      obtain ⟨g', rfl⟩ : ∃ g', g = g' + 1 := ⟨g - 1, by omega⟩
      rw [scanF_step, scanF_step]
      split
      · rfl
      · have hd : (t.drop (h * 256 + l).toNat).length ≤ t.length := by simp
        rw [ih g' _ (by omega) (by omega)]
theorem scanF_more (f : Nat) (z : List Int) (h : z.length ≤ f) : scanF f z = scanF z.length z := scanF_two f z.length z h (Nat.le_refl _)

theorem scanS_short (z : List Int) (h : z.length < 2) : scanS z = ([], z.length) := scanF_short _ z h
theorem scanS_stop (h l : Int) (t : List Int) (hn : 60000 < (h * 256 + l).toNat ∨ t.length < (h * 256 + l).toNat) : scanS (h :: l :: t) = ([], t.length + 2) := by
  show scanF (t.length + 1 + 1) _ = _
  rw [scanF_step, if_pos hn]
theorem scanS_next (h l : Int) (t : List Int) (hn : ¬ (60000 < (h * 256 + l).toNat ∨ t.length < (h * 256 + l).toNat)) :
    scanS (h :: l :: t) = (t.take (h * 256 + l).toNat :: (scanS (t.drop (h * 256 + l).toNat)).1, (scanS (t.drop (h * 256 + l).toNat)).2) := by
  show scanF (t.length + 1 + 1) _ = _
  rw [scanF_step, if_neg hn, scanF_more _ _ (by simp; omega)]
  rfl

theorem scanS_count (m : Nat) : ∀ z : List Int, z.length ≤ m → (scanS z).1.length ≤ z.length := by
  induction m with
  | zero => intro z hz; rw [scanS_short z (by omega)]; simp
  | succ m ih =>
    intro z hz
    by_cases h2 : z.length < 2
    · rw [scanS_short z h2]; simp
    · match z, h2, hz with
      | [], h, _ => simp at h
      | [x], h, _ => simp at h
      | h :: l :: t, _, hz =>
        by_cases hs : 60000 < (h * 256 + l).toNat ∨ t.length < (h * 256 + l).toNat
        · rw [scanS_stop h l t hs]; simp
        · rw [scanS_next h l t hs]
          have := ih (t.drop (h * 256 + l).toNat) (by simp at hz ⊢; omega)
          simp at this ⊢
          omega

theorem recS_length (z : List Int) : (recS z).length = z.length + 2 := by simp [recS]

/-- A record ahead of other bytes is the first one. -/
theorem scanS_rec (z y : List Int) (hz : z.length ≤ 60000) : scanS (recS z ++ y) = (z :: (scanS y).1, (scanS y).2) := by
  have e : ((((z.length / 256 : Nat) : Int)) * 256 + ((z.length % 256 : Nat) : Int)).toNat = z.length := by omega
  have h1 : recS z ++ y = ((z.length / 256 : Nat) : Int) :: ((z.length % 256 : Nat) : Int) :: (z ++ y) := by simp [recS]
  rw [h1, scanS_next _ _ _ (by rw [e, List.length_append]; omega), e]
  simp

/-- Rows of bytes, as they are read. -/
def RowsIn (w : World) (a : Option Addr) (n : Nat) (R : List (List Int)) : Prop :=
  n = R.length ∧ (∀ z ∈ R, Bs z) ∧ (R = [] ∨ ∃ b off, a = some ⟨b, off, none⟩ ∧ ∀ i, i < R.length → ∃ x c, w.cell? ⟨b, off + i, none⟩ = some (.slice x (R.getD i []).length c) ∧ Sl .u8 w x (R.getD i []).length (R.getD i []))

theorem RowsIn.below {w w' : World} {a : Option Addr} {n : Nat} {R : List (List Int)} (h : RowsIn w a n R) (k : Below w.heap.size w w') : RowsIn w' a n R := by
  refine ⟨h.1, h.2.1, ?_⟩
  rcases h.2.2 with h0 | ⟨b, off, ha, hc⟩
  · exact .inl h0
  · refine .inr ⟨b, off, ha, fun i hi => ?_⟩
    obtain ⟨x, c, h1, h2⟩ := hc i hi
    exact ⟨x, c, (k.cell (p := ⟨b, off + i, none⟩) (block_lt_of_cell h1)).trans h1, h2.below k⟩

/-- Rows of bytes that the call has made since block B: the spine and each row are its own, apart from each other. -/
structure Made (w : World) (B : Nat) (v : Value) (vs : List Value) (R : List (List Int)) : Prop where
  own : w.ownsRow B 26 1 v R.length vs
  row : ∀ i, i < R.length → w.ownsRow B 5 1 (vs.getD i undef) (R.getD i []).length ((R.getD i []).map (Value.int .u8))
  spine : ∀ i, i < R.length → (vs.getD i undef).ownBlock = none ∨ (vs.getD i undef).ownBlock ≠ v.ownBlock
  rows : ∀ i j, i < R.length → j < R.length → i ≠ j → (vs.getD i undef).ownBlock = none ∨ (vs.getD i undef).ownBlock ≠ (vs.getD j undef).ownBlock
  bs : ∀ z ∈ R, Bs z

theorem Made.none (w : World) (B : Nat) : Made w B (.slice none 0 0) [] [] :=
  ⟨World.ownsRow_nil _ _ _ _, fun i hi => by simp at hi, fun i hi => by simp at hi, fun i j hi => by simp at hi, fun z hz => by simp at hz⟩

theorem getD_bs {R : List (List Int)} (h : ∀ z ∈ R, Bs z) (i : Nat) : Bs (R.getD i []) := by
  by_cases hi : i < R.length
  · have : R.getD i [] = R[i] := by simp [List.getD_eq_getElem?_getD, hi]
    rw [this]
    exact h _ (List.getElem_mem hi)
  · have : R.getD i [] = [] := by simp [List.getD_eq_getElem?_getD, hi]
    rw [this]
    exact Bs.nil

theorem Made.read {w : World} {B : Nat} {a : Option Addr} {n c : Nat} {vs : List Value} {R : List (List Int)} (h : Made w B (.slice a n c) vs R) : RowsIn w a n R := by
  have hl := h.own.1
  obtain ⟨a', c', he⟩ := own_form h.own
  simp at he
  obtain ⟨rfl, hn, rfl⟩ := he
  refine ⟨hn, h.bs, ?_⟩
  by_cases h0 : R = []
  · exact .inl h0
  · have hp : 0 < R.length := List.length_pos_iff.2 h0
    obtain ⟨g, c2, hg⟩ := own_some h.own (by
      rintro he
      rcases h.own.2 with ⟨_, h1⟩ | ⟨g, cap, cur, hv, _⟩
      · omega
      · rw [he] at hv; simp at hv)
    simp at hg
    obtain ⟨rfl, _, rfl⟩ := hg
    subst hn
    refine .inr ⟨g, 0, rfl, fun i hi => ?_⟩
    obtain ⟨x, cx, hv, hs, _⟩ := Sl.own (h.row i hi) (getD_bs h.bs i)
    refine ⟨x, cx, ?_, hs⟩
    rw [Nat.zero_add, h.own.cellAt i (by omega), ← hv]
    simp [List.getD_eq_getElem?_getD, show i < vs.length by omega]

theorem Made.below {w w' : World} {B : Nat} {v : Value} {vs : List Value} {R : List (List Int)} (h : Made w B v vs R) (k : Below w.heap.size w w') : Made w' B v vs R :=
  ⟨own_below h.own k, fun i hi => own_below (h.row i hi) k, h.spine, h.rows, h.bs⟩

/-- One row more: it is new; the spine is as it lay, or new. -/
theorem Made.more {w w1 w2 : World} {B : Nat} {v v' vr : Value} {vs : List Value} {R : List (List Int)} {z : List Int} (h : Made w B v vs R) (k : Below w.heap.size w w1) (hz : Bs z) (o : w1.ownsRow w.heap.size 5 1 vr z.length (z.map (Value.int .u8)))
    (hB : B ≤ w.heap.size) (g : w1.grownBy w2 v.ownBlock) (o2 : w2.ownsRow B 26 1 v' (R.length + 1) (vs ++ [vr])) (hv : v'.ownBlock = v.ownBlock ∨ ∃ j, v'.ownBlock = some j ∧ w1.heap.size ≤ j) : Made w2 B v' (vs ++ [vr]) (R ++ [z]) := by
  have hl : vs.length = R.length := by have := h.own.1; omega
  have hlow : ∀ b, v.ownBlock = some b → b < w.heap.size := fun b hb => (h.own.lt b hb).2
  have hrl : ∀ i, i < R.length → ∀ b, (vs.getD i undef).ownBlock = some b → b < w.heap.size := fun i hi b hb => ((h.row i hi).lt b hb).2
  have hnew : ∀ b, vr.ownBlock = some b → w.heap.size ≤ b ∧ b < w1.heap.size := fun b hb => o.lt b hb
  have gi : ∀ i, i < R.length → (vs ++ [vr]).getD i undef = vs.getD i undef := fun i hi => by simp [List.getD_eq_getElem?_getD, List.getElem?_append, hl, hi]
  have gr : ∀ i, i < R.length → (R ++ [z]).getD i [] = R.getD i [] := fun i hi => by simp [List.getD_eq_getElem?_getD, List.getElem?_append, hi]
  have gn : (vs ++ [vr]).getD R.length undef = vr := by simp [List.getD_eq_getElem?_getD, List.getElem?_append, hl]
  have gz : (R ++ [z]).getD R.length [] = z := by simp [List.getD_eq_getElem?_getD, List.getElem?_append]
  have split : ∀ i, i < (R ++ [z]).length → i < R.length ∨ i = R.length := fun i hi => by simp at hi; omega
  refine ⟨by simpa using o2, ?_, ?_, ?_, ?_⟩
  · intro i hi
    rcases split i hi with h1 | rfl
    · rw [gi i h1, gr i h1]
      exact (own_below (h.row i h1) k).kept g (h.spine i h1)
    · rw [gn, gz]
      refine (own_base o hB).kept g ?_
      cases hb : vr.ownBlock with
      | none => exact .inl rfl
      | some b =>
        refine .inr (fun he => ?_)
        have := hlow b he.symm
        have := (hnew b hb).1
        omega
  · intro i hi
    rcases split i hi with h1 | rfl
    · rw [gi i h1]
      rcases hv with hv | ⟨j, hv, hj⟩
      · rw [hv]; exact h.spine i h1
      · cases hb : (vs.getD i undef).ownBlock with
        | none => exact .inl rfl
        | some b => exact .inr (by rw [hv]; intro he; have := hrl i h1 b hb; have := k.size; simp at he; omega)
    · rw [gn]
      cases hb : vr.ownBlock with
      | none => exact .inl rfl
      | some b =>
        refine .inr (fun he => ?_)
        have := hnew b hb
        rcases hv with hv | ⟨j, hv, hj⟩
        · rw [hv] at he; have := hlow b he.symm; omega
        · rw [hv] at he; simp at he; omega
  · intro i j hi hj hij
    rcases split i hi with h1 | rfl
    · rcases split j hj with h2 | rfl
      · rw [gi i h1, gi j h2]; exact h.rows i j h1 h2 hij
      · rw [gi i h1, gn]
        cases hb : (vs.getD i undef).ownBlock with
        | none => exact .inl rfl
        | some b => exact .inr (fun he => by have := hrl i h1 b hb; have := (hnew b he.symm).1; omega)
    · rcases split j hj with h2 | rfl
      · rw [gn, gi j h2]
        cases hb : vr.ownBlock with
        | none => exact .inl rfl
        | some b => exact .inr (fun he => by have := hrl j h2 b he.symm; have := (hnew b hb).1; omega)
      · exact absurd rfl hij
  · intro y hy
    rcases List.mem_append.1 hy with hy | hy
    · exact h.bs y hy
    · simp at hy; rw [hy]; exact hz

end Go.Proofs.Ytdecdjjknbbolaa
