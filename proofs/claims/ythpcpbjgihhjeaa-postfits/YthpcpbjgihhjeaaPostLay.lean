/-
  Books of n parties that a call made, cell by cell, as functions: what is written into accounts and positions.
-/
import Derived.Test.YthpcpbjgihhjeaaCopyApart
import Derived.Test.YthpcpbjgihhjeaaPostSpec
import Derived.Deep.AppendLies
namespace Go.Proofs.Ythpcpbjgihhjeaa
open Go.RowKit
set_option linter.unusedVariables false
set_option linter.unusedSimpArgs false

def mkA (n : Nat) (fA : Nat → A3) : List A3 := (List.range n).map fA
def mkP (n : Nat) (fP : Nat → Nat → Int) : List (List Int) := (List.range n).map fun i => (List.range n).map (fP i)
theorem mkA_len (n : Nat) (fA : Nat → A3) : (mkA n fA).length = n := by simp [mkA]
theorem mkP_len (n : Nat) (fP : Nat → Nat → Int) : (mkP n fP).length = n := by simp [mkP]
theorem mkA_at {n i : Nat} (fA : Nat → A3) (h : i < n) : (mkA n fA).getD i a30 = fA i := by simp [mkA, h]
theorem mkP_row {n i : Nat} (fP : Nat → Nat → Int) (h : i < n) : (mkP n fP).getD i [] = (List.range n).map (fP i) := by simp [mkP, h]
theorem mkP_at {n i k : Nat} (fP : Nat → Nat → Int) (h : i < n) (hk : k < n) : at2 (mkP n fP) i k = fP i k := by
  unfold at2
  rw [mkP_row fP h]
  simp [hk]
theorem mkA_congr {n : Nat} {f g : Nat → A3} (h : ∀ i, i < n → f i = g i) : mkA n f = mkA n g := List.map_congr_left fun i hi => h i (List.mem_range.1 hi)
theorem mkP_congr {n : Nat} {f g : Nat → Nat → Int} (h : ∀ i k, i < n → k < n → f i k = g i k) : mkP n f = mkP n g :=
  List.map_congr_left fun i hi => List.map_congr_left fun k hk => h i k (List.mem_range.1 hi) (List.mem_range.1 hk)
theorem mkA_self (A : List A3) : mkA A.length (fun i => A.getD i a30) = A := by
  refine List.ext_getElem (by simp [mkA]) fun i h1 h2 => ?_
  simp [mkA, h2]
theorem mkP_self {P : List (List Int)} (hs : ∀ i, i < P.length → (P.getD i []).length = P.length) : mkP P.length (at2 P) = P := by
  refine List.ext_getElem (by simp [mkP]) fun i h1 h2 => ?_
  have hi := hs i h2
  simp [h2] at hi
  refine List.ext_getElem (by simp [mkP, hi]) fun k h3 h4 => ?_
  simp [mkP, at2, h2, h4]

/-- An account, a position is written. -/
def updA (fA : Nat → A3) (i : Nat) (a : A3) : Nat → A3 := fun k => if k = i then a else fA k
def updP (fP : Nat → Nat → Int) (i j : Nat) (y : Int) : Nat → Nat → Int := fun k l => if k = i ∧ l = j then y else fP k l
theorem accL_get (A : List A3) (j : Nat) (h : j < A.length * 3) : (accL A)[j]? = some (if j % 3 = 0 then .int .i64 (A.getD (j / 3) a30).1 else if j % 3 = 1 then .int .i64 (A.getD (j / 3) a30).2.1 else .int .i64 (A.getD (j / 3) a30).2.2) := by
  obtain ⟨c0, c1, c2⟩ := accL_at A (j / 3) (by omega)
  rcases (by omega : j % 3 = 0 ∨ j % 3 = 1 ∨ j % 3 = 2) with e | e | e
  · rw [if_pos e, ← c0]; congr 1; omega
  · rw [if_neg (by omega), if_pos e, ← c1]; congr 1; omega
  · rw [if_neg (by omega), if_neg (by omega), ← c2]; congr 1; omega
theorem accL_upd {n i : Nat} (fA : Nat → A3) (hi : i < n) (j : Nat) (hj : j < 3) (a : A3) (u : Value)
    (h0 : j = 0 → u = .int .i64 a.1 ∧ a.2 = (fA i).2) (h1 : j = 1 → u = .int .i64 a.2.1 ∧ a.1 = (fA i).1 ∧ a.2.2 = (fA i).2.2) (h2 : j = 2 → u = .int .i64 a.2.2 ∧ a.1 = (fA i).1 ∧ a.2.1 = (fA i).2.1) :
    accL (mkA n (updA fA i a)) = (accL (mkA n fA)).set (i * 3 + j) u := by
  refine List.ext_getElem? fun k => ?_
  by_cases hk : k < n * 3
  · rw [accL_get _ k (by rw [mkA_len]; exact hk), List.getElem?_set]
    have hk3 : k / 3 < n := by omega
    rw [mkA_at _ hk3]
    by_cases he : i * 3 + j = k
    · have hlen : i * 3 + j < (accL (mkA n fA)).length := by rw [accL_length, mkA_len]; omega
      rw [if_pos he, if_pos hlen]
      have hk1 : k / 3 = i := by omega
      have hk2 : k % 3 = j := by omega
      rw [hk1, hk2]
      simp only [updA, if_pos]
      rcases (by omega : j = 0 ∨ j = 1 ∨ j = 2) with rfl | rfl | rfl
      · simp [(h0 rfl).1]
      · simp [(h1 rfl).1]
      · simp [(h2 rfl).1]
    · rw [if_neg he, accL_get _ k (by rw [mkA_len]; exact hk), mkA_at _ hk3]
      by_cases hki : k / 3 = i
      · have hkj : ¬ k % 3 = j := by omega
        rw [hki]
        simp only [updA, if_pos]
        rcases (by omega : j = 0 ∨ j = 1 ∨ j = 2) with rfl | rfl | rfl
        · rw [if_neg hkj, if_neg hkj, (h0 rfl).2]
        · obtain ⟨_, e1, e2⟩ := h1 rfl
          rw [e1, e2]
          simp [hkj]
        · obtain ⟨_, e1, e2⟩ := h2 rfl
          rw [e1, e2]
          rcases (by omega : k % 3 = 0 ∨ k % 3 = 1) with e | e <;> simp [e]
      · simp only [updA, if_neg hki]
  · rw [List.getElem?_eq_none (by rw [accL_length, mkA_len]; omega), List.getElem?_eq_none (by rw [List.length_set, accL_length, mkA_len]; omega)]

/-- Of what was there only blocks from B on and below T may have turned. -/
structure Within (B T : Nat) (w w' : World) : Prop where
  os : w'.os = w.os
  tape : w'.tape = w.tape
  output : w'.output = w.output
  size : w.heap.size ≤ w'.heap.size
  block : ∀ k, k < w.heap.size → k < B ∨ T ≤ k → w'.heap[k]? = w.heap[k]?
theorem Within.refl (B T : Nat) (w : World) : Within B T w w := ⟨rfl, rfl, rfl, Nat.le_refl _, fun _ _ _ => rfl⟩
theorem Within.trans {B T : Nat} {a b c : World} (h : Within B T a b) (k : Within B T b c) : Within B T a c :=
  ⟨k.os.trans h.os, k.tape.trans h.tape, k.output.trans h.output, Nat.le_trans h.size k.size, fun i hi ho => (k.block i (Nat.lt_of_lt_of_le hi h.size) ho).trans (h.block i hi ho)⟩
theorem Within.of {B T : Nat} {w w' : World} (h : Below w.heap.size w w') : Within B T w w' := ⟨h.os, h.tape, h.output, h.size, fun k hk _ => h.block k hk⟩
theorem Within.below {B T : Nat} {w w' : World} (h : Within B T w w') (hB : B ≤ w.heap.size) : Below B w w' := ⟨h.os, h.tape, h.output, h.size, fun k hk => h.block k (by omega) (.inl hk)⟩
theorem Within.set {B T : Nat} {a w : World} (h : Within B T a w) {p : Addr} (hp : B ≤ p.block) (ht : p.block < T) (u : Value) : Within B T a (w.setCell p u) :=
  h.trans ⟨rfl, rfl, rfl, by simp [World.setCell], fun k _ ho => heap_setCell_other w p k u (by omega)⟩
theorem Within.cell {B T : Nat} {w w' : World} (h : Within B T w w') {p : Addr} {v : Value} (hc : w.cell? p = some v) (ho : p.block < B ∨ T ≤ p.block) : w'.cell? p = some v := by
  have : w'.cell? p = w.cell? p := by
    unfold World.cell?
    rw [h.block _ (block_lt_of_cell hc) ho]
  rw [this]
  exact hc

/-- Where books of n parties lie that a call made. -/
structure PLay (w : World) (B T : Nat) (x : BA) (b : Bks) (gA sp : Nat) (g cg : Nat → Nat) (n : Nat) (fA : Nat → A3) (fP : Nat → Nat → Int) : Prop where
  eA : x.aA = some ⟨gA, 0, none⟩
  nA : x.nA = n
  eP : x.aP = some ⟨sp, 0, none⟩
  nP : x.nP = n
  acc : w.ownsRow B 39 3 (.slice (some ⟨gA, 0, none⟩) n x.cA) n (accL (mkA n fA))
  rest : ∃ S vb vs, B ≤ S ∧ MadeI w B (.slice x.aB x.nB x.cB) vb b.B ∧ Low S (.slice x.aB x.nB x.cB) ∧ (∀ i, i < b.B.length → Low S (vb.getD i undef)) ∧ w.ownsRow B 2 1 (.slice x.aM x.nM x.cM) b.M.length (b.M.map (Value.int .i64)) ∧ Low S (.slice x.aM x.nM x.cM) ∧
    MadeI w S (.slice (some ⟨sp, 0, none⟩) n x.cP) vs (mkP n fP) ∧ gA < S ∧ ∀ i, i < n → vs.getD i undef = .slice (some ⟨g i, 0, none⟩) n (cg i)
  wf : W64 b.M
  top : gA < T ∧ sp < T ∧ ∀ i, i < n → g i < T
  le : T ≤ w.heap.size

section
variable {w : World} {B T : Nat} {x : BA} {b : Bks} {gA sp : Nat} {g cg : Nat → Nat} {n : Nat} {fA : Nat → A3} {fP : Nat → Nat → Int}

theorem PLay.mk' {S : Nat} (h : NewBkA w B S x b) (gd : Good b) : ∃ gA sp g cg, PLay w B w.heap.size x b gA sp g cg b.A.length (fun i => b.A.getD i a30) (at2 b.P) := by
  obtain ⟨aA, nA, cA, aB, nB, cB, aM, nM, cM, aP, nP, cP⟩ := x
  obtain ⟨vs, hp⟩ := h.pos
  obtain ⟨vb, hb, lb, lbs⟩ := h.bil
  have n1 := gd.n1
  have ho := h.acc
  obtain ⟨gA, c1, hv, h1, h2⟩ := World.ownsRow.form ho (by omega)
  simp at hv
  obtain ⟨rfl, rfl, rfl⟩ := hv
  have hq := hp.own
  have lp := gd.pos
  obtain ⟨sp, c2, hv, h3, h4⟩ := World.ownsRow.form hq (by omega)
  simp at hv
  obtain ⟨rfl, rfl, rfl⟩ := hv
  have fr : ∀ i, i < b.A.length → ∃ gg cc, vs.getD i undef = .slice (some ⟨gg, 0, none⟩) b.A.length cc ∧ gg < w.heap.size := by
    intro i hi
    have hr := hp.row i (by omega)
    rw [gd.poss i hi] at hr
    obtain ⟨gg, cc, e, _, hlt⟩ := World.ownsRow.form hr (by omega)
    exact ⟨gg, cc, e, hlt⟩
  refine ⟨gA, sp, fun i => ((vs.getD i undef).ownBlock).getD 0, fun i => (match vs.getD i undef with | .slice _ _ c => c | _ => 0), ⟨rfl, rfl, rfl, lp, by rw [mkA_self]; exact ho, ?_, h.wf, ⟨h2, h4, fun i hi => ?_⟩, Nat.le_refl _⟩⟩
  · refine ⟨S, vb, vs, h.up, hb, lb, lbs, h.mul, h.lowM, ?_, h.lowA gA rfl, fun i hi => ?_⟩
    · have e : mkP b.A.length (at2 b.P) = b.P := by rw [← lp]; exact mkP_self (fun i hi => by rw [lp] at hi ⊢; exact gd.poss i hi)
      rw [e]
      have := hp
      simp only [lp] at this
      exact this
    · obtain ⟨gg, cc, e, _⟩ := fr i hi
      rw [e]
      rfl
  · obtain ⟨gg, cc, e, hlt⟩ := fr i hi
    rw [e]
    exact hlt

theorem PLay.below (h : PLay w B T x b gA sp g cg n fA fP) {w' : World} (k : Below w.heap.size w w') : PLay w' B T x b gA sp g cg n fA fP := by
  obtain ⟨S, vb, vs, h1, h2, h3, h4, h5, h6, h7, h8, h9⟩ := h.rest
  exact ⟨h.eA, h.nA, h.eP, h.nP, own_below h.acc k, ⟨S, vb, vs, h1, h2.below k, h3, h4, own_below h5 k, h6, h7.below k, h8, h9⟩, h.wf, h.top, Nat.le_trans h.le k.size⟩
theorem PLay.congr (h : PLay w B T x b gA sp g cg n fA fP) {fA' : Nat → A3} {fP' : Nat → Nat → Int} (hA : ∀ i, i < n → fA i = fA' i) (hP : ∀ i k, i < n → k < n → fP i k = fP' i k) : PLay w B T x b gA sp g cg n fA' fP' := by
  obtain ⟨S, vb, vs, h1, h2, h3, h4, h5, h6, h7, h8, h9⟩ := h.rest
  exact ⟨h.eA, h.nA, h.eP, h.nP, by rw [← mkA_congr hA]; exact h.acc, ⟨S, vb, vs, h1, h2, h3, h4, h5, h6, by rw [← mkP_congr hP]; exact h7, h8, h9⟩, h.wf, h.top, h.le⟩
theorem PLay.new (h : PLay w B T x b gA sp g cg n fA fP) : NewBk w B x ⟨mkA n fA, b.B, b.M, mkP n fP⟩ := by
  obtain ⟨aA, nA, cA, aB, nB, cB, aM, nM, cM, aP, nP, cP⟩ := x
  obtain ⟨S, vb, vs, h1, h2, h3, h4, h5, h6, h7, h8, h9⟩ := h.rest
  have e1 := h.eA
  have e2 := h.nA
  have e3 := h.eP
  have e4 := h.nP
  simp only at e1 e2 e3 e4
  subst e1 e2 e3 e4
  exact ⟨by rw [mkA_len]; exact h.acc, ⟨vb, h2⟩, h5, ⟨vs, h7.base h1⟩, h.wf⟩
theorem PLay.base (h : PLay w B T x b gA sp g cg n fA fP) : B ≤ gA ∧ (0 < n → B ≤ sp) ∧ ∀ i, i < n → B ≤ g i := by
  obtain ⟨S, vb, vs, h1, h2, h3, h4, h5, h6, h7, h8, h9⟩ := h.rest
  refine ⟨(own_row_block h.acc).1, fun h0 => ?_, fun i hi => ?_⟩
  · have := h7.own
    rw [mkP_len] at this
    have := (own_row_block this).1
    omega
  · have := (h7.row i (by rw [mkP_len]; exact hi)).lt (g i) (by rw [h9 i hi]; rfl)
    omega
theorem PLay.acct (h : PLay w B T x b gA sp g cg n fA fP) {i : Nat} (hi : i < n) : w.cell? ⟨gA, i * 3, none⟩ = some (.int .i64 (fA i).1) ∧ w.cell? ⟨gA, i * 3 + 1, none⟩ = some (.int .i64 (fA i).2.1) ∧ w.cell? ⟨gA, i * 3 + 2, none⟩ = some (.int .i64 (fA i).2.2) := by
  obtain ⟨_, _, hc⟩ := own_row_block h.acc
  obtain ⟨c0, c1, c2⟩ := accL_at (mkA n fA) i (by rw [mkA_len]; exact hi)
  rw [mkA_at fA hi] at c0 c1 c2
  exact ⟨(hc _ (by omega)).trans c0, (hc _ (by omega)).trans c1, (hc _ (by omega)).trans c2⟩
theorem PLay.freeA (h : PLay w B T x b gA sp g cg n fA fP) (j : Nat) : w.frozen? ⟨gA, j, none⟩ = false := (own_row_block h.acc).2.1 j
theorem PLay.spine (h : PLay w B T x b gA sp g cg n fA fP) {i : Nat} (hi : i < n) : w.cell? ⟨sp, i, none⟩ = some (.slice (some ⟨g i, 0, none⟩) n (cg i)) := by
  obtain ⟨S, vb, vs, h1, h2, h3, h4, h5, h6, h7, h8, h9⟩ := h.rest
  have ho := h7.own
  rw [mkP_len] at ho
  obtain ⟨_, _, hc⟩ := own_row_block ho
  rw [hc i (by omega), ← h9 i hi]
  have := ho.1
  simp [List.getD_eq_getElem?_getD, show i < vs.length by omega]
theorem PLay.row (h : PLay w B T x b gA sp g cg n fA fP) {i : Nat} (hi : i < n) : w.ownsRow B 2 1 (.slice (some ⟨g i, 0, none⟩) n (cg i)) n (((List.range n).map (fP i)).map (Value.int .i64)) := by
  obtain ⟨S, vb, vs, h1, h2, h3, h4, h5, h6, h7, h8, h9⟩ := h.rest
  have hr := h7.row i (by rw [mkP_len]; exact hi)
  rw [h9 i hi, mkP_row fP hi, List.length_map, List.length_range] at hr
  exact own_base hr h1
theorem PLay.at' (h : PLay w B T x b gA sp g cg n fA fP) {i k : Nat} (hi : i < n) (hk : k < n) : w.cell? ⟨g i, k, none⟩ = some (.int .i64 (fP i k)) := by
  rw [(own_row_block (h.row hi)).2.2 k (by omega)]
  simp [hk]
theorem PLay.freeP (h : PLay w B T x b gA sp g cg n fA fP) {i : Nat} (hi : i < n) (j : Nat) : w.frozen? ⟨g i, j, none⟩ = false := (own_row_block (h.row hi)).2.1 j
theorem PLay.wrap (h : PLay w B T x b gA sp g cg n fA fP) {i k : Nat} (hi : i < n) (hk : k < n) : IntKind.i64.wrap (fP i k) = fP i k := by
  obtain ⟨S, vb, vs, h1, h2, h3, h4, h5, h6, h7, h8, h9⟩ := h.rest
  have := getD_w64 h7.bs i
  rw [mkP_row fP hi] at this
  exact this _ (List.mem_map.2 ⟨k, List.mem_range.2 hk, rfl⟩)

/-- A number of an account is written. -/
theorem PLay.setA (h : PLay w B T x b gA sp g cg n fA fP) {i : Nat} (hi : i < n) (j : Nat) (hj : j < 3) (a : A3) (u : Value)
    (h0 : j = 0 → u = .int .i64 a.1 ∧ a.2 = (fA i).2) (h1 : j = 1 → u = .int .i64 a.2.1 ∧ a.1 = (fA i).1 ∧ a.2.2 = (fA i).2.2) (h2 : j = 2 → u = .int .i64 a.2.2 ∧ a.1 = (fA i).1 ∧ a.2.1 = (fA i).2.1) :
    PLay (w.setCell ⟨gA, i * 3 + j, none⟩ u) B T x b gA sp g cg n (updA fA i a) fP := by
  obtain ⟨S, vb, vs, k1, k2, k3, k4, k5, k6, k7, k8, k9⟩ := h.rest
  have hs := h.acc.stored (i * 3 + j) u
  rw [← accL_upd fA hi j hj a u h0 h1 h2] at hs
  obtain ⟨cur, hgA⟩ : ∃ cur, w.heap[gA]? = some (.cells cur 39 (0, 0)) := by
    rcases h.acc.2 with ⟨hv, _⟩ | ⟨g', cap, cur, hv, _, hg, _⟩
    · simp at hv
    · simp at hv
      obtain ⟨rfl, rfl⟩ := hv
      exact ⟨cur, hg⟩
  have ne : ∀ {t : TypeId} {B' s' n' : Nat} {v' : Value} {xs' : List Value}, w.ownsRow B' t s' v' n' xs' → t ≠ 39 → (w.setCell ⟨gA, i * 3 + j, none⟩ u).ownsRow B' t s' v' n' xs' := fun ho' ht => by
    refine ho'.kept hs.2 ?_
    rcases ho'.2 with ⟨hv, _⟩ | ⟨g', cap', cur', hv', hb', hg', _⟩
    · left; rw [hv]; rfl
    · right
      rw [hv']
      intro e
      have e : g' = gA := by simpa [Value.ownBlock] using e
      subst e
      rw [hgA] at hg'
      simp at hg'
      exact ht hg'.2.symm
  have mk : ∀ {B' : Nat} {v : Value} {vs : List Value} {R : List (List Int)}, MadeI w B' v vs R → MadeI (w.setCell ⟨gA, i * 3 + j, none⟩ u) B' v vs R := fun hm =>
    ⟨ne hm.own (by decide), fun i hi => ne (hm.row i hi) (by decide), hm.spine, hm.rows, hm.bs⟩
  exact ⟨h.eA, h.nA, h.eP, h.nP, hs.1, ⟨S, vb, vs, k1, mk k2, k3, k4, ne k5 (by decide), k6, mk k7, k8, k9⟩, h.wf, h.top, by rw [show (w.setCell ⟨gA, i * 3 + j, none⟩ u).heap.size = w.heap.size by simp [World.setCell]]; exact h.le⟩

theorem low_ne {S : Nat} {v : Value} (h : Low S v) {g : Nat} (hg : S ≤ g) : v.ownBlock = none ∨ v.ownBlock ≠ some g := by
  cases hv : v.ownBlock with
  | none => exact .inl rfl
  | some k => exact .inr fun e => by have := h k hv; simp at e; omega

/-- A position is written. -/
theorem PLay.setP (h : PLay w B T x b gA sp g cg n fA fP) {i k : Nat} (hi : i < n) (hk : k < n) {y : Int} (hy : IntKind.i64.wrap y = y) :
    PLay (w.setCell ⟨g i, k, none⟩ (.int .i64 y)) B T x b gA sp g cg n fA (updP fP i k y) := by
  obtain ⟨S, vb, vs, k1, k2, k3, k4, k5, k6, k7, k8, k9⟩ := h.rest
  have hr := k7.row i (by rw [mkP_len]; exact hi)
  rw [k9 i hi, mkP_row fP hi, List.length_map, List.length_range] at hr
  have hst := hr.stored k (.int .i64 y)
  have hgS : S ≤ g i := (own_row_block hr).1
  have low : ∀ {t : TypeId} {B' s' n' : Nat} {v' : Value} {xs' : List Value}, w.ownsRow B' t s' v' n' xs' → Low S v' → (w.setCell ⟨g i, k, none⟩ (.int .i64 y)).ownsRow B' t s' v' n' xs' := fun ho' hl => ho'.kept hst.2 (low_ne hl hgS)
  have hvi : (vs.getD i undef).ownBlock = some (g i) := by rw [k9 i hi]; rfl
  have lP := mkP_len n fP
  refine ⟨h.eA, h.nA, h.eP, h.nP, low h.acc (fun gg hg => by simp [Value.ownBlock] at hg; omega), ⟨S, vb, vs, k1, ⟨low k2.own k3, fun j hj => low (k2.row j hj) (k4 j hj), k2.spine, k2.rows, k2.bs⟩, k3, k4, low k5 k6, k6, ⟨?_, fun j hj => ?_, fun j hj => k7.spine j (by rw [mkP_len] at hj ⊢; exact hj), fun j l hj hl => k7.rows j l (by rw [mkP_len] at hj ⊢; exact hj) (by rw [mkP_len] at hl ⊢; exact hl), fun z hz => ?_⟩, k8, k9⟩, h.wf, h.top, by rw [show (w.setCell ⟨g i, k, none⟩ (.int .i64 y)).heap.size = w.heap.size by simp [World.setCell]]; exact h.le⟩
  · have ho := k7.own
    rw [mkP_len] at ho ⊢
    refine ho.kept hst.2 ?_
    rcases k7.spine i (by rw [mkP_len]; exact hi) with e | e
    · rw [hvi] at e; cases e
    · right; rw [← hvi]; exact fun e' => e e'.symm
  · have hjn : j < n := by rw [mkP_len] at hj; exact hj
    rw [mkP_row _ hjn, List.length_map, List.length_range]
    by_cases hji : j = i
    · subst hji
      rw [k9 j hjn]
      have e : ((List.range n).map (updP fP j k y j)).map (Value.int .i64) = (((List.range n).map (fP j)).map (Value.int .i64)).set k (.int .i64 y) := by
        refine List.ext_getElem? fun l => ?_
        rw [List.getElem?_set]
        by_cases hl : l < n
        · by_cases hlk : k = l
          · subst hlk
            simp [hl, updP]
          · have hlk' : ¬ l = k := fun e => hlk e.symm
            simp [hl, updP, hlk, hlk']
        · rw [List.getElem?_eq_none (by simp; omega), if_neg (by omega), List.getElem?_eq_none (by simp; omega)]
      rw [e]
      exact hst.1
    · have e : (List.range n).map (updP fP i k y j) = (List.range n).map (fP j) := List.map_congr_left fun l _ => by simp [updP, hji]
      rw [e]
      have hrj := k7.row j (by rw [mkP_len]; exact hjn)
      rw [mkP_row fP hjn, List.length_map, List.length_range] at hrj
      refine hrj.kept hst.2 ?_
      have := k7.rows j i (by rw [mkP_len]; exact hjn) (by rw [mkP_len]; exact hi) hji
      rw [hvi] at this
      exact this
  · obtain ⟨j, hj, rfl⟩ := List.mem_map.1 hz
    intro v hv
    obtain ⟨l, hl, rfl⟩ := List.mem_map.1 hv
    unfold updP
    split
    · exact hy
    · exact h.wrap (List.mem_range.1 hj) (List.mem_range.1 hl)
end

end Go.Proofs.Ythpcpbjgihhjeaa
