/-
  view.Heads and the function in it.
-/
import Derived.Test.YtmfmdicdbjghkaaViewReady
namespace Go.Proofs.Ytmfmdicdbjghkaa
open Go.RowKit
set_option linter.unusedVariables false
set_option linter.unusedSimpArgs false

theorem infoInt : (Try.prog.info? 3).map (fun i => (i.zero, i.size, i.bytes)) = some (some (.int .i64 0), 1, 8) := by kernel_rfl
/-- Block b holds these ints. -/
def BlkN (w : World) (b : Nat) (zs : List Int) : Prop := w.heap[b]? = some (.cells (zs.map (Value.int .i64)).toArray 3 (0, 0))
theorem BlkN.lt {w : World} {b : Nat} {zs : List Int} (h : BlkN w b zs) : b < w.heap.size := lt_of_block h
theorem BlkN.grown {w w' : World} {b : Nat} {zs : List Int} {r : Option Nat} (h : BlkN w b zs) (hg : w.grownBy w' r) (hne : some b ≠ r) : BlkN w' b zs := (hg.block b h.lt hne).trans h
theorem BlkN.cell {w : World} {b : Nat} {zs : List Int} (h : BlkN w b zs) {k : Nat} (hk : k < zs.length) : w.cell? ⟨b, k, none⟩ = some (.int .i64 (zs.getD k 0)) := by
  rw [cell_of_row w b k _ _ _ h]
  simp [hk]
theorem BlkN.free {w : World} {b : Nat} {zs : List Int} (h : BlkN w b zs) (k : Nat) : w.frozen? ⟨b, k, none⟩ = false := frozen_of_row w b k _ _ h
theorem BlkN.set {w : World} {b : Nat} {zs : List Int} (h : BlkN w b zs) (k : Nat) (x : Int) : BlkN (w.setCell ⟨b, k, none⟩ (.int .i64 x)) b (zs.set k x) := by
  unfold BlkN
  rw [heap_setCell_same w b k _ _ _ h]
  rw [show ((zs.map (Value.int .i64)).toArray.setIfInBounds k (.int .i64 x)) = ((zs.set k x).map (Value.int .i64)).toArray by apply Array.toList_inj.1; simp [List.map_set]]
theorem grown_set (w : World) (b k : Nat) (v : Value) : w.grownBy (w.setCell ⟨b, k, none⟩ v) (some b) := ⟨rfl, rfl, rfl, by simp, fun j _ hj => heap_setCell_other w ⟨b, k, none⟩ j v (fun e => hj (by simp [e]))⟩
theorem makeInts (w : World) (n : Nat) (h : n ≤ 1000000) :
    ∃ w', (Instr.makeSlice 23 (.int .i64 n) (.int .i64 n)).run Try.prog w = .ok (.slice (some ⟨w.heap.size, 0, none⟩) n n) w' ∧ BlkN w' w.heap.size (List.replicate n 0) ∧ Below w.heap.size w w' := by
  obtain ⟨i, hi, hz0, hz1, hz2⟩ := info_parts infoInt
  have hr := run_make (P := Try.prog) w 23 3 i (.int .i64 0) Try.underlying23 hi hz0 .i64 .i64 n n (by omega) (Int.le_refl _) (by rw [hz2]; omega) (by omega)
  simp only [Int.toNat_natCast, hz1, Nat.mul_one] at hr
  refine ⟨_, hr, ?_, (Below.refl _ _).alloc (Nat.le_refl _) _⟩
  have e : madeCells (Value.int .i64 0).cells n = ((List.replicate n 0).map (Value.int .i64)).toArray := by
    apply Array.toList_inj.1
    show (madeCells #[Value.int .i64 0] n).toList = _
    rw [toList_madeCells_one]
    simp
  unfold BlkN
  rw [e]
  exact heap_alloc_new w _
theorem Sl.grown {w w' : World} {a : Option Addr} {n : Nat} {zs : List Int} {r : Option Nat} (h : Sl .i64 w a n zs) (hg : w.grownBy w' r) (hne : ∀ x, a = some x → 0 < n → some x.block ≠ r) : Sl .i64 w' a n zs := by
  refine ⟨h.1, h.2.1, ?_⟩
  rcases h.2.2 with h0 | ⟨b, off, ha, hc⟩
  · exact .inl h0
  · by_cases hn : zs = []
    · exact .inl hn
    · refine .inr ⟨b, off, ha, fun i hi => hg.cell (hc i hi) (by have := hne _ ha (by rw [h.1]; omega); exact this)⟩
theorem Sl.cells_at {w : World} {a : Option Addr} {n : Nat} {zs : List Int} (h : Sl .i64 w a n zs) {k : Nat} (hk : k < n) : ∃ b off, a = some ⟨b, off, none⟩ ∧ ∀ i, i < n → w.cell? ⟨b, off + i, none⟩ = some (.int .i64 (zs.getD i 0)) := by
  have hl := h.1
  rcases h.2.2 with h0 | ⟨b, off, ha, hc⟩
  · subst h0; simp at hl; omega
  · exact ⟨b, off, ha, fun i hi => hc i (by omega)⟩

/-- Is one more taken? -/
def takeB (M T : List Int) (f : Int) : Bool := decide (0 ≤ f) && decide (f < M.length) && decide (T.getD f.toNat 0 < M.getD f.toNat 0)
def takeT (M T : List Int) (f : Int) : List Int := if takeB M T f then T.set f.toNat (T.getD f.toNat 0 + 1) else T
theorem takeB_neg {M T : List Int} {f : Int} (h : f < 0) : takeB M T f = false := by unfold takeB; rw [decide_eq_false (by omega)]; rfl
theorem takeB_over {M T : List Int} {f : Int} (h : (M.length : Int) ≤ f) : takeB M T f = false := by unfold takeB; rw [decide_eq_false (p := f < _) (by omega), Bool.and_false]; rfl
theorem takeB_in {M T : List Int} {k : Nat} (h : k < M.length) : takeB M T (k : Int) = decide (T.getD k 0 < M.getD k 0) := by
  unfold takeB
  rw [decide_eq_true (p := (0 : Int) ≤ _) (by omega), decide_eq_true (p := (k : Int) < _) (by omega), Int.toNat_natCast]
  rfl

set_option maxHeartbeats 4000000 in
theorem viewHeadsF_out (x0 x1 x2 x3 x4 x5 x6 : Int) (g1 g2 nm cm : Nat) (am : Option Addr) (w : World) (h1 : w.cell? ⟨g1, 0, none⟩ = some (.slice am nm cm)) (hf : x1 < 0 ∨ (nm : Int) ≤ x1) :
    Calls Try.prog 28 #[.agg #[.int .i64 x0, .int .i64 x1, .int .i64 x2, .int .i64 x3, .int .i64 x4, .int .i64 x5, .int .i64 x6], .pointer (some ⟨g1, 0, none⟩), .pointer (some ⟨g2, 0, none⟩)] w fun e w' => e = .returned (.bool false) ∧ Below w.heap.size w w' := by
  have hb := box_below w (.cells #[.int .i64 x0, .int .i64 x1, .int .i64 x2, .int .i64 x3, .int .i64 x4, .int .i64 x5, .int .i64 x6] 34)
  have c1 := (hb.cell (p := ⟨g1, 0, none⟩) (block_lt_of_cell h1)).trans h1
  have HB : Hid (Below w.heap.size w (w.alloc (.cells #[.int .i64 x0, .int .i64 x1, .int .i64 x2, .int .i64 x3, .int .i64 x4, .int .i64 x5, .int .i64 x6] 34))) := hb
  clear hb h1
  by_cases h0 : x1 < 0
  · clear hf
    go_enter Try.func28, Try.ntmps28
    go_wp2
    go_quiet (fail)
    go_wp2
    go_ret
    exact ⟨rfl, HB.out.trans ((drawn_below _ _).mono HB.out.size)⟩
  · have h2 : decide ((nm : Int) ≤ x1) = true := by rw [decide_eq_true_eq]; omega
    have h3 : decide (x1 < 0) = false := by rw [decide_eq_false_iff_not]; omega
    clear hf h0
    go_enter Try.func28, Try.ntmps28
    go_wp2
    go_quiet (fail)
    go_wp2
    go_ret
    exact ⟨rfl, HB.out.trans ((drawn_below _ _).mono HB.out.size)⟩

set_option maxHeartbeats 4000000 in
theorem viewHeadsF_in (x0 x2 x3 x4 x5 x6 : Int) (k g1 g2 bt nm cm : Nat) (am : Option Addr) (M T : List Int) (w : World) (h1 : w.cell? ⟨g1, 0, none⟩ = some (.slice am nm cm)) (h2 : w.cell? ⟨g2, 0, none⟩ = some (.slice (some ⟨bt, 0, none⟩) nm nm))
    (hM : Sl .i64 w am nm M) (hT : BlkN w bt T) (hl : T.length = nm) (hk : k < nm) (ht : 0 ≤ T.getD k 0 ∧ T.getD k 0 ≤ 100000) :
    Calls Try.prog 28 #[.agg #[.int .i64 x0, .int .i64 (k : Int), .int .i64 x2, .int .i64 x3, .int .i64 x4, .int .i64 x5, .int .i64 x6], .pointer (some ⟨g1, 0, none⟩), .pointer (some ⟨g2, 0, none⟩)] w fun e w' => e = .returned (.bool (decide (T.getD k 0 < M.getD k 0))) ∧ BlkN w' bt (if T.getD k 0 < M.getD k 0 then T.set k (T.getD k 0 + 1) else T) ∧ w.grownBy w' (some bt) := by
  obtain ⟨bm, om, rfl, hc⟩ := hM.cells_at hk
  have hb := box_below w (.cells #[.int .i64 x0, .int .i64 (k : Int), .int .i64 x2, .int .i64 x3, .int .i64 x4, .int .i64 x5, .int .i64 x6] 34)
  have c1 := (hb.cell (p := ⟨g1, 0, none⟩) (block_lt_of_cell h1)).trans h1
  have c2 := (hb.cell (p := ⟨g2, 0, none⟩) (block_lt_of_cell h2)).trans h2
  have m0 := (hb.cell (p := ⟨bm, om + k, none⟩) (block_lt_of_cell (hc k hk))).trans (hc k hk)
  have HT : Hid (BlkN (w.alloc (.cells #[.int .i64 x0, .int .i64 (k : Int), .int .i64 x2, .int .i64 x3, .int .i64 x4, .int .i64 x5, .int .i64 x6] 34)) bt T) := hT.grown (grown_below hb none) (by simp)
  have t0 := HT.out.cell (k := k) (by omega)
  have f0 := HT.out.free k
  have HG : Hid (w.grownBy (w.alloc (.cells #[.int .i64 x0, .int .i64 (k : Int), .int .i64 x2, .int .i64 x3, .int .i64 x4, .int .i64 x5, .int .i64 x6] 34)) (some bt)) := World.grownBy_alloc _ _ _
  obtain ⟨tq, htq⟩ : ∃ tq, T.getD k 0 = tq := ⟨_, rfl⟩
  obtain ⟨mq, hmq⟩ : ∃ mq, M.getD k 0 = mq := ⟨_, rfl⟩
  rw [htq] at t0 ht ⊢
  rw [hmq] at m0 ⊢
  obtain ⟨ht1, ht2⟩ := ht
  have i1 : (k : Int) < (nm : Int) := by omega
  clear h1 h2 hM hT hl hc hb htq hmq
  by_cases hlt : tq < mq
  · rw [decide_eq_true hlt, if_pos hlt]
    go_enter Try.func28, Try.ntmps28
    go_wp2
    go_quiet (fail)
    go_wp2
    go_ret
    exact ⟨rfl, BlkN.set (w := (w.alloc (.cells #[.int .i64 x0, .int .i64 (k : Int), .int .i64 x2, .int .i64 x3, .int .i64 x4, .int .i64 x5, .int .i64 x6] 34)).drewN nq) HT.out k (tq + 1), HG.out.trans (World.grownBy.trans (b := (w.alloc (.cells #[.int .i64 x0, .int .i64 (k : Int), .int .i64 x2, .int .i64 x3, .int .i64 x4, .int .i64 x5, .int .i64 x6] 34)).drewN nq) ⟨rfl, rfl, rfl, Nat.le_refl _, fun _ _ _ => rfl⟩ (grown_set _ bt k _))⟩
  · have hge : mq ≤ tq := by omega
    rw [decide_eq_false hlt, if_neg hlt]
    clear hlt
    go_enter Try.func28, Try.ntmps28
    go_wp2
    go_quiet (fail)
    go_wp2
    go_ret
    exact ⟨rfl, HT.out, HG.out.trans (World.grownBy.trans (b := (w.alloc (.cells #[.int .i64 x0, .int .i64 (k : Int), .int .i64 x2, .int .i64 x3, .int .i64 x4, .int .i64 x5, .int .i64 x6] 34)).drewN nq) ⟨rfl, rfl, rfl, Nat.le_refl _, fun _ _ _ => rfl⟩ (World.grownBy.refl _ _))⟩

/-- How many were taken of each. -/
def HeadsT (M T : List Int) (A : List P7) : Prop := T.length = M.length ∧ ∀ k, k < M.length → T.getD k 0 = min (cntF A k : Int) (max (M.getD k 0) 0)
def HeadsI (g1 g2 bt : Nat) (am : Option Addr) (nm cm : Nat) (M : List Int) (A : List P7) (u : World) : Prop :=
  u.cell? ⟨g1, 0, none⟩ = some (.slice am nm cm) ∧ u.cell? ⟨g2, 0, none⟩ = some (.slice (some ⟨bt, 0, none⟩) nm nm) ∧ Sl .i64 u am nm M ∧ ∃ T, BlkN u bt T ∧ HeadsT M T A

theorem headsI_grown {g1 g2 bt nm cm : Nat} {am : Option Addr} {M : List Int} {A : List P7} {u u' : World} {r : Option Nat} {B : Nat} (h : HeadsI g1 g2 bt am nm cm M A u) (hB : g1 < B ∧ g2 < B ∧ bt < B ∧ ∀ x, am = some x → 0 < nm → x.block < B) (hr : ∀ x, r = some x → B ≤ x) (hg : u.grownBy u' r) : HeadsI g1 g2 bt am nm cm M A u' := by
  obtain ⟨h1, h2, h3, T, h4, h5⟩ := h
  obtain ⟨b1, b2, b3, b4⟩ := hB
  exact ⟨hg.cell h1 (fun e => by have := hr _ e.symm; simp at this; omega), hg.cell h2 (fun e => by have := hr _ e.symm; simp at this; omega), h3.grown hg (fun x hx hn e => by have := hr _ e.symm; have := b4 x hx hn; omega), T, h4.grown hg (fun e => by have := hr _ e.symm; omega), h5⟩

theorem headsT_skip {M T : List Int} {A : List P7} {p : P7} (h : HeadsT M T A) (hK : headK M A p = false) : HeadsT M T (A ++ [p]) := by
  refine ⟨h.1, fun k hk => ?_⟩
  rw [h.2 k hk, cntF_snoc]
  by_cases hf : p.fr = (k : Int)
  · rw [if_pos hf]
    have : ¬ ((cntF A k : Int) < M.getD k 0) := by
      intro hlt
      have : headK M A p = true := by
        unfold headK
        rw [hf, decide_eq_true (p := (0 : Int) ≤ _) (by omega), decide_eq_true (p := (k : Int) < _) (by omega), Int.toNat_natCast, decide_eq_true hlt]
        rfl
      rw [this] at hK
      cases hK
    omega
  · rw [if_neg hf]; rfl
theorem headsT_take {M T : List Int} {A : List P7} {p : P7} {k : Nat} (h : HeadsT M T A) (hp : p.fr = (k : Int)) (hk : k < M.length) (hlt : (cntF A k : Int) < M.getD k 0) : HeadsT M (T.set k (T.getD k 0 + 1)) (A ++ [p]) := by
  refine ⟨by rw [List.length_set]; exact h.1, fun j hj => ?_⟩
  rw [cntF_snoc]
  by_cases hf : p.fr = (j : Int)
  · obtain rfl : k = j := by omega
    rw [if_pos hf]
    have e : (T.set k (T.getD k 0 + 1)).getD k 0 = T.getD k 0 + 1 := by simp [List.getD_eq_getElem?_getD, h.1, hk]
    rw [e, h.2 k hk]
    omega
  · rw [if_neg hf]
    have hne : k ≠ j := fun e => hf (by rw [hp, e])
    have e : (T.set k (T.getD k 0 + 1)).getD j 0 = T.getD j 0 := by simp [List.getD_eq_getElem?_getD, hne]
    rw [e, h.2 j hj]
    rfl

theorem headsI_step {g1 g2 bt nm cm k : Nat} {am : Option Addr} {M : List Int} {L : List P7} {u : World} (hk : k < L.length) (hm : L.length ≤ 100000) (hne : g1 ≠ bt ∧ g2 ≠ bt ∧ ∀ x, am = some x → 0 < nm → x.block ≠ bt) (h : HeadsI g1 g2 bt am nm cm M (L.take k) u) :
    Calls Try.prog 28 #[(L.getD k p70).val, .pointer (some ⟨g1, 0, none⟩), .pointer (some ⟨g2, 0, none⟩)] u fun e u' => e = .returned (.bool (headK M (L.take k) (L.getD k p70))) ∧ HeadsI g1 g2 bt am nm cm M (L.take (k + 1)) u' ∧ u.grownBy u' (some bt) := by
  obtain ⟨h1, h2, h3, T, h4, h5⟩ := h
  obtain ⟨n1, n2, n3⟩ := hne
  have hl := h3.1
  rw [take_snoc7 L hk]
  have hcl : ∀ f, cntF (L.take k) f ≤ 100000 := fun f => by have := cntF_le (L.take k) f; simp at this; omega
  obtain ⟨A, hA⟩ : ∃ A, L.take k = A := ⟨_, rfl⟩
  rw [hA] at h5 hcl ⊢
  obtain ⟨p, hp⟩ : ∃ p, L.getD k p70 = p := ⟨_, rfl⟩
  rw [hp]
  clear hA hp hk hm
  have hold : ∀ (T' : List Int) (A' : List P7) (u' : World), u.grownBy u' (some bt) → BlkN u' bt T' → HeadsT M T' A' → HeadsI g1 g2 bt am nm cm M A' u' := fun T' A' u' hg hb ht =>
    ⟨hg.cell h1 (by simpa using n1), hg.cell h2 (by simpa using n2), h3.grown hg (fun x hx hn => by simpa using n3 x hx hn), T', hb, ht⟩
  by_cases hin : p.fr < 0 ∨ (nm : Int) ≤ p.fr
  · have hK : headK M A p = false := by
      unfold headK
      rcases hin with hin | hin
      · rw [decide_eq_false (p := (0 : Int) ≤ _) (by omega)]; rfl
      · rw [decide_eq_false (p := p.fr < _) (by omega), Bool.and_false]; rfl
    rw [hK]
    refine (viewHeadsF_out p.id p.fr p.to p.am p.cl p.st p.ti g1 g2 nm cm am u h1 hin).mono ?_
    rintro e u' ⟨rfl, hb⟩
    have hg := grown_below hb (some bt)
    exact ⟨rfl, hold T _ u' hg (h4.grown (grown_below hb none) (by simp)) (headsT_skip h5 hK), hg⟩
  · obtain ⟨q, hq⟩ : ∃ q : Nat, p.fr = (q : Int) := ⟨p.fr.toNat, by omega⟩
    have hqn : q < nm := by omega
    have ht := h5.2 q (by omega)
    have hc := hcl (q : Int)
    have hlt : T.getD q 0 < M.getD q 0 ↔ (cntF A (q : Int) : Int) < M.getD q 0 := by rw [ht]; omega
    have hK : headK M A p = decide (T.getD q 0 < M.getD q 0) := by
      unfold headK
      rw [hq, decide_eq_true (p := (0 : Int) ≤ _) (by omega), decide_eq_true (p := (q : Int) < _) (by omega), Int.toNat_natCast, Bool.true_and, Bool.true_and]
      exact decide_eq_decide.2 hlt.symm
    have C := viewHeadsF_in p.id p.to p.am p.cl p.st p.ti q g1 g2 bt nm cm am M T u h1 h2 h3 h4 (by rw [h5.1, hl]) hqn (by rw [ht]; omega)
    rw [← hq] at C
    refine C.mono ?_
    rintro e u' ⟨rfl, hb, hg⟩
    refine ⟨by rw [hK], hold _ _ u' hg hb ?_, hg⟩
    by_cases hl2 : T.getD q 0 < M.getD q 0
    · rw [if_pos hl2]
      exact headsT_take h5 hq (by omega) (hlt.1 hl2)
    · rw [if_neg hl2]
      exact headsT_skip h5 (by rw [hK, decide_eq_false hl2])

set_option maxHeartbeats 4000000 in
theorem viewHeads_made (a am : Option Addr) (n c nm cm : Nat) (L : List P7) (M : List Int) (w : World) (h : PGood w a n c L) (hM : Sl .i64 w am nm M) (hm : n ≤ 100000) (hmm : nm ≤ 1000000) :
    Calls Try.prog 15 #[.slice a n c, .slice am nm cm] w (PMade w (vHeads L M)) := by
  obtain ⟨w1, hw1⟩ : ∃ w1, w1 = w.alloc (.cells #[.slice am nm cm] 23) := ⟨_, rfl⟩
  have hb1 : Below w.heap.size w w1 := by rw [hw1]; exact box_below _ _
  have hs1 : w1.heap.size = w.heap.size + 1 := by rw [hw1, size_alloc]
  have c1 : w1.cell? ⟨w.heap.size, 0, none⟩ = some (.slice am nm cm) := by rw [hw1, cell_new]; rfl
  obtain ⟨w2, hmk, hbk, hb2⟩ := makeInts w1 nm hmm
  have hlt := hbk.lt
  obtain ⟨w3, hw3⟩ : ∃ w3, w3 = w2.alloc (.cells #[.slice (some ⟨w1.heap.size, 0, none⟩) nm nm] 23) := ⟨_, rfl⟩
  have hb3 : Below w2.heap.size w2 w3 := by rw [hw3]; exact box_below _ _
  have hs3 : w3.heap.size = w2.heap.size + 1 := by rw [hw3, size_alloc]
  have c3 : w3.cell? ⟨w2.heap.size, 0, none⟩ = some (.slice (some ⟨w1.heap.size, 0, none⟩) nm nm) := by rw [hw3, cell_new]; rfl
  have hb23 := hb2.trans (hb3.mono hb2.size)
  have hb13 := hb1.trans (hb23.mono hb1.size)
  have hsz := hb2.size
  have hamlt : ∀ x, am = some x → 0 < nm → x.block < w.heap.size := fun x hx hn => by
    obtain ⟨b, off, hab, hcc⟩ := hM.cells_at hn
    rw [hx] at hab
    cases hab
    have hbb : b < w.heap.size := block_lt_of_cell (hcc 0 hn)
    exact hbb
  have I3 : HeadsI w.heap.size w2.heap.size w1.heap.size am nm cm M [] w3 := by
    refine ⟨(hb23.cell (p := ⟨w.heap.size, 0, none⟩) (by simp; omega)).trans c1, c3, hM.below hb13, _, hbk.grown (grown_below hb3 none) (by simp), ⟨by rw [List.length_replicate]; exact hM.1, fun k hk => ?_⟩⟩
    rw [cntF_nil]
    have : (List.replicate nm (0 : Int)).getD k 0 = 0 := by rw [List.getD_eq_getElem?_getD, List.getElem?_replicate]; split <;> rfl
    rw [this]
    simp
    omega
  have S := suchHeads w.heap.size w2.heap.size (some w1.heap.size) (headK M) (HeadsI w.heap.size w2.heap.size w1.heap.size am nm cm M) a n c L w3 (h.below hb13) hm
    (fun x hx => by cases hx; omega)
    (fun h0 x hx => by
      obtain ⟨b, off, hab, hcc⟩ := h.at h0
      rw [hx] at hab
      cases hab
      have hbb : b < w.heap.size := block_lt_of_cell (hcc 0 h0).1
      simp
      omega)
    (fun A u u' r hr hi hg => headsI_grown hi ⟨by omega, by omega, by omega, fun x hx hn => by have := hamlt x hx hn; omega⟩ hr hg) I3
    (fun k u hk _ hi => headsI_step (by have := h.len; omega) (by have := h.len; omega) ⟨by omega, by omega, fun x hx hn => by have := hamlt x hx hn; omega⟩ hi)
  have B3 : Hid (Below w.heap.size w w3) := hb13
  have HZ : Hid (w.heap.size < w1.heap.size ∧ w.heap.size < w3.heap.size) := ⟨by omega, by omega⟩
  rw [hs1] at hw3 S
  have HW : Hid (w3 = _) := hw3
  rw [hw3] at S
  rw [hw1] at hmk
  rw [size_alloc] at hmk
  clear h hM hm hmm hw1 hb1 hs1 c1 hbk hb2 hlt hw3 hb3 hs3 c3 hb23 hb13 hsz hamlt I3
  go_enter Try.func15, Try.ntmps15
  go_wp2_with fail
  go_at_call 22
  refine S.mono ?_
  rintro e w6 ⟨⟨v6, rfl, o6, hg⟩, -⟩
  rw [← HW.out] at o6 hg
  have hzz := HZ.out
  have R6 : Hid (PMade w (vHeads L M) (.returned v6) w6) := ⟨v6, rfl, own_base o6 (by omega), B3.out.trans ⟨hg.os, hg.tape, hg.output, hg.size, fun i hi => hg.block i (by omega) (by simp; omega)⟩⟩
  clear o6 hg S hzz HZ HW B3
  go_wp2
  go_ret
  exact R6.out
theorem viewHeads_any (a am : Option Addr) (n c nm cm : Nat) (L : List P7) (M : List Int) (w : World) (h : PGood w a n c L) (hM : Sl .i64 w am nm M) (hm : n ≤ 100000) (hmm : nm ≤ 1000000) :
    Calls Try.prog 15 #[.slice a n c, .slice am nm cm] w (PEnd w (vHeads L M)) := (viewHeads_made a am n c nm cm L M w h hM hm hmm).mono fun _ _ h => h.end

end Go.Proofs.Ytmfmdicdbjghkaa
