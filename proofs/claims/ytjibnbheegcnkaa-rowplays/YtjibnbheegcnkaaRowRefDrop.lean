/-
  giroref13.Drop.
-/
import Derived.Test.YtjibnbheegcnkaaRowDrop
import Derived.Test.YtjibnbheegcnkaaRowRefIns
namespace Go.Proofs.Ytjibnbheegcnkaa
open Go.RowKit
set_option linter.unusedVariables false
set_option linter.unusedSimpArgs false

/-- What the document's calls leave. -/
def RPutEnd (w : World) (L : List P7) (n : Int) (e : Ending) (w' : World) : Prop := ∃ a c, e = .returned (.tuple #[.slice a L.length c, .int .i64 n]) ∧ PGood w' a L.length c L ∧ Below w.heap.size w w'
def RDropEnd (w : World) (L : List P7) (p : P7) (n : Int) (e : Ending) (w' : World) : Prop := ∃ a c, e = .returned (.tuple #[.slice a L.length c, p.val, .int .i64 n]) ∧ PGood w' a L.length c L ∧ Below w.heap.size w w'

/-- What is answered is the list that was handed in, or lies in new memory. -/
def RDropNew (w : World) (a0 : Option Addr) (L : List P7) (p : P7) (n : Int) (e : Ending) (w' : World) : Prop := ∃ a c, e = .returned (.tuple #[.slice a L.length c, p.val, .int .i64 n]) ∧ PGood w' a L.length c L ∧ (a = a0 ∨ ∀ x, a = some x → w.heap.size ≤ x.block) ∧ Below w.heap.size w w'
theorem RDropNew.end {w : World} {a0 : Option Addr} {L : List P7} {p : P7} {n : Int} {e : Ending} {w' : World} (h : RDropNew w a0 L p n e w') : RDropEnd w L p n e w' := by
  obtain ⟨a, c, h1, h2, _, h3⟩ := h
  exact ⟨a, c, h1, h2, h3⟩

/-- A payment is laid over another one, cell by cell. -/
def payChain (w : World) (g : Nat) (p : P7) : World := ((((((w.setCell ⟨g, 0, none⟩ (.int .i64 p.id)).setCell ⟨g, 1, none⟩ (.int .i64 p.fr)).setCell ⟨g, 2, none⟩ (.int .i64 p.to)).setCell ⟨g, 3, none⟩ (.int .i64 p.am)).setCell ⟨g, 4, none⟩ (.int .i64 p.cl)).setCell ⟨g, 5, none⟩ (.int .i64 p.st)).setCell ⟨g, 6, none⟩ (.int .i64 p.ti)
theorem payChain_eq {w : World} {g : Nat} {q : P7} (h : PBox w g q) (p : P7) : payChain w g p = w.setRow g #[.int .i64 p.id, .int .i64 p.fr, .int .i64 p.to, .int .i64 p.am, .int .i64 p.cl, .int .i64 p.st, .int .i64 p.ti] := by
  unfold payChain
  have step : ∀ (cs : Array Value) (i : Nat) (v : Value), (w.setRow g cs).setCell ⟨g, i, none⟩ v = w.setRow g (cs.setIfInBounds i v) := fun cs i v => by
    rw [setCell_eq_setRow _ _ _ _ _ _ _ (setRow_heap w g _ cs _ _ h), setRow_setRow]
  rw [setCell_eq_setRow _ _ _ _ _ _ _ h, step, step, step, step, step, step]
  rfl

set_option maxHeartbeats 4000000 in
theorem refDrop_no (a : Option Addr) (n c : Nat) (L : List P7) (x : Int) (w : World) (h : PGood w a n c L) (hm : n ≤ 100000) (hh : qHas L x = false) :
    Calls Try.prog 11 #[.slice a n c, .int .i64 x] w (RDropNew w a (qDrop L x) (qDropP L x) (qDropE L x)) := by
  rw [(drop_no hh).1, (drop_no hh).2.1, (drop_no hh).2.2]
  have F := fun u (hb : Below w.heap.size w u) => refFind_any a n c x L u (by omega) (h.below hb).pays
  have r1 := qFind_nn L x
  rw [hh] at r1
  obtain ⟨r, hr⟩ : ∃ r, qFind L x = r := ⟨_, rfl⟩
  rw [hr] at r1
  simp only [hr] at F
  have r2 : ¬ 0 ≤ r := of_decide_eq_false r1
  have r3 : r < 0 := by omega
  have hl := h.len
  have R : Hid (RDropNew w a L p70 4 (.returned (.tuple #[.slice a n c, .agg #[.int .i64 0, .int .i64 0, .int .i64 0, .int .i64 0, .int .i64 0, .int .i64 0, .int .i64 0], .int .i64 4])) (w.alloc (.cells #[.int .i64 0, .int .i64 0, .int .i64 0, .int .i64 0, .int .i64 0, .int .i64 0, .int .i64 0] 25))) :=
    ⟨a, c, by rw [← hl]; rfl, by rw [← hl]; exact h.below (box_below _ _), .inl rfl, box_below _ _⟩
  have F1 := F (w.alloc (.cells #[.int .i64 0, .int .i64 0, .int .i64 0, .int .i64 0, .int .i64 0, .int .i64 0, .int .i64 0] 25)) (box_below _ _)
  clear hh r1 r2 h hr F hl
  go_enter Try.func11, Try.ntmps11
  go_wp2_with fail
  go_at_call 19
  refine F1.mono ?_
  rintro e w1 ⟨rfl, hw⟩
  obtain rfl := hw
  clear F1
  go_wp2
  exact bodyPost_ret (v := .tuple #[.slice a n c, .agg #[.int .i64 0, .int .i64 0, .int .i64 0, .int .i64 0, .int .i64 0, .int .i64 0, .int .i64 0], .int .i64 4]) (by simp [results, Try.results11, go_sem]) rfl R.out

set_option maxHeartbeats 4000000 in
set_option maxRecDepth 100000 in
theorem refDrop_yes (a : Option Addr) (n c : Nat) (L : List P7) (x : Int) (w : World) (h : PGood w a n c L) (hm : n ≤ 100000) (hh : qHas L x = true) :
    Calls Try.prog 11 #[.slice a n c, .int .i64 x] w (RDropNew w a (qDrop L x) (qDropP L x) (qDropE L x)) := by
  rw [(drop_yes hh).1, (drop_yes hh).2.1, (drop_yes hh).2.2]
  have F := fun u (hb : Below w.heap.size w u) => refFind_any a n c x L u (by omega) (h.below hb).pays
  rw [qFind_yes hh] at F
  have hl := h.len
  have hk := at_lt hh
  obtain ⟨k, hkk⟩ : ∃ k, qAt L x = k := ⟨_, rfl⟩
  rw [hkk] at F hk ⊢
  have hc := h.cap
  have hmx := h.max
  obtain ⟨b, off, rfl, HC⟩ := h.at (i := k) (by omega)
  obtain ⟨p, hp⟩ : ∃ p, L.getD k p70 = p := ⟨_, rfl⟩
  have HX0 := HC k (by omega)
  rw [hp] at HX0 ⊢
  obtain ⟨p0, p1, p2, p3, p4, p5, p6⟩ := p
  have k0 : (0 : Int) ≤ (k : Int) := by omega
  have k1 : (k : Int) < (n : Int) := by omega
  have k4 : (n : Int) ≤ (c : Int) := by omega
  have k5 : ¬ (k : Int) < 0 := by omega
  have k6 : (k : Int) ≤ (c : Int) := by omega
  obtain ⟨m, hmk⟩ : ∃ m, k + 1 = m := ⟨_, rfl⟩
  have HMK : Hid (k + 1 = m) := hmk
  have k7 : (0 : Int) ≤ (m : Int) := by omega
  have k8 : IntKind.i64.wrap ((k : Int) + 1) = (m : Int) := by rw [i64_wf (by omega) (by omega)]; omega
  have k9 : (m : Int) ≤ (n : Int) := by omega
  have k10 : (m : Int) ≤ (c : Int) := by omega
  obtain ⟨w1, hw1⟩ : ∃ w1, w1 = w.alloc (.cells #[.int .i64 0, .int .i64 0, .int .i64 0, .int .i64 0, .int .i64 0, .int .i64 0, .int .i64 0] 25) := ⟨_, rfl⟩
  have HB : Hid (Below w.heap.size w w1) := by rw [hw1]; exact box_below _ _
  have X0 : Hid (PBox w1 w.heap.size p70) := by rw [hw1]; exact PBox.new w p70
  have Z0 : Hid (w.heap.size < w1.heap.size) := by rw [hw1]; show _ < _; rw [size_alloc]; omega
  have H : Hid (PGood w1 (some ⟨b, off, none⟩) n c L) := h.below HB.out
  have SA : Hid (∀ u, Below w1.heap.size w1 u → PGood u (some ⟨b, off, none⟩) k c (L.take k)) := fun u hu => (H.out.below hu).take k (by omega)
  have EK : pcut (some ⟨b, off, none⟩) c m = (if c = m then some ⟨b, off, none⟩ else some ⟨b, off + m * 7, none⟩) := by simp [pcut, Addr.add_flat]
  obtain ⟨y, hy⟩ : ∃ y : Option Addr, (if c = m then some ⟨b, off, none⟩ else some ⟨b, off + m * 7, none⟩) = y := ⟨_, rfl⟩
  rw [hy] at EK
  have SB : Hid (∀ u, Below w1.heap.size w1 u → PGood u y (n - m) (c - m) (L.drop m)) := fun u hu => by have := (H.out.below hu).from m (by omega); rw [EK] at this; exact this
  have RS : ∀ u, Below w.heap.size w u → u.cell? ⟨b, off + k * 7, none⟩ = some (.int .i64 p0) ∧ u.cell? ⟨b, off + k * 7 + 1, none⟩ = some (.int .i64 p1) ∧ u.cell? ⟨b, off + k * 7 + 2, none⟩ = some (.int .i64 p2) ∧ u.cell? ⟨b, off + k * 7 + 3, none⟩ = some (.int .i64 p3) ∧ u.cell? ⟨b, off + k * 7 + 4, none⟩ = some (.int .i64 p4) ∧ u.cell? ⟨b, off + k * 7 + 5, none⟩ = some (.int .i64 p5) ∧ u.cell? ⟨b, off + k * 7 + 6, none⟩ = some (.int .i64 p6) := fun u hu => HX0.below hu
  have RS0 := RS w1.drew (HB.out.trans ((Below.refl _ _).drew.mono HB.out.size))
  have RS1 := fun o => RS (w1.alloc o).drew (HB.out.alloc HB.out.size o).drew
  have OA : Hid ((w1.drew.alloc (.cells #[] 25)).ownsRow w1.heap.size 25 7 (.slice (some ⟨w1.heap.size, 0, none⟩) 0 0) 0 (payL [])) := litP_own (heap_alloc_new w1.drew _) (Nat.le_refl _)
  have BA : Hid (Below w1.heap.size w1 (w1.drew.alloc (.cells #[] 25))) := ((Below.refl _ _).drew).alloc (Nat.le_refl _) _
  have R : Hid (∀ v u, u.ownsRow w1.heap.size 25 7 v (k + (n - m)) (payL (L.take k ++ L.drop m)) → Below w1.heap.size w1 u → RDropNew w (some ⟨b, off, none⟩) (qRest L k) (p0, p1, p2, p3, p4, p5, p6) 0 (.returned (.tuple #[v, .agg #[.int .i64 p0, .int .i64 p1, .int .i64 p2, .int .i64 p3, .int .i64 p4, .int .i64 p5, .int .i64 p6], .int .i64 0])) (u.setRow w.heap.size #[.int .i64 p0, .int .i64 p1, .int .i64 p2, .int .i64 p3, .int .i64 p4, .int .i64 p5, .int .i64 p6]) ∧ PBox (u.setRow w.heap.size #[.int .i64 p0, .int .i64 p1, .int .i64 p2, .int .i64 p3, .int .i64 p4, .int .i64 p5, .int .i64 p6]) w.heap.size (p0, p1, p2, p3, p4, p5, p6)) := by
    intro v u ho hb
    rw [show L.take k ++ L.drop m = qRest L k by rw [← HMK.out]; rfl] at ho
    obtain ⟨a4, c4, rfl, g4, n4⟩ := PGood.own ho
    refine ⟨⟨a4, c4, rfl, g4.far (fun x hx => by have := n4 x hx; have := Z0.out; omega) _, .inr (fun x hx => by have := n4 x hx; have := Z0.out; omega), Below.setRow (HB.out.trans (hb.mono HB.out.size)) (Nat.le_refl _) _⟩, ?_⟩
    exact (X0.out.below hb).set (p0, p1, p2, p3, p4, p5, p6)
  have HY : Hid ((if c = m then some ⟨b, off, none⟩ else some ⟨b, off + m * 7, none⟩) = y) := hy
  have F1 := F w1 HB.out
  rw [hw1] at F1
  have HW : Hid (w1 = _) := hw1
  clear hh h F hkk HC hp HX0 hl hk hc hmx hw1 EK hmk
  go_enter Try.func11, Try.ntmps11
  go_wp2_with fail
  go_at_call 19
  refine F1.mono ?_
  rintro e w2 ⟨rfl, hw2⟩
  rw [← HW.out] at hw2
  obtain rfl := hw2.symm
  clear F1
  go_wp2
  go_region_held3 (fun w' => w'.cell? ⟨b, off + k * 7, none⟩ = some (.int .i64 p0) ∧ w'.cell? ⟨b, off + k * 7 + 1, none⟩ = some (.int .i64 p1) ∧ w'.cell? ⟨b, off + k * 7 + 2, none⟩ = some (.int .i64 p2) ∧ w'.cell? ⟨b, off + k * 7 + 3, none⟩ = some (.int .i64 p3) ∧ w'.cell? ⟨b, off + k * 7 + 4, none⟩ = some (.int .i64 p4) ∧ w'.cell? ⟨b, off + k * 7 + 5, none⟩ = some (.int .i64 p5) ∧ w'.cell? ⟨b, off + k * 7 + 6, none⟩ = some (.int .i64 p6)) (first | with_reducible exact RS0 | with_reducible exact RS1 _ | with_reducible exact RS _ (by with_reducible assumption)) (first
    | (refine step_append_pays (by rfl) (.tmp 15) (.tmp 18) (by rfl) w1.heap.size (.slice (some ⟨w1.heap.size, 0, none⟩) 0 0) 0 [] (by rfl) OA.out (some ⟨b, off, none⟩) k c (L.take k) (by rfl) (SA.out _ BA.out) (by omega) BA.out.size ?_
       intro v2 w2 o2 g2
       have B2 : Below w1.heap.size w1 w2 := Below.grown BA.out g2 BA.out.size (fun j hj => by simp [Value.ownBlock] at hj; omega)
       have BW2 : Below w.heap.size w w2 := HB.out.trans (B2.mono HB.out.size)
       simp only [Nat.zero_add, List.nil_append] at o2)
    | (refine step_append_pays (by rfl) (.tmp 19) (.tmp 23) (by rfl) w1.heap.size v2 k (L.take k) (by rfl) o2 y (n - m) (c - m) (L.drop m) (by rfl) (SB.out _ B2) (by have := HMK.out; omega) B2.size ?_
       intro v3 w3 o3 g3
       have B3 : Below w1.heap.size w1 w3 := Below.grown B2 g3 B2.size (fun j hj => (o2.lt j hj).1)
       have BW3 : Below w.heap.size w w3 := HB.out.trans (B3.mono HB.out.size)
       have EC : (((((((w3.setCell ⟨w.heap.size, 0, none⟩ (.int .i64 p0)).setCell ⟨w.heap.size, 1, none⟩ (.int .i64 p1)).setCell ⟨w.heap.size, 2, none⟩ (.int .i64 p2)).setCell ⟨w.heap.size, 3, none⟩ (.int .i64 p3)).setCell ⟨w.heap.size, 4, none⟩ (.int .i64 p4)).setCell ⟨w.heap.size, 5, none⟩ (.int .i64 p5)).setCell ⟨w.heap.size, 6, none⟩ (.int .i64 p6)) = w3.setRow w.heap.size #[.int .i64 p0, .int .i64 p1, .int .i64 p2, .int .i64 p3, .int .i64 p4, .int .i64 p5, .int .i64 p6] := payChain_eq (X0.out.below B3) (p0, p1, p2, p3, p4, p5, p6)
       have BWC : Below w.heap.size w (((((((w3.setCell ⟨w.heap.size, 0, none⟩ (.int .i64 p0)).setCell ⟨w.heap.size, 1, none⟩ (.int .i64 p1)).setCell ⟨w.heap.size, 2, none⟩ (.int .i64 p2)).setCell ⟨w.heap.size, 3, none⟩ (.int .i64 p3)).setCell ⟨w.heap.size, 4, none⟩ (.int .i64 p4)).setCell ⟨w.heap.size, 5, none⟩ (.int .i64 p5)).setCell ⟨w.heap.size, 6, none⟩ (.int .i64 p6)) := by rw [EC]; exact Below.setRow BW3 (Nat.le_refl _) _
       have FR := R.out v3 w3 o3 B3
       rw [← EC] at FR
       have EC' : Hid ((((((((w3.setCell ⟨w.heap.size, 0, none⟩ (.int .i64 p0)).setCell ⟨w.heap.size, 1, none⟩ (.int .i64 p1)).setCell ⟨w.heap.size, 2, none⟩ (.int .i64 p2)).setCell ⟨w.heap.size, 3, none⟩ (.int .i64 p3)).setCell ⟨w.heap.size, 4, none⟩ (.int .i64 p4)).setCell ⟨w.heap.size, 5, none⟩ (.int .i64 p5)).setCell ⟨w.heap.size, 6, none⟩ (.int .i64 p6)) = w3.setRow w.heap.size #[.int .i64 p0, .int .i64 p1, .int .i64 p2, .int .i64 p3, .int .i64 p4, .int .i64 p5, .int .i64 p6]) := EC
       clear EC
       obtain ⟨d0, d1, d2, d3, d4, d5, d6⟩ := (X0.out.below B3).at7
       have fz : ∀ j, w3.frozen? ⟨w.heap.size, j, none⟩ = false := fun j => frozen_of_row w3 w.heap.size j _ _ (X0.out.below B3))
    | fail)
  obtain ⟨FE, FB⟩ := FR
  generalize (((((((w3.setCell ⟨w.heap.size, 0, none⟩ (.int .i64 p0)).setCell ⟨w.heap.size, 1, none⟩ (.int .i64 p1)).setCell ⟨w.heap.size, 2, none⟩ (.int .i64 p2)).setCell ⟨w.heap.size, 3, none⟩ (.int .i64 p3)).setCell ⟨w.heap.size, 4, none⟩ (.int .i64 p4)).setCell ⟨w.heap.size, 5, none⟩ (.int .i64 p5)).setCell ⟨w.heap.size, 6, none⟩ (.int .i64 p6)) = w4 at FE FB ⊢
  obtain ⟨f0, f1, f2, f3, f4, f5, f6⟩ := FB.at7
  clear EC' d0 d1 d2 d3 d4 d5 d6 fz BWC
  go_wp2
  all_goals exact bodyPost_ret (v := .tuple #[v3, .agg #[.int .i64 p0, .int .i64 p1, .int .i64 p2, .int .i64 p3, .int .i64 p4, .int .i64 p5, .int .i64 p6], .int .i64 0]) (by simp [results, Try.results11, f0, f1, f2, f3, f4, f5, f6, go_sem]) rfl FE

end Go.Proofs.Ytjibnbheegcnkaa
