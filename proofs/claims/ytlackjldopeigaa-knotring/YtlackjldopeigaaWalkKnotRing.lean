/-
  The walk of KnotRing.
-/
import Derived.Test.YtlackjldopeigaaKnotRingPure
import Derived.Test.YtlackjldopeigaaKnotDo
import Derived.Test.YtlackjldopeigaaKnotEnds
import Derived.Test.YtlackjldopeigaaKnotLit
import Derived.Test.YtlackjldopeigaaKnown20
import Derived.Test.YtlackjldopeigaaRowRefs
import Derived.Test.YtlackjldopeigaaRowBase
import Derived.Test.YtlackjldopeigaaSomeLay
namespace Go.Proofs.Ytlackjldopeigaa
open Go.RowKit
set_option linter.unusedVariables false
set_option linter.unusedSimpArgs false

theorem Sl.row3 {k : IntKind} {w : World} {h : Nat} {x y z : Int} (s : Sl k w (some ⟨h, 0, none⟩) 3 [x, y, z]) : w.cell? ⟨h, 0, none⟩ = some (.int k x) ∧ w.cell? ⟨h, 1, none⟩ = some (.int k y) ∧ w.cell? ⟨h, 2, none⟩ = some (.int k z) :=
  ⟨s.cells 0 _ rfl, s.cells 1 _ rfl, s.cells 2 _ rfl⟩
/-- The books that a ring is laid on. -/
theorem ringSome_any (ah : Option Addr) (ch : Nat) (zs : List Int) (w : World) (h : Sl .i64 w ah 3 zs) : Calls Try.prog 9 #[.slice ah 3 ch, .int .i64 0] w fun e w' => ∃ ga vc aB nB cB aM nM cM aP nP cP, e = .returned (.agg #[.slice (some ⟨ga, 0, none⟩) 3 vc, .slice aB nB cB, .slice aM nM cM, .slice aP nP cP]) ∧ Bk w' ⟨some ⟨ga, 0, none⟩, 3, vc, aB, nB, cB, aM, nM, cM, aP, nP, cP⟩ (threeK (balV zs 0) (balV zs 1) (balV zs 2)) ∧ (w'.cell? ⟨ga, 0, none⟩ = some (.int .i64 (balV zs 0)) ∧ w'.cell? ⟨ga, 3, none⟩ = some (.int .i64 (balV zs 1)) ∧ w'.cell? ⟨ga, 6, none⟩ = some (.int .i64 (balV zs 2))) ∧ 3 ≤ vc ∧ Below w.heap.size w w' :=
  (some3_any ah 3 ch zs 0 w h (by omega)).mono fun e w' ⟨g, vc, h1, h2, h3⟩ => by
    refine ⟨g, vc, _, _, _, _, _, _, _, _, _, h1, ?_, ⟨?_, ?_, ?_⟩, ?_, h3⟩
    · rw [← someK_three]
      exact (h2.newBk ⟨rfl, rfl, rfl, rfl, rfl, rfl, rfl⟩ (someB_wf _) (someM_wf _ _) (someP_wf _)).bk
    · exact ((own_row_block h2.acc).2.2 0 (by omega)).trans rfl
    · exact ((own_row_block h2.acc).2.2 3 (by omega)).trans rfl
    · exact ((own_row_block h2.acc).2.2 6 (by omega)).trans rfl
    · rcases h2.acc.2 with ⟨hv, h0⟩ | ⟨g', cap, cur, hv, hb, hg, hc, _⟩
      · simp at hv
      · simp at hv
        omega
/-- Three Booleans that lie at g. -/
def Out3 (w : World) (g : Nat) (b0 b1 b2 : Bool) : Prop := w.heap[g]? = some (.cells #[.bool b0, .bool b1, .bool b2] 4 (0, 0))
theorem Out3.below {w w' : World} {g : Nat} {b0 b1 b2 : Bool} (h : Out3 w g b0 b1 b2) (k : Below w.heap.size w w') : Out3 w' g b0 b1 b2 := (k.block _ (lt_of_block h)).trans h
theorem Out3.cell {w : World} {g : Nat} {b0 b1 b2 : Bool} (h : Out3 w g b0 b1 b2) : w.cell? ⟨g, 0, none⟩ = some (.bool b0) ∧ w.cell? ⟨g, 1, none⟩ = some (.bool b1) ∧ w.cell? ⟨g, 2, none⟩ = some (.bool b2) := by
  refine ⟨?_, ?_, ?_⟩ <;> (rw [cell_of_row w g _ _ _ _ h]; rfl)
theorem Out3.at {w : World} {g : Nat} {o : Nat → Bool} (h : Out3 w g (o 0) (o 1) (o 2)) {k : Nat} (hk : k < 3) : w.cell? ⟨g, k, none⟩ = some (.bool (o k)) := by
  rcases (by omega : k = 0 ∨ k = 1 ∨ k = 2) with rfl | rfl | rfl
  · exact h.cell.1
  · exact h.cell.2.1
  · exact h.cell.2.2
theorem Out3.set {w : World} {g : Nat} {b0 b1 b2 : Bool} (h : Out3 w g b0 b1 b2) (c : Bool) : Out3 (w.setCell ⟨g, 0, none⟩ (.bool c)) g c b1 b2 ∧ Out3 (w.setCell ⟨g, 1, none⟩ (.bool c)) g b0 c b2 ∧ Out3 (w.setCell ⟨g, 2, none⟩ (.bool c)) g b0 b1 c :=
  ⟨(heap_setCell_same w g 0 _ _ _ h).trans rfl, (heap_setCell_same w g 1 _ _ _ h).trans rfl, (heap_setCell_same w g 2 _ _ _ h).trans rfl⟩
theorem out_step (u v : Nat → Bool) (n : Nat) {i : Nat} (hi : i < 3) (k : Nat) : outO u v (3 * n + (i + 1)) k = if k = i then (outO u v (3 * n + i) i || (if outO u v (3 * n + i) ((i + 2) % 3) then v i else u i)) else outO u v (3 * n + i) k := by
  show (if k = (3 * n + i) % 3 then _ else _) = _
  rw [show (3 * n + i) % 3 = i from by omega]
  by_cases h : k = i
  · subst h; rfl
  · rw [if_neg h, if_neg h]
    rfl

set_option maxHeartbeats 32000000 in
set_option maxRecDepth 100000 in
theorem knotRing_in (ah : Option Addr) (ch : Nat) (zs : List Int) (a b c : Int) (w : World) (h0 : Sl .i64 w ah 3 zs) (ha : 1 ≤ a ∧ a ≤ 100) (hb : 1 ≤ b ∧ b ≤ 100) (hc : 1 ≤ c ∧ c ≤ 100) :
    Calls Try.prog 7 #[.slice ah 3 ch, .int .i64 a, .int .i64 b, .int .i64 c] w fun e w' => e = .returned (.bool true) ∧ Below w.heap.size w w' := by
  have HABC : Hid ((1 ≤ a ∧ a ≤ 100) ∧ (1 ≤ b ∧ b ≤ 100) ∧ (1 ≤ c ∧ c ≤ 100)) := ⟨ha, hb, hc⟩
  have HXYZ : Hid ((0 ≤ balV zs 0 ∧ balV zs 0 ≤ 63) ∧ (0 ≤ balV zs 1 ∧ balV zs 1 ≤ 63) ∧ (0 ≤ balV zs 2 ∧ balV zs 2 ≤ 63)) := ⟨balV_rng zs 0, balV_rng zs 1, balV_rng zs 2⟩
  have KN : Hid (∀ u, Calls Try.prog 16 #[] u fun e w' => e = .returned (.bool true) ∧ Below u.heap.size u w') := known20
  have GK : Good (threeK (balV zs 0) (balV zs 1) (balV zs 2)) := by
    rw [← someK_three]
    exact good_some _ _ _ _
  have SM : Hid (∀ u, Below w.heap.size w u → _) := fun u hu => ringSome_any ah ch zs u (h0.below hu)
  have HM9 : Hid (∀ k, k < 3 → (mostK (threeK (balV zs 0) (balV zs 1) (balV zs 2)) (vReady (ringR a b c) 1)).1.getD k 0 = bN (!outO (ringU (balV zs 0) (balV zs 1) (balV zs 2) a b c) (ringV (balV zs 0) (balV zs 1) (balV zs 2) a b c) 9 k)) := fun k hk => by
    rw [ring_most ha.1 hb.1 hc.1]
    rcases (by omega : k = 0 ∨ k = 1 ∨ k = 2) with rfl | rfl | rfl <;> rfl
  have KM : Hid (∀ (q : BA) (g cm : Nat) (u : World), Bk u q (threeK (balV zs 0) (balV zs 1) (balV zs 2)) → PGood u (some ⟨g, 0, none⟩) 3 cm (ringR a b c) → Calls Try.prog 11 #[q.val, .slice (some ⟨g, 0, none⟩) 3 cm, .int .i64 1] u (MostEndN u (mostK (threeK (balV zs 0) (balV zs 1) (balV zs 2)) (vReady (ringR a b c) 1)).1 (mostK (threeK (balV zs 0) (balV zs 1) (balV zs 2)) (vReady (ringR a b c) 1)).2 3)) := fun q g cm u h1 h2 => (knotMost_any q _ _ 3 cm (ringR a b c) 1 u h1 GK h2 (ring_all ha hb hc _ _ _) (by omega)).mono fun _ _ h => h.num (by rw [mostK_len]; rfl)
  have RG := ring_any 1 w
  generalize (mostK (threeK (balV zs 0) (balV zs 1) (balV zs 2)) (vReady (ringR a b c) 1)).1 = M at KM HM9
  generalize (mostK (threeK (balV zs 0) (balV zs 1) (balV zs 2)) (vReady (ringR a b c) 1)).2 = N at KM
  generalize threeK (balV zs 0) (balV zs 1) (balV zs 2) = kb at SM KM
  generalize balV zs 0 = x at SM HM9 HXYZ
  generalize balV zs 1 = y at SM HM9 HXYZ
  generalize balV zs 2 = z at SM HM9 HXYZ
  have a0 : ¬ a < 1 := by omega
  have a1 : ¬ 100 < a := by omega
  have b0 : ¬ b < 1 := by omega
  have b1 : ¬ 100 < b := by omega
  have c0 : ¬ c < 1 := by omega
  have c1 : ¬ 100 < c := by omega
  clear ha hb hc GK h0
  go_enter Try.func7, Try.ntmps7
  go_wp2_with fail
  go_at_call 27
  refine RG.mono ?_
  rintro e w2 ⟨g, cm, rfl, ho, hb⟩
  obtain ⟨hge, hfz, hcl⟩ := own_row_block ho
  have k0 : w2.cell? ⟨g, 3, none⟩ = some (.int .i64 1) := (hcl 3 (by omega)).trans rfl
  have k1 : w2.cell? ⟨g, 10, none⟩ = some (.int .i64 1) := (hcl 10 (by omega)).trans rfl
  have k2 : w2.cell? ⟨g, 17, none⟩ = some (.int .i64 1) := (hcl 17 (by omega)).trans rfl
  have f0 := hfz 3
  have f1 := hfz 10
  have f2 := hfz 17
  obtain ⟨w3, hw3⟩ : ∃ w3, w3 = ((w2.setCell ⟨g, 3, none⟩ (.int .i64 a)).setCell ⟨g, 10, none⟩ (.int .i64 b)).setCell ⟨g, 17, none⟩ (.int .i64 c) := ⟨_, rfl⟩
  have O3 : w3.ownsRow w.heap.size 51 7 (.slice (some ⟨g, 0, none⟩) 3 cm) 3 (payL (ringR a b c)) := by
    rw [hw3]
    exact own_set (own_set (own_set ho (i := 3) (by omega) (.int .i64 a)) (i := 10) (by omega) (.int .i64 b)) (i := 17) (by omega) (.int .i64 c)
  have B3 : Hid (Below w.heap.size w w3) := by
    rw [hw3]
    exact ((hb.setCell (p := ⟨g, 3, none⟩) hge _).setCell (p := ⟨g, 10, none⟩) hge _).setCell (p := ⟨g, 17, none⟩) hge _
  have G3 : Hid (PGood w3 (some ⟨g, 0, none⟩) 3 cm (ringR a b c)) := by
    obtain ⟨a', c', hv, hg, -⟩ := PGood.own O3
    injection hv with h1 h2 h3
    rw [← h1, ← h3] at hg
    exact hg
  have hcm : 3 ≤ cm := G3.out.cap
  have AM : Hid (∀ u, Below w3.heap.size w3 u → u.cell? ⟨g, 3, none⟩ = some (.int .i64 a) ∧ u.cell? ⟨g, 10, none⟩ = some (.int .i64 b) ∧ u.cell? ⟨g, 17, none⟩ = some (.int .i64 c)) := fun u hu => by
    have h1 := (own_row_block (own_below O3 hu)).2.2
    exact ⟨(h1 3 (by omega)).trans rfl, (h1 10 (by omega)).trans rfl, (h1 17 (by omega)).trans rfl⟩
  clear RG ho hb hge hfz hcl O3
  go_upto_region 5 with fail
  rw [← hw3]
  clear hw3 k0 k1 k2 f0 f1 f2 a0 a1 b0 b1 c0 c1
  have SS := SM.out w3 B3.out
  clear SM
  go_wp2_with fail
  go_at_call 9
  refine SS.mono ?_
  rintro e w4 ⟨ga, vc, aB, nB, cB, aM, nM, cM, aP, nP, cP, rfl, nb, ⟨y0, y1, y2⟩, hvc, hb⟩
  obtain ⟨w5, hw5⟩ : ∃ w5, w5 = w4.alloc (.cells #[.slice (some ⟨ga, 0, none⟩) 3 vc, .slice aB nB cB, .slice aM nM cM, .slice aP nP cP] 27) := ⟨_, rfl⟩
  obtain ⟨zb, hzb⟩ : ∃ zb, w4.heap.size = zb := ⟨_, rfl⟩
  have b45 : Below w4.heap.size w4 w5 := by rw [hw5]; exact box_below _ _
  have B35 : Hid (Below w3.heap.size w3 w5) := hb.trans (b45.mono hb.size)
  have X5 : Hid (Box4 w5 zb ⟨some ⟨ga, 0, none⟩, 3, vc, aB, nB, cB, aM, nM, cM, aP, nP, cP⟩) := by rw [hw5, ← hzb]; exact Box4.new w4 ⟨some ⟨ga, 0, none⟩, 3, vc, aB, nB, cB, aM, nM, cM, aP, nP, cP⟩ _ _
  have K5 : Hid (Bk w5 ⟨some ⟨ga, 0, none⟩, 3, vc, aB, nB, cB, aM, nM, cM, aP, nP, cP⟩ kb) := nb.below b45
  have Y5 : Hid (∀ u, Below w5.heap.size w5 u → u.cell? ⟨ga, 0, none⟩ = some (.int .i64 x) ∧ u.cell? ⟨ga, 3, none⟩ = some (.int .i64 y) ∧ u.cell? ⟨ga, 6, none⟩ = some (.int .i64 z)) := fun u hu => ⟨((b45.trans (hu.mono b45.size)).cell (block_lt_of_cell y0)).trans y0, ((b45.trans (hu.mono b45.size)).cell (block_lt_of_cell y1)).trans y1, ((b45.trans (hu.mono b45.size)).cell (block_lt_of_cell y2)).trans y2⟩
  clear SS hb b45 nb y0 y1 y2
  go_upto_region 6 with fail
  rw [← hw5]
  clear hw5
  try rw [hzb]
  clear hzb
  have WX : Hid (∀ v ∈ [x, y, z], IntKind.i64.wrap v = v) := fun v hv => by
    have := HXYZ.out
    rcases (by simpa using hv : v = x ∨ v = y ∨ v = z) with rfl | rfl | rfl <;> exact i64_wf (by omega) (by omega)
  refine region_owes (L := [Fact.is (.pointer (some ⟨zb, 0, none⟩)),
    Fact.is (.slice (some ⟨ga, 0, none⟩) 3 vc),
    Fact.is (.pointer (some ⟨ga, 0, none⟩)),
    Fact.is (.pointer (some ⟨ga, 0, none⟩)),
    Fact.is (.int .i64 x),
    Fact.is (.pointer (some ⟨zb, 0, none⟩)),
    Fact.is (.slice (some ⟨ga, 0, none⟩) 3 vc),
    Fact.is (.pointer (some ⟨ga, 3, none⟩)),
    Fact.is (.pointer (some ⟨ga, 3, none⟩)),
    Fact.is (.int .i64 y),
    Fact.is (.pointer (some ⟨zb, 0, none⟩)),
    Fact.is (.slice (some ⟨ga, 0, none⟩) 3 vc),
    Fact.is (.pointer (some ⟨ga, 6, none⟩)),
    Fact.is (.pointer (some ⟨ga, 6, none⟩)),
    Fact.is (.int .i64 z),
    Fact.full .i64 3 [x, y, z],
    Fact.full .i64 3 [x, y, z]])
    (T := [61, 62, 63, 64, 65, 66, 67, 68, 69, 70, 71, 72, 73, 74, 75, 76, 11]) (by kernel_rfl) (by kernel_rfl) rfl ?owes ?_
  case owes =>
    refine .cons (owes_value fun q u lh => ⟨wants_free rfl, .pointer (some ⟨zb, 0, none⟩), by have e10 : q.tmps.getD 10 undef = .pointer (some ⟨zb, 0, none⟩) := lh.old 10 rfl; simp [execOp, Act.eval, e10, go_sem], rfl⟩) ?_
    refine .cons (owes_value fun q u lh => ⟨wants_free rfl, .slice (some ⟨ga, 0, none⟩) 3 vc, by have e61 : q.tmps.getD 61 undef = .pointer (some ⟨zb, 0, none⟩) := lh.dep 0 rfl; obtain ⟨z0, z1, z2, z3⟩ := X5.out.below lh.below; simp [execOp, Act.eval, e61, z0, go_sem], rfl⟩) ?_
    refine .cons (owes_value fun q u lh => ⟨wants_free rfl, .pointer (some ⟨ga, 0, none⟩), by have e62 : q.tmps.getD 62 undef = .slice (some ⟨ga, 0, none⟩) 3 vc := lh.dep 1 rfl; simp [execOp, Act.eval, e62, hvc, go_sem], rfl⟩) ?_
    refine .cons (owes_value fun q u lh => ⟨wants_free rfl, .pointer (some ⟨ga, 0, none⟩), by have e63 : q.tmps.getD 63 undef = .pointer (some ⟨ga, 0, none⟩) := lh.dep 2 rfl; simp [execOp, Act.eval, e63, go_sem], rfl⟩) ?_
    refine .cons (owes_value fun q u lh => ⟨wants_free rfl, .int .i64 x, by have e64 : q.tmps.getD 64 undef = .pointer (some ⟨ga, 0, none⟩) := lh.dep 3 rfl; obtain ⟨z0, z1, z2⟩ := Y5.out u lh.below; simp [execOp, Act.eval, e64, z0, go_sem], rfl⟩) ?_
    refine .cons (owes_value fun q u lh => ⟨wants_free rfl, .pointer (some ⟨zb, 0, none⟩), by have e10 : q.tmps.getD 10 undef = .pointer (some ⟨zb, 0, none⟩) := lh.old 10 rfl; simp [execOp, Act.eval, e10, go_sem], rfl⟩) ?_
    refine .cons (owes_value fun q u lh => ⟨wants_free rfl, .slice (some ⟨ga, 0, none⟩) 3 vc, by have e66 : q.tmps.getD 66 undef = .pointer (some ⟨zb, 0, none⟩) := lh.dep 5 rfl; obtain ⟨z0, z1, z2, z3⟩ := X5.out.below lh.below; simp [execOp, Act.eval, e66, z0, go_sem], rfl⟩) ?_
    refine .cons (owes_value fun q u lh => ⟨wants_free rfl, .pointer (some ⟨ga, 3, none⟩), by have e67 : q.tmps.getD 67 undef = .slice (some ⟨ga, 0, none⟩) 3 vc := lh.dep 6 rfl; simp [execOp, Act.eval, e67, hvc, go_sem], rfl⟩) ?_
    refine .cons (owes_value fun q u lh => ⟨wants_free rfl, .pointer (some ⟨ga, 3, none⟩), by have e68 : q.tmps.getD 68 undef = .pointer (some ⟨ga, 3, none⟩) := lh.dep 7 rfl; simp [execOp, Act.eval, e68, go_sem], rfl⟩) ?_
    refine .cons (owes_value fun q u lh => ⟨wants_free rfl, .int .i64 y, by have e69 : q.tmps.getD 69 undef = .pointer (some ⟨ga, 3, none⟩) := lh.dep 8 rfl; obtain ⟨z0, z1, z2⟩ := Y5.out u lh.below; simp [execOp, Act.eval, e69, z1, go_sem], rfl⟩) ?_
    refine .cons (owes_value fun q u lh => ⟨wants_free rfl, .pointer (some ⟨zb, 0, none⟩), by have e10 : q.tmps.getD 10 undef = .pointer (some ⟨zb, 0, none⟩) := lh.old 10 rfl; simp [execOp, Act.eval, e10, go_sem], rfl⟩) ?_
    refine .cons (owes_value fun q u lh => ⟨wants_free rfl, .slice (some ⟨ga, 0, none⟩) 3 vc, by have e71 : q.tmps.getD 71 undef = .pointer (some ⟨zb, 0, none⟩) := lh.dep 10 rfl; obtain ⟨z0, z1, z2, z3⟩ := X5.out.below lh.below; simp [execOp, Act.eval, e71, z0, go_sem], rfl⟩) ?_
    refine .cons (owes_value fun q u lh => ⟨wants_free rfl, .pointer (some ⟨ga, 6, none⟩), by have e72 : q.tmps.getD 72 undef = .slice (some ⟨ga, 0, none⟩) 3 vc := lh.dep 11 rfl; simp [execOp, Act.eval, e72, hvc, go_sem], rfl⟩) ?_
    refine .cons (owes_value fun q u lh => ⟨wants_free rfl, .pointer (some ⟨ga, 6, none⟩), by have e73 : q.tmps.getD 73 undef = .pointer (some ⟨ga, 6, none⟩) := lh.dep 12 rfl; simp [execOp, Act.eval, e73, go_sem], rfl⟩) ?_
    refine .cons (owes_value fun q u lh => ⟨wants_free rfl, .int .i64 z, by have e74 : q.tmps.getD 74 undef = .pointer (some ⟨ga, 6, none⟩) := lh.dep 13 rfl; obtain ⟨z0, z1, z2⟩ := Y5.out u lh.below; simp [execOp, Act.eval, e74, z2, go_sem], rfl⟩) ?_
    refine .cons (owes_make fun q u lh => ⟨wants_free rfl, .slice (some ⟨u.heap.size, 0, none⟩) 3 3, u.alloc (.cells #[.int .i64 x, .int .i64 y, .int .i64 z] 2), by have e65 : q.tmps[65]?.getD undef = .int .i64 x := (Array.getD_eq_getD_getElem? ..).symm.trans (lh.dep 4 rfl); have e70 : q.tmps[70]?.getD undef = .int .i64 y := (Array.getD_eq_getD_getElem? ..).symm.trans (lh.dep 9 rfl); have e75 : q.tmps[75]?.getD undef = .int .i64 z := (Array.getD_eq_getD_getElem? ..).symm.trans (lh.dep 14 rfl); simp [execOp, Act.eval, e65, e70, e75, go_sem], box_below _ _, ⟨_, rfl, Sl.new .i64 u 2 (0, 0) [x, y, z] WX.out⟩⟩) ?_
    refine .cons (owes_move (.tmp 76) (.inr rfl) fun q u lh => ⟨wants_free rfl, lh.dep 15 rfl⟩) ?_
    exact .nil _
  intro q u hb hsz hdf hold hfact
  obtain ⟨g76, e76, -⟩ : (Fact.full .i64 3 [x, y, z]).1 u (q.tmps.getD 76 undef) := hfact 15 (by decide)
  obtain ⟨gh, e11, s11⟩ : (Fact.full .i64 3 [x, y, z]).1 u (q.tmps.getD 11 undef) := hfact 16 (by decide)
  have B56 : Hid (Below w5.heap.size w5 u) := hb
  have HH : Hid (∀ v, Below u.heap.size u v → v.cell? ⟨gh, 0, none⟩ = some (.int .i64 x) ∧ v.cell? ⟨gh, 1, none⟩ = some (.int .i64 y) ∧ v.cell? ⟨gh, 2, none⟩ = some (.int .i64 z)) := fun v hv => (s11.below hv).row3
  obtain rfl := frame_puts hsz hdf [61, 62, 63, 64, 65, 66, 67, 68, 69, 70, 71, 72, 73, 74, 75, 76, 11] hold [(61, Value.pointer (some ⟨zb, 0, none⟩)), (62, Value.slice (some ⟨ga, 0, none⟩) 3 vc), (63, Value.pointer (some ⟨ga, 0, none⟩)), (64, Value.pointer (some ⟨ga, 0, none⟩)), (65, Value.int .i64 x), (66, Value.pointer (some ⟨zb, 0, none⟩)), (67, Value.slice (some ⟨ga, 0, none⟩) 3 vc), (68, Value.pointer (some ⟨ga, 3, none⟩)), (69, Value.pointer (some ⟨ga, 3, none⟩)), (70, Value.int .i64 y), (71, Value.pointer (some ⟨zb, 0, none⟩)), (72, Value.slice (some ⟨ga, 0, none⟩) 3 vc), (73, Value.pointer (some ⟨ga, 6, none⟩)), (74, Value.pointer (some ⟨ga, 6, none⟩)), (75, Value.int .i64 z), (76, Value.slice (some ⟨g76, 0, none⟩) 3 3), (11, Value.slice (some ⟨gh, 0, none⟩) 3 3)] ⟨hfact 0 (by decide), hfact 1 (by decide), hfact 2 (by decide), hfact 3 (by decide), hfact 4 (by decide), hfact 5 (by decide), hfact 6 (by decide), hfact 7 (by decide), hfact 8 (by decide), hfact 9 (by decide), hfact 10 (by decide), hfact 11 (by decide), hfact 12 (by decide), hfact 13 (by decide), hfact 14 (by decide), e76, e11, trivial⟩ rfl
  clear hsz hdf hold hfact
  clear hb s11 WX Y5
  simp only [puts, Act.put, List.setIfInBounds_toArray, List.set_cons_zero, List.set_cons_succ]
  obtain ⟨w6, rfl⟩ : ∃ z, z = u := ⟨u, rfl⟩
  have B36 : Hid (Below w3.heap.size w3 w6) := B35.out.trans (B56.out.mono B35.out.size)
  obtain ⟨w7, hw7⟩ : ∃ w7, w7 = w6.alloc (.cells #[.bool false, .bool false, .bool false] 4) := ⟨_, rfl⟩
  obtain ⟨go, hgo⟩ : ∃ go, w6.heap.size = go := ⟨_, rfl⟩
  have HGO : Hid (w6.heap.size ≤ go) := by show _ ≤ _; omega
  have B67 : Hid (Below w6.heap.size w6 w7) := by rw [hw7]; exact box_below _ _
  have O7 : Hid (Out3 w7 go false false false) := by
    show w7.heap[go]? = _
    rw [hw7, ← hgo]
    show (w6.heap.push _)[w6.heap.size]? = _
    rw [Array.getElem?_push_size]
  go_upto_region 8 with fail
  rw [← hw7]
  clear hw7
  try rw [hgo]
  clear hgo
  go_wp2
  go_loopw [13] (fun l wr => ∃ n : Nat, n ≤ 3 ∧ l = .int .i64 n ∧ Hid (Out3 wr go (outO (ringU x y z a b c) (ringV x y z a b c) (3 * n) 0) (outO (ringU x y z a b c) (ringV x y z a b c) (3 * n) 1) (outO (ringU x y z a b c) (ringV x y z a b c) (3 * n) 2)) ∧ Hid (Below w6.heap.size w6 wr)) (fun l _ => 3 - (intOf l).toNat)
  case atStart => exact ⟨0, by omega, rfl, O7, B67⟩
  case round =>
    obtain ⟨n, hn, rfl, HO, HB⟩ := hrel
    by_cases hlt : n < 3
    · have i1 : (n : Int) < 3 := by omega
      have nw : Hid (IntKind.i64.wrap ((n : Int) + 1) = n + 1) := i64_wf (by omega) (by omega)
      go_wp2
      go_loopw [14] (fun l wv => ∃ (i : Nat) (v : Int), v = i ∧ i ≤ 3 ∧ l = .int .i64 v ∧ Hid (Out3 wv go (outO (ringU x y z a b c) (ringV x y z a b c) (3 * n + i) 0) (outO (ringU x y z a b c) (ringV x y z a b c) (3 * n + i) 1) (outO (ringU x y z a b c) (ringV x y z a b c) (3 * n + i) 2)) ∧ Hid (Below w6.heap.size w6 wv)) (fun l _ => 3 - (intOf l).toNat)
      case atStart => exact ⟨0, 0, rfl, by omega, rfl, HO, HB⟩
      case round =>
        clear HO HB
        obtain ⟨i, v, hv, hi, rfl, HO, HB⟩ := hrel
        have BZ : Hid (Below w3.heap.size w3 wr) := B36.out.trans (HB.out.mono B36.out.size)
        rcases (show i = 0 ∨ i = 1 ∨ i = 2 ∨ i = 3 from by omega) with rfl | rfl | rfl | rfl
        · obtain rfl : v = 0 := by omega
          clear hv hi
          have S0 := out_step (ringU x y z a b c) (ringV x y z a b c) n (i := 0) (by omega) 0
          have S1 := out_step (ringU x y z a b c) (ringV x y z a b c) n (i := 0) (by omega) 1
          have S2 := out_step (ringU x y z a b c) (ringV x y z a b c) n (i := 0) (by omega) 2
          have hU : ringU x y z a b c 0 = decide (x + c < a) := rfl
          have hV : ringV x y z a b c 0 = decide (x < a) := rfl
          rw [if_pos rfl, hU, hV, show (0 + 2) % 3 = 2 from rfl] at S0
          rw [if_neg (by omega)] at S1
          rw [if_neg (by omega)] at S2
          have HN : Hid (outO (ringU x y z a b c) (ringV x y z a b c) (3 * n + 1) 0 = (outO (ringU x y z a b c) (ringV x y z a b c) (3 * n + 0) 0 || (if outO (ringU x y z a b c) (ringV x y z a b c) (3 * n + 0) 2 = true then decide (x < a) else decide (x + c < a))) ∧ outO (ringU x y z a b c) (ringV x y z a b c) (3 * n + 1) 1 = outO (ringU x y z a b c) (ringV x y z a b c) (3 * n + 0) 1 ∧ outO (ringU x y z a b c) (ringV x y z a b c) (3 * n + 1) 2 = outO (ringU x y z a b c) (ringV x y z a b c) (3 * n + 0) 2) := ⟨S0, S1, S2⟩
          clear S0 S1 S2 hU hV
          generalize outO (ringU x y z a b c) (ringV x y z a b c) (3 * n + 0) 0 = o0 at HO HN
          generalize outO (ringU x y z a b c) (ringV x y z a b c) (3 * n + 0) 1 = o1 at HO HN
          generalize outO (ringU x y z a b c) (ringV x y z a b c) (3 * n + 0) 2 = o2 at HO HN
          cases o2 with
          | true =>
              have WW : Hid (IntKind.i64.wrap (x + 0) = x + 0 ∧ IntKind.i64.wrap x = x) := by have := HXYZ.out; have := HABC.out; exact ⟨i64_wf (by omega) (by omega), i64_wf (by omega) (by omega)⟩
              obtain ⟨p0, p1, p2⟩ := HO.out.cell
              obtain ⟨q0, q1, q2⟩ := AM.out wr BZ.out
              go_upto_region 17 with fail
              clear p0 p1 p2 q0 q1 q2
              refine region_owes_endN 21 (L := [Fact.is (.slice (some ⟨go, 0, none⟩) 3 3),
                Fact.is (.int .i64 0),
                Fact.is (.slice (some ⟨go, 0, none⟩) 3 3),
                Fact.is (.int .i64 0),
                Fact.is (.pointer (some ⟨go, 0, none⟩)),
                Fact.is (.bool o0),
                Fact.is (.bool o0),
                Fact.when (o0 == false) (.slice (some ⟨gh, 0, none⟩) 3 3),
                Fact.when (o0 == false) (.int .i64 0),
                Fact.when (o0 == false) (.pointer (some ⟨gh, 0, none⟩)),
                Fact.when (o0 == false) (.int .i64 x),
                Fact.when (o0 == false) (.int .i64 0),
                Fact.when (o0 == false) (.int .i64 x),
                Fact.when (o0 == false) (.slice (some ⟨g, 0, none⟩) 3 cm),
                Fact.when (o0 == false) (.int .i64 0),
                Fact.when (o0 == false) (.pointer (some ⟨g, 0, none⟩)),
                Fact.when (o0 == false) (.pointer (some ⟨g, 3, none⟩)),
                Fact.when (o0 == false) (.int .i64 a),
                Fact.when (o0 == false) (.bool (decide (x < a))),
                Fact.is (.bool (o0 || (decide (x < a)))),
                Fact.is (.pointer (some ⟨go, 0, none⟩))])
                (T := [100, 101, 102, 103, 104, 105, 106, 107, 108, 109, 110, 111, 112, 113, 114, 115, 116, 117, 118, 119, 120]) (by kernel_rfl) rfl rfl (by kernel_rfl) (by kernel_rfl) rfl ?owes ?_
              case owes =>
                simp only [List.take_succ_cons, List.take_zero]
                refine .cons (owes_move (.tmp 12) (.inl rfl) fun q u lh => ⟨wants_free rfl, lh.old 12 rfl⟩) ?_
                refine .cons (owes_move (.tmp 14) (.inl rfl) fun q u lh => ⟨wants_free rfl, lh.old 14 rfl⟩) ?_
                refine .cons (owes_move (.tmp 12) (.inl rfl) fun q u lh => ⟨wants_free rfl, lh.old 12 rfl⟩) ?_
                refine .cons (owes_move (.tmp 14) (.inl rfl) fun q u lh => ⟨wants_free rfl, lh.old 14 rfl⟩) ?_
                refine .cons (owes_value fun q u lh => ⟨wants_free rfl, .pointer (some ⟨go, 0, none⟩), by have e102 : q.tmps.getD 102 undef = .slice (some ⟨go, 0, none⟩) 3 3 := lh.dep 2 rfl; have e103 : q.tmps.getD 103 undef = .int .i64 0 := lh.dep 3 rfl; simp [execOp, Act.eval, e102, e103, go_sem], rfl⟩) ?_
                refine .cons (owes_value fun q u lh => ⟨wants_free rfl, .bool o0, by have e104 : q.tmps.getD 104 undef = .pointer (some ⟨go, 0, none⟩) := lh.dep 4 rfl; obtain ⟨z0, z1, z2⟩ := (HO.out.below lh.below).cell; simp [execOp, Act.eval, e104, z0, go_sem], rfl⟩) ?_
                refine .cons (owes_move (.tmp 105) (.inl rfl) fun q u lh => ⟨wants_free rfl, lh.dep 5 rfl⟩) ?_
                refine .cons (owes_when 6 false o0 (.slice (some ⟨gh, 0, none⟩) 3 3) rfl rfl rfl rfl fun hg q u lh => by have e11 : q.tmps.getD 11 undef = .slice (some ⟨gh, 0, none⟩) 3 3 := lh.old 11 rfl; simp [execOp, Act.eval, e11, go_sem]) ?_
                refine .cons (owes_when 6 false o0 (.int .i64 0) rfl rfl rfl rfl fun hg q u lh => by have e14 : q.tmps.getD 14 undef = .int .i64 0 := lh.old 14 rfl; simp [execOp, Act.eval, e14, go_sem]) ?_
                refine .cons (owes_when 6 false o0 (.pointer (some ⟨gh, 0, none⟩)) rfl rfl rfl rfl fun hg q u lh => by have e107 : q.tmps.getD 107 undef = .slice (some ⟨gh, 0, none⟩) 3 3 := (lh.dep 7 rfl) hg; have e108 : q.tmps.getD 108 undef = .int .i64 0 := (lh.dep 8 rfl) hg; simp [execOp, Act.eval, e107, e108, go_sem]) ?_
                refine .cons (owes_when 6 false o0 (.int .i64 x) rfl rfl rfl rfl fun hg q u lh => by have e109 : q.tmps.getD 109 undef = .pointer (some ⟨gh, 0, none⟩) := (lh.dep 9 rfl) hg; obtain ⟨z0, z1, z2⟩ := HH.out u (HB.out.trans (lh.below.mono HB.out.size)); simp [execOp, Act.eval, e109, z0, go_sem]) ?_
                refine .cons (owes_when 6 false o0 (.int .i64 0) rfl rfl rfl rfl fun hg q u lh => by have e15 : q.tmps.getD 15 undef = .int .i64 0 := lh.old 15 rfl; simp [execOp, Act.eval, e15, go_sem]) ?_
                refine .cons (owes_when 6 false o0 (.int .i64 x) rfl rfl rfl rfl fun hg q u lh => by have e110 : q.tmps.getD 110 undef = .int .i64 x := (lh.dep 10 rfl) hg; have e111 : q.tmps.getD 111 undef = .int .i64 0 := (lh.dep 11 rfl) hg; have k1 := WW.out; simp [execOp, Act.eval, e110, e111, k1, go_sem]) ?_
                refine .cons (owes_when 6 false o0 (.slice (some ⟨g, 0, none⟩) 3 cm) rfl rfl rfl rfl fun hg q u lh => by have e9 : q.tmps.getD 9 undef = .slice (some ⟨g, 0, none⟩) 3 cm := lh.old 9 rfl; simp [execOp, Act.eval, e9, go_sem]) ?_
                refine .cons (owes_when 6 false o0 (.int .i64 0) rfl rfl rfl rfl fun hg q u lh => by have e14 : q.tmps.getD 14 undef = .int .i64 0 := lh.old 14 rfl; simp [execOp, Act.eval, e14, go_sem]) ?_
                refine .cons (owes_when 6 false o0 (.pointer (some ⟨g, 0, none⟩)) rfl rfl rfl rfl fun hg q u lh => by have e113 : q.tmps.getD 113 undef = .slice (some ⟨g, 0, none⟩) 3 cm := (lh.dep 13 rfl) hg; have e114 : q.tmps.getD 114 undef = .int .i64 0 := (lh.dep 14 rfl) hg; simp [execOp, Act.eval, e113, e114, hcm, go_sem]) ?_
                refine .cons (owes_when 6 false o0 (.pointer (some ⟨g, 3, none⟩)) rfl rfl rfl rfl fun hg q u lh => by have e115 : q.tmps.getD 115 undef = .pointer (some ⟨g, 0, none⟩) := (lh.dep 15 rfl) hg; simp [execOp, Act.eval, e115, go_sem]) ?_
                refine .cons (owes_when 6 false o0 (.int .i64 a) rfl rfl rfl rfl fun hg q u lh => by have e116 : q.tmps.getD 116 undef = .pointer (some ⟨g, 3, none⟩) := (lh.dep 16 rfl) hg; obtain ⟨z0, z1, z2⟩ := AM.out u (BZ.out.trans (lh.below.mono BZ.out.size)); simp [execOp, Act.eval, e116, z0, go_sem]) ?_
                refine .cons (owes_when 6 false o0 (.bool (decide (x < a))) rfl rfl rfl rfl fun hg q u lh => by have e112 : q.tmps.getD 112 undef = .int .i64 x := (lh.dep 12 rfl) hg; have e117 : q.tmps.getD 117 undef = .int .i64 a := (lh.dep 17 rfl) hg; simp [execOp, Act.eval, e112, e117, go_sem]) ?_
                refine .cons (owes_or 106 118 6 18 o0 (decide (x < a)) rfl rfl rfl rfl rfl rfl rfl rfl (rfl)) ?_
                refine .cons (owes_value fun q u lh => ⟨wants_free rfl, .pointer (some ⟨go, 0, none⟩), by have e100 : q.tmps.getD 100 undef = .slice (some ⟨go, 0, none⟩) 3 3 := lh.dep 0 rfl; have e101 : q.tmps.getD 101 undef = .int .i64 0 := lh.dep 1 rfl; simp [execOp, Act.eval, e100, e101, go_sem], rfl⟩) ?_
                exact .nil _
              intro q u hb hsz hdf hold hfact
              obtain ⟨v107, e107⟩ : ∃ v, q.tmps.getD 107 undef = v := ⟨_, rfl⟩
              obtain ⟨v108, e108⟩ : ∃ v, q.tmps.getD 108 undef = v := ⟨_, rfl⟩
              obtain ⟨v109, e109⟩ : ∃ v, q.tmps.getD 109 undef = v := ⟨_, rfl⟩
              obtain ⟨v110, e110⟩ : ∃ v, q.tmps.getD 110 undef = v := ⟨_, rfl⟩
              obtain ⟨v111, e111⟩ : ∃ v, q.tmps.getD 111 undef = v := ⟨_, rfl⟩
              obtain ⟨v112, e112⟩ : ∃ v, q.tmps.getD 112 undef = v := ⟨_, rfl⟩
              obtain ⟨v113, e113⟩ : ∃ v, q.tmps.getD 113 undef = v := ⟨_, rfl⟩
              obtain ⟨v114, e114⟩ : ∃ v, q.tmps.getD 114 undef = v := ⟨_, rfl⟩
              obtain ⟨v115, e115⟩ : ∃ v, q.tmps.getD 115 undef = v := ⟨_, rfl⟩
              obtain ⟨v116, e116⟩ : ∃ v, q.tmps.getD 116 undef = v := ⟨_, rfl⟩
              obtain ⟨v117, e117⟩ : ∃ v, q.tmps.getD 117 undef = v := ⟨_, rfl⟩
              obtain ⟨v118, e118⟩ : ∃ v, q.tmps.getD 118 undef = v := ⟨_, rfl⟩
              have hO := HO.out.below hb
              have f0 := frozen_of_row u go 0 _ _ hO
              obtain ⟨z0, z1, z2⟩ := hO.cell
              obtain ⟨w5, hw5⟩ : ∃ w5, w5 = u.setCell ⟨go, 0, none⟩ (.bool (o0 || decide (x < a))) := ⟨_, rfl⟩
              have B5 : Hid (Below w6.heap.size w6 w5) := by rw [hw5]; exact (HB.out.trans (hb.mono HB.out.size)).setCell (p := ⟨go, 0, none⟩) HGO.out _
              have O5 : Hid (Out3 w5 go (o0 || decide (x < a)) o1 true) := by rw [hw5]; exact (hO.set _).1
              clear hb hO
              obtain ⟨u5, rfl⟩ : ∃ z, z = u := ⟨u, rfl⟩
              obtain rfl := frame_puts hsz hdf [100, 101, 102, 103, 104, 105, 106, 107, 108, 109, 110, 111, 112, 113, 114, 115, 116, 117, 118, 119, 120] hold [(100, Value.slice (some ⟨go, 0, none⟩) 3 3), (101, Value.int .i64 0), (102, Value.slice (some ⟨go, 0, none⟩) 3 3), (103, Value.int .i64 0), (104, Value.pointer (some ⟨go, 0, none⟩)), (105, Value.bool o0), (106, Value.bool o0), (107, v107), (108, v108), (109, v109), (110, v110), (111, v111), (112, v112), (113, v113), (114, v114), (115, v115), (116, v116), (117, v117), (118, v118), (119, Value.bool (o0 || (decide (x < a)))), (120, Value.pointer (some ⟨go, 0, none⟩))] ⟨hfact 0 (by decide), hfact 1 (by decide), hfact 2 (by decide), hfact 3 (by decide), hfact 4 (by decide), hfact 5 (by decide), hfact 6 (by decide), e107, e108, e109, e110, e111, e112, e113, e114, e115, e116, e117, e118, hfact 19 (by decide), hfact 20 (by decide), trivial⟩ rfl
              clear hsz hdf hold hfact
              clear HB HO BZ WW
              simp only [puts, Act.put, List.setIfInBounds_toArray, List.set_cons_zero, List.set_cons_succ]
              go_upto_region 13 with fail
              rw [← hw5]
              clear hw5 f0 z0 z1 z2
              go_wp2
              go_roundw
              case rel => exact ⟨1, 1, rfl, by omega, rfl, by have h1 := HN.out.1; have h2 := HN.out.2.1; have h3 := HN.out.2.2; show Out3 w5 go _ _ _; rw [h1, h2, h3]; exact O5.out, B5⟩
              case measure => simp [intOf]
          | false =>
              have WW : Hid (IntKind.i64.wrap (x + c) = x + c ∧ IntKind.i64.wrap x = x) := by have := HXYZ.out; have := HABC.out; exact ⟨i64_wf (by omega) (by omega), i64_wf (by omega) (by omega)⟩
              obtain ⟨p0, p1, p2⟩ := HO.out.cell
              obtain ⟨q0, q1, q2⟩ := AM.out wr BZ.out
              go_upto_region 17 with fail
              clear p0 p1 p2 q0 q1 q2
              refine region_owes_endN 21 (L := [Fact.is (.slice (some ⟨go, 0, none⟩) 3 3),
                Fact.is (.int .i64 0),
                Fact.is (.slice (some ⟨go, 0, none⟩) 3 3),
                Fact.is (.int .i64 0),
                Fact.is (.pointer (some ⟨go, 0, none⟩)),
                Fact.is (.bool o0),
                Fact.is (.bool o0),
                Fact.when (o0 == false) (.slice (some ⟨gh, 0, none⟩) 3 3),
                Fact.when (o0 == false) (.int .i64 0),
                Fact.when (o0 == false) (.pointer (some ⟨gh, 0, none⟩)),
                Fact.when (o0 == false) (.int .i64 x),
                Fact.when (o0 == false) (.int .i64 c),
                Fact.when (o0 == false) (.int .i64 (x + c)),
                Fact.when (o0 == false) (.slice (some ⟨g, 0, none⟩) 3 cm),
                Fact.when (o0 == false) (.int .i64 0),
                Fact.when (o0 == false) (.pointer (some ⟨g, 0, none⟩)),
                Fact.when (o0 == false) (.pointer (some ⟨g, 3, none⟩)),
                Fact.when (o0 == false) (.int .i64 a),
                Fact.when (o0 == false) (.bool (decide ((x + c) < a))),
                Fact.is (.bool (o0 || (decide ((x + c) < a)))),
                Fact.is (.pointer (some ⟨go, 0, none⟩))])
                (T := [100, 101, 102, 103, 104, 105, 106, 107, 108, 109, 110, 111, 112, 113, 114, 115, 116, 117, 118, 119, 120]) (by kernel_rfl) rfl rfl (by kernel_rfl) (by kernel_rfl) rfl ?owes ?_
              case owes =>
                simp only [List.take_succ_cons, List.take_zero]
                refine .cons (owes_move (.tmp 12) (.inl rfl) fun q u lh => ⟨wants_free rfl, lh.old 12 rfl⟩) ?_
                refine .cons (owes_move (.tmp 14) (.inl rfl) fun q u lh => ⟨wants_free rfl, lh.old 14 rfl⟩) ?_
                refine .cons (owes_move (.tmp 12) (.inl rfl) fun q u lh => ⟨wants_free rfl, lh.old 12 rfl⟩) ?_
                refine .cons (owes_move (.tmp 14) (.inl rfl) fun q u lh => ⟨wants_free rfl, lh.old 14 rfl⟩) ?_
                refine .cons (owes_value fun q u lh => ⟨wants_free rfl, .pointer (some ⟨go, 0, none⟩), by have e102 : q.tmps.getD 102 undef = .slice (some ⟨go, 0, none⟩) 3 3 := lh.dep 2 rfl; have e103 : q.tmps.getD 103 undef = .int .i64 0 := lh.dep 3 rfl; simp [execOp, Act.eval, e102, e103, go_sem], rfl⟩) ?_
                refine .cons (owes_value fun q u lh => ⟨wants_free rfl, .bool o0, by have e104 : q.tmps.getD 104 undef = .pointer (some ⟨go, 0, none⟩) := lh.dep 4 rfl; obtain ⟨z0, z1, z2⟩ := (HO.out.below lh.below).cell; simp [execOp, Act.eval, e104, z0, go_sem], rfl⟩) ?_
                refine .cons (owes_move (.tmp 105) (.inl rfl) fun q u lh => ⟨wants_free rfl, lh.dep 5 rfl⟩) ?_
                refine .cons (owes_when 6 false o0 (.slice (some ⟨gh, 0, none⟩) 3 3) rfl rfl rfl rfl fun hg q u lh => by have e11 : q.tmps.getD 11 undef = .slice (some ⟨gh, 0, none⟩) 3 3 := lh.old 11 rfl; simp [execOp, Act.eval, e11, go_sem]) ?_
                refine .cons (owes_when 6 false o0 (.int .i64 0) rfl rfl rfl rfl fun hg q u lh => by have e14 : q.tmps.getD 14 undef = .int .i64 0 := lh.old 14 rfl; simp [execOp, Act.eval, e14, go_sem]) ?_
                refine .cons (owes_when 6 false o0 (.pointer (some ⟨gh, 0, none⟩)) rfl rfl rfl rfl fun hg q u lh => by have e107 : q.tmps.getD 107 undef = .slice (some ⟨gh, 0, none⟩) 3 3 := (lh.dep 7 rfl) hg; have e108 : q.tmps.getD 108 undef = .int .i64 0 := (lh.dep 8 rfl) hg; simp [execOp, Act.eval, e107, e108, go_sem]) ?_
                refine .cons (owes_when 6 false o0 (.int .i64 x) rfl rfl rfl rfl fun hg q u lh => by have e109 : q.tmps.getD 109 undef = .pointer (some ⟨gh, 0, none⟩) := (lh.dep 9 rfl) hg; obtain ⟨z0, z1, z2⟩ := HH.out u (HB.out.trans (lh.below.mono HB.out.size)); simp [execOp, Act.eval, e109, z0, go_sem]) ?_
                refine .cons (owes_when 6 false o0 (.int .i64 c) rfl rfl rfl rfl fun hg q u lh => by have e15 : q.tmps.getD 15 undef = .int .i64 c := lh.old 15 rfl; simp [execOp, Act.eval, e15, go_sem]) ?_
                refine .cons (owes_when 6 false o0 (.int .i64 (x + c)) rfl rfl rfl rfl fun hg q u lh => by have e110 : q.tmps.getD 110 undef = .int .i64 x := (lh.dep 10 rfl) hg; have e111 : q.tmps.getD 111 undef = .int .i64 c := (lh.dep 11 rfl) hg; have k1 := WW.out; simp [execOp, Act.eval, e110, e111, k1, go_sem]) ?_
                refine .cons (owes_when 6 false o0 (.slice (some ⟨g, 0, none⟩) 3 cm) rfl rfl rfl rfl fun hg q u lh => by have e9 : q.tmps.getD 9 undef = .slice (some ⟨g, 0, none⟩) 3 cm := lh.old 9 rfl; simp [execOp, Act.eval, e9, go_sem]) ?_
                refine .cons (owes_when 6 false o0 (.int .i64 0) rfl rfl rfl rfl fun hg q u lh => by have e14 : q.tmps.getD 14 undef = .int .i64 0 := lh.old 14 rfl; simp [execOp, Act.eval, e14, go_sem]) ?_
                refine .cons (owes_when 6 false o0 (.pointer (some ⟨g, 0, none⟩)) rfl rfl rfl rfl fun hg q u lh => by have e113 : q.tmps.getD 113 undef = .slice (some ⟨g, 0, none⟩) 3 cm := (lh.dep 13 rfl) hg; have e114 : q.tmps.getD 114 undef = .int .i64 0 := (lh.dep 14 rfl) hg; simp [execOp, Act.eval, e113, e114, hcm, go_sem]) ?_
                refine .cons (owes_when 6 false o0 (.pointer (some ⟨g, 3, none⟩)) rfl rfl rfl rfl fun hg q u lh => by have e115 : q.tmps.getD 115 undef = .pointer (some ⟨g, 0, none⟩) := (lh.dep 15 rfl) hg; simp [execOp, Act.eval, e115, go_sem]) ?_
                refine .cons (owes_when 6 false o0 (.int .i64 a) rfl rfl rfl rfl fun hg q u lh => by have e116 : q.tmps.getD 116 undef = .pointer (some ⟨g, 3, none⟩) := (lh.dep 16 rfl) hg; obtain ⟨z0, z1, z2⟩ := AM.out u (BZ.out.trans (lh.below.mono BZ.out.size)); simp [execOp, Act.eval, e116, z0, go_sem]) ?_
                refine .cons (owes_when 6 false o0 (.bool (decide ((x + c) < a))) rfl rfl rfl rfl fun hg q u lh => by have e112 : q.tmps.getD 112 undef = .int .i64 (x + c) := (lh.dep 12 rfl) hg; have e117 : q.tmps.getD 117 undef = .int .i64 a := (lh.dep 17 rfl) hg; simp [execOp, Act.eval, e112, e117, go_sem]) ?_
                refine .cons (owes_or 106 118 6 18 o0 (decide ((x + c) < a)) rfl rfl rfl rfl rfl rfl rfl rfl (rfl)) ?_
                refine .cons (owes_value fun q u lh => ⟨wants_free rfl, .pointer (some ⟨go, 0, none⟩), by have e100 : q.tmps.getD 100 undef = .slice (some ⟨go, 0, none⟩) 3 3 := lh.dep 0 rfl; have e101 : q.tmps.getD 101 undef = .int .i64 0 := lh.dep 1 rfl; simp [execOp, Act.eval, e100, e101, go_sem], rfl⟩) ?_
                exact .nil _
              intro q u hb hsz hdf hold hfact
              obtain ⟨v107, e107⟩ : ∃ v, q.tmps.getD 107 undef = v := ⟨_, rfl⟩
              obtain ⟨v108, e108⟩ : ∃ v, q.tmps.getD 108 undef = v := ⟨_, rfl⟩
              obtain ⟨v109, e109⟩ : ∃ v, q.tmps.getD 109 undef = v := ⟨_, rfl⟩
              obtain ⟨v110, e110⟩ : ∃ v, q.tmps.getD 110 undef = v := ⟨_, rfl⟩
              obtain ⟨v111, e111⟩ : ∃ v, q.tmps.getD 111 undef = v := ⟨_, rfl⟩
              obtain ⟨v112, e112⟩ : ∃ v, q.tmps.getD 112 undef = v := ⟨_, rfl⟩
              obtain ⟨v113, e113⟩ : ∃ v, q.tmps.getD 113 undef = v := ⟨_, rfl⟩
              obtain ⟨v114, e114⟩ : ∃ v, q.tmps.getD 114 undef = v := ⟨_, rfl⟩
              obtain ⟨v115, e115⟩ : ∃ v, q.tmps.getD 115 undef = v := ⟨_, rfl⟩
              obtain ⟨v116, e116⟩ : ∃ v, q.tmps.getD 116 undef = v := ⟨_, rfl⟩
              obtain ⟨v117, e117⟩ : ∃ v, q.tmps.getD 117 undef = v := ⟨_, rfl⟩
              obtain ⟨v118, e118⟩ : ∃ v, q.tmps.getD 118 undef = v := ⟨_, rfl⟩
              have hO := HO.out.below hb
              have f0 := frozen_of_row u go 0 _ _ hO
              obtain ⟨z0, z1, z2⟩ := hO.cell
              obtain ⟨w5, hw5⟩ : ∃ w5, w5 = u.setCell ⟨go, 0, none⟩ (.bool (o0 || decide ((x + c) < a))) := ⟨_, rfl⟩
              have B5 : Hid (Below w6.heap.size w6 w5) := by rw [hw5]; exact (HB.out.trans (hb.mono HB.out.size)).setCell (p := ⟨go, 0, none⟩) HGO.out _
              have O5 : Hid (Out3 w5 go (o0 || decide ((x + c) < a)) o1 false) := by rw [hw5]; exact (hO.set _).1
              clear hb hO
              obtain ⟨u5, rfl⟩ : ∃ z, z = u := ⟨u, rfl⟩
              obtain rfl := frame_puts hsz hdf [100, 101, 102, 103, 104, 105, 106, 107, 108, 109, 110, 111, 112, 113, 114, 115, 116, 117, 118, 119, 120] hold [(100, Value.slice (some ⟨go, 0, none⟩) 3 3), (101, Value.int .i64 0), (102, Value.slice (some ⟨go, 0, none⟩) 3 3), (103, Value.int .i64 0), (104, Value.pointer (some ⟨go, 0, none⟩)), (105, Value.bool o0), (106, Value.bool o0), (107, v107), (108, v108), (109, v109), (110, v110), (111, v111), (112, v112), (113, v113), (114, v114), (115, v115), (116, v116), (117, v117), (118, v118), (119, Value.bool (o0 || (decide ((x + c) < a)))), (120, Value.pointer (some ⟨go, 0, none⟩))] ⟨hfact 0 (by decide), hfact 1 (by decide), hfact 2 (by decide), hfact 3 (by decide), hfact 4 (by decide), hfact 5 (by decide), hfact 6 (by decide), e107, e108, e109, e110, e111, e112, e113, e114, e115, e116, e117, e118, hfact 19 (by decide), hfact 20 (by decide), trivial⟩ rfl
              clear hsz hdf hold hfact
              clear HB HO BZ WW
              simp only [puts, Act.put, List.setIfInBounds_toArray, List.set_cons_zero, List.set_cons_succ]
              go_upto_region 13 with fail
              rw [← hw5]
              clear hw5 f0 z0 z1 z2
              go_wp2
              go_roundw
              case rel => exact ⟨1, 1, rfl, by omega, rfl, by have h1 := HN.out.1; have h2 := HN.out.2.1; have h3 := HN.out.2.2; show Out3 w5 go _ _ _; rw [h1, h2, h3]; exact O5.out, B5⟩
              case measure => simp [intOf]
        · obtain rfl : v = 1 := by omega
          clear hv hi
          have S0 := out_step (ringU x y z a b c) (ringV x y z a b c) n (i := 1) (by omega) 0
          have S1 := out_step (ringU x y z a b c) (ringV x y z a b c) n (i := 1) (by omega) 1
          have S2 := out_step (ringU x y z a b c) (ringV x y z a b c) n (i := 1) (by omega) 2
          have hU : ringU x y z a b c 1 = decide (y + a < b) := rfl
          have hV : ringV x y z a b c 1 = decide (y < b) := rfl
          rw [if_neg (by omega)] at S0
          rw [if_pos rfl, hU, hV, show (1 + 2) % 3 = 0 from rfl] at S1
          rw [if_neg (by omega)] at S2
          have HN : Hid (outO (ringU x y z a b c) (ringV x y z a b c) (3 * n + 2) 0 = outO (ringU x y z a b c) (ringV x y z a b c) (3 * n + 1) 0 ∧ outO (ringU x y z a b c) (ringV x y z a b c) (3 * n + 2) 1 = (outO (ringU x y z a b c) (ringV x y z a b c) (3 * n + 1) 1 || (if outO (ringU x y z a b c) (ringV x y z a b c) (3 * n + 1) 0 = true then decide (y < b) else decide (y + a < b))) ∧ outO (ringU x y z a b c) (ringV x y z a b c) (3 * n + 2) 2 = outO (ringU x y z a b c) (ringV x y z a b c) (3 * n + 1) 2) := ⟨S0, S1, S2⟩
          clear S0 S1 S2 hU hV
          generalize outO (ringU x y z a b c) (ringV x y z a b c) (3 * n + 1) 0 = o0 at HO HN
          generalize outO (ringU x y z a b c) (ringV x y z a b c) (3 * n + 1) 1 = o1 at HO HN
          generalize outO (ringU x y z a b c) (ringV x y z a b c) (3 * n + 1) 2 = o2 at HO HN
          cases o0 with
          | true =>
              have WW : Hid (IntKind.i64.wrap (y + 0) = y + 0 ∧ IntKind.i64.wrap y = y) := by have := HXYZ.out; have := HABC.out; exact ⟨i64_wf (by omega) (by omega), i64_wf (by omega) (by omega)⟩
              obtain ⟨p0, p1, p2⟩ := HO.out.cell
              obtain ⟨q0, q1, q2⟩ := AM.out wr BZ.out
              go_upto_region 17 with fail
              clear p0 p1 p2 q0 q1 q2
              refine region_owes_endN 21 (L := [Fact.is (.slice (some ⟨go, 0, none⟩) 3 3),
                Fact.is (.int .i64 1),
                Fact.is (.slice (some ⟨go, 0, none⟩) 3 3),
                Fact.is (.int .i64 1),
                Fact.is (.pointer (some ⟨go, 1, none⟩)),
                Fact.is (.bool o1),
                Fact.is (.bool o1),
                Fact.when (o1 == false) (.slice (some ⟨gh, 0, none⟩) 3 3),
                Fact.when (o1 == false) (.int .i64 1),
                Fact.when (o1 == false) (.pointer (some ⟨gh, 1, none⟩)),
                Fact.when (o1 == false) (.int .i64 y),
                Fact.when (o1 == false) (.int .i64 0),
                Fact.when (o1 == false) (.int .i64 y),
                Fact.when (o1 == false) (.slice (some ⟨g, 0, none⟩) 3 cm),
                Fact.when (o1 == false) (.int .i64 1),
                Fact.when (o1 == false) (.pointer (some ⟨g, 7, none⟩)),
                Fact.when (o1 == false) (.pointer (some ⟨g, 10, none⟩)),
                Fact.when (o1 == false) (.int .i64 b),
                Fact.when (o1 == false) (.bool (decide (y < b))),
                Fact.is (.bool (o1 || (decide (y < b)))),
                Fact.is (.pointer (some ⟨go, 1, none⟩))])
                (T := [100, 101, 102, 103, 104, 105, 106, 107, 108, 109, 110, 111, 112, 113, 114, 115, 116, 117, 118, 119, 120]) (by kernel_rfl) rfl rfl (by kernel_rfl) (by kernel_rfl) rfl ?owes ?_
              case owes =>
                simp only [List.take_succ_cons, List.take_zero]
                refine .cons (owes_move (.tmp 12) (.inl rfl) fun q u lh => ⟨wants_free rfl, lh.old 12 rfl⟩) ?_
                refine .cons (owes_move (.tmp 14) (.inl rfl) fun q u lh => ⟨wants_free rfl, lh.old 14 rfl⟩) ?_
                refine .cons (owes_move (.tmp 12) (.inl rfl) fun q u lh => ⟨wants_free rfl, lh.old 12 rfl⟩) ?_
                refine .cons (owes_move (.tmp 14) (.inl rfl) fun q u lh => ⟨wants_free rfl, lh.old 14 rfl⟩) ?_
                refine .cons (owes_value fun q u lh => ⟨wants_free rfl, .pointer (some ⟨go, 1, none⟩), by have e102 : q.tmps.getD 102 undef = .slice (some ⟨go, 0, none⟩) 3 3 := lh.dep 2 rfl; have e103 : q.tmps.getD 103 undef = .int .i64 1 := lh.dep 3 rfl; simp [execOp, Act.eval, e102, e103, go_sem], rfl⟩) ?_
                refine .cons (owes_value fun q u lh => ⟨wants_free rfl, .bool o1, by have e104 : q.tmps.getD 104 undef = .pointer (some ⟨go, 1, none⟩) := lh.dep 4 rfl; obtain ⟨z0, z1, z2⟩ := (HO.out.below lh.below).cell; simp [execOp, Act.eval, e104, z1, go_sem], rfl⟩) ?_
                refine .cons (owes_move (.tmp 105) (.inl rfl) fun q u lh => ⟨wants_free rfl, lh.dep 5 rfl⟩) ?_
                refine .cons (owes_when 6 false o1 (.slice (some ⟨gh, 0, none⟩) 3 3) rfl rfl rfl rfl fun hg q u lh => by have e11 : q.tmps.getD 11 undef = .slice (some ⟨gh, 0, none⟩) 3 3 := lh.old 11 rfl; simp [execOp, Act.eval, e11, go_sem]) ?_
                refine .cons (owes_when 6 false o1 (.int .i64 1) rfl rfl rfl rfl fun hg q u lh => by have e14 : q.tmps.getD 14 undef = .int .i64 1 := lh.old 14 rfl; simp [execOp, Act.eval, e14, go_sem]) ?_
                refine .cons (owes_when 6 false o1 (.pointer (some ⟨gh, 1, none⟩)) rfl rfl rfl rfl fun hg q u lh => by have e107 : q.tmps.getD 107 undef = .slice (some ⟨gh, 0, none⟩) 3 3 := (lh.dep 7 rfl) hg; have e108 : q.tmps.getD 108 undef = .int .i64 1 := (lh.dep 8 rfl) hg; simp [execOp, Act.eval, e107, e108, go_sem]) ?_
                refine .cons (owes_when 6 false o1 (.int .i64 y) rfl rfl rfl rfl fun hg q u lh => by have e109 : q.tmps.getD 109 undef = .pointer (some ⟨gh, 1, none⟩) := (lh.dep 9 rfl) hg; obtain ⟨z0, z1, z2⟩ := HH.out u (HB.out.trans (lh.below.mono HB.out.size)); simp [execOp, Act.eval, e109, z1, go_sem]) ?_
                refine .cons (owes_when 6 false o1 (.int .i64 0) rfl rfl rfl rfl fun hg q u lh => by have e15 : q.tmps.getD 15 undef = .int .i64 0 := lh.old 15 rfl; simp [execOp, Act.eval, e15, go_sem]) ?_
                refine .cons (owes_when 6 false o1 (.int .i64 y) rfl rfl rfl rfl fun hg q u lh => by have e110 : q.tmps.getD 110 undef = .int .i64 y := (lh.dep 10 rfl) hg; have e111 : q.tmps.getD 111 undef = .int .i64 0 := (lh.dep 11 rfl) hg; have k1 := WW.out; simp [execOp, Act.eval, e110, e111, k1, go_sem]) ?_
                refine .cons (owes_when 6 false o1 (.slice (some ⟨g, 0, none⟩) 3 cm) rfl rfl rfl rfl fun hg q u lh => by have e9 : q.tmps.getD 9 undef = .slice (some ⟨g, 0, none⟩) 3 cm := lh.old 9 rfl; simp [execOp, Act.eval, e9, go_sem]) ?_
                refine .cons (owes_when 6 false o1 (.int .i64 1) rfl rfl rfl rfl fun hg q u lh => by have e14 : q.tmps.getD 14 undef = .int .i64 1 := lh.old 14 rfl; simp [execOp, Act.eval, e14, go_sem]) ?_
                refine .cons (owes_when 6 false o1 (.pointer (some ⟨g, 7, none⟩)) rfl rfl rfl rfl fun hg q u lh => by have e113 : q.tmps.getD 113 undef = .slice (some ⟨g, 0, none⟩) 3 cm := (lh.dep 13 rfl) hg; have e114 : q.tmps.getD 114 undef = .int .i64 1 := (lh.dep 14 rfl) hg; simp [execOp, Act.eval, e113, e114, hcm, go_sem]) ?_
                refine .cons (owes_when 6 false o1 (.pointer (some ⟨g, 10, none⟩)) rfl rfl rfl rfl fun hg q u lh => by have e115 : q.tmps.getD 115 undef = .pointer (some ⟨g, 7, none⟩) := (lh.dep 15 rfl) hg; simp [execOp, Act.eval, e115, go_sem]) ?_
                refine .cons (owes_when 6 false o1 (.int .i64 b) rfl rfl rfl rfl fun hg q u lh => by have e116 : q.tmps.getD 116 undef = .pointer (some ⟨g, 10, none⟩) := (lh.dep 16 rfl) hg; obtain ⟨z0, z1, z2⟩ := AM.out u (BZ.out.trans (lh.below.mono BZ.out.size)); simp [execOp, Act.eval, e116, z1, go_sem]) ?_
                refine .cons (owes_when 6 false o1 (.bool (decide (y < b))) rfl rfl rfl rfl fun hg q u lh => by have e112 : q.tmps.getD 112 undef = .int .i64 y := (lh.dep 12 rfl) hg; have e117 : q.tmps.getD 117 undef = .int .i64 b := (lh.dep 17 rfl) hg; simp [execOp, Act.eval, e112, e117, go_sem]) ?_
                refine .cons (owes_or 106 118 6 18 o1 (decide (y < b)) rfl rfl rfl rfl rfl rfl rfl rfl (rfl)) ?_
                refine .cons (owes_value fun q u lh => ⟨wants_free rfl, .pointer (some ⟨go, 1, none⟩), by have e100 : q.tmps.getD 100 undef = .slice (some ⟨go, 0, none⟩) 3 3 := lh.dep 0 rfl; have e101 : q.tmps.getD 101 undef = .int .i64 1 := lh.dep 1 rfl; simp [execOp, Act.eval, e100, e101, go_sem], rfl⟩) ?_
                exact .nil _
              intro q u hb hsz hdf hold hfact
              obtain ⟨v107, e107⟩ : ∃ v, q.tmps.getD 107 undef = v := ⟨_, rfl⟩
              obtain ⟨v108, e108⟩ : ∃ v, q.tmps.getD 108 undef = v := ⟨_, rfl⟩
              obtain ⟨v109, e109⟩ : ∃ v, q.tmps.getD 109 undef = v := ⟨_, rfl⟩
              obtain ⟨v110, e110⟩ : ∃ v, q.tmps.getD 110 undef = v := ⟨_, rfl⟩
              obtain ⟨v111, e111⟩ : ∃ v, q.tmps.getD 111 undef = v := ⟨_, rfl⟩
              obtain ⟨v112, e112⟩ : ∃ v, q.tmps.getD 112 undef = v := ⟨_, rfl⟩
              obtain ⟨v113, e113⟩ : ∃ v, q.tmps.getD 113 undef = v := ⟨_, rfl⟩
              obtain ⟨v114, e114⟩ : ∃ v, q.tmps.getD 114 undef = v := ⟨_, rfl⟩
              obtain ⟨v115, e115⟩ : ∃ v, q.tmps.getD 115 undef = v := ⟨_, rfl⟩
              obtain ⟨v116, e116⟩ : ∃ v, q.tmps.getD 116 undef = v := ⟨_, rfl⟩
              obtain ⟨v117, e117⟩ : ∃ v, q.tmps.getD 117 undef = v := ⟨_, rfl⟩
              obtain ⟨v118, e118⟩ : ∃ v, q.tmps.getD 118 undef = v := ⟨_, rfl⟩
              have hO := HO.out.below hb
              have f0 := frozen_of_row u go 1 _ _ hO
              obtain ⟨z0, z1, z2⟩ := hO.cell
              obtain ⟨w5, hw5⟩ : ∃ w5, w5 = u.setCell ⟨go, 1, none⟩ (.bool (o1 || decide (y < b))) := ⟨_, rfl⟩
              have B5 : Hid (Below w6.heap.size w6 w5) := by rw [hw5]; exact (HB.out.trans (hb.mono HB.out.size)).setCell (p := ⟨go, 1, none⟩) HGO.out _
              have O5 : Hid (Out3 w5 go true (o1 || decide (y < b)) o2) := by rw [hw5]; exact (hO.set _).2.1
              clear hb hO
              obtain ⟨u5, rfl⟩ : ∃ z, z = u := ⟨u, rfl⟩
              obtain rfl := frame_puts hsz hdf [100, 101, 102, 103, 104, 105, 106, 107, 108, 109, 110, 111, 112, 113, 114, 115, 116, 117, 118, 119, 120] hold [(100, Value.slice (some ⟨go, 0, none⟩) 3 3), (101, Value.int .i64 1), (102, Value.slice (some ⟨go, 0, none⟩) 3 3), (103, Value.int .i64 1), (104, Value.pointer (some ⟨go, 1, none⟩)), (105, Value.bool o1), (106, Value.bool o1), (107, v107), (108, v108), (109, v109), (110, v110), (111, v111), (112, v112), (113, v113), (114, v114), (115, v115), (116, v116), (117, v117), (118, v118), (119, Value.bool (o1 || (decide (y < b)))), (120, Value.pointer (some ⟨go, 1, none⟩))] ⟨hfact 0 (by decide), hfact 1 (by decide), hfact 2 (by decide), hfact 3 (by decide), hfact 4 (by decide), hfact 5 (by decide), hfact 6 (by decide), e107, e108, e109, e110, e111, e112, e113, e114, e115, e116, e117, e118, hfact 19 (by decide), hfact 20 (by decide), trivial⟩ rfl
              clear hsz hdf hold hfact
              clear HB HO BZ WW
              simp only [puts, Act.put, List.setIfInBounds_toArray, List.set_cons_zero, List.set_cons_succ]
              go_upto_region 13 with fail
              rw [← hw5]
              clear hw5 f0 z0 z1 z2
              go_wp2
              go_roundw
              case rel => exact ⟨2, 2, rfl, by omega, rfl, by have h1 := HN.out.1; have h2 := HN.out.2.1; have h3 := HN.out.2.2; show Out3 w5 go _ _ _; rw [h1, h2, h3]; exact O5.out, B5⟩
              case measure => simp [intOf]
          | false =>
              have WW : Hid (IntKind.i64.wrap (y + a) = y + a ∧ IntKind.i64.wrap y = y) := by have := HXYZ.out; have := HABC.out; exact ⟨i64_wf (by omega) (by omega), i64_wf (by omega) (by omega)⟩
              obtain ⟨p0, p1, p2⟩ := HO.out.cell
              obtain ⟨q0, q1, q2⟩ := AM.out wr BZ.out
              go_upto_region 17 with fail
              clear p0 p1 p2 q0 q1 q2
              refine region_owes_endN 21 (L := [Fact.is (.slice (some ⟨go, 0, none⟩) 3 3),
                Fact.is (.int .i64 1),
                Fact.is (.slice (some ⟨go, 0, none⟩) 3 3),
                Fact.is (.int .i64 1),
                Fact.is (.pointer (some ⟨go, 1, none⟩)),
                Fact.is (.bool o1),
                Fact.is (.bool o1),
                Fact.when (o1 == false) (.slice (some ⟨gh, 0, none⟩) 3 3),
                Fact.when (o1 == false) (.int .i64 1),
                Fact.when (o1 == false) (.pointer (some ⟨gh, 1, none⟩)),
                Fact.when (o1 == false) (.int .i64 y),
                Fact.when (o1 == false) (.int .i64 a),
                Fact.when (o1 == false) (.int .i64 (y + a)),
                Fact.when (o1 == false) (.slice (some ⟨g, 0, none⟩) 3 cm),
                Fact.when (o1 == false) (.int .i64 1),
                Fact.when (o1 == false) (.pointer (some ⟨g, 7, none⟩)),
                Fact.when (o1 == false) (.pointer (some ⟨g, 10, none⟩)),
                Fact.when (o1 == false) (.int .i64 b),
                Fact.when (o1 == false) (.bool (decide ((y + a) < b))),
                Fact.is (.bool (o1 || (decide ((y + a) < b)))),
                Fact.is (.pointer (some ⟨go, 1, none⟩))])
                (T := [100, 101, 102, 103, 104, 105, 106, 107, 108, 109, 110, 111, 112, 113, 114, 115, 116, 117, 118, 119, 120]) (by kernel_rfl) rfl rfl (by kernel_rfl) (by kernel_rfl) rfl ?owes ?_
              case owes =>
                simp only [List.take_succ_cons, List.take_zero]
                refine .cons (owes_move (.tmp 12) (.inl rfl) fun q u lh => ⟨wants_free rfl, lh.old 12 rfl⟩) ?_
                refine .cons (owes_move (.tmp 14) (.inl rfl) fun q u lh => ⟨wants_free rfl, lh.old 14 rfl⟩) ?_
                refine .cons (owes_move (.tmp 12) (.inl rfl) fun q u lh => ⟨wants_free rfl, lh.old 12 rfl⟩) ?_
                refine .cons (owes_move (.tmp 14) (.inl rfl) fun q u lh => ⟨wants_free rfl, lh.old 14 rfl⟩) ?_
                refine .cons (owes_value fun q u lh => ⟨wants_free rfl, .pointer (some ⟨go, 1, none⟩), by have e102 : q.tmps.getD 102 undef = .slice (some ⟨go, 0, none⟩) 3 3 := lh.dep 2 rfl; have e103 : q.tmps.getD 103 undef = .int .i64 1 := lh.dep 3 rfl; simp [execOp, Act.eval, e102, e103, go_sem], rfl⟩) ?_
                refine .cons (owes_value fun q u lh => ⟨wants_free rfl, .bool o1, by have e104 : q.tmps.getD 104 undef = .pointer (some ⟨go, 1, none⟩) := lh.dep 4 rfl; obtain ⟨z0, z1, z2⟩ := (HO.out.below lh.below).cell; simp [execOp, Act.eval, e104, z1, go_sem], rfl⟩) ?_
                refine .cons (owes_move (.tmp 105) (.inl rfl) fun q u lh => ⟨wants_free rfl, lh.dep 5 rfl⟩) ?_
                refine .cons (owes_when 6 false o1 (.slice (some ⟨gh, 0, none⟩) 3 3) rfl rfl rfl rfl fun hg q u lh => by have e11 : q.tmps.getD 11 undef = .slice (some ⟨gh, 0, none⟩) 3 3 := lh.old 11 rfl; simp [execOp, Act.eval, e11, go_sem]) ?_
                refine .cons (owes_when 6 false o1 (.int .i64 1) rfl rfl rfl rfl fun hg q u lh => by have e14 : q.tmps.getD 14 undef = .int .i64 1 := lh.old 14 rfl; simp [execOp, Act.eval, e14, go_sem]) ?_
                refine .cons (owes_when 6 false o1 (.pointer (some ⟨gh, 1, none⟩)) rfl rfl rfl rfl fun hg q u lh => by have e107 : q.tmps.getD 107 undef = .slice (some ⟨gh, 0, none⟩) 3 3 := (lh.dep 7 rfl) hg; have e108 : q.tmps.getD 108 undef = .int .i64 1 := (lh.dep 8 rfl) hg; simp [execOp, Act.eval, e107, e108, go_sem]) ?_
                refine .cons (owes_when 6 false o1 (.int .i64 y) rfl rfl rfl rfl fun hg q u lh => by have e109 : q.tmps.getD 109 undef = .pointer (some ⟨gh, 1, none⟩) := (lh.dep 9 rfl) hg; obtain ⟨z0, z1, z2⟩ := HH.out u (HB.out.trans (lh.below.mono HB.out.size)); simp [execOp, Act.eval, e109, z1, go_sem]) ?_
                refine .cons (owes_when 6 false o1 (.int .i64 a) rfl rfl rfl rfl fun hg q u lh => by have e15 : q.tmps.getD 15 undef = .int .i64 a := lh.old 15 rfl; simp [execOp, Act.eval, e15, go_sem]) ?_
                refine .cons (owes_when 6 false o1 (.int .i64 (y + a)) rfl rfl rfl rfl fun hg q u lh => by have e110 : q.tmps.getD 110 undef = .int .i64 y := (lh.dep 10 rfl) hg; have e111 : q.tmps.getD 111 undef = .int .i64 a := (lh.dep 11 rfl) hg; have k1 := WW.out; simp [execOp, Act.eval, e110, e111, k1, go_sem]) ?_
                refine .cons (owes_when 6 false o1 (.slice (some ⟨g, 0, none⟩) 3 cm) rfl rfl rfl rfl fun hg q u lh => by have e9 : q.tmps.getD 9 undef = .slice (some ⟨g, 0, none⟩) 3 cm := lh.old 9 rfl; simp [execOp, Act.eval, e9, go_sem]) ?_
                refine .cons (owes_when 6 false o1 (.int .i64 1) rfl rfl rfl rfl fun hg q u lh => by have e14 : q.tmps.getD 14 undef = .int .i64 1 := lh.old 14 rfl; simp [execOp, Act.eval, e14, go_sem]) ?_
                refine .cons (owes_when 6 false o1 (.pointer (some ⟨g, 7, none⟩)) rfl rfl rfl rfl fun hg q u lh => by have e113 : q.tmps.getD 113 undef = .slice (some ⟨g, 0, none⟩) 3 cm := (lh.dep 13 rfl) hg; have e114 : q.tmps.getD 114 undef = .int .i64 1 := (lh.dep 14 rfl) hg; simp [execOp, Act.eval, e113, e114, hcm, go_sem]) ?_
                refine .cons (owes_when 6 false o1 (.pointer (some ⟨g, 10, none⟩)) rfl rfl rfl rfl fun hg q u lh => by have e115 : q.tmps.getD 115 undef = .pointer (some ⟨g, 7, none⟩) := (lh.dep 15 rfl) hg; simp [execOp, Act.eval, e115, go_sem]) ?_
                refine .cons (owes_when 6 false o1 (.int .i64 b) rfl rfl rfl rfl fun hg q u lh => by have e116 : q.tmps.getD 116 undef = .pointer (some ⟨g, 10, none⟩) := (lh.dep 16 rfl) hg; obtain ⟨z0, z1, z2⟩ := AM.out u (BZ.out.trans (lh.below.mono BZ.out.size)); simp [execOp, Act.eval, e116, z1, go_sem]) ?_
                refine .cons (owes_when 6 false o1 (.bool (decide ((y + a) < b))) rfl rfl rfl rfl fun hg q u lh => by have e112 : q.tmps.getD 112 undef = .int .i64 (y + a) := (lh.dep 12 rfl) hg; have e117 : q.tmps.getD 117 undef = .int .i64 b := (lh.dep 17 rfl) hg; simp [execOp, Act.eval, e112, e117, go_sem]) ?_
                refine .cons (owes_or 106 118 6 18 o1 (decide ((y + a) < b)) rfl rfl rfl rfl rfl rfl rfl rfl (rfl)) ?_
                refine .cons (owes_value fun q u lh => ⟨wants_free rfl, .pointer (some ⟨go, 1, none⟩), by have e100 : q.tmps.getD 100 undef = .slice (some ⟨go, 0, none⟩) 3 3 := lh.dep 0 rfl; have e101 : q.tmps.getD 101 undef = .int .i64 1 := lh.dep 1 rfl; simp [execOp, Act.eval, e100, e101, go_sem], rfl⟩) ?_
                exact .nil _
              intro q u hb hsz hdf hold hfact
              obtain ⟨v107, e107⟩ : ∃ v, q.tmps.getD 107 undef = v := ⟨_, rfl⟩
              obtain ⟨v108, e108⟩ : ∃ v, q.tmps.getD 108 undef = v := ⟨_, rfl⟩
              obtain ⟨v109, e109⟩ : ∃ v, q.tmps.getD 109 undef = v := ⟨_, rfl⟩
              obtain ⟨v110, e110⟩ : ∃ v, q.tmps.getD 110 undef = v := ⟨_, rfl⟩
              obtain ⟨v111, e111⟩ : ∃ v, q.tmps.getD 111 undef = v := ⟨_, rfl⟩
              obtain ⟨v112, e112⟩ : ∃ v, q.tmps.getD 112 undef = v := ⟨_, rfl⟩
              obtain ⟨v113, e113⟩ : ∃ v, q.tmps.getD 113 undef = v := ⟨_, rfl⟩
              obtain ⟨v114, e114⟩ : ∃ v, q.tmps.getD 114 undef = v := ⟨_, rfl⟩
              obtain ⟨v115, e115⟩ : ∃ v, q.tmps.getD 115 undef = v := ⟨_, rfl⟩
              obtain ⟨v116, e116⟩ : ∃ v, q.tmps.getD 116 undef = v := ⟨_, rfl⟩
              obtain ⟨v117, e117⟩ : ∃ v, q.tmps.getD 117 undef = v := ⟨_, rfl⟩
              obtain ⟨v118, e118⟩ : ∃ v, q.tmps.getD 118 undef = v := ⟨_, rfl⟩
              have hO := HO.out.below hb
              have f0 := frozen_of_row u go 1 _ _ hO
              obtain ⟨z0, z1, z2⟩ := hO.cell
              obtain ⟨w5, hw5⟩ : ∃ w5, w5 = u.setCell ⟨go, 1, none⟩ (.bool (o1 || decide ((y + a) < b))) := ⟨_, rfl⟩
              have B5 : Hid (Below w6.heap.size w6 w5) := by rw [hw5]; exact (HB.out.trans (hb.mono HB.out.size)).setCell (p := ⟨go, 1, none⟩) HGO.out _
              have O5 : Hid (Out3 w5 go false (o1 || decide ((y + a) < b)) o2) := by rw [hw5]; exact (hO.set _).2.1
              clear hb hO
              obtain ⟨u5, rfl⟩ : ∃ z, z = u := ⟨u, rfl⟩
              obtain rfl := frame_puts hsz hdf [100, 101, 102, 103, 104, 105, 106, 107, 108, 109, 110, 111, 112, 113, 114, 115, 116, 117, 118, 119, 120] hold [(100, Value.slice (some ⟨go, 0, none⟩) 3 3), (101, Value.int .i64 1), (102, Value.slice (some ⟨go, 0, none⟩) 3 3), (103, Value.int .i64 1), (104, Value.pointer (some ⟨go, 1, none⟩)), (105, Value.bool o1), (106, Value.bool o1), (107, v107), (108, v108), (109, v109), (110, v110), (111, v111), (112, v112), (113, v113), (114, v114), (115, v115), (116, v116), (117, v117), (118, v118), (119, Value.bool (o1 || (decide ((y + a) < b)))), (120, Value.pointer (some ⟨go, 1, none⟩))] ⟨hfact 0 (by decide), hfact 1 (by decide), hfact 2 (by decide), hfact 3 (by decide), hfact 4 (by decide), hfact 5 (by decide), hfact 6 (by decide), e107, e108, e109, e110, e111, e112, e113, e114, e115, e116, e117, e118, hfact 19 (by decide), hfact 20 (by decide), trivial⟩ rfl
              clear hsz hdf hold hfact
              clear HB HO BZ WW
              simp only [puts, Act.put, List.setIfInBounds_toArray, List.set_cons_zero, List.set_cons_succ]
              go_upto_region 13 with fail
              rw [← hw5]
              clear hw5 f0 z0 z1 z2
              go_wp2
              go_roundw
              case rel => exact ⟨2, 2, rfl, by omega, rfl, by have h1 := HN.out.1; have h2 := HN.out.2.1; have h3 := HN.out.2.2; show Out3 w5 go _ _ _; rw [h1, h2, h3]; exact O5.out, B5⟩
              case measure => simp [intOf]
        · obtain rfl : v = 2 := by omega
          clear hv hi
          have S0 := out_step (ringU x y z a b c) (ringV x y z a b c) n (i := 2) (by omega) 0
          have S1 := out_step (ringU x y z a b c) (ringV x y z a b c) n (i := 2) (by omega) 1
          have S2 := out_step (ringU x y z a b c) (ringV x y z a b c) n (i := 2) (by omega) 2
          have hU : ringU x y z a b c 2 = decide (z + b < c) := rfl
          have hV : ringV x y z a b c 2 = decide (z < c) := rfl
          rw [if_neg (by omega)] at S0
          rw [if_neg (by omega)] at S1
          rw [if_pos rfl, hU, hV, show (2 + 2) % 3 = 1 from rfl] at S2
          have HN : Hid (outO (ringU x y z a b c) (ringV x y z a b c) (3 * n + 3) 0 = outO (ringU x y z a b c) (ringV x y z a b c) (3 * n + 2) 0 ∧ outO (ringU x y z a b c) (ringV x y z a b c) (3 * n + 3) 1 = outO (ringU x y z a b c) (ringV x y z a b c) (3 * n + 2) 1 ∧ outO (ringU x y z a b c) (ringV x y z a b c) (3 * n + 3) 2 = (outO (ringU x y z a b c) (ringV x y z a b c) (3 * n + 2) 2 || (if outO (ringU x y z a b c) (ringV x y z a b c) (3 * n + 2) 1 = true then decide (z < c) else decide (z + b < c)))) := ⟨S0, S1, S2⟩
          clear S0 S1 S2 hU hV
          generalize outO (ringU x y z a b c) (ringV x y z a b c) (3 * n + 2) 0 = o0 at HO HN
          generalize outO (ringU x y z a b c) (ringV x y z a b c) (3 * n + 2) 1 = o1 at HO HN
          generalize outO (ringU x y z a b c) (ringV x y z a b c) (3 * n + 2) 2 = o2 at HO HN
          cases o1 with
          | true =>
              have WW : Hid (IntKind.i64.wrap (z + 0) = z + 0 ∧ IntKind.i64.wrap z = z) := by have := HXYZ.out; have := HABC.out; exact ⟨i64_wf (by omega) (by omega), i64_wf (by omega) (by omega)⟩
              obtain ⟨p0, p1, p2⟩ := HO.out.cell
              obtain ⟨q0, q1, q2⟩ := AM.out wr BZ.out
              go_upto_region 17 with fail
              clear p0 p1 p2 q0 q1 q2
              refine region_owes_endN 21 (L := [Fact.is (.slice (some ⟨go, 0, none⟩) 3 3),
                Fact.is (.int .i64 2),
                Fact.is (.slice (some ⟨go, 0, none⟩) 3 3),
                Fact.is (.int .i64 2),
                Fact.is (.pointer (some ⟨go, 2, none⟩)),
                Fact.is (.bool o2),
                Fact.is (.bool o2),
                Fact.when (o2 == false) (.slice (some ⟨gh, 0, none⟩) 3 3),
                Fact.when (o2 == false) (.int .i64 2),
                Fact.when (o2 == false) (.pointer (some ⟨gh, 2, none⟩)),
                Fact.when (o2 == false) (.int .i64 z),
                Fact.when (o2 == false) (.int .i64 0),
                Fact.when (o2 == false) (.int .i64 z),
                Fact.when (o2 == false) (.slice (some ⟨g, 0, none⟩) 3 cm),
                Fact.when (o2 == false) (.int .i64 2),
                Fact.when (o2 == false) (.pointer (some ⟨g, 14, none⟩)),
                Fact.when (o2 == false) (.pointer (some ⟨g, 17, none⟩)),
                Fact.when (o2 == false) (.int .i64 c),
                Fact.when (o2 == false) (.bool (decide (z < c))),
                Fact.is (.bool (o2 || (decide (z < c)))),
                Fact.is (.pointer (some ⟨go, 2, none⟩))])
                (T := [100, 101, 102, 103, 104, 105, 106, 107, 108, 109, 110, 111, 112, 113, 114, 115, 116, 117, 118, 119, 120]) (by kernel_rfl) rfl rfl (by kernel_rfl) (by kernel_rfl) rfl ?owes ?_
              case owes =>
                simp only [List.take_succ_cons, List.take_zero]
                refine .cons (owes_move (.tmp 12) (.inl rfl) fun q u lh => ⟨wants_free rfl, lh.old 12 rfl⟩) ?_
                refine .cons (owes_move (.tmp 14) (.inl rfl) fun q u lh => ⟨wants_free rfl, lh.old 14 rfl⟩) ?_
                refine .cons (owes_move (.tmp 12) (.inl rfl) fun q u lh => ⟨wants_free rfl, lh.old 12 rfl⟩) ?_
                refine .cons (owes_move (.tmp 14) (.inl rfl) fun q u lh => ⟨wants_free rfl, lh.old 14 rfl⟩) ?_
                refine .cons (owes_value fun q u lh => ⟨wants_free rfl, .pointer (some ⟨go, 2, none⟩), by have e102 : q.tmps.getD 102 undef = .slice (some ⟨go, 0, none⟩) 3 3 := lh.dep 2 rfl; have e103 : q.tmps.getD 103 undef = .int .i64 2 := lh.dep 3 rfl; simp [execOp, Act.eval, e102, e103, go_sem], rfl⟩) ?_
                refine .cons (owes_value fun q u lh => ⟨wants_free rfl, .bool o2, by have e104 : q.tmps.getD 104 undef = .pointer (some ⟨go, 2, none⟩) := lh.dep 4 rfl; obtain ⟨z0, z1, z2⟩ := (HO.out.below lh.below).cell; simp [execOp, Act.eval, e104, z2, go_sem], rfl⟩) ?_
                refine .cons (owes_move (.tmp 105) (.inl rfl) fun q u lh => ⟨wants_free rfl, lh.dep 5 rfl⟩) ?_
                refine .cons (owes_when 6 false o2 (.slice (some ⟨gh, 0, none⟩) 3 3) rfl rfl rfl rfl fun hg q u lh => by have e11 : q.tmps.getD 11 undef = .slice (some ⟨gh, 0, none⟩) 3 3 := lh.old 11 rfl; simp [execOp, Act.eval, e11, go_sem]) ?_
                refine .cons (owes_when 6 false o2 (.int .i64 2) rfl rfl rfl rfl fun hg q u lh => by have e14 : q.tmps.getD 14 undef = .int .i64 2 := lh.old 14 rfl; simp [execOp, Act.eval, e14, go_sem]) ?_
                refine .cons (owes_when 6 false o2 (.pointer (some ⟨gh, 2, none⟩)) rfl rfl rfl rfl fun hg q u lh => by have e107 : q.tmps.getD 107 undef = .slice (some ⟨gh, 0, none⟩) 3 3 := (lh.dep 7 rfl) hg; have e108 : q.tmps.getD 108 undef = .int .i64 2 := (lh.dep 8 rfl) hg; simp [execOp, Act.eval, e107, e108, go_sem]) ?_
                refine .cons (owes_when 6 false o2 (.int .i64 z) rfl rfl rfl rfl fun hg q u lh => by have e109 : q.tmps.getD 109 undef = .pointer (some ⟨gh, 2, none⟩) := (lh.dep 9 rfl) hg; obtain ⟨z0, z1, z2⟩ := HH.out u (HB.out.trans (lh.below.mono HB.out.size)); simp [execOp, Act.eval, e109, z2, go_sem]) ?_
                refine .cons (owes_when 6 false o2 (.int .i64 0) rfl rfl rfl rfl fun hg q u lh => by have e15 : q.tmps.getD 15 undef = .int .i64 0 := lh.old 15 rfl; simp [execOp, Act.eval, e15, go_sem]) ?_
                refine .cons (owes_when 6 false o2 (.int .i64 z) rfl rfl rfl rfl fun hg q u lh => by have e110 : q.tmps.getD 110 undef = .int .i64 z := (lh.dep 10 rfl) hg; have e111 : q.tmps.getD 111 undef = .int .i64 0 := (lh.dep 11 rfl) hg; have k1 := WW.out; simp [execOp, Act.eval, e110, e111, k1, go_sem]) ?_
                refine .cons (owes_when 6 false o2 (.slice (some ⟨g, 0, none⟩) 3 cm) rfl rfl rfl rfl fun hg q u lh => by have e9 : q.tmps.getD 9 undef = .slice (some ⟨g, 0, none⟩) 3 cm := lh.old 9 rfl; simp [execOp, Act.eval, e9, go_sem]) ?_
                refine .cons (owes_when 6 false o2 (.int .i64 2) rfl rfl rfl rfl fun hg q u lh => by have e14 : q.tmps.getD 14 undef = .int .i64 2 := lh.old 14 rfl; simp [execOp, Act.eval, e14, go_sem]) ?_
                refine .cons (owes_when 6 false o2 (.pointer (some ⟨g, 14, none⟩)) rfl rfl rfl rfl fun hg q u lh => by have e113 : q.tmps.getD 113 undef = .slice (some ⟨g, 0, none⟩) 3 cm := (lh.dep 13 rfl) hg; have e114 : q.tmps.getD 114 undef = .int .i64 2 := (lh.dep 14 rfl) hg; simp [execOp, Act.eval, e113, e114, hcm, go_sem]) ?_
                refine .cons (owes_when 6 false o2 (.pointer (some ⟨g, 17, none⟩)) rfl rfl rfl rfl fun hg q u lh => by have e115 : q.tmps.getD 115 undef = .pointer (some ⟨g, 14, none⟩) := (lh.dep 15 rfl) hg; simp [execOp, Act.eval, e115, go_sem]) ?_
                refine .cons (owes_when 6 false o2 (.int .i64 c) rfl rfl rfl rfl fun hg q u lh => by have e116 : q.tmps.getD 116 undef = .pointer (some ⟨g, 17, none⟩) := (lh.dep 16 rfl) hg; obtain ⟨z0, z1, z2⟩ := AM.out u (BZ.out.trans (lh.below.mono BZ.out.size)); simp [execOp, Act.eval, e116, z2, go_sem]) ?_
                refine .cons (owes_when 6 false o2 (.bool (decide (z < c))) rfl rfl rfl rfl fun hg q u lh => by have e112 : q.tmps.getD 112 undef = .int .i64 z := (lh.dep 12 rfl) hg; have e117 : q.tmps.getD 117 undef = .int .i64 c := (lh.dep 17 rfl) hg; simp [execOp, Act.eval, e112, e117, go_sem]) ?_
                refine .cons (owes_or 106 118 6 18 o2 (decide (z < c)) rfl rfl rfl rfl rfl rfl rfl rfl (rfl)) ?_
                refine .cons (owes_value fun q u lh => ⟨wants_free rfl, .pointer (some ⟨go, 2, none⟩), by have e100 : q.tmps.getD 100 undef = .slice (some ⟨go, 0, none⟩) 3 3 := lh.dep 0 rfl; have e101 : q.tmps.getD 101 undef = .int .i64 2 := lh.dep 1 rfl; simp [execOp, Act.eval, e100, e101, go_sem], rfl⟩) ?_
                exact .nil _
              intro q u hb hsz hdf hold hfact
              obtain ⟨v107, e107⟩ : ∃ v, q.tmps.getD 107 undef = v := ⟨_, rfl⟩
              obtain ⟨v108, e108⟩ : ∃ v, q.tmps.getD 108 undef = v := ⟨_, rfl⟩
              obtain ⟨v109, e109⟩ : ∃ v, q.tmps.getD 109 undef = v := ⟨_, rfl⟩
              obtain ⟨v110, e110⟩ : ∃ v, q.tmps.getD 110 undef = v := ⟨_, rfl⟩
              obtain ⟨v111, e111⟩ : ∃ v, q.tmps.getD 111 undef = v := ⟨_, rfl⟩
              obtain ⟨v112, e112⟩ : ∃ v, q.tmps.getD 112 undef = v := ⟨_, rfl⟩
              obtain ⟨v113, e113⟩ : ∃ v, q.tmps.getD 113 undef = v := ⟨_, rfl⟩
              obtain ⟨v114, e114⟩ : ∃ v, q.tmps.getD 114 undef = v := ⟨_, rfl⟩
              obtain ⟨v115, e115⟩ : ∃ v, q.tmps.getD 115 undef = v := ⟨_, rfl⟩
              obtain ⟨v116, e116⟩ : ∃ v, q.tmps.getD 116 undef = v := ⟨_, rfl⟩
              obtain ⟨v117, e117⟩ : ∃ v, q.tmps.getD 117 undef = v := ⟨_, rfl⟩
              obtain ⟨v118, e118⟩ : ∃ v, q.tmps.getD 118 undef = v := ⟨_, rfl⟩
              have hO := HO.out.below hb
              have f0 := frozen_of_row u go 2 _ _ hO
              obtain ⟨z0, z1, z2⟩ := hO.cell
              obtain ⟨w5, hw5⟩ : ∃ w5, w5 = u.setCell ⟨go, 2, none⟩ (.bool (o2 || decide (z < c))) := ⟨_, rfl⟩
              have B5 : Hid (Below w6.heap.size w6 w5) := by rw [hw5]; exact (HB.out.trans (hb.mono HB.out.size)).setCell (p := ⟨go, 2, none⟩) HGO.out _
              have O5 : Hid (Out3 w5 go o0 true (o2 || decide (z < c))) := by rw [hw5]; exact (hO.set _).2.2
              clear hb hO
              obtain ⟨u5, rfl⟩ : ∃ z, z = u := ⟨u, rfl⟩
              obtain rfl := frame_puts hsz hdf [100, 101, 102, 103, 104, 105, 106, 107, 108, 109, 110, 111, 112, 113, 114, 115, 116, 117, 118, 119, 120] hold [(100, Value.slice (some ⟨go, 0, none⟩) 3 3), (101, Value.int .i64 2), (102, Value.slice (some ⟨go, 0, none⟩) 3 3), (103, Value.int .i64 2), (104, Value.pointer (some ⟨go, 2, none⟩)), (105, Value.bool o2), (106, Value.bool o2), (107, v107), (108, v108), (109, v109), (110, v110), (111, v111), (112, v112), (113, v113), (114, v114), (115, v115), (116, v116), (117, v117), (118, v118), (119, Value.bool (o2 || (decide (z < c)))), (120, Value.pointer (some ⟨go, 2, none⟩))] ⟨hfact 0 (by decide), hfact 1 (by decide), hfact 2 (by decide), hfact 3 (by decide), hfact 4 (by decide), hfact 5 (by decide), hfact 6 (by decide), e107, e108, e109, e110, e111, e112, e113, e114, e115, e116, e117, e118, hfact 19 (by decide), hfact 20 (by decide), trivial⟩ rfl
              clear hsz hdf hold hfact
              clear HB HO BZ WW
              simp only [puts, Act.put, List.setIfInBounds_toArray, List.set_cons_zero, List.set_cons_succ]
              go_upto_region 13 with fail
              rw [← hw5]
              clear hw5 f0 z0 z1 z2
              go_wp2
              go_roundw
              case rel => exact ⟨3, 3, rfl, by omega, rfl, by have h1 := HN.out.1; have h2 := HN.out.2.1; have h3 := HN.out.2.2; show Out3 w5 go _ _ _; rw [h1, h2, h3]; exact O5.out, B5⟩
              case measure => simp [intOf]
          | false =>
              have WW : Hid (IntKind.i64.wrap (z + b) = z + b ∧ IntKind.i64.wrap z = z) := by have := HXYZ.out; have := HABC.out; exact ⟨i64_wf (by omega) (by omega), i64_wf (by omega) (by omega)⟩
              obtain ⟨p0, p1, p2⟩ := HO.out.cell
              obtain ⟨q0, q1, q2⟩ := AM.out wr BZ.out
              go_upto_region 17 with fail
              clear p0 p1 p2 q0 q1 q2
              refine region_owes_endN 21 (L := [Fact.is (.slice (some ⟨go, 0, none⟩) 3 3),
                Fact.is (.int .i64 2),
                Fact.is (.slice (some ⟨go, 0, none⟩) 3 3),
                Fact.is (.int .i64 2),
                Fact.is (.pointer (some ⟨go, 2, none⟩)),
                Fact.is (.bool o2),
                Fact.is (.bool o2),
                Fact.when (o2 == false) (.slice (some ⟨gh, 0, none⟩) 3 3),
                Fact.when (o2 == false) (.int .i64 2),
                Fact.when (o2 == false) (.pointer (some ⟨gh, 2, none⟩)),
                Fact.when (o2 == false) (.int .i64 z),
                Fact.when (o2 == false) (.int .i64 b),
                Fact.when (o2 == false) (.int .i64 (z + b)),
                Fact.when (o2 == false) (.slice (some ⟨g, 0, none⟩) 3 cm),
                Fact.when (o2 == false) (.int .i64 2),
                Fact.when (o2 == false) (.pointer (some ⟨g, 14, none⟩)),
                Fact.when (o2 == false) (.pointer (some ⟨g, 17, none⟩)),
                Fact.when (o2 == false) (.int .i64 c),
                Fact.when (o2 == false) (.bool (decide ((z + b) < c))),
                Fact.is (.bool (o2 || (decide ((z + b) < c)))),
                Fact.is (.pointer (some ⟨go, 2, none⟩))])
                (T := [100, 101, 102, 103, 104, 105, 106, 107, 108, 109, 110, 111, 112, 113, 114, 115, 116, 117, 118, 119, 120]) (by kernel_rfl) rfl rfl (by kernel_rfl) (by kernel_rfl) rfl ?owes ?_
              case owes =>
                simp only [List.take_succ_cons, List.take_zero]
                refine .cons (owes_move (.tmp 12) (.inl rfl) fun q u lh => ⟨wants_free rfl, lh.old 12 rfl⟩) ?_
                refine .cons (owes_move (.tmp 14) (.inl rfl) fun q u lh => ⟨wants_free rfl, lh.old 14 rfl⟩) ?_
                refine .cons (owes_move (.tmp 12) (.inl rfl) fun q u lh => ⟨wants_free rfl, lh.old 12 rfl⟩) ?_
                refine .cons (owes_move (.tmp 14) (.inl rfl) fun q u lh => ⟨wants_free rfl, lh.old 14 rfl⟩) ?_
                refine .cons (owes_value fun q u lh => ⟨wants_free rfl, .pointer (some ⟨go, 2, none⟩), by have e102 : q.tmps.getD 102 undef = .slice (some ⟨go, 0, none⟩) 3 3 := lh.dep 2 rfl; have e103 : q.tmps.getD 103 undef = .int .i64 2 := lh.dep 3 rfl; simp [execOp, Act.eval, e102, e103, go_sem], rfl⟩) ?_
                refine .cons (owes_value fun q u lh => ⟨wants_free rfl, .bool o2, by have e104 : q.tmps.getD 104 undef = .pointer (some ⟨go, 2, none⟩) := lh.dep 4 rfl; obtain ⟨z0, z1, z2⟩ := (HO.out.below lh.below).cell; simp [execOp, Act.eval, e104, z2, go_sem], rfl⟩) ?_
                refine .cons (owes_move (.tmp 105) (.inl rfl) fun q u lh => ⟨wants_free rfl, lh.dep 5 rfl⟩) ?_
                refine .cons (owes_when 6 false o2 (.slice (some ⟨gh, 0, none⟩) 3 3) rfl rfl rfl rfl fun hg q u lh => by have e11 : q.tmps.getD 11 undef = .slice (some ⟨gh, 0, none⟩) 3 3 := lh.old 11 rfl; simp [execOp, Act.eval, e11, go_sem]) ?_
                refine .cons (owes_when 6 false o2 (.int .i64 2) rfl rfl rfl rfl fun hg q u lh => by have e14 : q.tmps.getD 14 undef = .int .i64 2 := lh.old 14 rfl; simp [execOp, Act.eval, e14, go_sem]) ?_
                refine .cons (owes_when 6 false o2 (.pointer (some ⟨gh, 2, none⟩)) rfl rfl rfl rfl fun hg q u lh => by have e107 : q.tmps.getD 107 undef = .slice (some ⟨gh, 0, none⟩) 3 3 := (lh.dep 7 rfl) hg; have e108 : q.tmps.getD 108 undef = .int .i64 2 := (lh.dep 8 rfl) hg; simp [execOp, Act.eval, e107, e108, go_sem]) ?_
                refine .cons (owes_when 6 false o2 (.int .i64 z) rfl rfl rfl rfl fun hg q u lh => by have e109 : q.tmps.getD 109 undef = .pointer (some ⟨gh, 2, none⟩) := (lh.dep 9 rfl) hg; obtain ⟨z0, z1, z2⟩ := HH.out u (HB.out.trans (lh.below.mono HB.out.size)); simp [execOp, Act.eval, e109, z2, go_sem]) ?_
                refine .cons (owes_when 6 false o2 (.int .i64 b) rfl rfl rfl rfl fun hg q u lh => by have e15 : q.tmps.getD 15 undef = .int .i64 b := lh.old 15 rfl; simp [execOp, Act.eval, e15, go_sem]) ?_
                refine .cons (owes_when 6 false o2 (.int .i64 (z + b)) rfl rfl rfl rfl fun hg q u lh => by have e110 : q.tmps.getD 110 undef = .int .i64 z := (lh.dep 10 rfl) hg; have e111 : q.tmps.getD 111 undef = .int .i64 b := (lh.dep 11 rfl) hg; have k1 := WW.out; simp [execOp, Act.eval, e110, e111, k1, go_sem]) ?_
                refine .cons (owes_when 6 false o2 (.slice (some ⟨g, 0, none⟩) 3 cm) rfl rfl rfl rfl fun hg q u lh => by have e9 : q.tmps.getD 9 undef = .slice (some ⟨g, 0, none⟩) 3 cm := lh.old 9 rfl; simp [execOp, Act.eval, e9, go_sem]) ?_
                refine .cons (owes_when 6 false o2 (.int .i64 2) rfl rfl rfl rfl fun hg q u lh => by have e14 : q.tmps.getD 14 undef = .int .i64 2 := lh.old 14 rfl; simp [execOp, Act.eval, e14, go_sem]) ?_
                refine .cons (owes_when 6 false o2 (.pointer (some ⟨g, 14, none⟩)) rfl rfl rfl rfl fun hg q u lh => by have e113 : q.tmps.getD 113 undef = .slice (some ⟨g, 0, none⟩) 3 cm := (lh.dep 13 rfl) hg; have e114 : q.tmps.getD 114 undef = .int .i64 2 := (lh.dep 14 rfl) hg; simp [execOp, Act.eval, e113, e114, hcm, go_sem]) ?_
                refine .cons (owes_when 6 false o2 (.pointer (some ⟨g, 17, none⟩)) rfl rfl rfl rfl fun hg q u lh => by have e115 : q.tmps.getD 115 undef = .pointer (some ⟨g, 14, none⟩) := (lh.dep 15 rfl) hg; simp [execOp, Act.eval, e115, go_sem]) ?_
                refine .cons (owes_when 6 false o2 (.int .i64 c) rfl rfl rfl rfl fun hg q u lh => by have e116 : q.tmps.getD 116 undef = .pointer (some ⟨g, 17, none⟩) := (lh.dep 16 rfl) hg; obtain ⟨z0, z1, z2⟩ := AM.out u (BZ.out.trans (lh.below.mono BZ.out.size)); simp [execOp, Act.eval, e116, z2, go_sem]) ?_
                refine .cons (owes_when 6 false o2 (.bool (decide ((z + b) < c))) rfl rfl rfl rfl fun hg q u lh => by have e112 : q.tmps.getD 112 undef = .int .i64 (z + b) := (lh.dep 12 rfl) hg; have e117 : q.tmps.getD 117 undef = .int .i64 c := (lh.dep 17 rfl) hg; simp [execOp, Act.eval, e112, e117, go_sem]) ?_
                refine .cons (owes_or 106 118 6 18 o2 (decide ((z + b) < c)) rfl rfl rfl rfl rfl rfl rfl rfl (rfl)) ?_
                refine .cons (owes_value fun q u lh => ⟨wants_free rfl, .pointer (some ⟨go, 2, none⟩), by have e100 : q.tmps.getD 100 undef = .slice (some ⟨go, 0, none⟩) 3 3 := lh.dep 0 rfl; have e101 : q.tmps.getD 101 undef = .int .i64 2 := lh.dep 1 rfl; simp [execOp, Act.eval, e100, e101, go_sem], rfl⟩) ?_
                exact .nil _
              intro q u hb hsz hdf hold hfact
              obtain ⟨v107, e107⟩ : ∃ v, q.tmps.getD 107 undef = v := ⟨_, rfl⟩
              obtain ⟨v108, e108⟩ : ∃ v, q.tmps.getD 108 undef = v := ⟨_, rfl⟩
              obtain ⟨v109, e109⟩ : ∃ v, q.tmps.getD 109 undef = v := ⟨_, rfl⟩
              obtain ⟨v110, e110⟩ : ∃ v, q.tmps.getD 110 undef = v := ⟨_, rfl⟩
              obtain ⟨v111, e111⟩ : ∃ v, q.tmps.getD 111 undef = v := ⟨_, rfl⟩
              obtain ⟨v112, e112⟩ : ∃ v, q.tmps.getD 112 undef = v := ⟨_, rfl⟩
              obtain ⟨v113, e113⟩ : ∃ v, q.tmps.getD 113 undef = v := ⟨_, rfl⟩
              obtain ⟨v114, e114⟩ : ∃ v, q.tmps.getD 114 undef = v := ⟨_, rfl⟩
              obtain ⟨v115, e115⟩ : ∃ v, q.tmps.getD 115 undef = v := ⟨_, rfl⟩
              obtain ⟨v116, e116⟩ : ∃ v, q.tmps.getD 116 undef = v := ⟨_, rfl⟩
              obtain ⟨v117, e117⟩ : ∃ v, q.tmps.getD 117 undef = v := ⟨_, rfl⟩
              obtain ⟨v118, e118⟩ : ∃ v, q.tmps.getD 118 undef = v := ⟨_, rfl⟩
              have hO := HO.out.below hb
              have f0 := frozen_of_row u go 2 _ _ hO
              obtain ⟨z0, z1, z2⟩ := hO.cell
              obtain ⟨w5, hw5⟩ : ∃ w5, w5 = u.setCell ⟨go, 2, none⟩ (.bool (o2 || decide ((z + b) < c))) := ⟨_, rfl⟩
              have B5 : Hid (Below w6.heap.size w6 w5) := by rw [hw5]; exact (HB.out.trans (hb.mono HB.out.size)).setCell (p := ⟨go, 2, none⟩) HGO.out _
              have O5 : Hid (Out3 w5 go o0 false (o2 || decide ((z + b) < c))) := by rw [hw5]; exact (hO.set _).2.2
              clear hb hO
              obtain ⟨u5, rfl⟩ : ∃ z, z = u := ⟨u, rfl⟩
              obtain rfl := frame_puts hsz hdf [100, 101, 102, 103, 104, 105, 106, 107, 108, 109, 110, 111, 112, 113, 114, 115, 116, 117, 118, 119, 120] hold [(100, Value.slice (some ⟨go, 0, none⟩) 3 3), (101, Value.int .i64 2), (102, Value.slice (some ⟨go, 0, none⟩) 3 3), (103, Value.int .i64 2), (104, Value.pointer (some ⟨go, 2, none⟩)), (105, Value.bool o2), (106, Value.bool o2), (107, v107), (108, v108), (109, v109), (110, v110), (111, v111), (112, v112), (113, v113), (114, v114), (115, v115), (116, v116), (117, v117), (118, v118), (119, Value.bool (o2 || (decide ((z + b) < c)))), (120, Value.pointer (some ⟨go, 2, none⟩))] ⟨hfact 0 (by decide), hfact 1 (by decide), hfact 2 (by decide), hfact 3 (by decide), hfact 4 (by decide), hfact 5 (by decide), hfact 6 (by decide), e107, e108, e109, e110, e111, e112, e113, e114, e115, e116, e117, e118, hfact 19 (by decide), hfact 20 (by decide), trivial⟩ rfl
              clear hsz hdf hold hfact
              clear HB HO BZ WW
              simp only [puts, Act.put, List.setIfInBounds_toArray, List.set_cons_zero, List.set_cons_succ]
              go_upto_region 13 with fail
              rw [← hw5]
              clear hw5 f0 z0 z1 z2
              go_wp2
              go_roundw
              case rel => exact ⟨3, 3, rfl, by omega, rfl, by have h1 := HN.out.1; have h2 := HN.out.2.1; have h3 := HN.out.2.2; show Out3 w5 go _ _ _; rw [h1, h2, h3]; exact O5.out, B5⟩
              case measure => simp [intOf]
        · obtain rfl : v = 3 := by omega
          clear hv hi
          have HO3 : Hid (Out3 wr go (outO (ringU x y z a b c) (ringV x y z a b c) (3 * (n + 1)) 0) (outO (ringU x y z a b c) (ringV x y z a b c) (3 * (n + 1)) 1) (outO (ringU x y z a b c) (ringV x y z a b c) (3 * (n + 1)) 2)) := HO.out
          have nw := nw.out
          go_wp2
          go_roundw
          case rel => exact ⟨n + 1, by omega, by go_num, HO3, HB⟩
          case measure => simp [intOf]; omega
    · obtain rfl : n = 3 := by omega
      have i2 : ¬ ((3 : Nat) : Int) < 3 := by omega
      obtain ⟨w8, rfl⟩ : ∃ z, z = wr := ⟨wr, rfl⟩
      have HO9 : Hid (Out3 w8 go (outO (ringU x y z a b c) (ringV x y z a b c) 9 0) (outO (ringU x y z a b c) (ringV x y z a b c) 9 1) (outO (ringU x y z a b c) (ringV x y z a b c) 9 2)) := HO.out
      have B58 : Hid (Below w5.heap.size w5 w8) := B56.out.trans (HB.out.mono B56.out.size)
      have B38 : Hid (Below w3.heap.size w3 w8) := B36.out.trans (HB.out.mono B36.out.size)
      have CC := KM.out ⟨some ⟨ga, 0, none⟩, 3, vc, aB, nB, cB, aM, nM, cM, aP, nP, cP⟩ g cm w8 (K5.out.below B58.out) (G3.out.below B38.out)
      clear hlt hn HO HB KM K5 G3 AM HH O7
      obtain ⟨p0, p1, p2, p3⟩ := X5.out.below B58.out
      replace p0 : w8.cell? ⟨zb, 0, none⟩ = some (.slice (some ⟨ga, 0, none⟩) 3 vc) := p0
      replace p1 : w8.cell? ⟨zb, 1, none⟩ = some (.slice aB nB cB) := p1
      replace p2 : w8.cell? ⟨zb, 2, none⟩ = some (.slice aM nM cM) := p2
      replace p3 : w8.cell? ⟨zb, 3, none⟩ = some (.slice aP nP cP) := p3
      go_wp2_with fail
      go_at_call 11
      refine CC.mono ?_
      rintro e w9 ⟨gm, c9, rfl, hm, hb⟩
      have B9 : Hid (Below w.heap.size w w9) := B3.out.trans ((B38.out.trans (hb.mono B38.out.size)).mono B3.out.size)
      have O9 : Hid (Out3 w9 go (outO (ringU x y z a b c) (ringV x y z a b c) 9 0) (outO (ringU x y z a b c) (ringV x y z a b c) 9 1) (outO (ringU x y z a b c) (ringV x y z a b c) 9 2)) := HO9.out.below hb
      have M9 : Hid (IGood w9 (some ⟨gm, 0, none⟩) 3 c9 M) := hm
      have hc9 := hm.cap
      clear hm hb CC HO9 B58 B38 p0 p1 p2 p3 X5
      generalize outO (ringU x y z a b c) (ringV x y z a b c) 9 = O at O9 HM9
      go_wp2
      go_loopw [18] (fun l wv => ∃ k : Nat, k ≤ 3 ∧ l = .int .i64 k ∧ Hid (Below w9.heap.size w9 wv)) (fun l _ => 3 - (intOf l).toNat)
      case atStart => exact ⟨0, by omega, rfl, Below.refl _ _⟩
      case round =>
        obtain ⟨k, hk, rfl, HB⟩ := hrel
        by_cases hkt : k < 3
        · have k1 : (k : Int) < 3 := by omega
          have kw : IntKind.i64.wrap ((k : Int) + 1) = k + 1 := i64_wf (by omega) (by omega)
          have q1 := (M9.out.below HB.out).cell0 hkt
          have q2 := (O9.out.below HB.out).at hkt
          rw [HM9.out k hkt] at q1
          have BN : Hid (∀ q, Below w9.heap.size w9 (wr.drewN q)) := fun q => HB.out.trans ((drawn_below wr q).mono HB.out.size)
          generalize O k = ok at q1 q2
          cases ok with
          | true =>
            replace q1 : wr.cell? ⟨gm, k, none⟩ = some (.int .i64 0) := q1
            go_wp2
            go_quiet (fail)
            go_wp2
            go_roundw
            case rel => exact ⟨k + 1, by omega, by go_num, BN.out _⟩
            case measure => simp [intOf]; omega
          | false =>
            replace q1 : wr.cell? ⟨gm, k, none⟩ = some (.int .i64 1) := q1
            go_wp2
            go_quiet (fail)
            go_wp2
            go_roundw
            case rel => exact ⟨k + 1, by omega, by go_num, BN.out _⟩
            case measure => simp [intOf]; omega
        · obtain rfl : k = 3 := by omega
          have BZ : Hid (Below w.heap.size w wr) := B9.out.trans (HB.out.mono B9.out.size)
          have KK := KN.out wr
          go_wp2_with fail
          go_at_call 16
          refine KK.mono ?_
          rintro e wz ⟨rfl, hb⟩
          have Bz : Hid (Below w.heap.size w wz) := BZ.out.trans (hb.mono BZ.out.size)
          clear KK hb
          go_wp2
          go_ret
          exact ⟨rfl, Bz.out⟩

set_option maxHeartbeats 16000000 in
theorem knotRing_out (ah : Option Addr) (nh ch : Nat) (a b c : Int) (w : World) (h : ¬ (((1 ≤ a ∧ a ≤ 100) ∧ (1 ≤ b ∧ b ≤ 100) ∧ (1 ≤ c ∧ c ≤ 100)) ∧ nh = 3)) :
    Calls Try.prog 7 #[.slice ah nh ch, .int .i64 a, .int .i64 b, .int .i64 c] w fun e w' => e = .returned (.bool true) ∧ Below w.heap.size w w' := by
  by_cases a0 : a < 1
  · clear h
    go_enter Try.func7, Try.ntmps7
    go_wp2
    go_ret
    exact ⟨rfl, Below.refl _ _⟩
  by_cases a1 : 100 < a
  · clear h
    go_enter Try.func7, Try.ntmps7
    go_wp2
    go_ret
    exact ⟨rfl, Below.refl _ _⟩
  by_cases b0 : b < 1
  · clear h
    go_enter Try.func7, Try.ntmps7
    go_wp2
    go_ret
    exact ⟨rfl, Below.refl _ _⟩
  by_cases b1 : 100 < b
  · clear h
    go_enter Try.func7, Try.ntmps7
    go_wp2
    go_ret
    exact ⟨rfl, Below.refl _ _⟩
  by_cases c0 : c < 1
  · clear h
    go_enter Try.func7, Try.ntmps7
    go_wp2
    go_ret
    exact ⟨rfl, Below.refl _ _⟩
  by_cases c1 : 100 < c
  · clear h
    go_enter Try.func7, Try.ntmps7
    go_wp2
    go_ret
    exact ⟨rfl, Below.refl _ _⟩
  by_cases n3 : nh = 3
  · exact absurd ⟨⟨⟨by omega, by omega⟩, ⟨by omega, by omega⟩, by omega, by omega⟩, n3⟩ h
  · have n4 : ((nh : Int) != 3) = true := by simp; omega
    have n5 : ¬ (nh : Int) = 3 := by omega
    clear h n3
    go_enter Try.func7, Try.ntmps7
    go_wp2
    go_ret
    exact ⟨rfl, Below.refl _ _⟩
theorem Walk.knotRing (ah : Option Addr) (nh ch : Nat) (zh : List Int) (a b c : Int) (w : World) (h0 : Walk.IsRow .i64 w ah nh ch zh) (ha : (Lit.int .i64 a).wf = true) (hb : (Lit.int .i64 b).wf = true) (hc : (Lit.int .i64 c).wf = true) :
    Calls Try.prog 7 #[.slice ah nh ch, .int .i64 a, .int .i64 b, .int .i64 c] w fun e w' => e = .returned (.bool true) ∧ Below w.heap.size w w' := by
  by_cases h : ((1 ≤ a ∧ a ≤ 100) ∧ (1 ≤ b ∧ b ≤ 100) ∧ (1 ≤ c ∧ c ≤ 100)) ∧ nh = 3
  · obtain ⟨⟨h1, h2, h3⟩, rfl⟩ := h
    obtain ⟨hsl, -, -⟩ := h0.sl fun n hn => by
      simp only [Lit.wf, Bool.and_eq_true, decide_eq_true_eq] at hn
      exact i64_wf hn.1 hn.2
    exact knotRing_in ah ch _ a b c w hsl h1 h2 h3
  · exact knotRing_out ah nh ch a b c w h

end Go.Proofs.Ytlackjldopeigaa
