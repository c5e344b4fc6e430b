/-
  The walk of MostEdge.
-/
import Derived.Test.YtcdahjkngejkeaaKnown17
import Derived.Test.YtcdahjkngejkeaaMostRef
import Derived.Test.YtcdahjkngejkeaaLimTwo
namespace Go.Proofs.Ytcdahjkngejkeaa
open Go.RowKit
set_option linter.unusedVariables false
set_option linter.unusedSimpArgs false

theorem and40_rng (x : Int) : 0 ≤ bits .and .i64 x 1099511627775 ∧ bits .and .i64 x 1099511627775 ≤ 1099511627775 := by
  show 0 ≤ IntKind.i64.wrap ((BitVec.ofInt 64 x &&& BitVec.ofInt 64 1099511627775).toNat : Nat) ∧ IntKind.i64.wrap ((BitVec.ofInt 64 x &&& BitVec.ofInt 64 1099511627775).toNat : Nat) ≤ 1099511627775
  have h : (BitVec.ofInt 64 x &&& BitVec.ofInt 64 1099511627775).toNat ≤ 1099511627775 := by
    rw [BitVec.toNat_and]
    exact Nat.le_trans Nat.and_le_right (by decide)
  rw [IntKind.wrap_i64]
  omega

set_option maxHeartbeats 8000000 in
set_option maxRecDepth 100000 in
theorem Walk.mostEdge (x : BA) (b : Bks) (f t cl less : Int) (w : World) (hk : Bk w x b) (wf1 : (Lit.int .i64 f).wf = true) (wf2 : (Lit.int .i64 t).wf = true) (wf3 : (Lit.int .i64 cl).wf = true) (wf4 : (Lit.int .i64 less).wf = true) : Calls Try.prog 4 #[x.val, .int .i64 f, .int .i64 t, .int .i64 cl, .int .i64 less] w fun e w' => e = .returned (.bool true) ∧ Below w.heap.size w w' := by
  have HBK : Hid (Bk w x b) := hk
  have I := fun u (hu : Below w.heap.size w u) => refBooksIs_any x b u (hk.below hu)
  have MM : Hid (Good b → ∀ u, Below w.heap.size w u → Calls Try.prog 7 #[x.val, .int .i64 f, .int .i64 t, .int .i64 cl] u fun e w' => e = .returned (.int .i64 (mostV b f t cl)) ∧ Below u.heap.size u w') := fun g u hu => most_any x b f t cl u (HBK.out.below hu) g
  have FIT : Hid (Good b → ∀ (am : Int) (u : World), Below w.heap.size w u → Calls Try.prog 10 #[x.val, .slice (some ⟨u.heap.size, 0, none⟩) 1 1] (u.alloc (.cells #[.int .i64 1, .int .i64 f, .int .i64 t, .int .i64 am, .int .i64 cl, .int .i64 0, .int .i64 0] 32)) fun e w' => e = .returned (.bool (decide (1 ≤ am ∧ am ≤ mostV b f t cl))) ∧ Below u.heap.size u w') := fun g am u hu =>
    (refFFits_any x b (some ⟨u.heap.size, 0, none⟩) 1 1 [(1, f, t, am, cl, 0, 0)] _ ((HBK.out.below hu).below (box_below u _)) g (PGood.lit1 u (1, f, t, am, cl, 0, 0))).mono fun e w' h => ⟨by rw [h.1, fits_most g (1, f, t, am, cl, 0, 0)], (box_below u _).trans (h.2.mono (by rw [size_alloc]; omega))⟩
  have HR : Hid (0 ≤ mostV b f t cl ∧ mostV b f t cl ≤ 1099511627776) := mostV_range b f t cl
  generalize mostV b f t cl = V at MM FIT HR
  obtain ⟨aA, nA, cA, aB, nB, cB, aM, nM, cM, aP, nP, cP⟩ := x
  obtain ⟨w2, hw2⟩ : ∃ w2, w2 = w.alloc (.cells #[.slice aA nA cA, .slice aB nB cB, .slice aM nM cM, .slice aP nP cP] 26) := ⟨_, rfl⟩
  have B2 : Hid (Below w.heap.size w w2) := by rw [hw2]; exact box_below _ _
  have X2 : Hid (Box4 w2 w.heap.size ⟨aA, nA, cA, aB, nB, cB, aM, nM, cM, aP, nP, cP⟩) := by rw [hw2]; exact Box4.new w ⟨aA, nA, cA, aB, nB, cB, aM, nM, cM, aP, nP, cP⟩ _ _
  have HLT : Hid (w.heap.size < w2.heap.size) := by show w.heap.size < w2.heap.size; rw [hw2, size_alloc]; omega
  have I := I w2 B2.out
  obtain ⟨q, hq⟩ : ∃ q, booksB b = q := ⟨_, rfl⟩
  have HQ : Hid (booksB b = q) := hq
  rw [hq] at I
  obtain ⟨p0, p1, p2, p3⟩ := X2.out
  replace p0 : w2.cell? ⟨w.heap.size, 0, none⟩ = some (.slice aA nA cA) := p0
  replace p1 : w2.cell? ⟨w.heap.size, 1, none⟩ = some (.slice aB nB cB) := p1
  replace p2 : w2.cell? ⟨w.heap.size, 2, none⟩ = some (.slice aM nM cM) := p2
  replace p3 : w2.cell? ⟨w.heap.size, 3, none⟩ = some (.slice aP nP cP) := p3
  clear hq hk wf1 wf2 wf3 wf4
  go_enter Try.func4, Try.ntmps4
  go_upto_region 1 with fail
  rw [← hw2]
  clear hw2
  go_wp2_with fail
  go_at_call 6
  refine I.mono ?_
  rintro e w3 ⟨rfl, hb⟩
  have X3 : Hid (Box4 w3 w.heap.size ⟨aA, nA, cA, aB, nB, cB, aM, nM, cM, aP, nP, cP⟩) := X2.out.below hb
  have B3 : Hid (Below w.heap.size w w3) := B2.out.trans (hb.mono B2.out.size)
  have HL3 : Hid (w.heap.size < w3.heap.size) := by have := hb.size; have := HLT.out; show w.heap.size < w3.heap.size; omega
  clear hb I p0 p1 p2 p3 X2 B2 HLT
  cases q with
  | false =>
    go_wp2
    go_ret
    exact ⟨rfl, B3.out⟩
  | true =>
  have GB : Hid (Good b) := booksB_yes.1 HQ.out
  have MO := MM.out GB.out
  have FT : Hid (∀ (am : Int) (u : World), Below w.heap.size w u → Calls Try.prog 10 #[.agg #[.slice aA nA cA, .slice aB nB cB, .slice aM nM cM, .slice aP nP cP], .slice (some ⟨u.heap.size, 0, none⟩) 1 1] (u.alloc (.cells #[.int .i64 1, .int .i64 f, .int .i64 t, .int .i64 am, .int .i64 cl, .int .i64 0, .int .i64 0] 32)) fun e w' => e = .returned (.bool (decide (1 ≤ am ∧ am ≤ V))) ∧ Below u.heap.size u w') := FIT.out GB.out
  have MO := MO w3 B3.out
  clear MM FIT
  obtain ⟨p0, p1, p2, p3⟩ := X3.out
  replace p0 : w3.cell? ⟨w.heap.size, 0, none⟩ = some (.slice aA nA cA) := p0
  replace p1 : w3.cell? ⟨w.heap.size, 1, none⟩ = some (.slice aB nB cB) := p1
  replace p2 : w3.cell? ⟨w.heap.size, 2, none⟩ = some (.slice aM nM cM) := p2
  replace p3 : w3.cell? ⟨w.heap.size, 3, none⟩ = some (.slice aP nP cP) := p3
  go_wp2_with fail
  go_at_call 7
  refine MO.mono ?_
  rintro e w4 ⟨rfl, hb⟩
  have X4 : Hid (Box4 w4 w.heap.size ⟨aA, nA, cA, aB, nB, cB, aM, nM, cM, aP, nP, cP⟩) := X3.out.below hb
  have B4 : Hid (Below w.heap.size w w4) := B3.out.trans (hb.mono B3.out.size)
  have HL4 : Hid (w.heap.size < w4.heap.size) := by have := hb.size; have := HL3.out; show w.heap.size < w4.heap.size; omega
  clear hb MO p0 p1 p2 p3 X3 B3 HL3
  obtain ⟨z, hz⟩ : ∃ z, w4.heap.size = z := ⟨_, rfl⟩
  obtain ⟨w5, hw5⟩ : ∃ w5, w5 = w4.alloc (.cells #[.int .i64 1, .int .i64 f, .int .i64 t, .int .i64 V, .int .i64 cl, .int .i64 0, .int .i64 0] 32) := ⟨_, rfl⟩
  have b5 : Below w4.heap.size w4 w5 := by rw [hw5]; exact box_below _ _
  have B5 : Hid (Below w.heap.size w w5) := B4.out.trans (b5.mono B4.out.size)
  have X5 : Hid (Box4 w5 w.heap.size ⟨aA, nA, cA, aB, nB, cB, aM, nM, cM, aP, nP, cP⟩) := X4.out.below b5
  have M5 : Hid (MBox w5 z (1, f, t, V, cl, 0, 0)) := by rw [hw5, ← hz]; exact MBox.new w4 (1, f, t, V, cl, 0, 0)
  have HZ : Hid (w.heap.size < z) := by have := HL4.out; show w.heap.size < z; omega
  clear b5
  go_upto_region 5 with fail
  rw [← hw5]
  clear hw5 B4 X4 HL4
  try rw [hz]
  clear hz
  obtain ⟨p0, p1, p2, p3⟩ := X5.out
  replace p0 : w5.cell? ⟨w.heap.size, 0, none⟩ = some (.slice aA nA cA) := p0
  replace p1 : w5.cell? ⟨w.heap.size, 1, none⟩ = some (.slice aB nB cB) := p1
  replace p2 : w5.cell? ⟨w.heap.size, 2, none⟩ = some (.slice aM nM cM) := p2
  replace p3 : w5.cell? ⟨w.heap.size, 3, none⟩ = some (.slice aP nP cP) := p3
  have v1 : decide (V < 0) = false := decide_eq_false (by have := HR.out; omega)
  have v2 : decide (1099511627776 < V) = false := decide_eq_false (by have := HR.out; omega)
  have F1 := FT.out 1 w5 B5.out
  rcases Int.lt_or_le 0 V with h0 | h0
  case inr =>
    obtain rfl : V = 0 := by have := HR.out; omega
    rw [show decide ((1 : Int) ≤ 1 ∧ (1 : Int) ≤ 0) = false by decide] at F1
    clear v1 v2 h0
    go_wp2_with fail
    go_at_call 10
    refine F1.mono ?_
    rintro e w6 ⟨rfl, hb⟩
    have B6 : Hid (Below w.heap.size w w6) := B5.out.trans (hb.mono B5.out.size)
    clear hb F1 p0 p1 p2 p3
    go_wp2_with fail
    go_at_call 9
    refine (known17 w6).mono ?_
    rintro e w7 ⟨rfl, hb⟩
    have B7 : Hid (Below w.heap.size w w7) := B6.out.trans (hb.mono B6.out.size)
    clear hb
    go_wp2
    go_ret
    exact ⟨rfl, B7.out⟩
  rw [decide_eq_true (show (1 : Int) ≤ 1 ∧ 1 ≤ V by omega)] at F1
  have H0 : Hid (0 < V) := h0
  go_wp2_with fail
  go_at_call 10
  refine F1.mono ?_
  rintro e w6 ⟨rfl, hb⟩
  have B6 : Hid (Below w.heap.size w w6) := B5.out.trans (hb.mono B5.out.size)
  have X6 : Hid (Box4 w6 w.heap.size ⟨aA, nA, cA, aB, nB, cB, aM, nM, cM, aP, nP, cP⟩) := X5.out.below hb
  have M6 : Hid (MBox w6 z (1, f, t, V, cl, 0, 0)) := M5.out.below hb
  clear hb F1 p0 p1 p2 p3 X5 M5 B5 v1 v2
  have v0 : (V == 0) = false := by have := H0.out; simp; omega
  obtain ⟨y, hy⟩ : ∃ y, w6.heap.size = y := ⟨_, rfl⟩
  obtain ⟨w7, hw7⟩ : ∃ w7, w7 = w6.alloc (.cells #[.int .i64 1, .int .i64 f, .int .i64 t, .int .i64 V, .int .i64 cl, .int .i64 0, .int .i64 0] 32) := ⟨_, rfl⟩
  have b7 : Below w6.heap.size w6 w7 := by rw [hw7]; exact box_below _ _
  have N7 : Hid (MBox w7 y (1, f, t, V, cl, 0, 0)) := by rw [hw7, ← hy]; exact MBox.new w6 (1, f, t, V, cl, 0, 0)
  have B67 : Hid (Below y w6 w7) := by rw [hy] at b7; exact b7
  have HY : Hid (w6.heap.size = y) := hy
  obtain ⟨r0, r1, r2, r3, r4, r5, r6⟩ := M6.out.cells7
  simp only [P7.id, P7.fr, P7.to, P7.am, P7.cl, P7.st, P7.ti, Nat.zero_add] at r0 r1 r2 r3 r4 r5 r6
  clear b7
  go_upto_region 10 with fail
  rw [← hw7]
  clear hw7 r0 r1 r2 r3 r4 r5 r6
  try rw [hy]
  clear hy v0 h0
  obtain ⟨n, hn⟩ : ∃ n, V + 1 = n := ⟨_, rfl⟩
  have W1 : IntKind.i64.wrap (V + 1) = n := by have := HR.out; rw [hn]; exact i64_wf (by omega) (by omega)
  have HN : Hid (decide (1 ≤ n ∧ n ≤ V) = false) := by show _ = false; rw [decide_eq_false_iff_not]; omega
  clear hn
  obtain ⟨r0, r1, r2, r3, r4, r5, r6⟩ := N7.out.cells7
  simp only [P7.id, P7.fr, P7.to, P7.am, P7.cl, P7.st, P7.ti, Nat.zero_add] at r0 r1 r2 r3 r4 r5 r6
  have f3 := N7.out.free 3
  obtain ⟨w8, hw8⟩ : ∃ w8, w8 = w7.setCell ⟨y, 3, none⟩ (.int .i64 n) := ⟨_, rfl⟩
  have B68 : Hid (Below y w6 w8) := by rw [hw8]; exact B67.out.setCell (p := ⟨y, 3, none⟩) (Nat.le_refl _) _
  have N8 : Hid (MBox w8 y (1, f, t, n, cl, 0, 0)) := by rw [hw8]; exact N7.out.set n
  clear r0 r1 r2 r4 r5 r6
  go_upto_region 11 with fail
  rw [← hw8]
  clear hw8 r3 f3 W1 N7 B67
  have b68 : Below w6.heap.size w6 w8 := by rw [HY.out]; exact B68.out
  have B8 : Hid (Below w.heap.size w w8) := B6.out.trans (b68.mono B6.out.size)
  have X8 : Hid (Box4 w8 w.heap.size ⟨aA, nA, cA, aB, nB, cB, aM, nM, cM, aP, nP, cP⟩) := X6.out.below b68
  have M8 : Hid (MBox w8 z (1, f, t, V, cl, 0, 0)) := M6.out.below b68
  clear b68 B6 X6 M6 B68
  obtain ⟨p0, p1, p2, p3⟩ := X8.out
  replace p0 : w8.cell? ⟨w.heap.size, 0, none⟩ = some (.slice aA nA cA) := p0
  replace p1 : w8.cell? ⟨w.heap.size, 1, none⟩ = some (.slice aB nB cB) := p1
  replace p2 : w8.cell? ⟨w.heap.size, 2, none⟩ = some (.slice aM nM cM) := p2
  replace p3 : w8.cell? ⟨w.heap.size, 3, none⟩ = some (.slice aP nP cP) := p3
  obtain ⟨r0, r1, r2, r3, r4, r5, r6⟩ := M8.out.cells7
  simp only [P7.id, P7.fr, P7.to, P7.am, P7.cl, P7.st, P7.ti, Nat.zero_add] at r0 r1 r2 r3 r4 r5 r6
  have F1 := FT.out V w8 B8.out
  rw [decide_eq_true (show 1 ≤ V ∧ V ≤ V by have := H0.out; omega)] at F1
  go_wp2_with fail
  go_at_call 10
  refine F1.mono ?_
  rintro e w9 ⟨rfl, hb⟩
  have B9 : Hid (Below w.heap.size w w9) := B8.out.trans (hb.mono B8.out.size)
  have X9 : Hid (Box4 w9 w.heap.size ⟨aA, nA, cA, aB, nB, cB, aM, nM, cM, aP, nP, cP⟩) := X8.out.below hb
  have M9 : Hid (MBox w9 z (1, f, t, V, cl, 0, 0)) := M8.out.below hb
  have N9 : Hid (MBox w9 y (1, f, t, n, cl, 0, 0)) := N8.out.below hb
  clear hb F1 p0 p1 p2 p3 r0 r1 r2 r3 r4 r5 r6 X8 M8 B8 N8
  obtain ⟨p0, p1, p2, p3⟩ := X9.out
  replace p0 : w9.cell? ⟨w.heap.size, 0, none⟩ = some (.slice aA nA cA) := p0
  replace p1 : w9.cell? ⟨w.heap.size, 1, none⟩ = some (.slice aB nB cB) := p1
  replace p2 : w9.cell? ⟨w.heap.size, 2, none⟩ = some (.slice aM nM cM) := p2
  replace p3 : w9.cell? ⟨w.heap.size, 3, none⟩ = some (.slice aP nP cP) := p3
  obtain ⟨r0, r1, r2, r3, r4, r5, r6⟩ := N9.out.cells7
  simp only [P7.id, P7.fr, P7.to, P7.am, P7.cl, P7.st, P7.ti, Nat.zero_add] at r0 r1 r2 r3 r4 r5 r6
  have F1 := FT.out n w9 B9.out
  rw [HN.out] at F1
  go_wp2_with fail
  go_at_call 10
  refine F1.mono ?_
  rintro e wa ⟨rfl, hb⟩
  have Ba : Hid (Below w.heap.size w wa) := B9.out.trans (hb.mono B9.out.size)
  have Xa : Hid (Box4 wa w.heap.size ⟨aA, nA, cA, aB, nB, cB, aM, nM, cM, aP, nP, cP⟩) := X9.out.below hb
  have Ma : Hid (MBox wa z (1, f, t, V, cl, 0, 0)) := M9.out.below hb
  clear hb F1 p0 p1 p2 p3 r0 r1 r2 r3 r4 r5 r6 X9 M9 B9 N9 HN HY
  have rg := (and40_rng less).1
  have rh := (and40_rng less).2
  obtain ⟨x, hx⟩ : ∃ x, bits .and .i64 less 1099511627775 = x := ⟨_, rfl⟩
  rw [hx] at rg rh
  obtain ⟨k, hkk⟩ : ∃ k, x.tmod V = k := ⟨_, rfl⟩
  have hk2 : k = x % V := by rw [← hkk]; exact Int.tmod_eq_emod_of_nonneg rg
  have hk3 : 0 ≤ k := by rw [hk2]; exact Int.emod_nonneg _ (by have := H0.out; omega)
  have hk4 : k < V := by rw [hk2]; exact Int.emod_lt_of_pos _ H0.out
  obtain ⟨m, hm⟩ : ∃ m, 1 + k = m := ⟨_, rfl⟩
  have W2 : IntKind.i64.wrap (1 + k) = m := by have := HR.out; rw [hm]; exact i64_wf (by omega) (by omega)
  have HM : Hid (decide (1 ≤ m ∧ m ≤ V) = true) := by show _ = true; rw [decide_eq_true_iff]; omega
  have v0 : ¬ V = 0 := by have := H0.out; omega
  clear rg rh hk2 hk3 hk4 hm
  obtain ⟨r0, r1, r2, r3, r4, r5, r6⟩ := Ma.out.cells7
  simp only [P7.id, P7.fr, P7.to, P7.am, P7.cl, P7.st, P7.ti, Nat.zero_add] at r0 r1 r2 r3 r4 r5 r6
  have f3 := Ma.out.free 3
  obtain ⟨wb, hwb⟩ : ∃ wb, wb = wa.setCell ⟨z, 3, none⟩ (.int .i64 m) := ⟨_, rfl⟩
  have Mb : Hid (MBox wb z (1, f, t, m, cl, 0, 0)) := by rw [hwb]; exact Ma.out.set m
  have bab : Below z wa wb := by rw [hwb]; exact (Below.refl _ _).setCell (p := ⟨z, 3, none⟩) (Nat.le_refl _) _
  have Bb : Hid (Below w.heap.size w wb) := Ba.out.trans (bab.mono (by have := HZ.out; omega))
  have Xb : Hid (Box4 wb w.heap.size ⟨aA, nA, cA, aB, nB, cB, aM, nM, cM, aP, nP, cP⟩) := by
    obtain ⟨p0, p1, p2, p3⟩ := Xa.out
    have hz := HZ.out
    have k : ∀ (i : Nat) (v : Value), wa.cell? ⟨w.heap.size, i, none⟩ = some v → wb.cell? ⟨w.heap.size, i, none⟩ = some v := fun i v h => (bab.cell (p := ⟨w.heap.size, i, none⟩) hz).trans h
    exact ⟨k 0 _ p0, k 1 _ p1, k 2 _ p2, k 3 _ p3⟩
  clear r0 r1 r2 r4 r5 r6 bab
  go_upto_region 14 with fail
  rw [← hwb]
  clear hwb r3 f3 W2 v0 hx hkk Xa Ma Ba
  obtain ⟨p0, p1, p2, p3⟩ := Xb.out
  replace p0 : wb.cell? ⟨w.heap.size, 0, none⟩ = some (.slice aA nA cA) := p0
  replace p1 : wb.cell? ⟨w.heap.size, 1, none⟩ = some (.slice aB nB cB) := p1
  replace p2 : wb.cell? ⟨w.heap.size, 2, none⟩ = some (.slice aM nM cM) := p2
  replace p3 : wb.cell? ⟨w.heap.size, 3, none⟩ = some (.slice aP nP cP) := p3
  obtain ⟨r0, r1, r2, r3, r4, r5, r6⟩ := Mb.out.cells7
  simp only [P7.id, P7.fr, P7.to, P7.am, P7.cl, P7.st, P7.ti, Nat.zero_add] at r0 r1 r2 r3 r4 r5 r6
  have F1 := FT.out m wb Bb.out
  rw [HM.out] at F1
  go_wp2_with fail
  go_at_call 10
  refine F1.mono ?_
  rintro e wc ⟨rfl, hb⟩
  have Bc : Hid (Below w.heap.size w wc) := Bb.out.trans (hb.mono Bb.out.size)
  clear hb F1 p0 p1 p2 p3 r0 r1 r2 r3 r4 r5 r6 Xb Mb Bb
  go_wp2_with fail
  go_at_call 9
  refine (known17 wc).mono ?_
  rintro e wd ⟨rfl, hb⟩
  have Bd : Hid (Below w.heap.size w wd) := Bc.out.trans (hb.mono Bc.out.size)
  clear hb
  go_wp2
  go_ret
  exact ⟨rfl, Bd.out⟩

end Go.Proofs.Ytcdahjkngejkeaa
