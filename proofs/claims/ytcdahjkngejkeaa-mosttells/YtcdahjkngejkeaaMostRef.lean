/-
  giroref17.Of: by halves.
-/
import Derived.Test.YtcdahjkngejkeaaMostSpec
import Derived.Test.YtcdahjkngejkeaaFitsRefAll
namespace Go.Proofs.Ytcdahjkngejkeaa
open Go.RowKit
set_option linter.unusedVariables false
set_option linter.unusedSimpArgs false

/-- A payment that a call made and goes on writing its amount into. -/
def MBox (w : World) (g : Nat) (p : P7) : Prop := w.heap[g]? = some (.cells #[.int .i64 p.id, .int .i64 p.fr, .int .i64 p.to, .int .i64 p.am, .int .i64 p.cl, .int .i64 p.st, .int .i64 p.ti] 32 (0, 0))
theorem MBox.below {w w' : World} {g : Nat} {p : P7} (h : MBox w g p) (k : Below w.heap.size w w') : MBox w' g p := (k.block _ (lt_of_block h)).trans h
theorem MBox.cells7 {w : World} {g : Nat} {p : P7} (h : MBox w g p) : At7 w g 0 p :=
  ⟨cell_of_row w g 0 _ _ _ h, cell_of_row w g 1 _ _ _ h, cell_of_row w g 2 _ _ _ h, cell_of_row w g 3 _ _ _ h, cell_of_row w g 4 _ _ _ h, cell_of_row w g 5 _ _ _ h, cell_of_row w g 6 _ _ _ h⟩
theorem MBox.free {w : World} {g : Nat} {p : P7} (h : MBox w g p) (i : Nat) : w.frozen? ⟨g, i, none⟩ = false := frozen_of_row w g i _ _ h
theorem MBox.set {w : World} {g : Nat} {i f t a c s e : Int} (h : MBox w g (i, f, t, a, c, s, e)) (v : Int) : MBox (w.setCell ⟨g, 3, none⟩ (.int .i64 v)) g (i, f, t, v, c, s, e) := by
  unfold MBox
  rw [heap_setCell_same w g 3 _ _ _ h]
  rfl
theorem MBox.new (w : World) (p : P7) : MBox (w.alloc (.cells #[.int .i64 p.id, .int .i64 p.fr, .int .i64 p.to, .int .i64 p.am, .int .i64 p.cl, .int .i64 p.st, .int .i64 p.ti] 32)) w.heap.size p := heap_alloc_new w _

set_option maxHeartbeats 8000000 in
set_option maxRecDepth 100000 in
theorem refMost_any (x : BA) (b : Bks) (f t cl : Int) (w : World) (hk : Bk w x b) (g : Good b) :
    Calls Try.prog 8 #[x.val, .int .i64 f, .int .i64 t, .int .i64 cl] w fun e w' => e = .returned (.int .i64 (mostV b f t cl)) ∧ Below w.heap.size w w' := by
  have FIT := fun (am : Int) (u : World) (hu : Below w.heap.size w u) => refFFits_any x b (some ⟨u.heap.size, 0, none⟩) 1 1 [(0, f, t, am, cl, 0, 0)] _ ((hk.below hu).below (box_below u _)) g (PGood.lit1 u (0, f, t, am, cl, 0, 0))
  have HV : Hid (∀ am, fitsB b [(0, f, t, am, cl, 0, 0)] = decide (1 ≤ am ∧ am ≤ mostV b f t cl)) := fun am => fits_most g (0, f, t, am, cl, 0, 0)
  have HR : Hid (0 ≤ mostV b f t cl ∧ mostV b f t cl ≤ 1099511627776) := mostV_range b f t cl
  generalize mostV b f t cl = V at HV HR ⊢
  obtain ⟨aA, nA, cA, aB, nB, cB, aM, nM, cM, aP, nP, cP⟩ := x
  have FT : Hid (∀ (am : Int) (u : World), Below w.heap.size w u → Calls Try.prog 10 #[.agg #[.slice aA nA cA, .slice aB nB cB, .slice aM nM cM, .slice aP nP cP], .slice (some ⟨u.heap.size, 0, none⟩) 1 1] (u.alloc (.cells #[.int .i64 0, .int .i64 f, .int .i64 t, .int .i64 am, .int .i64 cl, .int .i64 0, .int .i64 0] 32)) fun e w' => e = .returned (.bool (decide (1 ≤ am ∧ am ≤ V))) ∧ Below u.heap.size u w') := fun am u hu => (FIT am u hu).mono fun e w' h => ⟨by rw [h.1, HV.out], (box_below u _).trans (h.2.mono (by rw [size_alloc]; omega))⟩
  obtain ⟨w2, hw2⟩ : ∃ w2, w2 = w.alloc (.cells #[.slice aA nA cA, .slice aB nB cB, .slice aM nM cM, .slice aP nP cP] 26) := ⟨_, rfl⟩
  have B2 : Hid (Below w.heap.size w w2) := by rw [hw2]; exact box_below _ _
  have X2 : Hid (Box4 w2 w.heap.size ⟨aA, nA, cA, aB, nB, cB, aM, nM, cM, aP, nP, cP⟩) := by rw [hw2]; exact Box4.new w ⟨aA, nA, cA, aB, nB, cB, aM, nM, cM, aP, nP, cP⟩ _ _
  obtain ⟨h, hh⟩ : ∃ h, w2.heap.size = h := ⟨_, rfl⟩
  obtain ⟨w3, hw3⟩ : ∃ w3, w3 = w2.alloc (.cells #[.int .i64 0, .int .i64 f, .int .i64 t, .int .i64 1, .int .i64 cl, .int .i64 0, .int .i64 0] 32) := ⟨_, rfl⟩
  have B3 : Hid (Below h w2 w3) := by rw [hw3, ← hh]; exact box_below _ _
  have M3 : Hid (MBox w3 h (0, f, t, 1, cl, 0, 0)) := by rw [hw3, ← hh]; exact MBox.new w2 (0, f, t, 1, cl, 0, 0)
  have HH : Hid (w2.heap.size = h) := hh
  have HSZ : Hid (w.heap.size ≤ h) := by show _ ≤ h; rw [← hh]; exact B2.out.size
  have HLT : Hid (w.heap.size < h) := by show _ < h; rw [← hh, hw2, size_alloc]; omega
  clear hk g FIT HV
  go_enter Try.func8, Try.ntmps8
  go_upto_region 1 with fail
  rw [← hw2]
  clear hw2
  go_upto_region 2 with fail
  rw [← hw3]
  clear hw3
  try rw [hh]
  clear hh
  have BW3 : Hid (Below w.heap.size w w3) := B2.out.trans (B3.out.mono HSZ.out)
  have X3 : Hid (Box4 w3 w.heap.size ⟨aA, nA, cA, aB, nB, cB, aM, nM, cM, aP, nP, cP⟩) := X2.out.below (by rw [HH.out]; exact B3.out)
  obtain ⟨p0, p1, p2, p3⟩ := X3.out
  replace p0 : w3.cell? ⟨w.heap.size, 0, none⟩ = some (.slice aA nA cA) := p0
  replace p1 : w3.cell? ⟨w.heap.size, 1, none⟩ = some (.slice aB nB cB) := p1
  replace p2 : w3.cell? ⟨w.heap.size, 2, none⟩ = some (.slice aM nM cM) := p2
  replace p3 : w3.cell? ⟨w.heap.size, 3, none⟩ = some (.slice aP nP cP) := p3
  obtain ⟨r0, r1, r2, r3, r4, r5, r6⟩ := M3.out.cells7
  simp only [P7.id, P7.fr, P7.to, P7.am, P7.cl, P7.st, P7.ti, Nat.zero_add] at r0 r1 r2 r3 r4 r5 r6
  have F1 := FT.out 1 w3 BW3.out
  obtain ⟨q, hq⟩ : ∃ q, decide ((1 : Int) ≤ 1 ∧ 1 ≤ V) = q := ⟨_, rfl⟩
  have HQ : Hid (decide ((1 : Int) ≤ 1 ∧ 1 ≤ V) = q) := hq
  rw [hq] at F1
  clear hq
  go_wp2_with fail
  go_at_call 10
  refine F1.mono ?_
  rintro e w4 ⟨rfl, hb⟩
  have B4 : Hid (Below h w2 w4) := B3.out.trans (hb.mono (by have := B3.out.size; have := HH.out; omega))
  have M4 : Hid (MBox w4 h (0, f, t, 1, cl, 0, 0)) := M3.out.below hb
  have BW4 : Hid (Below w.heap.size w w4) := B2.out.trans (B4.out.mono HSZ.out)
  clear hb F1 p0 p1 p2 p3 r0 r1 r2 r3 r4 r5 r6 M3 X3 BW3 B3
  cases q with
  | false =>
    have HE : Hid (0 = V) := by
      have h1 := HQ.out
      have h2 := HR.out
      rw [decide_eq_false_iff_not] at h1
      show 0 = V
      omega
    go_wp2
    go_ret
    exact ⟨rt_int HE.out, BW4.out⟩
  | true =>
  have H1 : Hid (1 ≤ V) := by
    have h1 := HQ.out
    rw [decide_eq_true_iff] at h1
    exact h1.2
  clear HQ
  go_wp2
  go_loopw [10, 11] (fun l o wr => ∃ a c am : Int, l = .int .i64 a ∧ o = .int .i64 c ∧ Hid (1 ≤ a ∧ a ≤ V ∧ V < c ∧ c ≤ 1099511627777) ∧ Hid (MBox wr h (0, f, t, am, cl, 0, 0)) ∧ Hid (Below h w2 wr)) (fun l o _ => (intOf o - intOf l).toNat)
  case atStart => exact ⟨1, 1099511627777, 1, rfl, rfl, ⟨by omega, H1.out, by have := HR.out; omega, by omega⟩, M4.out, B4.out⟩
  case round =>
    obtain ⟨a, c, am, rfl, rfl, HI, HM, HB⟩ := hrel
    obtain ⟨d, hd⟩ : ∃ d, c - a = d := ⟨_, rfl⟩
    have W1 : IntKind.i64.wrap (c - a) = d := by have := HI.out; have := HR.out; rw [hd]; exact i64_wf (by omega) (by omega)
    rcases Int.lt_or_le 1 d with hgt | hle
    · obtain ⟨k, hk⟩ : ∃ k, d.tdiv 2 = k := ⟨_, rfl⟩
      have hk2 : k = d / 2 := by rw [← hk]; exact Int.tdiv_eq_ediv_of_nonneg (by omega)
      obtain ⟨n, hn⟩ : ∃ n, a + k = n := ⟨_, rfl⟩
      have W2 : IntKind.i64.wrap (d.tdiv 2) = k := by have := HI.out; have := HR.out; rw [hk]; exact i64_wf (by omega) (by omega)
      have W3 : IntKind.i64.wrap (a + k) = n := by have := HI.out; have := HR.out; rw [hn]; exact i64_wf (by omega) (by omega)
      have HN : Hid (a < n ∧ n < c ∧ n ≤ 1099511627776 ∧ 1 ≤ n) := by have := HI.out; have := HR.out; show _ ∧ _; omega
      obtain ⟨r0, r1, r2, r3, r4, r5, r6⟩ := HM.out.cells7
      simp only [P7.id, P7.fr, P7.to, P7.am, P7.cl, P7.st, P7.ti, Nat.zero_add] at r0 r1 r2 r3 r4 r5 r6
      have f3 := HM.out.free 3
      obtain ⟨w5, hw5⟩ : ∃ w5, w5 = wr.setCell ⟨h, 3, none⟩ (.int .i64 n) := ⟨_, rfl⟩
      have M5 : Hid (MBox w5 h (0, f, t, n, cl, 0, 0)) := by rw [hw5]; exact HM.out.set n
      have B5 : Hid (Below h w2 w5) := by rw [hw5]; exact HB.out.setCell (p := ⟨h, 3, none⟩) (Nat.le_refl _) _
      clear hd hk hk2 hn
      go_upto_region 7 with fail
      rw [← hw5]
      clear hw5 r0 r1 r2 r3 r4 r5 r6 f3 W1 W2 W3
      have BW5 : Hid (Below w.heap.size w w5) := B2.out.trans (B5.out.mono HSZ.out)
      have X5 : Hid (Box4 w5 w.heap.size ⟨aA, nA, cA, aB, nB, cB, aM, nM, cM, aP, nP, cP⟩) := X2.out.below (by rw [HH.out]; exact B5.out)
      obtain ⟨p0, p1, p2, p3⟩ := X5.out
      replace p0 : w5.cell? ⟨w.heap.size, 0, none⟩ = some (.slice aA nA cA) := p0
      replace p1 : w5.cell? ⟨w.heap.size, 1, none⟩ = some (.slice aB nB cB) := p1
      replace p2 : w5.cell? ⟨w.heap.size, 2, none⟩ = some (.slice aM nM cM) := p2
      replace p3 : w5.cell? ⟨w.heap.size, 3, none⟩ = some (.slice aP nP cP) := p3
      obtain ⟨r0, r1, r2, r3, r4, r5, r6⟩ := M5.out.cells7
      simp only [P7.id, P7.fr, P7.to, P7.am, P7.cl, P7.st, P7.ti, Nat.zero_add] at r0 r1 r2 r3 r4 r5 r6
      have F1 := FT.out n w5 BW5.out
      obtain ⟨q, hq⟩ : ∃ q, decide (1 ≤ n ∧ n ≤ V) = q := ⟨_, rfl⟩
      have HQ : Hid (decide (1 ≤ n ∧ n ≤ V) = q) := hq
      rw [hq] at F1
      clear hq
      go_wp2_with fail
      go_at_call 10
      refine F1.mono ?_
      rintro e w6 ⟨rfl, hb⟩
      have B6 : Hid (Below h w2 w6) := B5.out.trans (hb.mono (by have := B5.out.size; have := HH.out; omega))
      have M6 : Hid (MBox w6 h (0, f, t, n, cl, 0, 0)) := M5.out.below hb
      clear hb F1 p0 p1 p2 p3 r0 r1 r2 r3 r4 r5 r6 M5 X5 BW5 B5 HM HB
      obtain ⟨r0, r1, r2, r3, r4, r5, r6⟩ := M6.out.cells7
      simp only [P7.id, P7.fr, P7.to, P7.am, P7.cl, P7.st, P7.ti, Nat.zero_add] at r0 r1 r2 r3 r4 r5 r6
      clear r0 r1 r2 r4 r5 r6
      cases q with
      | true =>
        have H2 : Hid (n ≤ V) := by
          have h1 := HQ.out
          rw [decide_eq_true_iff] at h1
          exact h1.2
        go_wp2
        go_roundw
        case rel => exact ⟨n, c, n, rfl, rfl, by have := HI.out; have := HN.out; have := H2.out; show _ ∧ _; omega, M6.out, B6.out⟩
        case measure => have := HI.out; have := HN.out; simp [intOf]; omega
      | false =>
        have H2 : Hid (V < n) := by
          have h1 := HQ.out
          have h2 := HN.out
          rw [decide_eq_false_iff_not] at h1
          show V < n
          omega
        go_wp2
        go_roundw
        case rel => exact ⟨a, n, n, rfl, rfl, by have := HI.out; have := HN.out; have := H2.out; show _ ∧ _; omega, M6.out, B6.out⟩
        case measure => have := HI.out; have := HN.out; simp [intOf]; omega
    · have hd2 : decide (1 < d) = false := decide_eq_false (by omega)
      have HE : Hid (a = V) := by have := HI.out; show a = V; omega
      have BW : Hid (Below w.heap.size w wr) := B2.out.trans (HB.out.mono HSZ.out)
      clear hd hle
      go_wp2
      go_ret
      exact ⟨rt_int HE.out, BW.out⟩

end Go.Proofs.Ytcdahjkngejkeaa
