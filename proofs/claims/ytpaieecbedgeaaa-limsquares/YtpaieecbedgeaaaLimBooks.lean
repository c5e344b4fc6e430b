/-
  lim: books, and whether two are one: the program's answer and the document's.
-/
import Derived.Test.YtpaieecbedgeaaaLimEq
namespace Go.Proofs.Ytpaieecbedgeaaa
open Go.RowKit
set_option linter.unusedVariables false
set_option linter.unusedSimpArgs false

/-- Where the lists of books lie. -/
structure BA where
  aA : Option Addr
  nA : Nat
  cA : Nat
  aB : Option Addr
  nB : Nat
  cB : Nat
  aM : Option Addr
  nM : Nat
  cM : Nat
  aP : Option Addr
  nP : Nat
  cP : Nat
/-- Their value. -/
abbrev BA.val (x : BA) : Value := .agg #[.slice x.aA x.nA x.cA, .slice x.aB x.nB x.cB, .slice x.aM x.nM x.cM, .slice x.aP x.nP x.cP]
/-- What books hold: accounts, limits, positions. -/
structure Bks where
  A : List A3
  B : List (List Int)
  M : List Int
  P : List (List Int)
/-- These books lie there. -/
structure Bk (w : World) (x : BA) (b : Bks) : Prop where
  acc : Accs w x.aA x.nA b.A
  bil : RowsI w x.aB x.nB b.B
  mul : Sl .i64 w x.aM x.nM b.M
  pos : RowsI w x.aP x.nP b.P
  sA : x.nA ≤ 9223372036854775807
  sB : x.nB ≤ 9223372036854775807
  sM : x.nM ≤ 9223372036854775807
  sP : x.nP ≤ 9223372036854775807
  hB : Short b.B
  hP : Short b.P
  oA : x.aA = none → x.cA = 0
  oM : x.aM = none → x.cM = 0
theorem Bk.below {w w' : World} {x : BA} {b : Bks} (h : Bk w x b) (k : Below w.heap.size w w') : Bk w' x b :=
  ⟨h.acc.below k, h.bil.below k, h.mul.below k, h.pos.below k, h.sA, h.sB, h.sM, h.sP, h.hB, h.hP, h.oA, h.oM⟩

/-- Four values that lie at g. -/
def Box4 (w : World) (g : Nat) (x : BA) : Prop :=
  w.cell? ⟨g, 0, none⟩ = some (.slice x.aA x.nA x.cA) ∧ w.cell? ⟨g, 1, none⟩ = some (.slice x.aB x.nB x.cB) ∧ w.cell? ⟨g, 2, none⟩ = some (.slice x.aM x.nM x.cM) ∧ w.cell? ⟨g, 3, none⟩ = some (.slice x.aP x.nP x.cP)
theorem Box4.below {w w' : World} {g : Nat} {x : BA} (h : Box4 w g x) (k : Below w.heap.size w w') : Box4 w' g x := by
  obtain ⟨h0, h1, h2, h3⟩ := h
  have hg := block_lt_of_cell h0
  exact ⟨by rw [k.cell (p := ⟨g, 0, none⟩) hg]; exact h0, by rw [k.cell (p := ⟨g, 1, none⟩) hg]; exact h1, by rw [k.cell (p := ⟨g, 2, none⟩) hg]; exact h2, by rw [k.cell (p := ⟨g, 3, none⟩) hg]; exact h3⟩
theorem Box4.new (w : World) (x : BA) (t : TypeId) (fr : Nat × Nat) : Box4 (w.alloc (.cells #[.slice x.aA x.nA x.cA, .slice x.aB x.nB x.cB, .slice x.aM x.nM x.cM, .slice x.aP x.nP x.cP] t fr)) w.heap.size x :=
  ⟨by rw [cell_new]; rfl, by rw [cell_new]; rfl, by rw [cell_new]; rfl, by rw [cell_new]; rfl⟩

/-- Are two books one? -/
def sameB (a b : Bks) : Bool := decide (a.A = b.A) && (decide (a.B = b.B) && (decide (a.M = b.M) && decide (a.P = b.P)))
theorem sameB_yes {a b : Bks} : sameB a b = true ↔ a = b := by
  obtain ⟨a1, a2, a3, a4⟩ := a
  obtain ⟨b1, b2, b3, b4⟩ := b
  simp [sameB]

set_option maxHeartbeats 2000000 in
theorem limSame_any (x y : BA) (a b : Bks) (w : World) (hx : Bk w x a) (hy : Bk w y b) : Calls Try.prog 12 #[x.val, y.val] w fun e w' => e = .returned (.bool (sameB a b)) ∧ Below w.heap.size w w' := by
  obtain ⟨aA, nA, cA, aB, nB, cB, aM, nM, cM, aP, nP, cP⟩ := x
  obtain ⟨dA, mA, eA, dB, mB, eB, dM, mM, eM, dP, mP, eP⟩ := y
  obtain ⟨w2, hw2⟩ : ∃ w2, w2 = (w.alloc (.cells #[.slice aA nA cA, .slice aB nB cB, .slice aM nM cM, .slice aP nP cP] 26)).alloc (.cells #[.slice dA mA eA, .slice dB mB eB, .slice dM mM eM, .slice dP mP eP] 26) := ⟨_, rfl⟩
  have B2 : Hid (Below w.heap.size w w2) := by rw [hw2]; exact (box_below _ _).alloc (box_below _ _).size _
  have X2 : Hid (Box4 w2 w.heap.size ⟨aA, nA, cA, aB, nB, cB, aM, nM, cM, aP, nP, cP⟩) := by rw [hw2]; exact (Box4.new w ⟨aA, nA, cA, aB, nB, cB, aM, nM, cM, aP, nP, cP⟩ _ _).below (box_below _ _)
  have Y2 : Hid (Box4 w2 (w.heap.size + 1) ⟨dA, mA, eA, dB, mB, eB, dM, mM, eM, dP, mP, eP⟩) := by
    have := Box4.new (w.alloc (.cells #[.slice aA nA cA, .slice aB nB cB, .slice aM nM cM, .slice aP nP cP] 26)) ⟨dA, mA, eA, dB, mB, eB, dM, mM, eM, dP, mP, eP⟩ 26 (0, 0)
    rw [size_alloc] at this
    rw [hw2]
    exact this
  have HX : Hid (Bk w2 ⟨aA, nA, cA, aB, nB, cB, aM, nM, cM, aP, nP, cP⟩ a) := hx.below B2.out
  have HY : Hid (Bk w2 ⟨dA, mA, eA, dB, mB, eB, dM, mM, eM, dP, mP, eP⟩ b) := hy.below B2.out
  clear hx hy
  have E1 := eqa_any aA dA nA mA cA eA a.A b.A w2 HX.out.acc HY.out.acc HX.out.sA
  unfold sameB
  generalize decide (a.A = b.A) = q1 at E1 ⊢
  obtain ⟨q2, hq2⟩ : ∃ q, decide (a.B = b.B) = q := ⟨_, rfl⟩
  obtain ⟨q3, hq3⟩ : ∃ q, decide (a.M = b.M) = q := ⟨_, rfl⟩
  obtain ⟨q4, hq4⟩ : ∃ q, decide (a.P = b.P) = q := ⟨_, rfl⟩
  rw [hq2, hq3, hq4]
  have HQ2 : Hid (decide (a.B = b.B) = q2) := hq2
  have HQ3 : Hid (decide (a.M = b.M) = q3) := hq3
  have HQ4 : Hid (decide (a.P = b.P) = q4) := hq4
  clear hq2 hq3 hq4
  rw [hw2] at E1
  go_enter Try.func12, Try.ntmps12
  go_wp2_with fail
  go_at_call 26
  refine E1.mono ?_
  rintro e w3 ⟨rfl, n3, hw3⟩
  have B3 : Hid (Below w2.heap.size w2 w3) := by rw [hw3, ← hw2]; exact below_drewN _ _
  clear hw3 hw2 E1
  cases q1
  · go_wp2
    go_ret
    exact ⟨rt_bool (by simp), B2.out.trans (B3.out.mono B2.out.size)⟩
  have X3 : Hid (Box4 w3 w.heap.size ⟨aA, nA, cA, aB, nB, cB, aM, nM, cM, aP, nP, cP⟩) := X2.out.below B3.out
  have Y3 : Hid (Box4 w3 (w.heap.size + 1) ⟨dA, mA, eA, dB, mB, eB, dM, mM, eM, dP, mP, eP⟩) := Y2.out.below B3.out
  obtain ⟨x0, x1, x2, x3⟩ := X3.out
  obtain ⟨y0, y1, y2, y3⟩ := Y3.out
  have E2 := sameRows_any aB dB nB mB cB eB a.B b.B w3 (HX.out.bil.below B3.out) (HY.out.bil.below B3.out) HX.out.sB HX.out.hB
  rw [HQ2.out] at E2
  clear HQ2
  clear X2 Y2
  go_wp2_with fail
  go_at_call 27
  refine E2.mono ?_
  rintro e w4 ⟨rfl, n4, hw4⟩
  have B34 : Hid (Below w3.heap.size w3 w4) := by rw [hw4]; exact below_drewN _ _
  have B4 : Hid (Below w2.heap.size w2 w4) := B3.out.trans (B34.out.mono B3.out.size)
  clear hw4 E2
  cases q2
  · go_wp2
    go_ret
    exact ⟨rt_bool (by simp), B2.out.trans (B4.out.mono B2.out.size)⟩
  clear x0 x1 x2 x3 y0 y1 y2 y3
  have X4 : Hid (Box4 w4 w.heap.size ⟨aA, nA, cA, aB, nB, cB, aM, nM, cM, aP, nP, cP⟩) := X3.out.below B34.out
  have Y4 : Hid (Box4 w4 (w.heap.size + 1) ⟨dA, mA, eA, dB, mB, eB, dM, mM, eM, dP, mP, eP⟩) := Y3.out.below B34.out
  obtain ⟨x0, x1, x2, x3⟩ := X4.out
  obtain ⟨y0, y1, y2, y3⟩ := Y4.out
  have E3 := eqs_any aM dM nM mM cM eM a.M b.M w4 (HX.out.mul.below B4.out) (HY.out.mul.below B4.out) HX.out.sM
  rw [HQ3.out] at E3
  clear HQ3
  clear X3 Y3 B34 B3
  go_wp2_with fail
  go_at_call 28
  refine E3.mono ?_
  rintro e w5 ⟨rfl, n5, hw5⟩
  have B45 : Hid (Below w4.heap.size w4 w5) := by rw [hw5]; exact below_drewN _ _
  have B5 : Hid (Below w2.heap.size w2 w5) := B4.out.trans (B45.out.mono B4.out.size)
  clear hw5 E3
  cases q3
  · go_wp2
    go_ret
    exact ⟨rt_bool (by simp), B2.out.trans (B5.out.mono B2.out.size)⟩
  clear x0 x1 x2 x3 y0 y1 y2 y3
  have X5 : Hid (Box4 w5 w.heap.size ⟨aA, nA, cA, aB, nB, cB, aM, nM, cM, aP, nP, cP⟩) := X4.out.below B45.out
  have Y5 : Hid (Box4 w5 (w.heap.size + 1) ⟨dA, mA, eA, dB, mB, eB, dM, mM, eM, dP, mP, eP⟩) := Y4.out.below B45.out
  obtain ⟨x0, x1, x2, x3⟩ := X5.out
  obtain ⟨y0, y1, y2, y3⟩ := Y5.out
  have E4 := sameRows_any aP dP nP mP cP eP a.P b.P w5 (HX.out.pos.below B5.out) (HY.out.pos.below B5.out) HX.out.sP HX.out.hP
  rw [HQ4.out] at E4
  clear HQ4
  clear X4 Y4 B45 B4
  go_wp2_with fail
  go_at_call 27
  refine E4.mono ?_
  rintro e w6 ⟨rfl, n6, hw6⟩
  have B56 : Hid (Below w5.heap.size w5 w6) := by rw [hw6]; exact below_drewN _ _
  have B6 : Hid (Below w2.heap.size w2 w6) := B5.out.trans (B56.out.mono B5.out.size)
  clear hw6 E4
  go_wp2
  go_ret
  exact ⟨rt_bool (by simp), B2.out.trans (B6.out.mono B2.out.size)⟩

end Go.Proofs.Ytpaieecbedgeaaa
