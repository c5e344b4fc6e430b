/-
  post: a payment moves.
-/
import Derived.Test.YthpcpbjgihhjeaaPostLay
import Derived.Test.YthpcpbjgihhjeaaLimOne
import Derived.Test.YthpcpbjgihhjeaaRowBase
import Derived.BigQuiet
namespace Go.Proofs.Ythpcpbjgihhjeaa
open Go.RowKit
set_option linter.unusedVariables false
set_option linter.unusedSimpArgs false

set_option maxHeartbeats 4000000 in
theorem movePos_any (w : World) (B T : Nat) (x : BA) (b : Bks) (gA sp : Nat) (g cg : Nat → Nat) (n : Nat) (fA : Nat → A3) (fP : Nat → Nat → Int) (h : PLay w B T x b gA sp g cg n fA fP) (c i j : Nat) (hi : i < n) (hj : j < n) (d : Int) (r0 : -9223372036854775808 ≤ fP i j + d) (r1 : fP i j + d ≤ 9223372036854775807) :
    Calls Try.prog 42 #[.slice (some ⟨sp, 0, none⟩) n c, .int .i64 i, .int .i64 j, .int .i64 d] w fun e w' => e = .returned (.tuple #[]) ∧ PLay w' B T x b gA sp g cg n fA (updP fP i j (fP i j + d)) ∧ Within B T w w' := by
  have s0 := h.spine hi
  have c0 := h.at' hi hj
  have f0 := h.freeP hi j
  have R : Hid (PLay (w.setCell ⟨g i, j, none⟩ (.int .i64 (fP i j + d))) B T x b gA sp g cg n fA (updP fP i j (fP i j + d)) ∧ Within B T w (w.setCell ⟨g i, j, none⟩ (.int .i64 (fP i j + d)))) :=
    ⟨h.setP hi hj (by rw [IntKind.wrap_i64]; omega), (Within.refl _ _ _).set (h.base.2.2 i hi) (h.top.2.2 i hi) _⟩
  generalize updP fP i j (fP i j + d) = fP' at R ⊢
  generalize fP i j = y at c0 r0 r1 R
  generalize g i = gi at s0 c0 f0 R
  generalize cg i = ci at s0
  have i1 : (i : Int) < (n : Int) := by omega
  have j1 : (j : Int) < (n : Int) := by omega
  clear h hi hj
  go_enter Try.func42, Try.ntmps42
  go_wp2
  go_end0
  exact ⟨rfl, R.out⟩

/-- What a payment moves. -/
def movA (fA : Nat → A3) (f t : Nat) (am cl : Int) : Nat → A3 := fun i => if i = f then ((fA f).1 - am, (fA f).2.1, if cl = 3 then (fA f).2.2 else keptV (fA f).2.2 am) else if i = t then ((fA t).1 + am, (fA t).2.1, (fA t).2.2) else fA i
def movP (fP : Nat → Nat → Int) (f t : Nat) (am : Int) : Nat → Nat → Int := fun i k => if i = f ∧ k = t then fP f t + am else if i = t ∧ k = f then fP t f - am else fP i k
theorem movP_upd (fP : Nat → Nat → Int) {f t : Nat} (h : ¬ f = t) (am : Int) : updP (updP fP f t (fP f t + am)) t f (fP t f + -am) = movP fP f t am := by
  funext i k
  unfold updP movP
  by_cases h1 : i = f ∧ k = t
  · rw [if_neg (by omega), if_pos h1, if_pos h1]
  · by_cases h2 : i = t ∧ k = f
    · rw [if_pos h2, if_neg h1, if_pos h2]; omega
    · rw [if_neg h2, if_neg h1, if_neg h1, if_neg h2]
theorem movA_plain (fA : Nat → A3) {f t : Nat} (h : ¬ f = t) (am : Int) : updA (updA fA f ((fA f).1 - am, (fA f).2)) t ((fA t).1 + am, (fA t).2) = movA fA f t am 3 := by
  funext i
  unfold updA movA
  by_cases h1 : i = f
  · rw [if_neg (by omega), if_pos h1, if_pos h1]; simp
  · by_cases h2 : i = t
    · rw [if_pos h2, if_neg h1, if_pos h2]
    · rw [if_neg h2, if_neg h1, if_neg h1, if_neg h2]
theorem movA_spent (fA : Nat → A3) {f t : Nat} (h : ¬ f = t) (am : Int) {cl : Int} (hc : ¬ cl = 3) : updA (updA (updA fA f ((fA f).1 - am, (fA f).2)) t ((fA t).1 + am, (fA t).2)) f ((fA f).1 - am, (fA f).2.1, keptV (fA f).2.2 am) = movA fA f t am cl := by
  funext i
  unfold updA movA
  by_cases h1 : i = f
  · rw [if_pos h1, if_pos h1, if_neg hc]
  · by_cases h2 : i = t
    · rw [if_neg h1, if_pos h2, if_neg h1, if_pos h2]
    · rw [if_neg h1, if_neg h2, if_neg h1, if_neg h1, if_neg h2]
section
variable {w : World} {B T : Nat} {x : BA} {b : Bks} {gA sp : Nat} {g cg : Nat → Nat} {n : Nat} {fA : Nat → A3} {fP : Nat → Nat → Int}
/-- A balance, a reserve is written. -/
theorem PLay.bal (h : PLay w B T x b gA sp g cg n fA fP) {i : Nat} (hi : i < n) (y : Int) : PLay (w.setCell ⟨gA, i * 3, none⟩ (.int .i64 y)) B T x b gA sp g cg n (updA fA i (y, (fA i).2)) fP :=
  h.setA hi 0 (by omega) (y, (fA i).2) (.int .i64 y) (fun _ => ⟨rfl, rfl⟩) (fun e => by omega) (fun e => by omega)
theorem PLay.res (h : PLay w B T x b gA sp g cg n fA fP) {i : Nat} (hi : i < n) (y : Int) : PLay (w.setCell ⟨gA, i * 3 + 2, none⟩ (.int .i64 y)) B T x b gA sp g cg n (updA fA i ((fA i).1, (fA i).2.1, y)) fP :=
  h.setA hi 2 (by omega) ((fA i).1, (fA i).2.1, y) (.int .i64 y) (fun e => by omega) (fun e => by omega) (fun _ => ⟨rfl, rfl, rfl⟩)
theorem PLay.inA (h : PLay w B T x b gA sp g cg n fA fP) (j : Nat) (u : Value) : Within B T w (w.setCell ⟨gA, j, none⟩ u) := (Within.refl _ _ _).set h.base.1 h.top.1 _
end
/-- What lies behind it stays. -/
theorem Within.box4 {B T : Nat} {w w' : World} (h : Within B T w w') {z : Nat} {x : BA} (k : Box4 w z x) (hz : T ≤ z) : Box4 w' z x :=
  ⟨h.cell k.1 (.inr hz), h.cell k.2.1 (.inr hz), h.cell k.2.2.1 (.inr hz), h.cell k.2.2.2 (.inr hz)⟩
theorem Within.at7 {B T : Nat} {w w' : World} (h : Within B T w w') {z o : Nat} {p : P7} (k : At7 w z o p) (hz : T ≤ z) : At7 w' z o p := by
  obtain ⟨h0, h1, h2, h3, h4, h5, h6⟩ := k
  exact ⟨h.cell h0 (.inr hz), h.cell h1 (.inr hz), h.cell h2 (.inr hz), h.cell h3 (.inr hz), h.cell h4 (.inr hz), h.cell h5 (.inr hz), h.cell h6 (.inr hz)⟩

set_option maxHeartbeats 8000000 in
set_option maxRecDepth 100000 in
theorem move_any (w : World) (B T : Nat) (x : BA) (b : Bks) (gA sp : Nat) (g cg : Nat → Nat) (n : Nat) (fA : Nat → A3) (fP : Nat → Nat → Int) (h : PLay w B T x b gA sp g cg n fA fP) (f t : Nat) (hf : f < n) (ht : t < n) (hne : ¬ f = t) (x0 am cl x5 x6 : Int) (m0 : 0 ≤ am) (m1 : am ≤ 9223372036854775807)
    (r0 : -9223372036854775808 ≤ (fA f).1 - am ∧ (fA f).1 - am ≤ 9223372036854775807) (r1 : -9223372036854775808 ≤ (fA t).1 + am ∧ (fA t).1 + am ≤ 9223372036854775807) (r2 : 0 ≤ (fA f).2.2 ∧ (fA f).2.2 ≤ 9223372036854775807)
    (r3 : -9223372036854775808 ≤ fP f t + am ∧ fP f t + am ≤ 9223372036854775807) (r4 : -9223372036854775808 ≤ fP t f + -am ∧ fP t f + -am ≤ 9223372036854775807) :
    Calls Try.prog 26 #[x.val, .agg #[.int .i64 x0, .int .i64 f, .int .i64 t, .int .i64 am, .int .i64 cl, .int .i64 x5, .int .i64 x6]] w fun e w' => e = .returned (.tuple #[]) ∧ PLay w' B T x b gA sp g cg n (movA fA f t am cl) (movP fP f t am) ∧ Within B T w w' := by
  have e1 := h.eA
  have e2 := h.nA
  have e3 := h.eP
  have e4 := h.nP
  obtain ⟨aA, nA, cA, aB, nB, cB, aM, nM, cM, aP, nP, cP⟩ := x
  simp only at e1 e2 e3 e4
  subst aA nA aP nP
  obtain ⟨w2, hw2⟩ : ∃ w2, w2 = (w.alloc (.cells #[.slice (some ⟨gA, 0, none⟩) n cA, .slice aB nB cB, .slice aM nM cM, .slice (some ⟨sp, 0, none⟩) n cP] 26)).alloc (.cells #[.int .i64 x0, .int .i64 f, .int .i64 t, .int .i64 am, .int .i64 cl, .int .i64 x5, .int .i64 x6] 46) := ⟨_, rfl⟩
  have B2 : Hid (Below w.heap.size w w2) := by rw [hw2]; exact (box_below _ _).alloc (box_below _ _).size _
  have X2 : Hid (Box4 w2 w.heap.size ⟨some ⟨gA, 0, none⟩, n, cA, aB, nB, cB, aM, nM, cM, some ⟨sp, 0, none⟩, n, cP⟩) := by rw [hw2]; exact (Box4.new w ⟨some ⟨gA, 0, none⟩, n, cA, aB, nB, cB, aM, nM, cM, some ⟨sp, 0, none⟩, n, cP⟩ _ _).below (box_below _ _)
  have Y2 : Hid (At7 w2 (w.heap.size + 1) 0 (x0, f, t, am, cl, x5, x6)) := by
    rw [hw2, ← size_alloc w (.cells #[.slice (some ⟨gA, 0, none⟩) n cA, .slice aB nB cB, .slice aM nM cM, .slice (some ⟨sp, 0, none⟩) n cP] 26)]
    exact At7.new _ (x0, f, t, am, cl, x5, x6) _ _
  have L2 : Hid (PLay w2 B T ⟨some ⟨gA, 0, none⟩, n, cA, aB, nB, cB, aM, nM, cM, some ⟨sp, 0, none⟩, n, cP⟩ b gA sp g cg n fA fP) := h.below B2.out
  have HT : Hid (T ≤ w.heap.size ∧ T ≤ w.heap.size + 1) := ⟨h.le, by have := h.le; omega⟩
  have HN : Hid (¬ f = t ∧ f < n ∧ t < n) := ⟨hne, hf, ht⟩
  have HR : Hid (0 ≤ (fA f).2.2 ∧ (fA f).2.2 ≤ 9223372036854775807) := r2
  have HM : Hid (0 ≤ am ∧ am ≤ 9223372036854775807) := ⟨m0, m1⟩
  have H3 : Hid (-9223372036854775808 ≤ fP f t + am ∧ fP f t + am ≤ 9223372036854775807) := r3
  have H4 : Hid (-9223372036854775808 ≤ fP t f + -am ∧ fP t f + -am ≤ 9223372036854775807) := r4
  have i1 : (f : Int) < (n : Int) := by omega
  have j1 : (t : Int) < (n : Int) := by omega
  obtain ⟨r00, r01⟩ := r0
  obtain ⟨r10, r11⟩ := r1
  obtain ⟨p0, p1, p2, p3⟩ := X2.out
  replace p0 : w2.cell? ⟨w.heap.size, 0, none⟩ = some (.slice (some ⟨gA, 0, none⟩) n cA) := p0
  obtain ⟨c0, c1, c2, c3, c4, c5, c6⟩ := Y2.out
  replace c1 : w2.cell? ⟨w.heap.size + 1, 1, none⟩ = some (.int .i64 f) := c1
  replace c2 : w2.cell? ⟨w.heap.size + 1, 2, none⟩ = some (.int .i64 t) := c2
  clear h p1 p2 p3 c0 c3 c4 c5 c6 m0 m1 r2 r3 r4 hf ht hne
  go_enter Try.func26, Try.ntmps26
  go_upto_region 1 with fail
  rw [← hw2]
  clear hw2
  go_quiet (fail)
  have X3 : Hid (Box4 (w2.drewN nq) w.heap.size ⟨some ⟨gA, 0, none⟩, n, cA, aB, nB, cB, aM, nM, cM, some ⟨sp, 0, none⟩, n, cP⟩) := X2.out.below (drawn_below w2 nq)
  have Y3 : Hid (At7 (w2.drewN nq) (w.heap.size + 1) 0 (x0, f, t, am, cl, x5, x6)) := Y2.out.below (drawn_below w2 nq)
  have L3 : Hid (PLay (w2.drewN nq) B T ⟨some ⟨gA, 0, none⟩, n, cA, aB, nB, cB, aM, nM, cM, some ⟨sp, 0, none⟩, n, cP⟩ b gA sp g cg n fA fP) := L2.out.below (drawn_below w2 nq)
  have W3 : Hid (Within B T w (w2.drewN nq)) := (Within.of B2.out).trans (Within.of (drawn_below w2 nq))
  generalize w2.drewN nq = w3 at X3 Y3 L3 W3 ⊢
  clear p0 c1 c2 X2 Y2 L2 B2 i1 j1
  obtain ⟨_, _, _, c3, _, _, _⟩ := Y3.out
  replace c3 : w3.cell? ⟨w.heap.size + 1, 3, none⟩ = some (.int .i64 am) := c3
  obtain ⟨a0, _, _⟩ := L3.out.acct HN.out.2.1
  have f0 := L3.out.freeA (f * 3)
  have L4 : Hid (PLay (w3.setCell ⟨gA, f * 3, none⟩ (.int .i64 ((fA f).1 - am))).drew B T ⟨some ⟨gA, 0, none⟩, n, cA, aB, nB, cB, aM, nM, cM, some ⟨sp, 0, none⟩, n, cP⟩ b gA sp g cg n (updA fA f ((fA f).1 - am, (fA f).2)) fP) := (L3.out.bal HN.out.2.1 _).below (drawn_below _ 1)
  have V4 : Hid (Within B T w3 (w3.setCell ⟨gA, f * 3, none⟩ (.int .i64 ((fA f).1 - am))).drew) := (L3.out.inA _ _).trans (Within.of (drawn_below _ 1))
  have A4 : Hid ((updA fA f ((fA f).1 - am, (fA f).2)) t = fA t) := by show _ = _; unfold updA; rw [if_neg (fun e => HN.out.1 e.symm)]
  go_wp2_with fail
  go_region
  generalize (w3.setCell ⟨gA, f * 3, none⟩ (.int .i64 ((fA f).1 - am))).drew = w4 at L4 V4 ⊢
  have X4 : Hid (Box4 w4 w.heap.size ⟨some ⟨gA, 0, none⟩, n, cA, aB, nB, cB, aM, nM, cM, some ⟨sp, 0, none⟩, n, cP⟩) := V4.out.box4 X3.out HT.out.1
  have Y4 : Hid (At7 w4 (w.heap.size + 1) 0 (x0, f, t, am, cl, x5, x6)) := V4.out.at7 Y3.out HT.out.2
  have W4 : Hid (Within B T w w4) := W3.out.trans V4.out
  clear X3 Y3 W3 L3 V4 c3 a0 f0
  obtain ⟨_, _, _, c3, _, _, _⟩ := Y4.out
  replace c3 : w4.cell? ⟨w.heap.size + 1, 3, none⟩ = some (.int .i64 am) := c3
  obtain ⟨a0, _, _⟩ := L4.out.acct HN.out.2.2
  rw [A4.out] at a0
  have f0 := L4.out.freeA (t * 3)
  have L5 : Hid (PLay (w4.setCell ⟨gA, t * 3, none⟩ (.int .i64 ((fA t).1 + am))).drew B T ⟨some ⟨gA, 0, none⟩, n, cA, aB, nB, cB, aM, nM, cM, some ⟨sp, 0, none⟩, n, cP⟩ b gA sp g cg n (updA (updA fA f ((fA f).1 - am, (fA f).2)) t ((fA t).1 + am, (fA t).2)) fP) := by
    have := (L4.out.bal HN.out.2.2 ((fA t).1 + am)).below (drawn_below _ 1)
    rw [A4.out] at this
    exact this
  have V5 : Hid (Within B T w4 (w4.setCell ⟨gA, t * 3, none⟩ (.int .i64 ((fA t).1 + am))).drew) := (L4.out.inA _ _).trans (Within.of (drawn_below _ 1))
  have A5 : Hid ((updA (updA fA f ((fA f).1 - am, (fA f).2)) t ((fA t).1 + am, (fA t).2)) f = ((fA f).1 - am, (fA f).2)) := by show _ = _; unfold updA; rw [if_neg HN.out.1, if_pos rfl]
  go_wp2_with fail
  go_region
  generalize (w4.setCell ⟨gA, t * 3, none⟩ (.int .i64 ((fA t).1 + am))).drew = w5 at L5 V5 ⊢
  have X5 : Hid (Box4 w5 w.heap.size ⟨some ⟨gA, 0, none⟩, n, cA, aB, nB, cB, aM, nM, cM, some ⟨sp, 0, none⟩, n, cP⟩) := V5.out.box4 X4.out HT.out.1
  have Y5 : Hid (At7 w5 (w.heap.size + 1) 0 (x0, f, t, am, cl, x5, x6)) := V5.out.at7 Y4.out HT.out.2
  have W5 : Hid (Within B T w w5) := W4.out.trans V5.out
  clear X4 Y4 W4 L4 V5 c3 a0 f0 A4 r00 r01 r10 r11
  obtain ⟨_, z1, z2, z3, z4, _, _⟩ := Y5.out
  replace z1 : w5.cell? ⟨w.heap.size + 1, 1, none⟩ = some (.int .i64 f) := z1
  replace z2 : w5.cell? ⟨w.heap.size + 1, 2, none⟩ = some (.int .i64 t) := z2
  replace z3 : w5.cell? ⟨w.heap.size + 1, 3, none⟩ = some (.int .i64 am) := z3
  replace z4 : w5.cell? ⟨w.heap.size + 1, 4, none⟩ = some (.int .i64 cl) := z4
  by_cases hc : cl = 3
  · subst hc
    have L6 : Hid (PLay w5 B T ⟨some ⟨gA, 0, none⟩, n, cA, aB, nB, cB, aM, nM, cM, some ⟨sp, 0, none⟩, n, cP⟩ b gA sp g cg n (movA fA f t am 3) fP) := by
      have := L5.out
      rw [movA_plain fA HN.out.1] at this
      exact this
    obtain ⟨fA6, h6⟩ : ∃ z, z = movA fA f t am 3 := ⟨_, rfl⟩
    rw [← h6] at L6
    have H6 : Hid (fA6 = movA fA f t am 3) := h6
    clear L5 A5 h6
    obtain ⟨_, _, _, p3⟩ := X5.out
    replace p3 : w5.cell? ⟨w.heap.size, 3, none⟩ = some (.slice (some ⟨sp, 0, none⟩) n cP) := p3
    have M := movePos_any w5 B T ⟨some ⟨gA, 0, none⟩, n, cA, aB, nB, cB, aM, nM, cM, some ⟨sp, 0, none⟩, n, cP⟩ b gA sp g cg n fA6 fP L6.out cP f t HN.out.2.1 HN.out.2.2 am H3.out.1 H3.out.2
    have HP : Hid (updP (updP fP f t (fP f t + am)) t f (fP t f + -am) = movP fP f t am) := movP_upd fP HN.out.1 am
    have HQ : Hid ((updP fP f t (fP f t + am)) t f = fP t f) := by show _ = _; unfold updP; rw [if_neg (fun e => HN.out.1 e.2)]
    go_wp2_with fail
    go_at_call 42
    refine M.mono ?_
    rintro e w8 ⟨rfl, l8, v8⟩
    have L8 : Hid (PLay w8 B T ⟨some ⟨gA, 0, none⟩, n, cA, aB, nB, cB, aM, nM, cM, some ⟨sp, 0, none⟩, n, cP⟩ b gA sp g cg n fA6 (updP fP f t (fP f t + am))) := l8
    have X8 : Hid (Box4 w8 w.heap.size ⟨some ⟨gA, 0, none⟩, n, cA, aB, nB, cB, aM, nM, cM, some ⟨sp, 0, none⟩, n, cP⟩) := v8.box4 X5.out HT.out.1
    have Y8 : Hid (At7 w8 (w.heap.size + 1) 0 (x0, f, t, am, 3, x5, x6)) := v8.at7 Y5.out HT.out.2
    have W8 : Hid (Within B T w w8) := W5.out.trans v8
    clear l8 v8 M L6 X5 Y5 W5 p3 z1 z2 z3
    obtain ⟨_, _, _, p3⟩ := X8.out
    replace p3 : w8.cell? ⟨w.heap.size, 3, none⟩ = some (.slice (some ⟨sp, 0, none⟩) n cP) := p3
    obtain ⟨_, z1, z2, z3, _, _, _⟩ := Y8.out
    replace z1 : w8.cell? ⟨w.heap.size + 1, 1, none⟩ = some (.int .i64 f) := z1
    replace z2 : w8.cell? ⟨w.heap.size + 1, 2, none⟩ = some (.int .i64 t) := z2
    replace z3 : w8.cell? ⟨w.heap.size + 1, 3, none⟩ = some (.int .i64 am) := z3
    have M := movePos_any w8 B T ⟨some ⟨gA, 0, none⟩, n, cA, aB, nB, cB, aM, nM, cM, some ⟨sp, 0, none⟩, n, cP⟩ b gA sp g cg n fA6 (updP fP f t (fP f t + am)) L8.out cP t f HN.out.2.2 HN.out.2.1 (-am) (by rw [HQ.out]; exact H4.out.1) (by rw [HQ.out]; exact H4.out.2)
    rw [HQ.out, HP.out] at M
    have g1 : -9223372036854775808 ≤ -am := by have := HM.out; omega
    have g2 : -am ≤ 9223372036854775807 := by have := HM.out; omega
    go_wp2_with fail
    go_at_call 42
    refine M.mono ?_
    rintro e w9 ⟨rfl, l9, v9⟩
    have R : Hid (PLay w9 B T ⟨some ⟨gA, 0, none⟩, n, cA, aB, nB, cB, aM, nM, cM, some ⟨sp, 0, none⟩, n, cP⟩ b gA sp g cg n (movA fA f t am 3) (movP fP f t am) ∧ Within B T w w9) := ⟨by rw [← H6.out]; exact l9, W8.out.trans v9⟩
    clear l9 v9 M L8 X8 Y8 W8 p3 z1 z2 z3 g1 g2
    go_wp2
    go_end0
    exact ⟨rfl, R.out⟩
  · have hcb : (cl == 3) = false := by simpa using hc
    have L5' : Hid (PLay w5 B T ⟨some ⟨gA, 0, none⟩, n, cA, aB, nB, cB, aM, nM, cM, some ⟨sp, 0, none⟩, n, cP⟩ b gA sp g cg n (updA (updA fA f ((fA f).1 - am, (fA f).2)) t ((fA t).1 + am, (fA t).2)) fP) := L5.out
    have HK : Hid (updA (updA (updA fA f ((fA f).1 - am, (fA f).2)) t ((fA t).1 + am, (fA t).2)) f ((fA f).1 - am, (fA f).2.1, keptV (fA f).2.2 am) = movA fA f t am cl) := movA_spent fA HN.out.1 am hc
    obtain ⟨vb, hvb⟩ : ∃ v, (fA f).1 - am = v := ⟨_, rfl⟩
    obtain ⟨vc, hvc⟩ : ∃ v, (fA f).2.1 = v := ⟨_, rfl⟩
    obtain ⟨vr, hvr⟩ : ∃ v, (fA f).2.2 = v := ⟨_, rfl⟩
    have KP := kept_any vb vc vr am (by rw [← hvr]; exact HR.out.1) (by rw [← hvr]; exact HR.out.2) HM.out.1 HM.out.2
    rw [hvr] at HK
    generalize hkv : keptV vr am = kv at KP HK
    have L6 : Hid (∀ u, Below w5.heap.size w5 u → PLay (u.setCell ⟨gA, f * 3 + 2, none⟩ (.int .i64 kv)) B T ⟨some ⟨gA, 0, none⟩, n, cA, aB, nB, cB, aM, nM, cM, some ⟨sp, 0, none⟩, n, cP⟩ b gA sp g cg n (movA fA f t am cl) fP ∧ Within B T w5 (u.setCell ⟨gA, f * 3 + 2, none⟩ (.int .i64 kv))) := fun u hu => by
      have k5 := L5.out.below hu
      have := k5.res HN.out.2.1 kv
      rw [A5.out] at this
      simp only at this
      rw [HK.out] at this
      exact ⟨this, (Within.of hu).trans (k5.inA _ _)⟩
    have F5 : Hid (∀ u, Below w5.heap.size w5 u → u.frozen? ⟨gA, f * 3 + 2, none⟩ = false) := fun u hu => (L5.out.below hu).freeA _
    have C5 : Hid (∀ u, Below w5.heap.size w5 u → u.cell? ⟨gA, f * 3, none⟩ = some (.int .i64 vb) ∧ u.cell? ⟨gA, f * 3 + 1, none⟩ = some (.int .i64 vc) ∧ u.cell? ⟨gA, f * 3 + 2, none⟩ = some (.int .i64 vr)) := fun u hu => by
      have := (L5.out.below hu).acct HN.out.2.1
      rw [A5.out] at this
      simp only [hvb, hvc, hvr] at this
      exact this
    clear hvb hvc hvr hkv L5 L5' A5 HK HR
    obtain ⟨fA6, h6⟩ : ∃ z, z = movA fA f t am cl := ⟨_, rfl⟩
    rw [← h6] at L6
    have H6 : Hid (fA6 = movA fA f t am cl) := h6
    clear h6
    go_wp2_with fail
    refine region_owes_endN 9 (L := [Fact.is (.pointer (some ⟨gA, f * 3, none⟩)),
      Fact.is (.pointer (some ⟨gA, f * 3, none⟩)),
      Fact.is (.pointer (some ⟨gA, f * 3, none⟩)),
      Fact.is (.agg #[.int .i64 vb, .int .i64 vc, .int .i64 vr]),
      Fact.is (.pointer (some ⟨w.heap.size + 1, 3, none⟩)),
      Fact.is (.int .i64 am),
      Fact.is (.int .i64 kv),
      Fact.is (.pointer (some ⟨gA, f * 3, none⟩)),
      Fact.is (.pointer (some ⟨gA, f * 3 + 2, none⟩))])
      (T := [37, 38, 39, 40, 41, 42, 43, 44, 45]) (by kernel_rfl) rfl rfl (by kernel_rfl) (by kernel_rfl) rfl ?owes ?_
    case owes =>
      simp only [List.take_succ_cons, List.take_zero]
      refine .cons (owes_move (.tmp 4) (.inl rfl) fun q u lh => ⟨wants_free rfl, lh.old 4 rfl⟩) ?_
      refine .cons (owes_move (.tmp 4) (.inl rfl) fun q u lh => ⟨wants_free rfl, lh.old 4 rfl⟩) ?_
      refine .cons (owes_value fun q u lh => ⟨wants_free rfl, .pointer (some ⟨gA, f * 3, none⟩), by have e38 : q.tmps.getD 38 undef = .pointer (some ⟨gA, f * 3, none⟩) := lh.dep 1 rfl; simp [execOp, Act.eval, e38, go_sem], rfl⟩) ?_
      refine .cons (owes_value fun q u lh => ⟨wants_free rfl, .agg #[.int .i64 vb, .int .i64 vc, .int .i64 vr], by have e39 : q.tmps.getD 39 undef = .pointer (some ⟨gA, f * 3, none⟩) := lh.dep 2 rfl; obtain ⟨y0, y1, y2⟩ := C5.out u lh.below; simp [execOp, Act.eval, e39, y0, y1, y2, go_sem], rfl⟩) ?_
      refine .cons (owes_value fun q u lh => ⟨wants_free rfl, .pointer (some ⟨w.heap.size + 1, 3, none⟩), by have e3 : q.tmps.getD 3 undef = .pointer (some ⟨w.heap.size + 1, 0, none⟩) := lh.old 3 rfl; simp [execOp, Act.eval, e3, go_sem], rfl⟩) ?_
      refine .cons (owes_value fun q u lh => ⟨wants_free rfl, .int .i64 am, by have e41 : q.tmps.getD 41 undef = .pointer (some ⟨w.heap.size + 1, 3, none⟩) := lh.dep 4 rfl; obtain ⟨_, _, _, y3, _, _, _⟩ := Y5.out.below lh.below; simp [execOp, Act.eval, e41, y3, go_sem], rfl⟩) ?_
      refine .cons (owes_call 41 Try.func41 (by kernel_rfl) (by kernel_rfl) [.tmp 40, .tmp 42] #[39, 2] rfl fun q u lh => ⟨wants_free rfl, by have e40 : q.tmps.getD 40 undef = .agg #[.int .i64 vb, .int .i64 vc, .int .i64 vr] := lh.dep 3 rfl; have e42 : q.tmps.getD 42 undef = .int .i64 am := lh.dep 5 rfl; show Calls Try.prog 41 #[q.tmps.getD 40 undef, q.tmps.getD 42 undef] u _; rw [e40, e42]; exact int_fact (KP u)⟩) ?_
      refine .cons (owes_value fun q u lh => ⟨wants_free rfl, .pointer (some ⟨gA, f * 3, none⟩), by have e37 : q.tmps.getD 37 undef = .pointer (some ⟨gA, f * 3, none⟩) := lh.dep 0 rfl; simp [execOp, Act.eval, e37, go_sem], rfl⟩) ?_
      refine .cons (owes_value fun q u lh => ⟨wants_free rfl, .pointer (some ⟨gA, f * 3 + 2, none⟩), by have e44 : q.tmps.getD 44 undef = .pointer (some ⟨gA, f * 3, none⟩) := lh.dep 7 rfl; simp [execOp, Act.eval, e44, go_sem], rfl⟩) ?_
      exact .nil _
    intro q u hb hsz hdf hold hfact
    obtain ⟨l6, v6⟩ := L6.out u hb
    have f0 := F5.out u hb
    obtain ⟨_, _, y2⟩ := C5.out u hb
    obtain ⟨w6, hw6⟩ : ∃ w6, w6 = u.setCell ⟨gA, f * 3 + 2, none⟩ (.int .i64 kv) := ⟨_, rfl⟩
    rw [← hw6] at l6 v6
    have L7 : Hid (PLay w6 B T ⟨some ⟨gA, 0, none⟩, n, cA, aB, nB, cB, aM, nM, cM, some ⟨sp, 0, none⟩, n, cP⟩ b gA sp g cg n fA6 fP) := l6
    have X6 : Hid (Box4 w6 w.heap.size ⟨some ⟨gA, 0, none⟩, n, cA, aB, nB, cB, aM, nM, cM, some ⟨sp, 0, none⟩, n, cP⟩) := v6.box4 X5.out HT.out.1
    have Y6 : Hid (At7 w6 (w.heap.size + 1) 0 (x0, f, t, am, cl, x5, x6)) := v6.at7 Y5.out HT.out.2
    have W6 : Hid (Within B T w w6) := W5.out.trans v6
    clear l6 v6 hb L6 F5 C5
    obtain rfl := frame_puts hsz hdf [37, 38, 39, 40, 41, 42, 43, 44, 45] hold [(37, Value.pointer (some ⟨gA, f * 3, none⟩)), (38, Value.pointer (some ⟨gA, f * 3, none⟩)), (39, Value.pointer (some ⟨gA, f * 3, none⟩)), (40, Value.agg #[.int .i64 vb, .int .i64 vc, .int .i64 vr]), (41, Value.pointer (some ⟨w.heap.size + 1, 3, none⟩)), (42, Value.int .i64 am), (43, Value.int .i64 kv), (44, Value.pointer (some ⟨gA, f * 3, none⟩)), (45, Value.pointer (some ⟨gA, f * 3 + 2, none⟩))] ⟨hfact 0 (by decide), hfact 1 (by decide), hfact 2 (by decide), hfact 3 (by decide), hfact 4 (by decide), hfact 5 (by decide), hfact 6 (by decide), hfact 7 (by decide), hfact 8 (by decide), trivial⟩ rfl
    clear hsz hdf hold hfact
    clear X5 Y5 W5 KP z1 z2 z3 z4
    simp only [puts, Act.put, List.setIfInBounds_toArray, List.set_cons_zero, List.set_cons_succ]
    go_upto_region 6 with fail
    rw [← hw6]
    clear hw6 y2 f0
    obtain ⟨_, z1, z2, z3, _, _, _⟩ := Y6.out
    replace z1 : w6.cell? ⟨w.heap.size + 1, 1, none⟩ = some (.int .i64 f) := z1
    replace z2 : w6.cell? ⟨w.heap.size + 1, 2, none⟩ = some (.int .i64 t) := z2
    replace z3 : w6.cell? ⟨w.heap.size + 1, 3, none⟩ = some (.int .i64 am) := z3
    obtain ⟨_, _, _, p3⟩ := X6.out
    replace p3 : w6.cell? ⟨w.heap.size, 3, none⟩ = some (.slice (some ⟨sp, 0, none⟩) n cP) := p3
    have M := movePos_any w6 B T ⟨some ⟨gA, 0, none⟩, n, cA, aB, nB, cB, aM, nM, cM, some ⟨sp, 0, none⟩, n, cP⟩ b gA sp g cg n fA6 fP L7.out cP f t HN.out.2.1 HN.out.2.2 am H3.out.1 H3.out.2
    have HP : Hid (updP (updP fP f t (fP f t + am)) t f (fP t f + -am) = movP fP f t am) := movP_upd fP HN.out.1 am
    have HQ : Hid ((updP fP f t (fP f t + am)) t f = fP t f) := by show _ = _; unfold updP; rw [if_neg (fun e => HN.out.1 e.2)]
    go_wp2_with fail
    go_at_call 42
    refine M.mono ?_
    rintro e w8 ⟨rfl, l8, v8⟩
    have L8 : Hid (PLay w8 B T ⟨some ⟨gA, 0, none⟩, n, cA, aB, nB, cB, aM, nM, cM, some ⟨sp, 0, none⟩, n, cP⟩ b gA sp g cg n fA6 (updP fP f t (fP f t + am))) := l8
    have X8 : Hid (Box4 w8 w.heap.size ⟨some ⟨gA, 0, none⟩, n, cA, aB, nB, cB, aM, nM, cM, some ⟨sp, 0, none⟩, n, cP⟩) := v8.box4 X6.out HT.out.1
    have Y8 : Hid (At7 w8 (w.heap.size + 1) 0 (x0, f, t, am, cl, x5, x6)) := v8.at7 Y6.out HT.out.2
    have W8 : Hid (Within B T w w8) := W6.out.trans v8
    clear l8 v8 M L7 X6 Y6 W6 p3 z1 z2 z3
    obtain ⟨_, _, _, p3⟩ := X8.out
    replace p3 : w8.cell? ⟨w.heap.size, 3, none⟩ = some (.slice (some ⟨sp, 0, none⟩) n cP) := p3
    obtain ⟨_, z1, z2, z3, _, _, _⟩ := Y8.out
    replace z1 : w8.cell? ⟨w.heap.size + 1, 1, none⟩ = some (.int .i64 f) := z1
    replace z2 : w8.cell? ⟨w.heap.size + 1, 2, none⟩ = some (.int .i64 t) := z2
    replace z3 : w8.cell? ⟨w.heap.size + 1, 3, none⟩ = some (.int .i64 am) := z3
    have M := movePos_any w8 B T ⟨some ⟨gA, 0, none⟩, n, cA, aB, nB, cB, aM, nM, cM, some ⟨sp, 0, none⟩, n, cP⟩ b gA sp g cg n fA6 (updP fP f t (fP f t + am)) L8.out cP t f HN.out.2.2 HN.out.2.1 (-am) (by rw [HQ.out]; exact H4.out.1) (by rw [HQ.out]; exact H4.out.2)
    rw [HQ.out, HP.out] at M
    have g1 : -9223372036854775808 ≤ -am := by have := HM.out; omega
    have g2 : -am ≤ 9223372036854775807 := by have := HM.out; omega
    go_wp2_with fail
    go_at_call 42
    refine M.mono ?_
    rintro e w9 ⟨rfl, l9, v9⟩
    have R : Hid (PLay w9 B T ⟨some ⟨gA, 0, none⟩, n, cA, aB, nB, cB, aM, nM, cM, some ⟨sp, 0, none⟩, n, cP⟩ b gA sp g cg n (movA fA f t am cl) (movP fP f t am) ∧ Within B T w w9) := ⟨by rw [← H6.out]; exact l9, W8.out.trans v9⟩
    clear l9 v9 M L8 X8 Y8 W8 p3 z1 z2 z3 g1 g2
    go_wp2
    go_end0
    exact ⟨rfl, R.out⟩

end Go.Proofs.Ythpcpbjgihhjeaa
