/-
  pay: payments, and what is asked of one: the program's answers and the document's.
-/
import Derived.Test.YtddikbkodinmiaaDayRest
namespace Go.Proofs.Ytddikbkodinmiaa
open Go.RowKit
set_option linter.unusedVariables false
set_option linter.unusedSimpArgs false

/-- A payment: ID, From, To, Amount, Class, Start, Till. -/
abbrev P7 := Int × Int × Int × Int × Int × Int × Int
abbrev P7.id (p : P7) : Int := p.1
abbrev P7.fr (p : P7) : Int := p.2.1
abbrev P7.to (p : P7) : Int := p.2.2.1
abbrev P7.am (p : P7) : Int := p.2.2.2.1
abbrev P7.cl (p : P7) : Int := p.2.2.2.2.1
abbrev P7.st (p : P7) : Int := p.2.2.2.2.2.1
abbrev P7.ti (p : P7) : Int := p.2.2.2.2.2.2
/-- Its value. -/
abbrev P7.val (p : P7) : Value := .agg #[.int .i64 p.id, .int .i64 p.fr, .int .i64 p.to, .int .i64 p.am, .int .i64 p.cl, .int .i64 p.st, .int .i64 p.ti]
def p70 : P7 := (0, 0, 0, 0, 0, 0, 0)

/-- Seven int64s that lie at g, from o on. -/
def At7 (w : World) (g o : Nat) (p : P7) : Prop :=
  w.cell? ⟨g, o, none⟩ = some (.int .i64 p.id) ∧ w.cell? ⟨g, o + 1, none⟩ = some (.int .i64 p.fr) ∧ w.cell? ⟨g, o + 2, none⟩ = some (.int .i64 p.to) ∧ w.cell? ⟨g, o + 3, none⟩ = some (.int .i64 p.am) ∧ w.cell? ⟨g, o + 4, none⟩ = some (.int .i64 p.cl) ∧ w.cell? ⟨g, o + 5, none⟩ = some (.int .i64 p.st) ∧ w.cell? ⟨g, o + 6, none⟩ = some (.int .i64 p.ti)

theorem At7.below {w w' : World} {g o : Nat} {p : P7} (h : At7 w g o p) (hb : Below w.heap.size w w') : At7 w' g o p := by
  obtain ⟨h0, h1, h2, h3, h4, h5, h6⟩ := h
  have hg := block_lt_of_cell h0
  exact ⟨by rw [hb.cell (p := ⟨g, o, none⟩) hg]; exact h0, by rw [hb.cell (p := ⟨g, o + 1, none⟩) hg]; exact h1, by rw [hb.cell (p := ⟨g, o + 2, none⟩) hg]; exact h2, by rw [hb.cell (p := ⟨g, o + 3, none⟩) hg]; exact h3, by rw [hb.cell (p := ⟨g, o + 4, none⟩) hg]; exact h4, by rw [hb.cell (p := ⟨g, o + 5, none⟩) hg]; exact h5, by rw [hb.cell (p := ⟨g, o + 6, none⟩) hg]; exact h6⟩
theorem At7.new (w : World) (p : P7) (t : TypeId) (fr : Nat × Nat) : At7 (w.alloc (.cells #[.int .i64 p.id, .int .i64 p.fr, .int .i64 p.to, .int .i64 p.am, .int .i64 p.cl, .int .i64 p.st, .int .i64 p.ti] t fr)) w.heap.size 0 p :=
  ⟨by rw [cell_new]; rfl, by rw [cell_new]; rfl, by rw [cell_new]; rfl, by rw [cell_new]; rfl, by rw [cell_new]; rfl, by rw [cell_new]; rfl, by rw [cell_new]; rfl⟩

/-- Is it ready at a tick? -/
def readyB (s u t : Int) : Bool := decide (s ≤ t ∧ t ≤ u)
/-- Is it late? -/
def lateB (u t : Int) : Bool := decide (u < t)
theorem readyB_no {s u t : Int} (h : t < s) : false = readyB s u t := by unfold readyB; symm; rw [decide_eq_false_iff_not]; omega
theorem readyB_rest {s u t : Int} (h : s ≤ t) : decide (t ≤ u) = readyB s u t := by simp [readyB, h]

theorem ready_any (i f o m c s u t : Int) (w : World) :
    Calls Try.prog 10 #[.agg #[.int .i64 i, .int .i64 f, .int .i64 o, .int .i64 m, .int .i64 c, .int .i64 s, .int .i64 u], .int .i64 t] w fun e w' => e = .returned (.bool (readyB s u t)) ∧ Below w.heap.size w w' := by
  rcases Int.lt_or_le t s with h | h
  · go_enter Try.func10, Try.ntmps10
    go_wp2
    go_ret
    exact ⟨rt_bool (readyB_no h), box_below _ _⟩
  · go_enter Try.func10, Try.ntmps10
    go_wp2
    go_ret
    exact ⟨rt_bool (readyB_rest h), box_below _ _⟩

theorem refReady_any (i f o m c s u t : Int) (w : World) :
    Calls Try.prog 11 #[.agg #[.int .i64 i, .int .i64 f, .int .i64 o, .int .i64 m, .int .i64 c, .int .i64 s, .int .i64 u], .int .i64 t] w fun e w' => e = .returned (.bool (readyB s u t)) ∧ Below w.heap.size w w' := by
  rcases Int.lt_or_le t s with h | h
  · go_enter Try.func11, Try.ntmps11
    go_wp2
    go_ret
    exact ⟨rt_bool (readyB_no h), box_below _ _⟩
  · go_enter Try.func11, Try.ntmps11
    go_wp2
    go_ret
    exact ⟨rt_bool (readyB_rest h), box_below _ _⟩

theorem late_any (i f o m c s u t : Int) (w : World) :
    Calls Try.prog 12 #[.agg #[.int .i64 i, .int .i64 f, .int .i64 o, .int .i64 m, .int .i64 c, .int .i64 s, .int .i64 u], .int .i64 t] w fun e w' => e = .returned (.bool (lateB u t)) ∧ Below w.heap.size w w' := by
  go_enter Try.func12, Try.ntmps12
  go_wp2
  go_ret
  exact ⟨rfl, box_below _ _⟩

theorem refLate_any (i f o m c s u t : Int) (w : World) :
    Calls Try.prog 13 #[.agg #[.int .i64 i, .int .i64 f, .int .i64 o, .int .i64 m, .int .i64 c, .int .i64 s, .int .i64 u], .int .i64 t] w fun e w' => e = .returned (.bool (lateB u t)) ∧ Below w.heap.size w w' := by
  go_enter Try.func13, Try.ntmps13
  go_wp2
  go_ret
  exact ⟨rfl, box_below _ _⟩

/-- May there be such a payment, taken at a tick? n: how many parties. -/
def partyB (n i : Int) : Bool := decide (0 ≤ i ∧ i < n)
def twoB (n f o : Int) : Bool := partyB n f && (partyB n o && f != o)
def amB (m : Int) : Bool := decide (1 ≤ m ∧ m ≤ 1099511627776)
def clB (c : Int) : Bool := decide (1 ≤ c ∧ c ≤ 3)
def tmB (s u t : Int) : Bool := decide (0 ≤ s ∧ s ≤ u ∧ t ≤ u ∧ u ≤ 1048576)
def payB (n : Int) (i f o m c s u t : Int) : Bool := decide (1 ≤ i) && (twoB n f o && (amB m && (clB c && tmB s u t)))
/-- What Check answers. -/
def ckS (n cut cl : Int) (i f o m c s u t : Int) : Int := if payB n i f o m c s u t then mayS cut cl t c else 1

theorem partyB_no {n i : Int} (h : i < 0) : false = partyB n i := by unfold partyB; symm; rw [decide_eq_false_iff_not]; omega
theorem partyB_rest {n i : Int} (h : 0 ≤ i) : decide (i < n) = partyB n i := by simp [partyB, h]
theorem amB_no {m : Int} (h : m < 1) : false = amB m := by unfold amB; symm; rw [decide_eq_false_iff_not]; omega
theorem amB_rest {m : Int} (h : 1 ≤ m) : decide (m ≤ 1099511627776) = amB m := by simp [amB, h]
theorem clB_1 {c : Int} (h : c = 1) : true = clB c := by subst h; rfl
theorem clB_2 {c : Int} (h : c = 2) : true = clB c := by subst h; rfl
theorem clB_rest {c : Int} (h1 : ¬ c = 1) (h2 : ¬ c = 2) : (c == 3) = clB c := by unfold clB; rw [Bool.eq_iff_iff]; simp; omega
theorem tmB_low {s u t : Int} (h : s < 0) : false = tmB s u t := by unfold tmB; symm; rw [decide_eq_false_iff_not]; omega
theorem tmB_turned {s u t : Int} (h : u < s) : false = tmB s u t := by unfold tmB; symm; rw [decide_eq_false_iff_not]; omega
theorem tmB_late {s u t : Int} (h : u < t) : false = tmB s u t := by unfold tmB; symm; rw [decide_eq_false_iff_not]; omega
theorem tmB_rest {s u t : Int} (h1 : 0 ≤ s) (h2 : s ≤ u) (h3 : t ≤ u) : decide (u ≤ 1048576) = tmB s u t := by simp [tmB, h1, h2, h3]

theorem isParty_any (p : Int) (a : Option Addr) (len cap : Nat) (cut cl per i : Int) (w : World) :
    Calls Try.prog 25 #[.agg #[.int .i64 p, .slice a len cap, .int .i64 cut, .int .i64 cl, .int .i64 per], .int .i64 i] w fun e w' => e = .returned (.bool (partyB p i)) ∧ Below w.heap.size w w' := by
  rcases Int.lt_or_le i 0 with h | h
  · go_enter Try.func25, Try.ntmps25
    go_wp2
    go_ret
    exact ⟨rt_bool (partyB_no h), box_below _ _⟩
  · go_enter Try.func25, Try.ntmps25
    go_wp2
    go_ret
    exact ⟨rt_bool (partyB_rest h), box_below _ _⟩

set_option maxHeartbeats 1000000 in
theorem areTwoOf_any (p : Int) (a : Option Addr) (len cap : Nat) (cut cl per f o : Int) (w : World) :
    Calls Try.prog 18 #[.agg #[.int .i64 p, .slice a len cap, .int .i64 cut, .int .i64 cl, .int .i64 per], .int .i64 f, .int .i64 o] w fun e w' => e = .returned (.bool (twoB p f o)) ∧ Below w.heap.size w w' := by
  have P1 := isParty_any p a len cap cut cl per f
  have P2 := isParty_any p a len cap cut cl per o
  unfold twoB
  generalize partyB p f = q1 at P1 ⊢
  generalize partyB p o = q2 at P2 ⊢
  have R0 : Hid (RulAt (w.alloc (.cells #[.int .i64 p, .slice a len cap, .int .i64 cut, .int .i64 cl, .int .i64 per] 24)) w.heap.size p a len cap cut cl per) := rul_new _ _ _ _ _ _ _ _ _ _
  go_enter Try.func18, Try.ntmps18
  go_wp2_with fail
  go_at_call 25
  refine (P1 _).mono ?_
  rintro e w1 ⟨rfl, hb⟩
  have B1 : Hid (Below w.heap.size w w1) := (box_below _ _).trans (hb.mono (box_below _ _).size)
  obtain ⟨p0, p1, p2, p3, p4⟩ := R0.out.below hb
  clear hb P1 R0
  cases q1
  · go_wp2
    go_ret
    exact ⟨rfl, B1.out⟩
  go_wp2_with fail
  go_at_call 25
  refine (P2 _).mono ?_
  rintro e w2 ⟨rfl, hb⟩
  have B2 : Hid (Below w.heap.size w w2) := B1.out.trans (hb.mono B1.out.size)
  clear hb P2 p0 p1 p2 p3 p4
  cases q2
  · go_wp2
    go_ret
    exact ⟨rfl, B2.out⟩
  go_wp2
  go_ret
  exact ⟨rt_bool (by simp), B2.out⟩

theorem isAmount_any (m : Int) (w : World) : Calls Try.prog 19 #[.int .i64 m] w fun e w' => e = .returned (.bool (amB m)) ∧ w' = w := by
  rcases Int.lt_or_le m 1 with h | h
  · go_enter Try.func19, Try.ntmps19
    go_wp2
    go_ret
    exact ⟨rt_bool (amB_no h), rfl⟩
  · go_enter Try.func19, Try.ntmps19
    go_wp2
    go_ret
    exact ⟨rt_bool (amB_rest h), rfl⟩

theorem isClass_any (c : Int) (w : World) : Calls Try.prog 20 #[.int .i64 c] w fun e w' => e = .returned (.bool (clB c)) ∧ w' = w := by
  by_cases h1 : c = 1
  · subst h1
    go_enter Try.func20, Try.ntmps20
    go_wp2
    go_ret
    exact ⟨rt_bool (clB_1 rfl), rfl⟩
  by_cases h2 : c = 2
  · subst h2
    go_enter Try.func20, Try.ntmps20
    go_wp2
    go_ret
    exact ⟨rt_bool (clB_2 rfl), rfl⟩
  have HR : Hid ((c == 3) = clB c) := clB_rest h1 h2
  have k1 : (c == 1) = false := by simpa using h1
  have k2 : (c == 2) = false := by simpa using h2
  clear h1 h2
  go_enter Try.func20, Try.ntmps20
  go_wp2
  go_ret
  exact ⟨rt_bool HR.out, rfl⟩

set_option maxHeartbeats 1000000 in
theorem isTime_any (i f o m c s u t : Int) (w : World) :
    Calls Try.prog 21 #[.agg #[.int .i64 i, .int .i64 f, .int .i64 o, .int .i64 m, .int .i64 c, .int .i64 s, .int .i64 u], .int .i64 t] w fun e w' => e = .returned (.bool (tmB s u t)) ∧ Below w.heap.size w w' := by
  rcases Int.lt_or_le s 0 with h1 | h1
  · go_enter Try.func21, Try.ntmps21
    go_wp2
    go_ret
    exact ⟨rt_bool (tmB_low h1), box_below _ _⟩
  rcases Int.lt_or_le u s with h2 | h2
  · go_enter Try.func21, Try.ntmps21
    go_wp2
    go_ret
    exact ⟨rt_bool (tmB_turned h2), box_below _ _⟩
  have L := late_any i f o m c s u t
  have A0 : Hid (At7 (w.alloc (.cells #[.int .i64 i, .int .i64 f, .int .i64 o, .int .i64 m, .int .i64 c, .int .i64 s, .int .i64 u] 26)) w.heap.size 0 (i, f, o, m, c, s, u)) := At7.new w (i, f, o, m, c, s, u) _ _
  rcases Int.lt_or_le u t with h3 | h3
  · rw [show lateB u t = true from decide_eq_true h3] at L
    go_enter Try.func21, Try.ntmps21
    go_wp2_with fail
    go_at_call 12
    refine (L _).mono ?_
    rintro e w1 ⟨rfl, hb⟩
    have B1 : Hid (Below w.heap.size w w1) := (box_below _ _).trans (hb.mono (box_below _ _).size)
    clear hb L
    go_wp2
    go_ret
    exact ⟨rt_bool (tmB_late h3), B1.out⟩
  · rw [show lateB u t = false from decide_eq_false (by omega)] at L
    go_enter Try.func21, Try.ntmps21
    go_wp2_with fail
    go_at_call 12
    refine (L _).mono ?_
    rintro e w1 ⟨rfl, hb⟩
    have B1 : Hid (Below w.heap.size w w1) := (box_below _ _).trans (hb.mono (box_below _ _).size)
    obtain ⟨c0, c1, c2, c3, c4, c5, c6⟩ := A0.out.below hb
    clear hb L A0
    go_wp2
    go_ret
    exact ⟨rt_bool (tmB_rest h1 h2 h3), B1.out⟩

end Go.Proofs.Ytddikbkodinmiaa
