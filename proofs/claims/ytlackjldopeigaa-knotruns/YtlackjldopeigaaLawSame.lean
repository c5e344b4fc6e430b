/-
  A law's own same: books, a row, what was settled.
-/
import Derived.Test.YtlackjldopeigaaFreeSt
import Derived.Test.YtlackjldopeigaaRowRefs
import Derived.Test.YtlackjldopeigaaLimOne
import Derived.Test.YtlackjldopeigaaBkApart
import Derived.Test.YtlackjldopeigaaLimSome
namespace Go.Proofs.Ytlackjldopeigaa
open Go.RowKit
set_option linter.unusedVariables false
set_option linter.unusedSimpArgs false

set_option maxHeartbeats 4000000 in
theorem law_same (x z : BA) (b : Bks) (a1 a2 a3 a4 : Option Addr) (n1 c1 n2 c2 n3 c3 n4 c4 : Nat) (l d : List P7) (w : World) (hx : Bk w x b) (hz : Bk w z b) (h1 : PGood w a1 n1 c1 l) (h2 : PGood w a2 n2 c2 d) (h3 : PGood w a3 n3 c3 l) (h4 : PGood w a4 n4 c4 d) :
    Calls Try.prog 15 #[x.val, .slice a1 n1 c1, .slice a2 n2 c2, z.val, .slice a3 n3 c3, .slice a4 n4 c4] w fun e w' => e = .returned (.bool true) ∧ Below w.heap.size w w' := by
  have RS := fun u (hu : Below w.heap.size w u) => refSame_any x z b b u (hx.below hu) (hz.below hu)
  rw [show sameB b b = true from sameB_yes.2 rfl] at RS
  have S1 := fun u (hu : Below w.heap.size w u) => same_true a1 a3 n1 n3 c1 c3 l u (h1.below hu) (h3.below hu)
  have S2 := fun u (hu : Below w.heap.size w u) => same_true a2 a4 n2 n4 c2 c4 d u (h2.below hu) (h4.below hu)
  obtain ⟨aA, nA, cA, aB, nB, cB, aM, nM, cM, aP, nP, cP⟩ := x
  obtain ⟨yA, mA, eA, yB, mB, eB, yM, mM, eM, yP, mP, eP⟩ := z
  obtain ⟨w2, hw2⟩ : ∃ w2, w2 = (w.alloc (.cells #[.slice aA nA cA, .slice aB nB cB, .slice aM nM cM, .slice aP nP cP] 27)).alloc (.cells #[.slice yA mA eA, .slice yB mB eB, .slice yM mM eM, .slice yP mP eP] 27) := ⟨_, rfl⟩
  have B2 : Hid (Below w.heap.size w w2) := by rw [hw2]; exact (box_below _ _).alloc (box_below _ _).size _
  have X2 : Hid (Box4 w2 w.heap.size ⟨aA, nA, cA, aB, nB, cB, aM, nM, cM, aP, nP, cP⟩) := by rw [hw2]; exact (Box4.new w ⟨aA, nA, cA, aB, nB, cB, aM, nM, cM, aP, nP, cP⟩ _ _).below (box_below _ _)
  have Y2 : Hid (Box4 w2 (w.heap.size + 1) ⟨yA, mA, eA, yB, mB, eB, yM, mM, eM, yP, mP, eP⟩) := by
    rw [hw2]
    have := Box4.new (w.alloc (.cells #[.slice aA nA cA, .slice aB nB cB, .slice aM nM cM, .slice aP nP cP] 27)) ⟨yA, mA, eA, yB, mB, eB, yM, mM, eM, yP, mP, eP⟩ 27 (0, 0)
    rw [size_alloc] at this
    exact this
  have RS := RS w2 B2.out
  obtain ⟨p0, p1, p2, p3⟩ := X2.out
  replace p0 : w2.cell? ⟨w.heap.size, 0, none⟩ = some (.slice aA nA cA) := p0
  replace p1 : w2.cell? ⟨w.heap.size, 1, none⟩ = some (.slice aB nB cB) := p1
  replace p2 : w2.cell? ⟨w.heap.size, 2, none⟩ = some (.slice aM nM cM) := p2
  replace p3 : w2.cell? ⟨w.heap.size, 3, none⟩ = some (.slice aP nP cP) := p3
  obtain ⟨o0, o1, o2, o3⟩ := Y2.out
  replace o0 : w2.cell? ⟨w.heap.size + 1, 0, none⟩ = some (.slice yA mA eA) := o0
  replace o1 : w2.cell? ⟨w.heap.size + 1, 1, none⟩ = some (.slice yB mB eB) := o1
  replace o2 : w2.cell? ⟨w.heap.size + 1, 2, none⟩ = some (.slice yM mM eM) := o2
  replace o3 : w2.cell? ⟨w.heap.size + 1, 3, none⟩ = some (.slice yP mP eP) := o3
  clear hx hz h1 h2 h3 h4
  go_enter Try.func15, Try.ntmps15
  go_upto_region 1 with fail
  rw [← hw2]
  clear hw2
  go_wp2_with fail
  go_at_call 25
  refine RS.mono ?_
  rintro e w3 ⟨rfl, hb⟩
  have B3 : Hid (Below w.heap.size w w3) := B2.out.trans (hb.mono B2.out.size)
  have S1 := S1 w3 B3.out
  clear RS hb p0 p1 p2 p3 o0 o1 o2 o3
  go_wp2_with fail
  go_at_call 26
  refine S1.mono ?_
  rintro e w4 ⟨rfl, hb⟩
  have B4 : Hid (Below w.heap.size w w4) := B3.out.trans (hb.mono B3.out.size)
  have S2 := S2 w4 B4.out
  clear S1 hb
  go_wp2_with fail
  go_at_call 26
  refine S2.mono ?_
  rintro e w5 ⟨rfl, hb⟩
  have B5 : Hid (Below w.heap.size w w5) := B4.out.trans (hb.mono B4.out.size)
  clear S2 hb
  go_wp2
  go_ret
  exact ⟨rfl, B5.out⟩

theorem bkF_fact {f : FuncId} {args : Array Value} {w : World} {b : Bks} (h : Calls Try.prog f args w (SomeEnd w b)) : Calls Try.prog f args w fun e w' => ∃ v, e = .returned v ∧ Below w.heap.size w w' ∧ (Fact.bk b).1 w' v :=
  h.mono fun e w' ⟨y, h1, h2, h3⟩ => ⟨_, h1, h3, y, rfl, h2.bk⟩

end Go.Proofs.Ytlackjldopeigaa
