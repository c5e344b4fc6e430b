/-
  Good slices as facts of operations in a region that draws; three rows laid for slices.Concat.
-/
import Derived.Test.YtadnohkgbggoiaaConcatI
import Derived.Test.YtadnohkgbggoiaaFactK
namespace Go.Proofs.Ytadnohkgbggoiaa
open Go.RowKit
set_option linter.unusedVariables false
set_option linter.unusedSimpArgs false

def Fact.good (zs : List Int) : Fact := ⟨fun w v => ∃ a c, v = .slice a zs.length c ∧ Good w a zs.length c zs, fun _ _ _ hb ⟨a, c, h1, h2⟩ => ⟨a, c, h1, h2.below hb⟩⟩

theorem Good.lit1 (w : World) (x : Int) (hx : IntKind.i64.wrap x = x) : Good (w.alloc (.cells #[.int .i64 x] 2)) (some ⟨w.heap.size, 0, none⟩) 1 1 [x] := by
  have := Sl.new .i64 w 2 (0, 0) [x] (by simpa using hx)
  exact ⟨this, Nat.le_refl _, by omega, fun h => by cases h⟩
theorem Good.take {w : World} {a : Option Addr} {n c : Nat} {zs : List Int} (h : Good w a n c zs) (k : Nat) (hk : k ≤ n) : Good w a k c (zs.take k) := ⟨h.sl.take k hk, by have := h.cap; omega, h.max, h.nil0⟩
/-- Where the cut a[k:] begins. -/
abbrev cutK (a : Option Addr) (c k : Nat) : Option Addr := if c = k then a else Option.map (fun x => x.add k) a
theorem Good.from {w : World} {a : Option Addr} {n c : Nat} {zs : List Int} (h : Good w a n c zs) (k : Nat) (hk : k ≤ n) : Good w (cutK a c k) (n - k) (c - k) (zs.drop k) := by
  refine ⟨h.sl.cutI h.cap k hk, by have := h.cap; omega, by have := h.max; omega, fun hn => ?_⟩
  by_cases hc : c = k
  · omega
  · simp only [cutK, if_neg hc] at hn
    have := h.nil0 (by simpa using hn)
    omega

/-- Three rows, one behind the other. -/
def Three (w : World) (b : Nat) (l1 l2 l3 : List Int) : Prop :=
  ∃ a1 a2 a3 n1 n2 n3 c1 c2 c3, w.cell? ⟨b, 0, none⟩ = some (.slice a1 n1 c1) ∧ w.cell? ⟨b, 1, none⟩ = some (.slice a2 n2 c2) ∧ w.cell? ⟨b, 2, none⟩ = some (.slice a3 n3 c3) ∧ Good w a1 n1 c1 l1 ∧ Good w a2 n2 c2 l2 ∧ Good w a3 n3 c3 l3
theorem Three.below {w w' : World} {b : Nat} {l1 l2 l3 : List Int} (h : Three w b l1 l2 l3) (k : Below w.heap.size w w') : Three w' b l1 l2 l3 := by
  obtain ⟨a1, a2, a3, n1, n2, n3, c1, c2, c3, p1, p2, p3, g1, g2, g3⟩ := h
  have hg := block_lt_of_cell p1
  exact ⟨a1, a2, a3, n1, n2, n3, c1, c2, c3, (k.cell (p := ⟨b, 0, none⟩) hg).trans p1, (k.cell (p := ⟨b, 1, none⟩) hg).trans p2, (k.cell (p := ⟨b, 2, none⟩) hg).trans p3, g1.below k, g2.below k, g3.below k⟩
theorem Three.new {w : World} {a1 a2 a3 : Option Addr} {n1 n2 n3 c1 c2 c3 : Nat} {l1 l2 l3 : List Int} (g1 : Good w a1 n1 c1 l1) (g2 : Good w a2 n2 c2 l2) (g3 : Good w a3 n3 c3 l3) (t : TypeId) :
    Three (w.alloc (.cells #[.slice a1 n1 c1, .slice a2 n2 c2, .slice a3 n3 c3] t)) w.heap.size l1 l2 l3 :=
  ⟨a1, a2, a3, n1, n2, n3, c1, c2, c3, by rw [cell_new]; rfl, by rw [cell_new]; rfl, by rw [cell_new]; rfl, g1.below (box_below _ _), g2.below (box_below _ _), g3.below (box_below _ _)⟩
def Fact.three (l1 l2 l3 : List Int) : Fact := ⟨fun w v => ∃ b, v = .slice (some ⟨b, 0, none⟩) 3 3 ∧ Three w b l1 l2 l3, fun _ _ _ hb ⟨b, h1, h2⟩ => ⟨b, h1, h2.below hb⟩⟩

theorem made_fact {f : FuncId} {args : Array Value} {w : World} {zs : List Int} (h : Calls Try.prog f args w (MadeEnd w zs)) : Calls Try.prog f args w fun e w' => ∃ v, e = .returned v ∧ Below w.heap.size w w' ∧ (Fact.good zs).1 w' v :=
  h.mono fun e w' ⟨a, c, h1, h2, h3⟩ => ⟨_, h1, h3, a, c, rfl, h2⟩

theorem concat_three (b c : Nat) (l1 l2 l3 : List Int) (w : World) (h : Three w b l1 l2 l3) (h0 : 0 < l1.length + l2.length + l3.length) (hr : l1.length + l2.length + l3.length ≤ 1000000) :
    Calls Try.prog 16 #[.slice (some ⟨b, 0, none⟩) 3 c] w (MadeEnd w (l1 ++ (l2 ++ l3))) := by
  obtain ⟨a1, a2, a3, n1, n2, n3, c1, c2, c3, p1, p2, p3, g1, g2, g3⟩ := h
  have e1 := g1.sl.1
  have e2 := g2.sl.1
  have e3 := g3.sl.1
  exact concat3 b c a1 a2 a3 n1 n2 n3 c1 c2 c3 l1 l2 l3 w p1 p2 p3 g1 g2 g3 (by omega) (by omega)

end Go.Proofs.Ytadnohkgbggoiaa
