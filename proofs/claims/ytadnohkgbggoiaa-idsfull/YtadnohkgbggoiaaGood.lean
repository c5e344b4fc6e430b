/-
  Slices of int64s in full: elements and room; what a call that makes a list leaves.
-/
import Derived.Test.YtadnohkgbggoiaaNew
import Derived.Test.YtadnohkgbggoiaaBytes
namespace Go.Proofs.Ytadnohkgbggoiaa
open Go.RowKit
set_option linter.unusedVariables false
set_option linter.unusedSimpArgs false

/-- A slice of int64s in full: its elements, its room. -/
structure Good (w : World) (a : Option Addr) (n c : Nat) (zs : List Int) : Prop where
  sl : Sl .i64 w a n zs
  cap : n ≤ c
  max : c ≤ 9223372036854775807
  nil0 : a = none → c = 0
theorem Good.below {w w' : World} {a : Option Addr} {n c : Nat} {zs : List Int} (h : Good w a n c zs) (k : Below w.heap.size w w') : Good w' a n c zs := ⟨h.sl.below k, h.cap, h.max, h.nil0⟩
theorem Good.nil (w : World) : Good w none 0 0 [] := ⟨Sl.nil _ _ _, Nat.le_refl _, by omega, fun _ => rfl⟩
theorem Good.own {w : World} {base : Nat} {v : Value} {n : Nat} {zs : List Int} (h : w.ownsRow base 2 1 v n (zs.map (Value.int .i64))) (hwf : ∀ n ∈ zs, IntKind.i64.wrap n = n) : ∃ a c, v = .slice a zs.length c ∧ Good w a zs.length c zs := by
  obtain ⟨a, c, hv, hs, hn⟩ := Sl.own h hwf
  subst hv
  have := own_cap h
  exact ⟨a, c, rfl, hs, this.1, this.2, hn⟩

/-- What a call that makes a list leaves. -/
def MadeEnd (w : World) (zs : List Int) (e : Ending) (w' : World) : Prop := ∃ a c, e = .returned (.slice a zs.length c) ∧ Good w' a zs.length c zs ∧ Below w.heap.size w w'

end Go.Proofs.Ytadnohkgbggoiaa
