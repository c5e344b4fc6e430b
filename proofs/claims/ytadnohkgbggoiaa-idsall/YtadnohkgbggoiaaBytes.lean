/-
  Bytes: lists of them; a slice that the call owns, by its form.
-/
import Derived.Test.YtadnohkgbggoiaaSl
namespace Go.Proofs.Ytadnohkgbggoiaa
open Go.RowKit
set_option linter.unusedVariables false

/-- All are bytes. -/
def Bs (z : List Int) : Prop := ∀ n ∈ z, IntKind.u8.wrap n = n
theorem Bs.take {z : List Int} (h : Bs z) (n : Nat) : Bs (z.take n) := fun x hx => h x (List.mem_of_mem_take hx)
theorem Bs.drop {z : List Int} (h : Bs z) (n : Nat) : Bs (z.drop n) := fun x hx => h x (List.mem_of_mem_drop hx)
theorem Bs.append {z y : List Int} (h : Bs z) (k : Bs y) : Bs (z ++ y) := fun x hx => by
  rcases List.mem_append.1 hx with hx | hx
  · exact h x hx
  · exact k x hx
theorem Bs.nil : Bs [] := fun x hx => by simp at hx

theorem own_form {w : World} {B : Nat} {T : TypeId} {v : Value} {n : Nat} {xs : List Value} (h : w.ownsRow B T 1 v n xs) : ∃ a c, v = .slice a n c := by
  rcases h.2 with ⟨rfl, rfl⟩ | ⟨g, cap, cur, rfl, _⟩
  · exact ⟨none, 0, rfl⟩
  · exact ⟨_, _, rfl⟩

end Go.Proofs.Ytadnohkgbggoiaa
