/-
  The walk of RowIs.
-/
import Derived.Test.YtjibnbheegcnkaaKnown13
import Derived.Test.YtjibnbheegcnkaaRowRefIs
import Derived.Test.YtjibnbheegcnkaaPayArg
namespace Go.Proofs.Ytjibnbheegcnkaa
open Go.RowKit
set_option linter.unusedVariables false
set_option linter.unusedSimpArgs false
theorem PaysIn.good {w : World} {a : Option Addr} {n c : Nat} {L : List P7} (h : PaysIn w a n c L) : PGood w a n c L := ⟨h.1, h.2.2.1, h.2.2.2.1, h.2.2.2.2⟩
namespace Walk

theorem rowIs_out (a : Option Addr) (n c : Nat) (w : World) (h : 100 < n) : Calls Try.prog 4 #[.slice a n c] w fun e w' => e = .returned (.bool true) ∧ Below w.heap.size w w' := by
  have h0 : 100 < (n : Int) := by omega
  go_enter Try.func4, Try.ntmps4
  go_wp2
  go_ret
  exact ⟨rfl, Below.refl _ _⟩

set_option maxHeartbeats 2000000 in
theorem rowIs_in (a : Option Addr) (n c : Nat) (L : List P7) (w : World) (h : PGood w a n c L) (hn : n ≤ 100) : Calls Try.prog 4 #[.slice a n c] w fun e w' => e = .returned (.bool true) ∧ Below w.heap.size w w' := by
  have h0 : (n : Int) ≤ 100 := by omega
  have I1 := is_any7 a n c L w h
  have I2 := fun u (hb : Below w.heap.size w u) => refIs_any7 a n c L u (h.below hb) (by omega)
  obtain ⟨q, hq⟩ : ∃ q, qIs L = q := ⟨_, rfl⟩
  simp only [hq] at I1 I2
  clear hq h hn
  cases q
  all_goals
    go_enter Try.func4, Try.ntmps4
    go_wp2_with fail
    go_at_call 21
    refine I1.mono ?_
    rintro e w1 ⟨rfl, hb⟩
    have B1 : Hid (Below w.heap.size w w1) := hb
    have I3 := I2 w1 hb
    clear hb I1 I2
    go_wp2_with fail
    go_at_call 23
    refine I3.mono ?_
    rintro e w2 ⟨rfl, hb⟩
    have B2 : Hid (Below w.heap.size w w2) := B1.out.trans (hb.mono B1.out.size)
    clear hb I3 B1
    go_wp2_with fail
    go_at_call 22
    refine (known13 _).mono ?_
    rintro e w9 ⟨rfl, hb9⟩
    have B9 : Hid (Below w.heap.size w w9) := B2.out.trans (hb9.mono B2.out.size)
    clear hb9
    go_wp2
    go_ret
    exact ⟨rfl, B9.out⟩

theorem rowIs (a : Option Addr) (n c : Nat) (L : List P7) (w : World) (h : PaysIn w a n c L) : Calls Try.prog 4 #[.slice a n c] w fun e w' => e = .returned (.bool true) ∧ Below w.heap.size w w' := by
  by_cases hn : 100 < n
  · exact rowIs_out a n c w hn
  · exact rowIs_in a n c L w h.good (by omega)

end Walk
end Go.Proofs.Ytjibnbheegcnkaa
