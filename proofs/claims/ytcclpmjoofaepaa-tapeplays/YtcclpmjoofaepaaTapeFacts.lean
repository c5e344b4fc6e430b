/-
  tape: facts of its readers, for regions that draw their order.
-/
import Derived.Test.YtcclpmjoofaepaaKnown4
import Derived.Test.YtcclpmjoofaepaaFacts3
import Derived.Test.YtcclpmjoofaepaaFacts2
namespace Go.Proofs.Ytcclpmjoofaepaa
open Go.RowKit
set_option linter.unusedVariables false

theorem eq_str {x y : Operand} {s : ByteArray} : ∀ w, (do eqGuard .eql 9 x y (.string s) (.string s); binOp .eql 9 (.string s) (.string s) : Sem Value).run Try.prog w = .ok (.bool true) w := by
  intro w; simp [go_sem, eqGuard]
theorem eq_int {x y : Operand} {n : Int} : ∀ w, (do eqGuard .eql 32 x y (.int .i64 n) (.int .i64 n); binOp .eql 32 (.int .i64 n) (.int .i64 n) : Sem Value).run Try.prog w = .ok (.bool true) w := by
  intro w; simp [go_sem, eqGuard]
theorem eq_num {x y : Operand} {n : Int} : ∀ w, (do eqGuard .eql 3 x y (.int .i64 n) (.int .i64 n); binOp .eql 3 (.int .i64 n) (.int .i64 n) : Sem Value).run Try.prog w = .ok (.bool true) w := by
  intro w; simp [go_sem, eqGuard]

theorem known_fact (w : World) : Calls Try.prog 26 #[] w fun e w' => ∃ v, e = .returned v ∧ Below w.heap.size w w' ∧ (Fact.is (.bool true)).1 w' v := by
  refine (known_true w).mono ?_
  rintro e w' ⟨rfl, h⟩
  exact ⟨_, rfl, h, rfl⟩

theorem D.read_bs {d : D} (h : d.Ok) (side : Int) : Bs (d.read side) := by
  unfold D.read
  split
  · exact h.b0
  · split
    · exact h.b1
    · exact Bs.nil

theorem read_fact (b : Nat) (u : World) (S : Nat → Prop) (d : D) (h : Deck u S b d) (side : Int) (zs : List Int) (n : Nat) (hz : d.read side = zs) (hn : zs.length = n) :
    Calls Try.prog 24 #[.pointer (some ⟨b, 0, none⟩), .int .i64 side] u fun e w' => ∃ v, e = .returned v ∧ Below u.heap.size u w' ∧ (Fact.sl .u8 n zs).1 w' v := by
  refine (deck_read b u S d h side).mono ?_
  have hb := D.read_bs h.ok side
  rw [hz] at hb ⊢
  rintro e w' ⟨v, rfl, ho, k⟩
  have hc := ho
  obtain ⟨a, c, rfl, hs, hn'⟩ := Sl.own ho hb
  have := own_cap hc
  subst hn
  exact ⟨_, rfl, k, a, c, rfl, hs, this.1, this.2⟩

theorem down_fact (b : Nat) (u : World) (S : Nat → Prop) (d : D) (h : Deck u S b d) (x : Bool) (hx : d.dn = x) :
    Calls Try.prog 21 #[.pointer (some ⟨b, 0, none⟩)] u fun e w' => ∃ v, e = .returned v ∧ Below u.heap.size u w' ∧ (Fact.is (.bool x)).1 w' v := by
  refine (deck_down b u S d h).mono ?_
  rintro e w' ⟨rfl, rfl⟩
  exact ⟨_, rfl, Below.refl _ _, by rw [hx]; rfl⟩

theorem ops_fact (b : Nat) (u : World) (S : Nat → Prop) (d : D) (h : Deck u S b d) (x : Int) (hx : (d.ops : Int) = x) :
    Calls Try.prog 22 #[.pointer (some ⟨b, 0, none⟩)] u fun e w' => ∃ v, e = .returned v ∧ Below u.heap.size u w' ∧ (Fact.is (.int .i64 x)).1 w' v := by
  refine (deck_ops b u S d h).mono ?_
  rintro e w' ⟨rfl, rfl⟩
  exact ⟨_, rfl, Below.refl _ _, by rw [hx]; rfl⟩
theorem room_fact (b : Nat) (u : World) (S : Nat → Prop) (d : D) (h : Deck u S b d) (x : Int) (hx : d.room = x) :
    Calls Try.prog 23 #[.pointer (some ⟨b, 0, none⟩)] u fun e w' => ∃ v, e = .returned v ∧ Below u.heap.size u w' ∧ (Fact.is (.int .i64 x)).1 w' v := by
  refine (deck_room b u S d h).mono ?_
  rintro e w' ⟨rfl, rfl⟩
  exact ⟨_, rfl, Below.refl _ _, by rw [hx]; rfl⟩

end Go.Proofs.Ytcclpmjoofaepaa
