/-
  The walk of MsgKinds.
-/
import Derived.Test.YtaifnlfebdochaaKnown3
namespace Go.Proofs.Ytaifnlfebdochaa
open Go.RowKit
namespace Walk

theorem msgKinds (a0 : Int) (_ : (Lit.int .i64 a0).wf = true) (w : World) : Calls Try.prog 5 #[.int .i64 a0] w fun e w' => e = .returned (.bool true) ∧ Below w.heap.size w w' := by
  have M := many_any a0
  have M2 := refMany_any a0
  obtain ⟨m, hm⟩ : ∃ m, manyS a0 = m := ⟨_, rfl⟩
  rw [hm] at M M2
  have A1 := asked_any a0
  have A2 := refAsked_any a0
  obtain ⟨b1, hb1⟩ : ∃ b1, (decide (1 ≤ a0) && decide (a0 ≤ 14)) = b1 := ⟨_, rfl⟩
  rw [hb1] at A1 A2
  have H1 := host_any a0
  have H2 := refHost_any a0
  obtain ⟨b2, hb2⟩ : ∃ b2, (decide (10 ≤ a0) && decide (a0 ≤ 14)) = b2 := ⟨_, rfl⟩
  rw [hb2] at H1 H2
  clear hm hb1 hb2
  have i1 : (m == m) = true := by simp
  have i2 : (b1 == b1) = true := by simp
  have i3 : (b2 == b2) = true := by simp
  go_enter Try.func5, Try.ntmps5
  go_wp2_with fail
  go_at_call 20
  refine (M _).mono ?_
  rintro e w1 ⟨rfl, hw⟩
  obtain rfl := hw.symm
  go_wp2_with fail
  go_at_call 21
  refine (M2 _).mono ?_
  rintro e w1 ⟨rfl, h1⟩
  go_wp2_with fail
  go_at_call 22
  refine (A1 _).mono ?_
  rintro e w2 ⟨rfl, hw2⟩
  obtain rfl := hw2.symm
  go_wp2_with fail
  go_at_call 23
  refine (A2 _).mono ?_
  rintro e w2 ⟨rfl, hw2⟩
  obtain rfl := hw2.symm
  go_wp2_with fail
  go_at_call 24
  refine (H1 _).mono ?_
  rintro e w2 ⟨rfl, hw2⟩
  obtain rfl := hw2.symm
  go_wp2_with fail
  go_at_call 25
  refine (H2 _).mono ?_
  rintro e w2 ⟨rfl, hw2⟩
  obtain rfl := hw2.symm
  go_wp2_with fail
  go_at_call 15
  refine (known_any _).mono ?_
  rintro e w2 ⟨rfl, h2⟩
  have hB := h1.trans (h2.mono h1.size)
  clear h1 h2
  go_wp2
  go_ret
  exact ⟨rfl, hB⟩

end Walk
end Go.Proofs.Ytaifnlfebdochaa
