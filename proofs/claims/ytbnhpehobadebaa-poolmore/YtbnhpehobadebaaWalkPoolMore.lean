/-
  The walk of PoolMore.
-/
import Derived.Test.YtbnhpehobadebaaPoolKnown
import Derived.Test.YtbnhpehobadebaaArgs
namespace Go.Proofs.Ytbnhpehobadebaa
open Go.RowKit
set_option linter.unusedVariables false
set_option linter.unusedSimpArgs false
namespace Walk

theorem worth_more {p m c p' m' c' : Int} (p0 : 0 ≤ p) (p1 : p ≤ p') (p2 : p' ≤ 1058576) (m0 : 0 ≤ m) (m1 : m ≤ m') (m2 : m' ≤ 1099511637776) (c0 : 0 ≤ c') (c1 : c' ≤ c) (c2 : c ≤ 10000) :
    worthB p m c = true ∧ worthB p' m' c' = true ∧ worthV p m c ≤ worthV p' m' c' := by
  have a0 : 0 ≤ p * m := Int.mul_nonneg p0 m0
  have a1 : p * m ≤ p' * m' := Int.mul_le_mul p1 m1 m0 (by omega)
  have a2 : p' * m' ≤ 1058576 * 1099511637776 := Int.mul_le_mul p2 m2 (by omega) (by decide)
  have b0 : 0 ≤ p * m * (10000 - c) := Int.mul_nonneg a0 (by omega)
  have b1 : p * m * (10000 - c) ≤ p' * m' * (10000 - c') := Int.mul_le_mul a1 (by omega) (by omega) (by omega)
  have b2 : p' * m' * (10000 - c') ≤ 1058576 * 1099511637776 * 10000 := Int.mul_le_mul a2 (by omega) (by omega) (by decide)
  rw [worthB_yes p0 m0 (by omega) c2, worthB_yes (by omega) (by omega) c0 (by omega), worthV_yes p0 m0 (by omega) c2, worthV_yes (by omega) (by omega) c0 (by omega)]
  generalize p * m * (10000 - c) = X at *
  generalize p' * m' * (10000 - c') = Y at *
  have d0 : 0 ≤ X / 10000 := by omega
  have d1 : X / 10000 ≤ Y / 10000 := by omega
  have d2 : Y / 10000 ≤ 1163916431593975776 + 1000000000000000000 := by omega
  rw [heldB_yes (by omega) (by omega), heldB_yes (by omega) (by omega), heldV_yes (by omega) (by omega), heldV_yes (by omega) (by omega)]
  exact ⟨rfl, rfl, d1⟩

set_option maxHeartbeats 4000000 in
theorem poolMore_out (price many cut way more : Int) (w : World) (h : ¬ (0 ≤ price ∧ price ≤ 1048576 ∧ 0 ≤ many ∧ many ≤ 1099511627776 ∧ 0 ≤ cut ∧ cut ≤ 10000 ∧ 0 ≤ more ∧ more ≤ 10000 ∧ 0 ≤ way ∧ way ≤ 2)) :
    Calls Try.prog 4 #[.int .i64 price, .int .i64 many, .int .i64 cut, .int .i64 way, .int .i64 more] w fun e w' => e = .returned (.bool true) ∧ Below w.heap.size w w' := by
  by_cases h0 : price < 0
  · clear h
    go_enter Try.func4, Try.ntmps4
    go_wp2
    go_ret
    exact ⟨rfl, Below.refl _ _⟩
  by_cases h1 : 1048576 < price
  · clear h
    go_enter Try.func4, Try.ntmps4
    go_wp2
    go_ret
    exact ⟨rfl, Below.refl _ _⟩
  by_cases h2 : many < 0
  · clear h
    go_enter Try.func4, Try.ntmps4
    go_wp2
    go_ret
    exact ⟨rfl, Below.refl _ _⟩
  by_cases h3 : 1099511627776 < many
  · clear h
    go_enter Try.func4, Try.ntmps4
    go_wp2
    go_ret
    exact ⟨rfl, Below.refl _ _⟩
  by_cases h4 : cut < 0
  · clear h
    go_enter Try.func4, Try.ntmps4
    go_wp2
    go_ret
    exact ⟨rfl, Below.refl _ _⟩
  by_cases h5 : 10000 < cut
  · clear h
    go_enter Try.func4, Try.ntmps4
    go_wp2
    go_ret
    exact ⟨rfl, Below.refl _ _⟩
  by_cases h6 : more < 0
  · clear h
    go_enter Try.func4, Try.ntmps4
    go_wp2
    go_ret
    exact ⟨rfl, Below.refl _ _⟩
  by_cases h7 : 10000 < more
  · clear h
    go_enter Try.func4, Try.ntmps4
    go_wp2
    go_ret
    exact ⟨rfl, Below.refl _ _⟩
  by_cases h8 : way < 0
  · clear h
    go_enter Try.func4, Try.ntmps4
    go_wp2
    go_ret
    exact ⟨rfl, Below.refl _ _⟩
  have h9 : 2 < way := by omega
  clear h
  go_enter Try.func4, Try.ntmps4
  go_wp2
  go_ret
  exact ⟨rfl, Below.refl _ _⟩

set_option maxHeartbeats 4000000 in
theorem poolMore_price (price many cut more : Int) (w : World) (h0 : 0 ≤ price) (h1 : price ≤ 1048576) (h2 : 0 ≤ many) (h3 : many ≤ 1099511627776) (h4 : 0 ≤ cut) (h5 : cut ≤ 10000) (h6 : 0 ≤ more) (h7 : more ≤ 10000) :
    Calls Try.prog 4 #[.int .i64 price, .int .i64 many, .int .i64 cut, .int .i64 0, .int .i64 more] w fun e w' => e = .returned (.bool true) ∧ Below w.heap.size w w' := by
  have V1 := value_one cut price many (i64_wf (by omega) (by omega)) (i64_wf (by omega) (by omega)) w
  have V2 := fun u => value_one (cut) (price + more) (many) (i64_wf (by omega) (by omega)) (i64_wf (by omega) (by omega)) u
  obtain ⟨e1, e2, e3⟩ := worth_more (p := price) (m := many) (c := cut) (p' := price + more) (m' := many) (c' := cut) (by omega) (by omega) (by omega) (by omega) (by omega) (by omega) (by omega) (by omega) (by omega)
  rw [e1] at V1
  simp only [e2] at V2
  clear e1 e2
  generalize worthV price many cut = x at V1 e3
  generalize worthV (price + more) (many) (cut) = y at V2 e3
  have E : Hid (x ≤ y) := e3
  clear e3
  go_enter Try.func4, Try.ntmps4
  go_wp2_with fail
  go_at_call 7
  refine V1.mono ?_
  rintro e w1 ⟨rfl, B1⟩
  have H1 : Hid (Below w.heap.size w w1) := B1
  clear B1 V1
  go_wp2_with fail
  go_at_call 7
  refine (V2 w1).mono ?_
  rintro e w2 ⟨rfl, B2⟩
  have H2 : Hid (Below w.heap.size w w2) := H1.out.trans (B2.mono H1.out.size)
  have E1 : x ≤ y := E.out
  clear B2 V2 H1 E
  go_wp2_with fail
  go_at_call 12
  refine (known_any w2).mono ?_
  rintro e w3 ⟨rfl, B3⟩
  have H3 : Hid (Below w.heap.size w w3) := H2.out.trans (B3.mono H2.out.size)
  clear B3 H2
  go_wp2
  go_ret
  exact ⟨rfl, H3.out⟩

set_option maxHeartbeats 4000000 in
theorem poolMore_many (price many cut more : Int) (w : World) (h0 : 0 ≤ price) (h1 : price ≤ 1048576) (h2 : 0 ≤ many) (h3 : many ≤ 1099511627776) (h4 : 0 ≤ cut) (h5 : cut ≤ 10000) (h6 : 0 ≤ more) (h7 : more ≤ 10000) :
    Calls Try.prog 4 #[.int .i64 price, .int .i64 many, .int .i64 cut, .int .i64 1, .int .i64 more] w fun e w' => e = .returned (.bool true) ∧ Below w.heap.size w w' := by
  have V1 := value_one cut price many (i64_wf (by omega) (by omega)) (i64_wf (by omega) (by omega)) w
  have V2 := fun u => value_one (cut) (price) (many + more) (i64_wf (by omega) (by omega)) (i64_wf (by omega) (by omega)) u
  obtain ⟨e1, e2, e3⟩ := worth_more (p := price) (m := many) (c := cut) (p' := price) (m' := many + more) (c' := cut) (by omega) (by omega) (by omega) (by omega) (by omega) (by omega) (by omega) (by omega) (by omega)
  rw [e1] at V1
  simp only [e2] at V2
  clear e1 e2
  generalize worthV price many cut = x at V1 e3
  generalize worthV (price) (many + more) (cut) = y at V2 e3
  have E : Hid (x ≤ y) := e3
  clear e3
  go_enter Try.func4, Try.ntmps4
  go_wp2_with fail
  go_at_call 7
  refine V1.mono ?_
  rintro e w1 ⟨rfl, B1⟩
  have H1 : Hid (Below w.heap.size w w1) := B1
  clear B1 V1
  go_wp2_with fail
  go_at_call 7
  refine (V2 w1).mono ?_
  rintro e w2 ⟨rfl, B2⟩
  have H2 : Hid (Below w.heap.size w w2) := H1.out.trans (B2.mono H1.out.size)
  have E1 : x ≤ y := E.out
  clear B2 V2 H1 E
  go_wp2_with fail
  go_at_call 12
  refine (known_any w2).mono ?_
  rintro e w3 ⟨rfl, B3⟩
  have H3 : Hid (Below w.heap.size w w3) := H2.out.trans (B3.mono H2.out.size)
  clear B3 H2
  go_wp2
  go_ret
  exact ⟨rfl, H3.out⟩

set_option maxHeartbeats 4000000 in
theorem poolMore_cut (price many cut more : Int) (w : World) (h0 : 0 ≤ price) (h1 : price ≤ 1048576) (h2 : 0 ≤ many) (h3 : many ≤ 1099511627776) (h4 : 0 ≤ cut) (h5 : cut ≤ 10000) (h6 : 0 ≤ more) (h7 : more ≤ 10000) (h8 : more < cut) :
    Calls Try.prog 4 #[.int .i64 price, .int .i64 many, .int .i64 cut, .int .i64 2, .int .i64 more] w fun e w' => e = .returned (.bool true) ∧ Below w.heap.size w w' := by
  have V1 := value_one cut price many (i64_wf (by omega) (by omega)) (i64_wf (by omega) (by omega)) w
  have V2 := fun u => value_one (cut - more) (price) (many) (i64_wf (by omega) (by omega)) (i64_wf (by omega) (by omega)) u
  obtain ⟨e1, e2, e3⟩ := worth_more (p := price) (m := many) (c := cut) (p' := price) (m' := many) (c' := cut - more) (by omega) (by omega) (by omega) (by omega) (by omega) (by omega) (by omega) (by omega) (by omega)
  rw [e1] at V1
  simp only [e2] at V2
  clear e1 e2
  generalize worthV price many cut = x at V1 e3
  generalize worthV (price) (many) (cut - more) = y at V2 e3
  have E : Hid (x ≤ y) := e3
  clear e3
  go_enter Try.func4, Try.ntmps4
  go_wp2_with fail
  go_at_call 7
  refine V1.mono ?_
  rintro e w1 ⟨rfl, B1⟩
  have H1 : Hid (Below w.heap.size w w1) := B1
  clear B1 V1
  go_wp2_with fail
  go_at_call 7
  refine (V2 w1).mono ?_
  rintro e w2 ⟨rfl, B2⟩
  have H2 : Hid (Below w.heap.size w w2) := H1.out.trans (B2.mono H1.out.size)
  have E1 : x ≤ y := E.out
  clear B2 V2 H1 E
  go_wp2_with fail
  go_at_call 12
  refine (known_any w2).mono ?_
  rintro e w3 ⟨rfl, B3⟩
  have H3 : Hid (Below w.heap.size w w3) := H2.out.trans (B3.mono H2.out.size)
  clear B3 H2
  go_wp2
  go_ret
  exact ⟨rfl, H3.out⟩

set_option maxHeartbeats 4000000 in
theorem poolMore_none (price many cut more : Int) (w : World) (h0 : 0 ≤ price) (h1 : price ≤ 1048576) (h2 : 0 ≤ many) (h3 : many ≤ 1099511627776) (h4 : 0 ≤ cut) (h5 : cut ≤ 10000) (h6 : 0 ≤ more) (h7 : more ≤ 10000) (h8 : cut ≤ more) :
    Calls Try.prog 4 #[.int .i64 price, .int .i64 many, .int .i64 cut, .int .i64 2, .int .i64 more] w fun e w' => e = .returned (.bool true) ∧ Below w.heap.size w w' := by
  have V1 := value_one cut price many (i64_wf (by omega) (by omega)) (i64_wf (by omega) (by omega)) w
  have V2 := fun u => value_one (0) (price) (many) (i64_wf (by omega) (by omega)) (i64_wf (by omega) (by omega)) u
  obtain ⟨e1, e2, e3⟩ := worth_more (p := price) (m := many) (c := cut) (p' := price) (m' := many) (c' := 0) (by omega) (by omega) (by omega) (by omega) (by omega) (by omega) (by omega) (by omega) (by omega)
  rw [e1] at V1
  simp only [e2] at V2
  clear e1 e2
  generalize worthV price many cut = x at V1 e3
  generalize worthV (price) (many) (0) = y at V2 e3
  have E : Hid (x ≤ y) := e3
  clear e3
  go_enter Try.func4, Try.ntmps4
  go_wp2_with fail
  go_at_call 7
  refine V1.mono ?_
  rintro e w1 ⟨rfl, B1⟩
  have H1 : Hid (Below w.heap.size w w1) := B1
  clear B1 V1
  go_wp2_with fail
  go_at_call 7
  refine (V2 w1).mono ?_
  rintro e w2 ⟨rfl, B2⟩
  have H2 : Hid (Below w.heap.size w w2) := H1.out.trans (B2.mono H1.out.size)
  have E1 : x ≤ y := E.out
  clear B2 V2 H1 E
  go_wp2_with fail
  go_at_call 12
  refine (known_any w2).mono ?_
  rintro e w3 ⟨rfl, B3⟩
  have H3 : Hid (Below w.heap.size w w3) := H2.out.trans (B3.mono H2.out.size)
  clear B3 H2
  go_wp2
  go_ret
  exact ⟨rfl, H3.out⟩

theorem poolMore (a0 a1 a2 a3 a4 : Int) (w0 : (Lit.int .i64 a0).wf = true) (w1 : (Lit.int .i64 a1).wf = true) (w2 : (Lit.int .i64 a2).wf = true) (w3 : (Lit.int .i64 a3).wf = true) (w4 : (Lit.int .i64 a4).wf = true) (w : World) :
    Calls Try.prog 4 #[.int .i64 a0, .int .i64 a1, .int .i64 a2, .int .i64 a3, .int .i64 a4] w fun e w' => e = .returned (.bool true) ∧ Below w.heap.size w w' := by
  by_cases h : 0 ≤ a0 ∧ a0 ≤ 1048576 ∧ 0 ≤ a1 ∧ a1 ≤ 1099511627776 ∧ 0 ≤ a2 ∧ a2 ≤ 10000 ∧ 0 ≤ a4 ∧ a4 ≤ 10000 ∧ 0 ≤ a3 ∧ a3 ≤ 2
  · obtain ⟨h0, h1, h2, h3, h4, h5, h6, h7, h8, h9⟩ := h
    have : a3 = 0 ∨ a3 = 1 ∨ a3 = 2 := by omega
    rcases this with rfl | rfl | rfl
    · exact poolMore_price a0 a1 a2 a4 w h0 h1 h2 h3 h4 h5 h6 h7
    · exact poolMore_many a0 a1 a2 a4 w h0 h1 h2 h3 h4 h5 h6 h7
    · by_cases k : a4 < a2
      · exact poolMore_cut a0 a1 a2 a4 w h0 h1 h2 h3 h4 h5 h6 h7 k
      · exact poolMore_none a0 a1 a2 a4 w h0 h1 h2 h3 h4 h5 h6 h7 (by omega)
  · exact poolMore_out a0 a1 a2 a3 a4 w h

end Walk
end Go.Proofs.Ytbnhpehobadebaa
