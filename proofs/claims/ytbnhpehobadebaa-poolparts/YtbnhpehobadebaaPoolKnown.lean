/-
  One asset; girolaw8.known.
-/
import Derived.Test.YtbnhpehobadebaaPoolValue
import Derived.Test.YtbnhpehobadebaaPoolSet
import Derived.Test.YtbnhpehobadebaaSame
namespace Go.Proofs.Ytbnhpehobadebaa
open Go.RowKit
set_option linter.unusedVariables false
set_option linter.unusedSimpArgs false

theorem worth_none {p m c : Int} (h : worthB p m c = false) : worthV p m c = 0 := by
  unfold worthB at h
  unfold worthV
  split
  · rename_i ha
    rw [ha, Bool.true_and] at h
    by_cases k : -9223372036854775808 ≤ p * m * (10000 - c) / 10000 ∧ p * m * (10000 - c) / 10000 ≤ 9223372036854775807
    · rw [heldB_yes k.1 k.2] at h; cases h
    · exact heldV_no k
  · rfl

theorem value_1 (p h c : Nat → Int) : valueV 1 1 1 p h c = worthV (p 0) (h 0) (c 0) ∧ valueB 1 1 1 p h c = worthB (p 0) (h 0) (c 0) := by
  have b := worthV_bound (p 0) (h 0) (c 0)
  have e : heldB (worthV (p 0) (h 0) (c 0)) = true := heldB_yes b.1 b.2
  have hB : valueB 1 1 1 p h c = worthB (p 0) (h 0) (c 0) := by simp [valueB, vOk, vV, e]
  refine ⟨?_, hB⟩
  unfold valueV
  rw [hB]
  cases q : worthB (p 0) (h 0) (c 0)
  · simp [worth_none q]
  · simp [vV]

/-- The three literals that a law lays ahead of Value. -/
abbrev lit1 (w : World) (cut price many : Int) : World := ((w.alloc (.cells #[.int .i64 0, .int .i64 cut] 31)).alloc (.cells #[.int .i64 price] 2)).alloc (.cells #[.int .i64 many] 2)

theorem size_alloc (w : World) (o : Obj) : (w.alloc o).heap.size = w.heap.size + 1 := by simp

theorem value_one (cut price many : Int) (hp : IntKind.i64.wrap price = price) (hm : IntKind.i64.wrap many = many) (w : World) :
    Calls Try.prog 7 #[.slice (some ⟨w.heap.size, 0, none⟩) 1 1, .slice (some ⟨w.heap.size + 1, 0, none⟩) 1 1, .slice (some ⟨w.heap.size + 2, 0, none⟩) 1 1] (lit1 w cut price many) fun e w' =>
      e = .returned (.tuple #[.int .i64 (worthV price many cut), .bool (worthB price many cut)]) ∧ Below w.heap.size w w' := by
  obtain ⟨u1, h1⟩ : ∃ u, u = w.alloc (.cells #[.int .i64 0, .int .i64 cut] 31) := ⟨_, rfl⟩
  obtain ⟨u2, h2⟩ : ∃ u, u = u1.alloc (.cells #[.int .i64 price] 2) := ⟨_, rfl⟩
  obtain ⟨u3, h3⟩ : ∃ u, u = u2.alloc (.cells #[.int .i64 many] 2) := ⟨_, rfl⟩
  have s1 : u1.heap.size = w.heap.size + 1 := by rw [h1, size_alloc]
  have s2 : u2.heap.size = w.heap.size + 2 := by rw [h2, size_alloc, s1]
  have b1 : Below w.heap.size w u1 := by rw [h1]; exact (Below.refl _ _).alloc (Nat.le_refl _) _
  have b2 : Below u1.heap.size u1 u2 := by rw [h2]; exact (Below.refl _ _).alloc (Nat.le_refl _) _
  have b3 : Below u2.heap.size u2 u3 := by rw [h3]; exact (Below.refl _ _).alloc (Nat.le_refl _) _
  have hA : Asts u1 (some ⟨w.heap.size, 0, none⟩) 1 (fun _ => 0) (fun _ => cut) := by
    refine .inr ⟨w.heap.size, 0, rfl, by omega, ?_⟩
    intro r hr
    obtain rfl : r = 0 := by omega
    rw [h1]
    exact ⟨cell_new _ _ _ _ _, cell_new _ _ _ _ _⟩
  have hP : Sl .i64 u2 (some ⟨w.heap.size + 1, 0, none⟩) 1 [price] := by
    have := Sl.new .i64 u1 2 (0, 0) [price] (by simpa using hp)
    rw [← s1, h2]
    exact this
  have hH : Sl .i64 u3 (some ⟨w.heap.size + 2, 0, none⟩) 1 [many] := by
    have := Sl.new .i64 u2 2 (0, 0) [many] (by simpa using hm)
    rw [← s2, h3]
    exact this
  have e3 : lit1 w cut price many = u3 := by rw [h3, h2, h1]
  rw [e3]
  refine (value_any _ _ _ 1 1 1 1 1 1 _ _ _ _ u3 ((hA.below b2).below b3) (hP.below b3) hH (by decide)).mono ?_
  rintro e w' ⟨rfl, hb⟩
  obtain ⟨v1, v2⟩ := value_1 (fun i => [price].getD i 0) (fun i => [many].getD i 0) (fun _ => cut)
  refine ⟨by rw [v1, v2]; rfl, ?_⟩
  exact ((b1.trans (b2.mono (by omega))).trans (b3.mono (by omega))).trans (hb.mono (by have := b3.size; omega))

set_option maxHeartbeats 2000000 in
theorem known_any (w : World) : Calls Try.prog 12 #[] w fun e w' => e = .returned (.bool true) ∧ Below w.heap.size w w' := by
  have V := value_one 1000 100 10 (by decide) (by decide) w
  have e1 : worthV 100 10 1000 = 900 := by decide
  have e2 : worthB 100 10 1000 = true := by decide
  rw [e1, e2] at V
  go_enter Try.func12, Try.ntmps12
  go_wp2_with fail
  go_at_call 7
  refine V.mono ?_
  rintro e w1 ⟨rfl, hb1⟩
  have B1 : Hid (Below w.heap.size w w1) := hb1
  clear V hb1 e1 e2
  have N1 : Sl .i64 (w1.alloc (.cells #[.int .i64 1, .int .i64 2] 2)) (some ⟨w1.heap.size, 0, none⟩) 2 [1, 2] := Sl.new .i64 w1 2 (0, 0) [1, 2] (by decide)
  have b2 : Below w.heap.size w (w1.alloc (.cells #[.int .i64 1, .int .i64 2] 2)) := B1.out.alloc B1.out.size _
  have S1 := set_any (some ⟨w1.heap.size, 0, none⟩) 2 2 [1, 2] 1 5 (w1.alloc (.cells #[.int .i64 1, .int .i64 2] 2)) N1 (by decide) (by decide)
  clear N1
  go_wp2_with fail
  go_at_call 10
  refine S1.mono ?_
  rintro e w3 ⟨g, cap, rfl, hs3, hg, hcap, hb3⟩
  have B3 : Hid (Below w.heap.size w w3) := b2.trans (hb3.mono b2.size)
  clear S1 b2 hb3 B1 hcap
  have N2 : Sl .i64 (w3.alloc (.cells #[.int .i64 1, .int .i64 5] 2)) (some ⟨w3.heap.size, 0, none⟩) 2 [1, 5] := Sl.new .i64 w3 2 (0, 0) [1, 5] (by decide)
  have hs4 := hs3.below ((Below.refl w3.heap.size w3).alloc (Nat.le_refl _) (.cells #[.int .i64 1, .int .i64 5] 2))
  have B4 : Hid (Below w.heap.size w (w3.alloc (.cells #[.int .i64 1, .int .i64 5] 2))) := B3.out.alloc B3.out.size _
  have S2 := same_any (some ⟨g, 0, none⟩) (some ⟨w3.heap.size, 0, none⟩) 2 2 cap 2 (setS [1, 2] 1 5) [1, 5] (w3.alloc (.cells #[.int .i64 1, .int .i64 5] 2)) hs4 N2 (by decide)
  have e3 : decide (setS [1, 2] 1 5 = [1, 5]) = true := by decide
  rw [e3] at S2
  clear N2 hs4 hs3 e3 hg B3
  go_wp2_with fail
  go_at_call 9
  refine S2.mono ?_
  rintro e w5 ⟨rfl, nn, hw5⟩
  have B5 : Hid (Below w.heap.size w w5) := by rw [hw5]; exact below_drewN B4.out _
  clear S2 hw5 B4
  go_wp2
  go_ret
  exact ⟨rfl, B5.out⟩

end Go.Proofs.Ytbnhpehobadebaa
