/-
  The walk of MsgRest.
-/
import Derived.Test.YtaifnlfebdochaaKnown3
namespace Go.Proofs.Ytaifnlfebdochaa
open Go.RowKit
namespace Walk

theorem manyS_kind {k : Int} (h1 : 1 ≤ k) (h2 : k ≤ 23) : 0 ≤ manyS k := by
  obtain ⟨n, rfl⟩ : ∃ n : Nat, k = n := ⟨k.toNat, by omega⟩
  have : ∀ n : Nat, n < 24 → 1 ≤ n → 0 ≤ manyS n := by decide
  exact this n (by omega) (by omega)

/-- A number behind those of its kind makes it none. -/
theorem rest_is {k v : Int} (h1 : 1 ≤ k) (h2 : k ≤ 23) (hv : v ≠ 0) (n : Nat) (hn : n < 6) (fs : List Int) (hf : fs = [0, 0, 0, 0, 0, 0].set n v) : isS k fs = decide ((n : Int) < manyS k) := by
  subst hf
  have h0 := manyS_kind h1 h2
  have hr := (manyS_range k).2
  unfold isS
  generalize manyS k = m at *
  obtain ⟨m, rfl⟩ : ∃ n : Nat, m = n := ⟨m.toNat, by omega⟩
  rw [decide_eq_true h0, Bool.true_and, Int.toNat_natCast]
  have hm : m = 0 ∨ m = 1 ∨ m = 2 ∨ m = 3 ∨ m = 4 ∨ m = 5 ∨ m = 6 := by omega
  have hn' : n = 0 ∨ n = 1 ∨ n = 2 ∨ n = 3 ∨ n = 4 ∨ n = 5 := by omega
  rcases hm with rfl | rfl | rfl | rfl | rfl | rfl | rfl <;> rcases hn' with rfl | rfl | rfl | rfl | rfl | rfl <;> simp [hv]

set_option linter.unusedVariables false in
theorem rest_out0 (a0 a1 a2 : Int) (w : World) (h1 : a0 < 1) : Calls Try.prog 8 #[.int .i64 a0, .int .i64 a1, .int .i64 a2] w fun e w' => e = .returned (.bool true) ∧ Below w.heap.size w w' := by
  go_enter Try.func8, Try.ntmps8
  go_wp2
  go_ret
  exact ⟨rfl, Below.refl _ _⟩

set_option linter.unusedVariables false in
theorem rest_out1 (a0 a1 a2 : Int) (w : World) (h1 : 1 ≤ a0) (h2 : 23 < a0) : Calls Try.prog 8 #[.int .i64 a0, .int .i64 a1, .int .i64 a2] w fun e w' => e = .returned (.bool true) ∧ Below w.heap.size w w' := by
  go_enter Try.func8, Try.ntmps8
  go_wp2
  go_ret
  exact ⟨rfl, Below.refl _ _⟩

set_option linter.unusedVariables false in
theorem rest_out2 (a0 a1 a2 : Int) (w : World) (h1 : 1 ≤ a0) (h2 : a0 ≤ 23) (h3 : a1 < 0) : Calls Try.prog 8 #[.int .i64 a0, .int .i64 a1, .int .i64 a2] w fun e w' => e = .returned (.bool true) ∧ Below w.heap.size w w' := by
  go_enter Try.func8, Try.ntmps8
  go_wp2
  go_ret
  exact ⟨rfl, Below.refl _ _⟩

set_option linter.unusedVariables false in
theorem rest_out3 (a0 a1 a2 : Int) (w : World) (h1 : 1 ≤ a0) (h2 : a0 ≤ 23) (h3 : 0 ≤ a1) (h4 : 6 ≤ a1) : Calls Try.prog 8 #[.int .i64 a0, .int .i64 a1, .int .i64 a2] w fun e w' => e = .returned (.bool true) ∧ Below w.heap.size w w' := by
  go_enter Try.func8, Try.ntmps8
  go_wp2
  go_ret
  exact ⟨rfl, Below.refl _ _⟩

set_option linter.unusedVariables false in
theorem rest_out4 (a0 a1 a2 : Int) (w : World) (h1 : 1 ≤ a0) (h2 : a0 ≤ 23) (h3 : 0 ≤ a1) (h4 : a1 < 6) (h5 : (a2 == 0) = true) : Calls Try.prog 8 #[.int .i64 a0, .int .i64 a1, .int .i64 a2] w fun e w' => e = .returned (.bool true) ∧ Below w.heap.size w w' := by
  go_enter Try.func8, Try.ntmps8
  go_wp2
  go_ret
  exact ⟨rfl, Below.refl _ _⟩

set_option maxHeartbeats 4000000 in
theorem rest_in (a0 a2 : Int) (n : Nat) (b : Bool) (f0 f1 f2 f3 f4 f5 : Int) (w : World) (h1 : 1 ≤ a0) (h2 : a0 ≤ 23) (h5 : (a2 == 0) = false) (hn : n < 6) (hf : [f0, f1, f2, f3, f4, f5] = [0, 0, 0, 0, 0, 0].set n a2) (hi : isS a0 [f0, f1, f2, f3, f4, f5] = b)
    (hb : decide ((n : Int) < manyS a0) = b) (hwf : ∀ z ∈ [f0, f1, f2, f3, f4, f5], IntKind.i64.wrap z = z) :
    Calls Try.prog 8 #[.int .i64 a0, .int .i64 n, .int .i64 a2] w fun e w' => e = .returned (.bool true) ∧ Below w.heap.size w w' := by
  have M := refMany_any a0
  have I := is_any a0 f0 f1 f2 f3 f4 f5
  have B1 := fun (_ : b = true) w => bytes_is a0 f0 f1 f2 f3 f4 f5 w (by rw [hi]; assumption) hwf
  have B0 := fun (_ : b = false) w => bytes_none a0 f0 f1 f2 f3 f4 f5 w (by rw [hi]; assumption)
  have C1 := fun (_ : b = true) w => cmd_is 1 a0 f0 f1 f2 f3 f4 f5 w (by rw [hi]; assumption) hwf (by decide)
  have C0 := fun (_ : b = false) w => cmd_none 1 a0 f0 f1 f2 f3 f4 f5 w (by rw [hi]; assumption)
  rw [hi] at I
  obtain ⟨m, hm⟩ : ∃ m, manyS a0 = m := ⟨_, rfl⟩
  rw [hm] at hb M
  have hlb : 0 < (bytesS a0 [f0, f1, f2, f3, f4, f5]).length := by simp [bytesS]
  have hlc : 0 < (cmdS 1 a0 [f0, f1, f2, f3, f4, f5]).length := by rw [cmdS, List.length_append]; simp [bytesS]; omega
  obtain ⟨bs, hbs⟩ : ∃ bs, bytesS a0 [f0, f1, f2, f3, f4, f5] = bs := ⟨_, rfl⟩
  obtain ⟨cs, hcs⟩ : ∃ cs, cmdS 1 a0 [f0, f1, f2, f3, f4, f5] = cs := ⟨_, rfl⟩
  rw [hbs] at B1 hlb
  rw [hcs] at C1 hlc
  have ib : (0 : Int) < bs.length := by omega
  have ic : (0 : Int) < cs.length := by omega
  clear hm hi hwf hbs hcs hlb hlc
  have hn' : n = 0 ∨ n = 1 ∨ n = 2 ∨ n = 3 ∨ n = 4 ∨ n = 5 := by omega
  rcases hn' with rfl | rfl | rfl | rfl | rfl | rfl
  all_goals
    simp only [List.set_cons_zero, List.set_cons_succ, List.cons.injEq, and_true] at hf
    obtain ⟨rfl, rfl, rfl, rfl, rfl, rfl⟩ := hf
    simp only [Int.cast_ofNat_Int] at hb
    clear hn
    go_enter Try.func8, Try.ntmps8
    go_wp2_with fail
    go_at_call 21
    refine (M _).mono ?_
    rintro e w1 ⟨rfl, hw⟩
    obtain ⟨p0, p1, p2, p3, p4, p5, p6⟩ := seven (keeps hw (heap_alloc_new _ _))
    have b1 : Below w.heap.size w w1 := Below.trans ((Below.refl _ _).alloc (Nat.le_refl _) _) (hw.mono (by simp))
    clear hw
    go_wp2_with fail
    go_at_call 14
    refine (I _).mono ?_
    rintro e w2 ⟨rfl, hw⟩
    have p0 := hw.cell (p := ⟨w.heap.size, 0, none⟩) (block_lt_of_cell p0) |>.trans p0
    have p1 := hw.cell (p := ⟨w.heap.size, 1, none⟩) (block_lt_of_cell p1) |>.trans p1
    have p2 := hw.cell (p := ⟨w.heap.size, 2, none⟩) (block_lt_of_cell p2) |>.trans p2
    have p3 := hw.cell (p := ⟨w.heap.size, 3, none⟩) (block_lt_of_cell p3) |>.trans p3
    have p4 := hw.cell (p := ⟨w.heap.size, 4, none⟩) (block_lt_of_cell p4) |>.trans p4
    have p5 := hw.cell (p := ⟨w.heap.size, 5, none⟩) (block_lt_of_cell p5) |>.trans p5
    have p6 := hw.cell (p := ⟨w.heap.size, 6, none⟩) (block_lt_of_cell p6) |>.trans p6
    have b2 := b1.trans (hw.mono b1.size)
    clear hw b1
    rcases Bool.eq_false_or_eq_true b with rfl | rfl
    · have BB := B1 rfl
      have CC := C1 rfl
      clear B0 C0 B1 C1
      go_wp2_with fail
      go_at_call 9
      refine (BB _).mono ?_
      rintro e w3 ⟨ga, gc, rfl, hs, hc, hx, hw⟩
      have p0 := hw.cell (p := ⟨w.heap.size, 0, none⟩) (block_lt_of_cell p0) |>.trans p0
      have p1 := hw.cell (p := ⟨w.heap.size, 1, none⟩) (block_lt_of_cell p1) |>.trans p1
      have p2 := hw.cell (p := ⟨w.heap.size, 2, none⟩) (block_lt_of_cell p2) |>.trans p2
      have p3 := hw.cell (p := ⟨w.heap.size, 3, none⟩) (block_lt_of_cell p3) |>.trans p3
      have p4 := hw.cell (p := ⟨w.heap.size, 4, none⟩) (block_lt_of_cell p4) |>.trans p4
      have p5 := hw.cell (p := ⟨w.heap.size, 5, none⟩) (block_lt_of_cell p5) |>.trans p5
      have p6 := hw.cell (p := ⟨w.heap.size, 6, none⟩) (block_lt_of_cell p6) |>.trans p6
      have b3 := b2.trans (hw.mono b2.size)
      clear hw b2 hs hc hx
      go_wp2_with fail
      go_at_call 10
      refine (CC _).mono ?_
      rintro e w4 ⟨ga', gc', rfl, hs, hc, hx, hw⟩
      have b4 := b3.trans (hw.mono b3.size)
      clear hw b3 hs hc hx p0 p1 p2 p3 p4 p5 p6
      go_wp2_with fail
      go_at_call 15
      refine (known_any _).mono ?_
      rintro e w5 ⟨rfl, hw⟩
      have b5 := b4.trans (hw.mono b4.size)
      clear hw b4
      go_wp2
      go_ret
      exact ⟨rfl, b5⟩
    · have BB := B0 rfl
      have CC := C0 rfl
      clear B0 C0 B1 C1
      go_wp2_with fail
      go_at_call 9
      refine (BB _).mono ?_
      rintro e w3 ⟨rfl, hw⟩
      have p0 := hw.cell (p := ⟨w.heap.size, 0, none⟩) (block_lt_of_cell p0) |>.trans p0
      have p1 := hw.cell (p := ⟨w.heap.size, 1, none⟩) (block_lt_of_cell p1) |>.trans p1
      have p2 := hw.cell (p := ⟨w.heap.size, 2, none⟩) (block_lt_of_cell p2) |>.trans p2
      have p3 := hw.cell (p := ⟨w.heap.size, 3, none⟩) (block_lt_of_cell p3) |>.trans p3
      have p4 := hw.cell (p := ⟨w.heap.size, 4, none⟩) (block_lt_of_cell p4) |>.trans p4
      have p5 := hw.cell (p := ⟨w.heap.size, 5, none⟩) (block_lt_of_cell p5) |>.trans p5
      have p6 := hw.cell (p := ⟨w.heap.size, 6, none⟩) (block_lt_of_cell p6) |>.trans p6
      have b3 := b2.trans (hw.mono b2.size)
      clear hw b2
      go_wp2_with fail
      go_at_call 10
      refine (CC _).mono ?_
      rintro e w4 ⟨rfl, hw⟩
      have b4 := b3.trans (hw.mono b3.size)
      clear hw b3 p0 p1 p2 p3 p4 p5 p6
      go_wp2_with fail
      go_at_call 15
      refine (known_any _).mono ?_
      rintro e w5 ⟨rfl, hw⟩
      have b5 := b4.trans (hw.mono b4.size)
      clear hw b4
      go_wp2
      go_ret
      exact ⟨rfl, b5⟩

theorem msgRest (a0 a1 a2 : Int) (_ : (Lit.int .i64 a0).wf = true) (_ : (Lit.int .i64 a1).wf = true) (w2 : (Lit.int .i64 a2).wf = true) (w : World) :
    Calls Try.prog 8 #[.int .i64 a0, .int .i64 a1, .int .i64 a2] w fun e w' => e = .returned (.bool true) ∧ Below w.heap.size w w' := by
  by_cases h1 : a0 < 1
  · exact rest_out0 a0 a1 a2 w h1
  by_cases h2 : 23 < a0
  · exact rest_out1 a0 a1 a2 w (by omega) h2
  by_cases h3 : a1 < 0
  · exact rest_out2 a0 a1 a2 w (by omega) (by omega) h3
  by_cases h4 : 6 ≤ a1
  · exact rest_out3 a0 a1 a2 w (by omega) (by omega) (by omega) h4
  by_cases h5 : a2 = 0
  · exact rest_out4 a0 a1 a2 w (by omega) (by omega) (by omega) (by omega) (by simp [h5])
  obtain ⟨n, rfl⟩ : ∃ n : Nat, a1 = n := ⟨a1.toNat, by omega⟩
  have hl : (([0, 0, 0, 0, 0, 0] : List Int).set n a2).length = 6 := by simp
  obtain ⟨f0, f1, f2, f3, f4, f5, hf⟩ : ∃ f0 f1 f2 f3 f4 f5, [f0, f1, f2, f3, f4, f5] = ([0, 0, 0, 0, 0, 0] : List Int).set n a2 := by
    match ([0, 0, 0, 0, 0, 0] : List Int).set n a2, hl with
    | [f0, f1, f2, f3, f4, f5], _ => exact ⟨f0, f1, f2, f3, f4, f5, rfl⟩
  refine rest_in a0 a2 n _ f0 f1 f2 f3 f4 f5 w (by omega) (by omega) (by simp [h5]) (by omega) hf (rest_is (by omega) (by omega) h5 n (by omega) _ hf) rfl ?_
  intro z hz
  rw [hf] at hz
  rcases List.mem_or_eq_of_mem_set hz with hz | rfl
  · have : z = 0 := by simpa using hz
    subst this
    rfl
  · exact wf_i64' _ w2

end Walk
end Go.Proofs.Ytaifnlfebdochaa
