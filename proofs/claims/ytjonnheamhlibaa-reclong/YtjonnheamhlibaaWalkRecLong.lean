/-
  girolaw5.RecLong.
-/
import Derived.Test.YtjonnheamhlibaaKnown5
import Derived.Test.YtjonnheamhlibaaZeros
import Derived.Test.YtjonnheamhlibaaArgs
namespace Go.Proofs.Ytjonnheamhlibaa
open Go.RowKit
set_option linter.unusedVariables false
set_option linter.unusedSimpArgs false

theorem scanS_long : scanS (255 :: 255 :: zeros 70000) = ([], 70002) := by
  rw [scanS_stop 255 255 _ (.inl (by decide)), zeros_len]

theorem twoCells (w : World) (j : Nat) (v : Value) (h : [Value.int .u8 255, Value.int .u8 255][j]? = some v) : (w.alloc (.cells #[.int .u8 255, .int .u8 255] 5)).cell? ((⟨w.heap.size, 0, none⟩ : Addr).add j) = some v := by
  rw [Addr.add_flat, Nat.zero_add, cell_of_row _ w.heap.size j _ _ _ (heap_alloc_new w _)]
  simpa using h

theorem long_well (a0 : Int) (n : Nat) (w : World) (h0 : 60000 + a0 = n) (h1 : a0 ≤ 0) (h2 : -3 ≤ a0) :
    Calls Try.prog 5 #[.int .i64 a0] w fun e w' => e = .returned (.bool true) ∧ Below w.heap.size w w' := by
  obtain ⟨i0, hi, hz0, hz1, hz2⟩ := info_parts infoU8
  have j0 : IntKind.i64.wrap (60000 + a0) = (n : Int) := by rw [h0]; exact i64_wf (by omega) (by omega)
  have j1 : IntKind.i64.wrap (60002 + a0) = (n : Int) + 2 := by rw [show 60002 + a0 = (n : Int) + 2 by omega]; exact i64_wf (by omega) (by omega)
  have HN : Hid (n ≤ 60003) := by show _ ≤ _; omega
  have k0 : ¬ a0 < -3 := by omega
  have k1 : ¬ 3 < a0 := by omega
  obtain ⟨w1, hr1, hs1, hb1⟩ := make_any w n (by omega)
  have HS : Hid (Sl .u8 w1 (some ⟨w.heap.size, 0, none⟩) n (zeros n) ∧ Below w.heap.size w w1) := ⟨hs1, hb1⟩
  clear hs1 hb1
  have H0 : Hid (60000 + a0 = n) := h0
  clear h0
  obtain ⟨ns, hns⟩ : ∃ ns, ns = (zeros 70000).map (Value.int .u8) := ⟨_, rfl⟩
  have HW : Hid (ns = (zeros 70000).map (Value.int .u8)) := hns
  clear hns
  go_enter Try.func5, Try.ntmps5
  go_wp2_with fail
  go_at_call 7
  refine (rec_put _ n n (zeros n) w1 HS.out.1 (by simp) (by have := H0.out; omega)).mono ?_
  rintro e w2 ⟨v2, rfl, o2, b2⟩
  have B2 : Hid (Below w.heap.size w w2) := HS.out.2.trans (b2.mono HS.out.2.size)
  obtain ⟨x2, c2, rfl⟩ := own_form o2
  clear o2 b2
  have BA : Hid (Below w.heap.size w (w2.alloc (.cells #[.int .u8 255, .int .u8 255] 5))) := B2.out.alloc B2.out.size _
  clear hr1
  go_wp2_with (at_builtin; refine wpList_append_made rfl _ _ 22 3 rfl 5 i0 (.int .u8 0) Try.underlying22 Try.underlying3 hi hz0 hz1 hz2 rfl ⟨w2.heap.size, 0, none⟩ 2 2 [.int .u8 255, .int .u8 255] rfl rfl (twoCells w2) 70000 rfl (by decide) (by decide) (by decide) ns (HW.out.trans (zeros_map _)) ?_)
  intro c w3 o3 g3
  have B3 : Hid (Below w.heap.size w w3) := BA.out.grown g3 BA.out.size (fun k hk => by simp at hk)
  have S3 : Hid (Sl .u8 w3 (some ⟨w2.heap.size + 1, 0, none⟩) 70002 (255 :: 255 :: zeros 70000) ∧ 70002 ≤ c ∧ c ≤ 9223372036854775807) := by
    refine ⟨?_, ?_⟩
    · have o := o3
      rw [HW.out] at o
      obtain ⟨a, c', hv, hs, _⟩ := Sl.own (k := .u8) (ys := 255 :: 255 :: zeros 70000) o (fun x hx => by
        rcases List.mem_cons.1 hx with rfl | hx
        · decide
        rcases List.mem_cons.1 hx with rfl | hx
        · decide
        exact zeros_bs _ x hx)
      have e : (255 :: 255 :: zeros 70000).length = 70002 := by rw [List.length_cons, List.length_cons, zeros_len]
      rw [e] at hv hs
      simp only [Value.slice.injEq] at hv
      rw [hv.1]
      exact hs
    · exact own_cap o3
  clear o3 g3 BA
  obtain ⟨b3, hb3⟩ : ∃ b, w2.heap.size + 1 = b := ⟨_, rfl⟩
  rw [hb3] at S3
  rw [hb3]
  clear hb3
  have N := rec_scan (some ⟨b3, 0, none⟩) 70002 c _ w3 S3.out.1 S3.out.2.1 S3.out.2.2 (by simp) (by decide)
  rw [scanS_long] at N
  go_wp2_with fail
  go_at_call 9
  refine N.mono ?_
  rintro e w4 ⟨v4, vs4, rfl, m4, b4⟩
  obtain ⟨x4, c4, rfl⟩ := own_form m4.own
  have B4 : Hid (Below w.heap.size w w4) := B3.out.trans (b4.mono B3.out.size)
  clear m4 b4 N
  go_wp2_with fail
  go_at_call 12
  refine (known_true w4).mono ?_
  rintro e w6 ⟨rfl, b6⟩
  go_wp2
  go_ret
  exact ⟨rfl, B4.out.trans (b6.mono B4.out.size)⟩

theorem long_more (a0 : Int) (n : Nat) (w : World) (h0 : 60000 + a0 = n) (h1 : 0 < a0) (h2 : a0 ≤ 3) :
    Calls Try.prog 5 #[.int .i64 a0] w fun e w' => e = .returned (.bool true) ∧ Below w.heap.size w w' := by
  obtain ⟨i0, hi, hz0, hz1, hz2⟩ := info_parts infoU8
  have j0 : IntKind.i64.wrap (60000 + a0) = (n : Int) := by rw [h0]; exact i64_wf (by omega) (by omega)
  have j1 : IntKind.i64.wrap (60002 + a0) = (n : Int) + 2 := by rw [show 60002 + a0 = (n : Int) + 2 by omega]; exact i64_wf (by omega) (by omega)
  have HN : Hid (n ≤ 60003) := by show _ ≤ _; omega
  have k0 : ¬ a0 < -3 := by omega
  have k1 : ¬ 3 < a0 := by omega
  have k2 : decide (a0 ≤ 0) = false := by simp; omega
  obtain ⟨w1, hr1, hs1, hb1⟩ := make_any w n (by omega)
  have HS : Hid (Sl .u8 w1 (some ⟨w.heap.size, 0, none⟩) n (zeros n) ∧ Below w.heap.size w w1) := ⟨hs1, hb1⟩
  clear hs1 hb1
  have H0 : Hid (60000 + a0 = n) := h0
  clear h0
  obtain ⟨ns, hns⟩ : ∃ ns, ns = (zeros 70000).map (Value.int .u8) := ⟨_, rfl⟩
  have HW : Hid (ns = (zeros 70000).map (Value.int .u8)) := hns
  clear hns
  go_enter Try.func5, Try.ntmps5
  go_wp2_with fail
  go_at_call 7
  refine (rec_put_no _ n n w1 (by have := H0.out; omega) (by have := H0.out; omega)).mono ?_
  rintro e w2 ⟨rfl, rfl⟩
  have B2 : Hid (Below w.heap.size w w2) := HS.out.2
  have BA : Hid (Below w.heap.size w (w2.alloc (.cells #[.int .u8 255, .int .u8 255] 5))) := B2.out.alloc B2.out.size _
  clear hr1
  go_wp2_with (at_builtin; refine wpList_append_made rfl _ _ 22 3 rfl 5 i0 (.int .u8 0) Try.underlying22 Try.underlying3 hi hz0 hz1 hz2 rfl ⟨w2.heap.size, 0, none⟩ 2 2 [.int .u8 255, .int .u8 255] rfl rfl (twoCells w2) 70000 rfl (by decide) (by decide) (by decide) ns (HW.out.trans (zeros_map _)) ?_)
  intro c w3 o3 g3
  have B3 : Hid (Below w.heap.size w w3) := BA.out.grown g3 BA.out.size (fun k hk => by simp at hk)
  have S3 : Hid (Sl .u8 w3 (some ⟨w2.heap.size + 1, 0, none⟩) 70002 (255 :: 255 :: zeros 70000) ∧ 70002 ≤ c ∧ c ≤ 9223372036854775807) := by
    refine ⟨?_, ?_⟩
    · have o := o3
      rw [HW.out] at o
      obtain ⟨a, c', hv, hs, _⟩ := Sl.own (k := .u8) (ys := 255 :: 255 :: zeros 70000) o (fun x hx => by
        rcases List.mem_cons.1 hx with rfl | hx
        · decide
        rcases List.mem_cons.1 hx with rfl | hx
        · decide
        exact zeros_bs _ x hx)
      have e : (255 :: 255 :: zeros 70000).length = 70002 := by rw [List.length_cons, List.length_cons, zeros_len]
      rw [e] at hv hs
      simp only [Value.slice.injEq] at hv
      rw [hv.1]
      exact hs
    · exact own_cap o3
  clear o3 g3 BA
  obtain ⟨b3, hb3⟩ : ∃ b, w2.heap.size + 1 = b := ⟨_, rfl⟩
  rw [hb3] at S3
  rw [hb3]
  clear hb3
  have N := rec_scan (some ⟨b3, 0, none⟩) 70002 c _ w3 S3.out.1 S3.out.2.1 S3.out.2.2 (by simp) (by decide)
  rw [scanS_long] at N
  go_wp2_with fail
  go_at_call 9
  refine N.mono ?_
  rintro e w4 ⟨v4, vs4, rfl, m4, b4⟩
  obtain ⟨x4, c4, rfl⟩ := own_form m4.own
  have B4 : Hid (Below w.heap.size w w4) := B3.out.trans (b4.mono B3.out.size)
  clear m4 b4 N
  go_wp2_with fail
  go_at_call 12
  refine (known_true w4).mono ?_
  rintro e w6 ⟨rfl, b6⟩
  go_wp2
  go_ret
  exact ⟨rfl, B4.out.trans (b6.mono B4.out.size)⟩

theorem Walk.recLong (a0 : Int) (w0 : (Lit.int .i64 a0).wf = true) (w : World) :
    Calls Try.prog 5 #[.int .i64 a0] w fun e w' => e = .returned (.bool true) ∧ Below w.heap.size w w' := by
  by_cases c0 : a0 < -3
  · go_enter Try.func5, Try.ntmps5
    go_wp2
    go_ret
    exact ⟨rfl, Below.refl _ _⟩
  by_cases c1 : 3 < a0
  · go_enter Try.func5, Try.ntmps5
    go_wp2
    go_ret
    exact ⟨rfl, Below.refl _ _⟩
  obtain ⟨n, hn⟩ : ∃ n : Nat, 60000 + a0 = n := ⟨(60000 + a0).toNat, by omega⟩
  by_cases c2 : a0 ≤ 0
  · exact long_well a0 n w hn c2 (by omega)
  · exact long_more a0 n w hn (by omega) (by omega)

end Go.Proofs.Ytjonnheamhlibaa
