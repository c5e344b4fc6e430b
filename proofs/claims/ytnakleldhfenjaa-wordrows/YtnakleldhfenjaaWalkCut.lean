/-
  The walk of girolaw2.WordCut: it answers true whatever the arguments, and writes nothing that was there.
-/
import Derived.Test.YtnakleldhfenjaaWordAll
namespace Go.Proofs.Ytnakleldhfenjaa
open Go.RowKit
set_option linter.unusedVariables false

theorem rowS_length (zs : List Int) : (rowS zs).length = 8 + 8 * zs.length := by rw [rowS, encs_length, List.length_cons]; omega
theorem rowS_wf (zs : List Int) : ∀ n ∈ rowS zs, IntKind.u8.wrap n = n := encs_wf _
theorem rowS_eq (zs : List Int) : rowS zs = enc zs.length ++ encs zs := rfl

/-- A row that is cut short is none. -/
theorem next_cut (zs : List Int) (cut : Nat) (h : cut < 8 + 8 * zs.length) (hl : zs.length ≤ 1000) : nextT ((rowS zs).take cut) = ([], [], false) := by
  have hn : nextS ((rowS zs).take cut) = none := by
    unfold nextS
    have e : ((rowS zs).take cut).length = cut := by rw [List.length_take, rowS_length]; omega
    rw [e]
    by_cases h8 : cut < 8
    · rw [if_pos h8]
    · rw [if_neg h8, if_pos]
      have e1 : ((rowS zs).take cut).take 8 = enc zs.length := by
        rw [List.take_take, Nat.min_eq_left (by omega), rowS_eq]
        simp [enc]
      rw [e1, dec_enc _ (i64_wf (by omega) (by omega))]
      right
      omega
  unfold nextT
  rw [hn]

namespace Walk

set_option maxHeartbeats 1000000 in
theorem cut_any (a : Option Addr) (len cap : Nat) (cut : Int) (zs : List Int) (w : World) (h : Sl .i64 w a len zs) (hcap : len ≤ cap) (hmx : cap ≤ 9223372036854775807) (hr : len * 8 ≤ 140737488351232) (k0 : -9223372036854775808 ≤ cut) (k1 : cut ≤ 9223372036854775807) :
    Calls Try.prog 5 #[.slice a len cap, .int .i64 cut] w fun e w' => e = .returned (.bool true) ∧ Below w.heap.size w w' := by
  have hl := h.1
  have R := refRow_any a len cap zs w h hr
  have HL : Hid (len = zs.length) := hl
  clear hl
  go_enter Try.func5, Try.ntmps5
  go_wp2_with fail
  refine R.mono ?_
  rintro e w1 ⟨g, c1, rfl, hown, bel⟩
  have hN : (rowS zs).length = 8 + 8 * len := by rw [rowS_length, ← HL.out]
  obtain ⟨n, hn⟩ : ∃ n, (rowS zs).length = n := ⟨_, rfl⟩
  obtain ⟨a1, c1', hv, hS, _⟩ := Sl.own hown (rowS_wf zs)
  simp only [Value.slice.injEq, true_and] at hv
  obtain ⟨rfl, rfl⟩ := hv
  obtain ⟨hc1, hc2⟩ := own_cap hown
  rw [hn] at hN hS hc1 ⊢
  have HN : Hid (n = 8 + 8 * len) := hN
  have n1 : n ≤ 9223372036854775807 := by omega
  clear hn hN hown R h
  by_cases h40 : (40 : Int) < (len : Int)
  · go_wp2
    go_ret
    exact ⟨rfl, bel⟩
  by_cases hneg : cut < 0
  · go_wp2
    go_ret
    exact ⟨rfl, bel⟩
  by_cases hbig : (n : Int) ≤ cut
  · go_wp2
    go_ret
    exact ⟨rfl, bel⟩
  obtain ⟨C, rfl⟩ : ∃ C : Nat, cut = (C : Int) := ⟨cut.toNat, by omega⟩
  have hC : C ≤ n := by omega
  have hCc : (C : Int) ≤ (c1 : Int) := by omega
  have N := next_all (some ⟨g, 0, none⟩) C c1 _ w1 (hS.take C hC) (by omega) hc2 (by have := HN.out; omega)
  unfold NextAll at N
  rw [next_cut zs C (by have h1 := HN.out; have h2 := HL.out; omega) (by have h2 := HL.out; omega)] at N
  clear hS
  go_wp2_with fail
  refine N.mono ?_
  rintro e w2 ⟨a2, d2, b2, f2, rfl, _, _, _, _, _, bel2⟩
  have B2 : Hid (Below w.heap.size w w2) := bel.trans (bel2.mono bel.size)
  clear bel bel2
  go_wp2_with (go_at_call 16; refine (known2_any _).mono ?_; rintro e w7 ⟨rfl, bel7⟩)
  go_ret
  exact ⟨rfl, B2.out.trans (bel7.mono B2.out.size)⟩

theorem wordCut (a0 : Option Addr) (len0 cap0 : Nat) (z0 : List Int) (a1 : Int) (w : World) (w0 : IsRow .i64 w a0 len0 cap0 z0) (w1 : (Lit.int .i64 a1).wf = true) (hr : cap0 * 8 ≤ 140737488351232) :
    Calls Try.prog 5 #[.slice a0 len0 cap0, .int .i64 a1] w fun e w' => e = .returned (.bool true) ∧ Below w.heap.size w w' := by
  obtain ⟨hS, hc, hm⟩ := w0.sl wf_i64'
  obtain ⟨k0, k1⟩ := wf_i64 (wf_i64' a1 w1)
  exact cut_any a0 len0 cap0 a1 _ w hS hc hm (by omega) k0 k1

end Walk
end Go.Proofs.Ytnakleldhfenjaa
