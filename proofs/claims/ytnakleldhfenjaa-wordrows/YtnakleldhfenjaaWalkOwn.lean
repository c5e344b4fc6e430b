/-
  The walk of girolaw2.WordOwn: it answers true whatever the argument, and writes nothing that was there.
-/
import Derived.Test.YtnakleldhfenjaaWalkCut
namespace Go.Proofs.Ytnakleldhfenjaa
open Go.RowKit
set_option linter.unusedVariables false

/-- A row, and whatever stands behind it. -/
theorem next_row (zs more : List Int) (hwf : ∀ n ∈ zs, IntKind.i64.wrap n = n) (hl : zs.length ≤ 1000) : nextT (rowS zs ++ more) = (zs, more, true) := by
  have hn : nextS (rowS zs ++ more) = some (zs, more) := by
    unfold nextS
    have e : (rowS zs ++ more).length = 8 + 8 * zs.length + more.length := by rw [List.length_append, rowS_length]
    rw [e, if_neg (by omega)]
    have e1 : (rowS zs ++ more).take 8 = enc zs.length := by
      rw [rowS_eq]
      simp [enc]
    rw [e1, dec_enc _ (i64_wf (by omega) (by omega)), if_neg (by omega), Int.toNat_natCast]
    have e2 : (rowS zs ++ more).drop 8 = encs zs ++ more := by
      rw [rowS_eq]
      simp [enc]
    have e3 : (rowS zs ++ more).drop (8 + 8 * zs.length) = more := by
      rw [← rowS_length, List.drop_left]
    rw [e2, e3, decs_encs zs more hwf]
  unfold nextT
  rw [hn]

/-- The text of a slice of bytes that the call owns. -/
theorem own_text {w : World} {B g n cap : Nat} {ys : List Int} (h : w.ownsRow B 5 1 (.slice (some ⟨g, 0, none⟩) n cap) n (ys.map (Value.int .u8))) (hwf : ∀ n ∈ ys, IntKind.u8.wrap n = n) :
    (convert 23 9 (.slice (some ⟨g, 0, none⟩) n cap)).run Try.prog w = .ok (.string (strOfNums ys)) w := by
  have hn : n = ys.length := by have := h.1; simp at this; omega
  obtain ⟨a, c, hv, hS, _⟩ := Sl.own h hwf
  simp only [Value.slice.injEq] at hv
  obtain ⟨rfl, hl, rfl⟩ := hv
  rw [hl]
  exact hS.text (P := Try.prog) 23 9 5 Try.underlying23 Try.underlying5 Try.underlying9

namespace Walk

set_option maxHeartbeats 400000 in
theorem own_out (a : Option Addr) (len cap : Nat) (w : World) (h : len < 1 ∨ 40 < len) (hm : len ≤ 9223372036854775807) :
    Calls Try.prog 6 #[.slice a len cap] w fun e w' => e = .returned (.bool true) ∧ Below w.heap.size w w' := by
  rcases h with h | h
  · have h1 : (len : Int) < 1 := by omega
    go_enter Try.func6, Try.ntmps6
    go_wp2
    go_ret
    exact ⟨rfl, Below.refl _ _⟩
  · have h1 : (40 : Int) < (len : Int) := by omega
    have h2 : ¬ (len : Int) < 1 := by omega
    go_enter Try.func6, Try.ntmps6
    go_wp2
    go_ret
    exact ⟨rfl, Below.refl _ _⟩

set_option maxHeartbeats 2000000 in
theorem own_in (a : Option Addr) (len cap : Nat) (zs : List Int) (w : World) (h : Sl .i64 w a len zs) (hcap : len ≤ cap) (hmx : cap ≤ 9223372036854775807) (h1 : 1 ≤ len) (h40 : len ≤ 40) :
    Calls Try.prog 6 #[.slice a len cap] w fun e w' => e = .returned (.bool true) ∧ Below w.heap.size w w' := by
  have i1 : (1 : Int) ≤ (len : Int) := by omega
  have i40 : (len : Int) ≤ 40 := by omega
  have HL : Hid (len = zs.length) := h.1
  have R := refRow_any a len cap zs w h (by omega)
  go_enter Try.func6, Try.ntmps6
  go_wp2_with fail
  refine R.mono ?_
  rintro e w1 ⟨g, c1, rfl, hown, bel⟩
  have hN : (rowS zs).length = 8 + 8 * len := by rw [rowS_length, ← HL.out]
  obtain ⟨n, hn⟩ : ∃ n, (rowS zs).length = n := ⟨_, rfl⟩
  obtain ⟨a1, c1', hv, hS, _⟩ := Sl.own hown (rowS_wf zs)
  simp only [Value.slice.injEq, true_and] at hv
  obtain ⟨rfl, rfl⟩ := hv
  obtain ⟨hc1, hc2⟩ := own_cap hown
  have hgb := hown.lt g rfl
  rw [hn] at hN hS hc1 ⊢
  have HN : Hid (n = 8 + 8 * len) := hN
  have n1 : n ≤ 400 := by omega
  have HT : nextT (rowS zs) = (zs, [], true) := by
    have := next_row zs [] h.2.1 (by have := HL.out; omega)
    rwa [List.append_nil] at this
  clear hn hN hown R
  have N := next_all (some ⟨g, 0, none⟩) n c1 _ w1 hS (by omega) hc2 (by omega)
  unfold NextAll at N
  rw [HT, ← HL.out] at N
  go_wp2_with fail
  refine N.mono ?_
  rintro e w2 ⟨a2, d2, b2, f2, rfl, S2, T2, _, _, O2, bel2⟩
  clear N
  have hne : zs ≠ [] := by intro h0; have := HL.out; subst h0; simp at this; omega
  have O2 := O2.resolve_left hne
  obtain ⟨g2, d2', hv⟩ := own_some O2 (by simp; omega)
  simp only [Value.slice.injEq, true_and] at hv
  obtain ⟨rfl, rfl⟩ := hv
  have hg2 := O2.lt g2 rfl
  have hf := O2.frozenAt 0
  have hc0 := O2.cellAt 0 (by omega)
  obtain ⟨z, hz⟩ : ∃ z, zs.getD 0 0 = z := ⟨_, rfl⟩
  have hcell : w2.cell? ⟨g2, 0, none⟩ = some (.int .i64 z) := by
    rw [hc0, ← hz]
    have : 0 < zs.length := List.length_pos_iff.mpr hne
    simp [this]
  clear O2 hc0 hz S2 T2
  go_wp2_with fail
  obtain ⟨w3, hw3⟩ : ∃ w3, w2.setCell ⟨g2, 0, none⟩ (.int .i64 (wrap64 (z + 1))) = w3 := ⟨_, rfl⟩
  have bel13 : Below w1.heap.size w1 w3 := by rw [← hw3]; exact bel2.setCell (p := ⟨g2, 0, none⟩) hg2.1 _
  rw [hw3]
  clear hw3 hcell hf bel2 hg2
  have N := next_all (some ⟨g, 0, none⟩) n c1 _ w3 (hS.below bel13) (by omega) hc2 (by omega)
  unfold NextAll at N
  rw [HT, ← HL.out] at N
  refine N.mono ?_
  rintro e w4 ⟨a4, d4, b4, f4, rfl, S4, T4, _, _, _, bel34⟩
  clear N
  have bel14 : Below w1.heap.size w1 w4 := bel13.trans (bel34.mono bel13.size)
  have bel4 : Below w.heap.size w w4 := bel.trans (bel14.mono bel.size)
  have U4 := hS.below bel14
  have V4 := h.below bel4
  have X4 := fun k => (U4.drew k).text (P := Try.prog) (cap := c1) 23 9 5 Try.underlying23 Try.underlying5 Try.underlying9
  have HB : Hid (Below w.heap.size w w4) := bel4
  have HU : Hid (Sl .u8 w4 (some ⟨g, 0, none⟩) n (rowS zs)) := U4
  have HV : Hid (Sl .i64 w4 a len zs) := V4
  have HS : Hid (Sl .i64 w4 a4 len zs) := S4
  have HW : Hid ((rowS zs).length = n) := U4.1.symm
  clear HT hne bel bel13 bel34 bel14 bel4 U4 V4 hS h S4 T4 hgb
  go_wp2
  go_region_with (first
    | (go_at_call 15; refine (same_any a4 a _ _ _ _ zs zs _ (HS.out.drew _) (HV.out.drew _) (by omega)).mono ?_; rintro e w5 ⟨he, k5, rfl⟩; rw [decide_eq_true rfl] at he; subst he)
    | (go_at_call 14; refine (refRow_any a len cap zs _ (HV.out.drew _) (by omega)).mono ?_; rintro e w6 ⟨g6, c6, rfl, hown6, bel6⟩; rw [HW.out] at hown6 ⊢; have t6 := own_text hown6 (rowS_wf zs); have x6 := ((HU.out.drew _).below bel6).text (P := Try.prog) (cap := c1) 23 9 5 Try.underlying23 Try.underlying5 Try.underlying9; have b6 := (below_drewN HB.out _).trans (bel6.mono HB.out.size); clear hown6 bel6)
    | (go_at_call 16; refine (known2_any _).mono ?_; rintro e w7 ⟨rfl, bel7⟩))
  all_goals go_wp2
  all_goals go_ret
  all_goals exact ⟨rfl, b6.trans (bel7.mono b6.size)⟩

theorem wordOwn (a0 : Option Addr) (len0 cap0 : Nat) (z0 : List Int) (w : World) (w0 : IsRow .i64 w a0 len0 cap0 z0) :
    Calls Try.prog 6 #[.slice a0 len0 cap0] w fun e w' => e = .returned (.bool true) ∧ Below w.heap.size w w' := by
  obtain ⟨hS, hc, hm⟩ := w0.sl wf_i64'
  by_cases h : len0 < 1 ∨ 40 < len0
  · exact own_out a0 len0 cap0 w h (by omega)
  · exact own_in a0 len0 cap0 _ w hS hc hm (by omega) (by omega)

end Walk
end Go.Proofs.Ytnakleldhfenjaa
