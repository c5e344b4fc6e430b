/-
  The walk of DaySolves.
-/
import Derived.Test.YthaallopiolijaaDayRest
namespace Go.Proofs.Ythaallopiolijaa
open Go.RowKit
set_option linter.unusedVariables false
set_option linter.unusedSimpArgs false
namespace Walk

/-- How many ticks ahead of t solve. -/
def cntS (per shut t : Int) : Int := if t ≤ 1 then 0 else (min t shut - 1) / per

theorem div_step (per m : Int) (hp : 1 ≤ per) : m / per = (m - 1) / per + (if m % per = 0 then 1 else 0) := by
  have e := Int.mul_ediv_add_emod (m - 1) per
  have r0 := Int.emod_nonneg (m - 1) (show per ≠ 0 by omega)
  have r1 := Int.emod_lt_of_pos (m - 1) (show 0 < per by omega)
  generalize (m - 1) / per = q at e ⊢
  generalize (m - 1) % per = r at e r0 r1
  by_cases h : r + 1 < per
  · obtain ⟨h1, h2⟩ := (Int.ediv_emod_unique (a := m) (b := per) (q := q) (r := r + 1) (by omega)).2 ⟨by omega, by omega, h⟩
    rw [h1, h2, if_neg (by omega)]
    omega
  · have hm : per * (q + 1) = per * q + per := by rw [Int.mul_add, Int.mul_one]
    obtain ⟨h1, h2⟩ := (Int.ediv_emod_unique (a := m) (b := per) (q := q + 1) (r := 0) (by omega)).2 ⟨by omega, by omega, by omega⟩
    rw [h1, h2, if_pos rfl]

theorem cnt_yes {per shut t : Int} (hp : 1 ≤ per) (h : solS shut per t = true) : cntS per shut (t + 1) = cntS per shut t + 1 := by
  simp only [solS, decide_eq_true_iff] at h
  obtain ⟨h0, h1, _, h3⟩ := h
  have d := div_step per t hp
  rw [if_pos h3] at d
  unfold cntS
  rw [if_neg (by omega), show min (t + 1) shut - 1 = t by omega, d]
  by_cases h2 : t ≤ 1
  · rw [if_pos h2, show t - 1 = 0 by omega, Int.zero_ediv]
  · rw [if_neg h2, show min t shut - 1 = t - 1 by omega]

theorem cnt_no {per shut t : Int} (hp : 1 ≤ per) (hs : 1 ≤ shut) (h : solS shut per t = false) : cntS per shut (t + 1) = cntS per shut t := by
  simp only [solS, decide_eq_false_iff_not] at h
  unfold cntS
  by_cases h0 : 0 < t
  · by_cases h1 : t < shut
    · have h3 : ¬ t % per = 0 := fun e => h ⟨h0, h1, by omega, e⟩
      have d := div_step per t hp
      rw [if_neg h3] at d
      rw [if_neg (by omega), show min (t + 1) shut - 1 = t by omega, d]
      by_cases h2 : t ≤ 1
      · rw [if_pos h2, show t - 1 = 0 by omega, Int.zero_ediv]
        omega
      · rw [if_neg h2, show min t shut - 1 = t - 1 by omega]
        omega
    · rw [if_neg (by omega), show min (t + 1) shut = shut by omega]
      by_cases h2 : t ≤ 1
      · rw [if_pos h2, show shut - 1 = 0 by omega, Int.zero_ediv]
      · rw [if_neg h2, show min t shut = shut by omega]
  · rw [if_pos (by omega), if_pos (by omega)]

theorem cnt_end {per shut : Int} (hs : 1 ≤ shut) : cntS per shut (shut + 3) = (shut - 1) / per := by
  unfold cntS
  rw [if_neg (by omega), show min (shut + 3) shut = shut by omega]

theorem cnt_bd {per shut t : Int} (hp : 1 ≤ per) (hs : 1 ≤ shut) (h : shut ≤ 100) : 0 ≤ cntS per shut t ∧ cntS per shut t ≤ 100 := by
  unfold cntS
  by_cases h2 : t ≤ 1
  · rw [if_pos h2]; omega
  · rw [if_neg h2]
    have h3 : 0 ≤ min t shut - 1 := by omega
    exact ⟨Int.ediv_nonneg h3 (by omega), Int.le_trans (Int.ediv_le_self _ h3) (by omega)⟩

theorem solves_out (per shut : Int) (w : World) (h : per < 1 ∨ 50 < per ∨ shut < 1 ∨ 100 < shut) : Calls Try.prog 7 #[.int .i64 per, .int .i64 shut] w fun e w' => e = .returned (.bool true) ∧ Below w.heap.size w w' := by
  rcases Int.lt_or_le per 1 with h1 | h1
  · go_enter Try.func7, Try.ntmps7
    go_wp2
    go_ret
    exact ⟨rfl, Below.refl _ _⟩
  rcases Int.lt_or_le 50 per with h2 | h2
  · go_enter Try.func7, Try.ntmps7
    go_wp2
    go_ret
    exact ⟨rfl, Below.refl _ _⟩
  rcases Int.lt_or_le shut 1 with h3 | h3
  · go_enter Try.func7, Try.ntmps7
    go_wp2
    go_ret
    exact ⟨rfl, Below.refl _ _⟩
  rcases Int.lt_or_le 100 shut with h4 | h4
  · go_enter Try.func7, Try.ntmps7
    go_wp2
    go_ret
    exact ⟨rfl, Below.refl _ _⟩
  · omega

set_option maxHeartbeats 4000000 in
theorem solves_in (per shut : Int) (w : World) (h1 : 1 ≤ per) (h2 : per ≤ 50) (h3 : 1 ≤ shut) (h4 : shut ≤ 100) : Calls Try.prog 7 #[.int .i64 per, .int .i64 shut] w fun e w' => e = .returned (.bool true) ∧ Below w.heap.size w w' := by
  have hp0 : (per == 0) = false := by simp; omega
  go_enter Try.func7, Try.ntmps7
  go_wp2_with fail
  go_at_call 17
  refine (rules_any _).mono ?_
  rintro e w1 ⟨g, rfl, _, b, _⟩
  have B1 : Hid (Below w.heap.size w w1) := b
  clear b
  go_wp2_with fail
  obtain ⟨w2, hw⟩ : ∃ w2, w2 = w1.alloc (.cells #[.int .i64 2, .slice (some ⟨g, 0, none⟩) 1 1, .int .i64 0, .int .i64 shut, .int .i64 per] 24) := ⟨_, rfl⟩
  have B2 : Hid (Below w.heap.size w w2) := by show Below w.heap.size w w2; rw [hw]; exact B1.out.alloc B1.out.size _
  obtain ⟨g2, hg⟩ : ∃ g2, w1.heap.size = g2 := ⟨_, rfl⟩
  have R2 : Hid (RulAt w2 g2 2 (some ⟨g, 0, none⟩) 1 1 0 shut per) := by show RulAt w2 g2 2 (some ⟨g, 0, none⟩) 1 1 0 shut per; rw [hw, ← hg]; exact rul_new _ _ _ _ _ _ _ _ _ _
  rw [← hw, hg]
  clear hw hg B1
  go_loopw [6, 7] (fun n i wr => ∃ t : Int, -3 ≤ t ∧ t ≤ shut + 3 ∧ i = .int .i64 t ∧ n = .int .i64 (cntS per shut t) ∧ Below w.heap.size w wr ∧ RulAt wr g2 2 (some ⟨g, 0, none⟩) 1 1 0 shut per) (fun _ i _ => (shut + 3 - intOf i).toNat)
  case atStart => exact ⟨-3, by omega, by omega, rfl, rfl, B2.out, R2.out⟩
  case round =>
    obtain ⟨t, t1, t2, rfl, rfl, bel, rul⟩ := hrel
    have HB : Hid (Below w.heap.size w wr) := bel
    have HR : Hid (RulAt wr g2 2 (some ⟨g, 0, none⟩) 1 1 0 shut per) := rul
    obtain ⟨p0, p1, p2, p3, p4⟩ := rul
    obtain ⟨c0, c1⟩ := cnt_bd (t := t) h1 h3 h4
    obtain ⟨n, hn⟩ : ∃ n, cntS per shut t = n := ⟨_, rfl⟩
    rw [hn] at c0 c1
    have HN : Hid (cntS per shut t = n) := hn
    rw [hn]
    clear hn bel B2 R2
    by_cases hlt : t < shut + 3
    · have S := solves_any 2 (some ⟨g, 0, none⟩) 1 1 0 shut per t
      obtain ⟨s, hs⟩ : ∃ s, solS shut per t = s := ⟨_, rfl⟩
      rw [hs] at S
      have HS : Hid (solS shut per t = s) := hs
      clear hs
      go_wp2_with fail
      go_at_call 13
      refine (S _).mono ?_
      rintro e w3 ⟨rfl, hb⟩
      have B3 : Hid (Below w.heap.size w w3) := HB.out.trans (hb.mono HB.out.size)
      have R3 : Hid (RulAt w3 g2 2 (some ⟨g, 0, none⟩) 1 1 0 shut per) := HR.out.below hb
      clear S hb p0 p1 p2 p3 p4
      cases s
      · go_wp2
        go_roundw
        case rel => exact ⟨t + 1, by omega, by omega, rfl, by rw [cnt_no h1 h3 HS.out, HN.out], B3.out, R3.out⟩
        case measure => simp [intOf]; omega
      · go_wp2
        go_roundw
        case rel => exact ⟨t + 1, by omega, by omega, rfl, by rw [cnt_yes h1 HS.out, HN.out], B3.out, R3.out⟩
        case measure => simp [intOf]; omega
    · have ht : t = shut + 3 := by omega
      have HE : Hid (n = (shut - 1) / per) := by show n = (shut - 1) / per; rw [← HN.out, ht, cnt_end h3]
      clear ht p0 p1 p2 p3 p4
      obtain rfl := HE.out
      go_wp2_with fail
      go_at_call 10
      refine (known_any _).mono ?_
      rintro e w5 ⟨rfl, hb5⟩
      have B5 : Hid (Below w.heap.size w w5) := HB.out.trans (hb5.mono HB.out.size)
      go_wp2
      go_ret
      exact ⟨rfl, B5.out⟩

theorem daySolves (a0 a1 : Int) (w0 : (Lit.int .i64 a0).wf = true) (w1 : (Lit.int .i64 a1).wf = true) (w : World) : Calls Try.prog 7 #[.int .i64 a0, .int .i64 a1] w fun e w' => e = .returned (.bool true) ∧ Below w.heap.size w w' := by
  by_cases h : 1 ≤ a0 ∧ a0 ≤ 50 ∧ 1 ≤ a1 ∧ a1 ≤ 100
  · exact solves_in a0 a1 w h.1 h.2.1 h.2.2.1 h.2.2.2
  · exact solves_out a0 a1 w (by omega)

end Walk
end Go.Proofs.Ythaallopiolijaa
