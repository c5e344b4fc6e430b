/-
  lim.Is: are they books.
-/
import Derived.Test.YtpaieecbedgeaaaLimEvery
namespace Go.Proofs.Ytpaieecbedgeaaa
open Go.RowKit
set_option linter.unusedVariables false
set_option linter.unusedSimpArgs false

/-- m rows of m numbers, cell by cell. -/
def Sq (w : World) (b off m : Nat) (R : List (List Int)) : Prop :=
  ∀ i, i < m → ∃ g o c, w.cell? ⟨b, off + i, none⟩ = some (.slice (some ⟨g, o, none⟩) m c) ∧ ∀ k, k < m → w.cell? ⟨g, o + k, none⟩ = some (.int .i64 (at2 R i k))
theorem Sq.below {w w' : World} {b off m : Nat} {R : List (List Int)} (h : Sq w b off m R) (hb : Below w.heap.size w w') : Sq w' b off m R := by
  intro i hi
  obtain ⟨g, o, c, h1, h2⟩ := h i hi
  refine ⟨g, o, c, (hb.cell (p := ⟨b, off + i, none⟩) (block_lt_of_cell h1)).trans h1, fun k hk => ?_⟩
  have h3 := h2 k hk
  exact (hb.cell (p := ⟨g, o + k, none⟩) (block_lt_of_cell h3)).trans h3
theorem RowsI.sq {w : World} {a : Option Addr} {n m : Nat} {R : List (List Int)} (h : RowsI w a n R) (hm : 0 < m) (hs : squareB R m = true) : ∃ b off, a = some ⟨b, off, none⟩ ∧ n = m ∧ Sq w b off m R := by
  obtain ⟨hl, hr⟩ := squareB_yes.1 hs
  rcases h.2.2 with h0 | ⟨b, off, ha, hc⟩
  · subst h0; simp at hl; omega
  · refine ⟨b, off, ha, by rw [h.1, hl], fun i hi => ?_⟩
    obtain ⟨x, c, h1, h2, h3⟩ := hc i (by omega)
    have hri := hr i hi
    rw [hri] at h1 h2
    rcases h2.2.2 with h0 | ⟨g, o, rfl, hg⟩
    · rw [h0] at hri; simp at hri; omega
    · exact ⟨g, o, c, h1, fun k hk => hg k (by omega)⟩

theorem turnB_no {R : List (List Int)} {i k : Nat} (hi : i < R.length) (hk : k < R.length) (h : ¬ at2 R i k = -at2 R k i) : false = turnB R := by
  symm
  rw [Bool.eq_false_iff]
  intro ht
  unfold turnB at ht
  rw [range_all] at ht
  have := ht i hi
  rw [range_all] at this
  exact h (of_decide_eq_true (this k hk))
theorem turnB_mk {R : List (List Int)} (h : ∀ i, i < R.length → ∀ k, k < R.length → at2 R i k = -at2 R k i) : true = turnB R := by
  symm
  unfold turnB
  rw [range_all]
  intro i hi
  rw [range_all]
  intro k hk
  exact decide_eq_true (h i hi k hk)
theorem bil_succ {P : Nat → Prop} {k : Nat} (h : ∀ a, a < k → P a) (hk : P k) : ∀ a, a < k + 1 → P a := fun a ha => by
  rcases Nat.lt_or_ge a k with h1 | h1
  · exact h a h1
  · obtain rfl : a = k := by omega
    exact hk

set_option maxHeartbeats 2000000 in
theorem turned_any (b off c m : Nat) (R : List (List Int)) (w : World) (hl : R.length = m) (hm : m ≤ 6) (hc : Sq w b off m R) (hp : ∀ i k, i < m → k < m → posB (at2 R i k) = true) :
    Calls Try.prog 39 #[.slice (some ⟨b, off, none⟩) m c] w fun e w' => e = .returned (.bool (turnB R)) ∧ w' = w := by
  have HL : Hid (R.length = m) := hl
  clear hl
  go_enter Try.func39, Try.ntmps39
  go_wp2
  go_loop [9] (fun t => ∃ i : Nat, i ≤ m ∧ t = .int .i64 i ∧ ∀ a, a < i → ∀ k, k < m → at2 R a k = -at2 R k a) (fun t => m - (intOf t).toNat)
  case atStart => exact ⟨0, by omega, rfl, fun a ha => by omega⟩
  case round =>
    obtain ⟨i, hi, rfl, ha⟩ := hrel
    have HA : Hid (∀ a, a < i → ∀ k, k < m → at2 R a k = -at2 R k a) := ha
    clear ha
    by_cases hlt : i < m
    · obtain ⟨g, o, d, p0, p1⟩ := hc i hlt
      have i1 : (i : Int) < (m : Int) := by omega
      have HC : Hid (∀ k, k < m → w.cell? ⟨g, o + k, none⟩ = some (.int .i64 (at2 R i k))) := p1
      clear p1
      go_wp2
      go_loop [16] (fun t => ∃ k : Nat, k ≤ m ∧ t = .int .i64 k ∧ ∀ a, a < k → at2 R i a = -at2 R a i) (fun t => m - (intOf t).toNat)
      case atStart => exact ⟨0, by omega, rfl, fun a ha => by omega⟩
      case round =>
        obtain ⟨k, hk, rfl, ha⟩ := hrel
        have HK : Hid (∀ a, a < k → at2 R i a = -at2 R a i) := ha
        clear ha
        by_cases hkl : k < m
        · have k1 : (k : Int) < (m : Int) := by omega
          obtain ⟨g2, o2, d2, q0, q1⟩ := hc k hkl
          have c1 := HC.out k hkl
          have c2 := q1 i hlt
          have b2 := posB_yes (hp k i hkl hlt)
          have HX : Hid (at2 R i k = at2 R i k) := rfl
          clear q1
          generalize hx : at2 R i k = x at c1
          generalize hy : at2 R k i = y at c2 b2
          obtain ⟨y0, y1⟩ := b2
          have HXY : Hid (at2 R i k = x ∧ at2 R k i = y) := ⟨hx, hy⟩
          clear hx hy HX
          by_cases hxy : x = -y
          · have e1 : (x == -y) = true := by simp [hxy]
            have HS : Hid (∀ a, a < k + 1 → at2 R i a = -at2 R a i) := bil_succ HK.out (by rw [HXY.out.1, HXY.out.2]; exact hxy)
            clear hxy HXY
            go_wp2
            go_round
            case rel => exact ⟨k + 1, by omega, by go_num, HS.out⟩
            case measure => simp [intOf]; omega
          · have e1 : (x == -y) = false := by simp [hxy]
            have HN : Hid (false = turnB R) := turnB_no (i := i) (k := k) (by rw [HL.out]; exact hlt) (by rw [HL.out]; exact hkl) (by rw [HXY.out.1, HXY.out.2]; exact hxy)
            clear hxy HXY
            go_wp2
            go_ret
            exact ⟨rt_bool HN.out, rfl⟩
        · obtain rfl : k = m := by omega
          have HS : Hid (∀ a, a < i + 1 → ∀ j, j < k → at2 R a j = -at2 R j a) := bil_succ HA.out HK.out
          go_wp2
          go_round
          case rel => exact ⟨i + 1, by omega, by go_num, HS.out⟩
          case measure => simp [intOf]; omega
    · obtain rfl : i = m := by omega
      have HS : Hid (true = turnB R) := turnB_mk (by rw [HL.out]; exact HA.out)
      clear hc
      go_wp2
      go_ret
      exact ⟨rt_bool HS.out, rfl⟩

end Go.Proofs.Ytpaieecbedgeaaa
