/-
  The contract of giroref1's by over this seat's program: digits by 10000, rounded down, if an int64 holds it.
-/
import Derived.Test.YtbnhpehobadebaaDigits
namespace Go.Proofs.Ytbnhpehobadebaa
open Go.RowKit
set_option linter.unusedVariables false

theorem drop_getD (l : List Int) (k : Nat) (h : k < l.length) : l.drop k = l.getD k 0 :: l.drop (k + 1) := by
  rw [List.drop_eq_getElem_cons h]
  simp [List.getD_eq_getElem?_getD, h]
theorem drop_set (l : List Int) (k : Nat) (x : Int) (h : k < l.length) : (l.set k x).drop k = x :: l.drop (k + 1) := by
  rw [drop_getD _ k (by simpa using h), getD_set_self _ _ _ h, List.drop_set_of_lt (by omega)]

/-- Nine digits of 65536: which of them are 0, and what the lower four make. -/
theorem nine (ys : List Int) (hl : ys.length = 9) (hd : ∀ j, j < 9 → 0 ≤ ys.getD j 0 ∧ ys.getD j 0 < 65536) :
    (∀ j, 4 ≤ j → j < 9 → ys.getD j 0 ≠ 0 → 9223372036854775807 < val ys) ∧
    ((∀ j, 4 ≤ j → j < 9 → ys.getD j 0 = 0) → val ys = ys.getD 3 0 * 281474976710656 + ys.getD 2 0 * 4294967296 + ys.getD 1 0 * 65536 + ys.getD 0 0) ∧ 0 ≤ val ys := by
  match ys, hl with
  | [y0, y1, y2, y3, y4, y5, y6, y7, y8], _ =>
    have d0 := hd 0 (by omega); have d1 := hd 1 (by omega); have d2 := hd 2 (by omega); have d3 := hd 3 (by omega); have d4 := hd 4 (by omega)
    have d5 := hd 5 (by omega); have d6 := hd 6 (by omega); have d7 := hd 7 (by omega); have d8 := hd 8 (by omega)
    simp at d0 d1 d2 d3 d4 d5 d6 d7 d8
    simp only [val]
    refine ⟨?_, ?_, by omega⟩
    · intro j j0 j1 hj
      have : j = 4 ∨ j = 5 ∨ j = 6 ∨ j = 7 ∨ j = 8 := by omega
      rcases this with rfl | rfl | rfl | rfl | rfl <;> simp at hj <;> omega
    · intro h
      have h4 := h 4 (by omega) (by omega); have h5 := h 5 (by omega) (by omega); have h6 := h 6 (by omega) (by omega); have h7 := h 7 (by omega) (by omega); have h8 := h 8 (by omega) (by omega)
      simp at h4 h5 h6 h7 h8
      simp
      omega

/-- What is behind the first loop of by: the second one, and the answer. -/
def ByEnd (w : World) (B : Nat) (q : Int) (e : Ending) (w' : World) : Prop := e = .returned (.tuple #[.int .i64 (heldV q), .bool (heldB q)]) ∧ Below B w w'

set_option maxHeartbeats 4000000 in
theorem by_any (b cap B : Nat) (zs : List Int) (hlen : zs.length = 9) (hz : ∀ j, j < 9 → 0 ≤ zs.getD j 0 ∧ zs.getD j 0 < 65536) (w : World) (hb : Blk w b zs) (hB : B ≤ b) :
    Calls Try.prog 19 #[.slice (some ⟨b, 0, none⟩) 9 cap, .int .i64 10000] w (ByEnd w B (val zs / 10000)) := by
  go_enter Try.func19, Try.ntmps19
  go_wp2
  go_loopw [6, 7] (fun r i wr => ∃ (k : Nat) (ys : List Int) (R : Int), k ≤ 9 ∧ i = .int .i64 ((k : Int) - 1) ∧ r = .int .i64 R ∧ 0 ≤ R ∧ R < 10000 ∧ Blk wr b ys ∧ ys.length = 9 ∧ (∀ j, j < k → ys.getD j 0 = zs.getD j 0) ∧
      (∀ j, k ≤ j → j < 9 → 0 ≤ ys.getD j 0 ∧ ys.getD j 0 < 65536) ∧ val (zs.drop k) = 10000 * val (ys.drop k) + R ∧ Below B w wr) (fun _ i _ => (intOf i + 1).toNat)
  case atStart =>
    refine ⟨9, zs, 0, by omega, rfl, rfl, by omega, by omega, hb, hlen, fun j _ => rfl, fun j h1 h2 => absurd h1 (by omega), ?_, Below.refl _ _⟩
    rw [List.drop_eq_nil_of_le (by omega)]; simp [val]
  case round =>
    obtain ⟨k, ys, R, hk, rfl, rfl, R0, R1, hbl, hyl, hlo, hhi, hv, hbel⟩ := hrel
    by_cases hlt : 0 < k
    · obtain ⟨m, rfl⟩ : ∃ m, k = m + 1 := ⟨k - 1, by omega⟩
      have c0 := hbl.cell (i := m) (by omega)
      have f0 := hbl.free m
      obtain ⟨z, hzz⟩ : ∃ z, zs.getD m 0 = z := ⟨_, rfl⟩
      rw [hlo m (by omega), hzz] at c0
      have zb := hz m (by omega)
      rw [hzz] at zb
      obtain ⟨z0, z1⟩ := zb
      have i1 : (m : Int) < 9 := by omega
      have i2 : ((m + 1 : Nat) : Int) - 1 = (m : Int) := by omega
      have HR : Hid (Blk wr b ys ∧ ys.length = 9 ∧ (∀ j, j < m + 1 → ys.getD j 0 = zs.getD j 0) ∧ (∀ j, m + 1 ≤ j → j < 9 → 0 ≤ ys.getD j 0 ∧ ys.getD j 0 < 65536) ∧ val (zs.drop (m + 1)) = 10000 * val (ys.drop (m + 1)) + R ∧ Below B w wr ∧ zs.getD m 0 = z ∧ zs.length = 9) := ⟨hbl, hyl, hlo, hhi, hv, hbel, hzz, hlen⟩
      clear hbl hyl hlo hhi hv hbel hb hz hlen hzz
      rw [i2]
      clear i2
      go_wp2
      go_roundw
      case rel =>
        obtain ⟨hbl, hyl, hlo, hhi, hv, hbel, hzz, hlen⟩ := HR.out
        refine ⟨m, ys.set m ((R * 65536 + z) / 10000), (R * 65536 + z) % 10000, by omega, by go_num, rfl, by omega, by omega, hbl.set m _, by simp [hyl], ?_, ?_, ?_, hbel.setCell (p := ⟨b, m, none⟩) hB _⟩
        · intro j hj
          rw [getD_set_ne _ _ _ _ (by omega)]; exact hlo j (by omega)
        · intro j h1 h2
          by_cases e : j = m
          · subst e; rw [getD_set_self _ _ _ (by omega)]; omega
          · rw [getD_set_ne _ _ _ _ (by omega)]; exact hhi j (by omega) h2
        · rw [drop_set _ _ _ (by omega), drop_getD zs m (by omega), hzz]
          simp only [val]
          omega
      case measure => simp [intOf]
    · obtain rfl : k = 0 := by omega
      have hq : val ys = val zs / 10000 := by
        simp only [List.drop_zero] at hv
        omega
      obtain ⟨N1, N2, N3⟩ := nine ys hyl (fun j hj => hhi j (by omega) hj)
      have hd : ∀ j, j < 9 → 0 ≤ ys.getD j 0 ∧ ys.getD j 0 < 65536 := fun j hj => hhi j (by omega) hj
      have HQ : Hid (val ys = val zs / 10000) := hq
      have HN1 : Hid (∀ j, 4 ≤ j → j < 9 → ys.getD j 0 ≠ 0 → 9223372036854775807 < val ys) := N1
      have HN2 : Hid ((∀ j, 4 ≤ j → j < 9 → ys.getD j 0 = 0) → val ys = ys.getD 3 0 * 281474976710656 + ys.getD 2 0 * 4294967296 + ys.getD 1 0 * 65536 + ys.getD 0 0) := N2
      have HN3 : Hid (0 ≤ val ys) := N3
      have HD : Hid (∀ j, j < 9 → 0 ≤ ys.getD j 0 ∧ ys.getD j 0 < 65536) := hd
      have Hbel : Hid (Below B w wr) := hbel
      have HC : Hid (∀ j, j < 9 → wr.cell? ⟨b, j, none⟩ = some (.int .i64 (ys.getD j 0))) := fun j hj => hbl.cell (by omega)
      clear hq N1 N2 N3 hd hbel hbl hyl hlo hhi hv hb hz hlen
      go_wp2
      go_loop [9] (fun i => ∃ m : Nat, 4 ≤ m ∧ m ≤ 9 ∧ i = .int .i64 m ∧ ∀ j, 4 ≤ j → j < m → ys.getD j 0 = 0) (fun i => 9 - (intOf i).toNat)
      case atStart => exact ⟨4, by omega, by omega, rfl, fun j h1 h2 => absurd h1 (by omega)⟩
      case round =>
        obtain ⟨m, m0, m1, rfl, hm⟩ := hrel
        by_cases hlt9 : m < 9
        · have c0 := HC.out m hlt9
          obtain ⟨y, hy⟩ : ∃ y, ys.getD m 0 = y := ⟨_, rfl⟩
          rw [hy] at c0
          have Hm : Hid (∀ j, 4 ≤ j → j < m → ys.getD j 0 = 0) := hm
          have Hy : Hid (ys.getD m 0 = y) := hy
          clear hm hy
          have i1 : (m : Int) < 9 := by omega
          have i0 : (4 : Int) ≤ (m : Int) := by omega
          by_cases hy0 : y = 0
          · subst hy0
            go_wp2
            go_round
            case rel =>
              refine ⟨m + 1, by omega, by omega, by go_num, ?_⟩
              intro j h1 h2
              by_cases e : j = m
              · subst e; exact Hy.out
              · exact Hm.out j h1 (by omega)
            case measure => simp [intOf]; omega
          · have hyb : (y == 0) = false := by simp [hy0]
            clear hy0
            go_wp2
            go_ret2
            have hbig := HN1.out m m0 hlt9 (by rw [Hy.out]; intro h; rw [h] at hyb; simp at hyb)
            rw [HQ.out] at hbig
            have E : ¬ (-9223372036854775808 ≤ val zs / 10000 ∧ val zs / 10000 ≤ 9223372036854775807) := by omega
            exact ⟨ret_ib (heldV_no E).symm (heldB_no E).symm, Hbel.out⟩
        · obtain rfl : m = 9 := by omega
          have hsum := HN2.out (fun j h1 h2 => hm j h1 (by omega))
          have d0 := HD.out 0 (by omega); have d1 := HD.out 1 (by omega); have d2 := HD.out 2 (by omega); have d3 := HD.out 3 (by omega)
          have c0 := HC.out 0 (by omega); have c1 := HC.out 1 (by omega); have c2 := HC.out 2 (by omega); have c3 := HC.out 3 (by omega)
          generalize ys.getD 0 0 = y0 at *
          generalize ys.getD 1 0 = y1 at *
          generalize ys.getD 2 0 = y2 at *
          generalize ys.getD 3 0 = y3 at *
          obtain ⟨d00, d01⟩ := d0; obtain ⟨d10, d11⟩ := d1; obtain ⟨d20, d21⟩ := d2; obtain ⟨d30, d31⟩ := d3
          have Hs : Hid (val zs / 10000 = y3 * 281474976710656 + y2 * 4294967296 + y1 * 65536 + y0) := HQ.out.symm.trans hsum
          clear hsum hm HN1 HN2 HQ HN3 HD HC
          by_cases h3 : 32768 ≤ y3
          · go_wp2
            go_ret2
            have Hs := Hs.out
            have E : ¬ (-9223372036854775808 ≤ val zs / 10000 ∧ val zs / 10000 ≤ 9223372036854775807) := by omega
            exact ⟨ret_ib (heldV_no E).symm (heldB_no E).symm, Hbel.out⟩
          · have e1 : bits .or .i64 (y3 * 281474976710656) (y2 * 4294967296) = y3 * 281474976710656 + y2 * 4294967296 := bits_join .i64 63 (by decide) Ar.wraps_i64 48 _ _ (by omega) (by omega) (by omega) (by omega) (by omega) (by omega)
            have e2 : bits .or .i64 (y3 * 281474976710656 + y2 * 4294967296) (y1 * 65536) = y3 * 281474976710656 + y2 * 4294967296 + y1 * 65536 := bits_join .i64 63 (by decide) Ar.wraps_i64 32 _ _ (by omega) (by omega) (by omega) (by omega) (by omega) (by omega)
            have e3 : bits .or .i64 (y3 * 281474976710656 + y2 * 4294967296 + y1 * 65536) y0 = y3 * 281474976710656 + y2 * 4294967296 + y1 * 65536 + y0 := bits_join .i64 63 (by decide) Ar.wraps_i64 16 _ _ (by omega) (by omega) (by omega) (by omega) (by omega) (by omega)
            go_wp2
            go_quiet (fail)
            go_wp2
            go_ret2
            have Hs := Hs.out
            exact ⟨ret_ib (Hs.symm.trans (heldV_yes (by omega) (by omega)).symm) (heldB_yes (by omega) (by omega)).symm, below_drewN Hbel.out _⟩

end Go.Proofs.Ytbnhpehobadebaa
