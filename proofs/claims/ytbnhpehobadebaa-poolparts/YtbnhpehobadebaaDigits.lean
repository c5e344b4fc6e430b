/-
  The contracts of giroref1's digits, carried and times over this seat's program.
-/
import Derived.Test.YtbnhpehobadebaaBlk
import Derived.RegionTactic
import Derived.BigRegion
namespace Go.Proofs.Ytbnhpehobadebaa
open Go.RowKit
set_option linter.unusedVariables false

/-- What a round of carried does to the digits. -/
theorem carry_step (ys zs : List Int) (k : Nat) (y0 y1 M : Int) (hk : k < 8) (hl : ys.length = 9) (h0 : ys.getD k 0 = y0) (h1 : ys.getD (k + 1) 0 = y1) (hv : val ys = val zs)
    (hlo : ∀ j, j < k → 0 ≤ ys.getD j 0 ∧ ys.getD j 0 < 65536) (hhi : ∀ j, k < j → 0 ≤ ys.getD j 0 ∧ ys.getD j 0 ≤ M) (k0 : 0 ≤ y0) (k1 : y0 ≤ 2 * M) (y10 : 0 ≤ y1) (y11 : y1 ≤ M) (hM : M ≤ 1152921504606846976) :
    ((ys.set (k + 1) (y1 + y0 / 65536)).set k (y0 % 65536)).length = 9 ∧ val ((ys.set (k + 1) (y1 + y0 / 65536)).set k (y0 % 65536)) = val zs ∧
    (∀ j, j < k + 1 → 0 ≤ ((ys.set (k + 1) (y1 + y0 / 65536)).set k (y0 % 65536)).getD j 0 ∧ ((ys.set (k + 1) (y1 + y0 / 65536)).set k (y0 % 65536)).getD j 0 < 65536) ∧
    (∀ j, k + 1 < j → 0 ≤ ((ys.set (k + 1) (y1 + y0 / 65536)).set k (y0 % 65536)).getD j 0 ∧ ((ys.set (k + 1) (y1 + y0 / 65536)).set k (y0 % 65536)).getD j 0 ≤ M) ∧
    0 ≤ ((ys.set (k + 1) (y1 + y0 / 65536)).set k (y0 % 65536)).getD (k + 1) 0 ∧ ((ys.set (k + 1) (y1 + y0 / 65536)).set k (y0 % 65536)).getD (k + 1) 0 ≤ 2 * M := by
  refine ⟨by simp [hl], ?_, ?_, ?_, ?_⟩
  · have h := val_carry ys k (by omega)
    rw [h0, h1] at h
    rw [h, hv]
  · intro j hj
    by_cases e : j = k
    · subst e; rw [getD_set_self _ _ _ (by simp; omega)]; omega
    · rw [getD_set_ne _ _ _ _ (by omega), getD_set_ne _ _ _ _ (by omega)]; exact hlo j (by omega)
  · intro j hj
    rw [getD_set_ne _ _ _ _ (by omega), getD_set_ne _ _ _ _ (by omega)]; exact hhi j (by omega)
  · rw [getD_set_ne _ _ _ _ (by omega), getD_set_self _ _ _ (by omega)]; omega

set_option maxHeartbeats 2000000 in
theorem carried_any (b cap B : Nat) (zs : List Int) (M : Int) (hM : M ≤ 1152921504606846976) (hlen : zs.length = 9) (hz : ∀ j, 0 ≤ zs.getD j 0 ∧ zs.getD j 0 ≤ M) (w : World) (hb : Blk w b zs) (hB : B ≤ b) :
    Calls Try.prog 24 #[.slice (some ⟨b, 0, none⟩) 9 cap] w fun e w' => e = .returned (.slice (some ⟨b, 0, none⟩) 9 cap) ∧ Below B w w' ∧ w'.heap.size = w.heap.size ∧
      ∃ ys : List Int, Blk w' b ys ∧ ys.length = 9 ∧ val ys = val zs ∧ (∀ j, j < 8 → 0 ≤ ys.getD j 0 ∧ ys.getD j 0 < 65536) ∧ 0 ≤ ys.getD 8 0 ∧ ys.getD 8 0 ≤ 2 * M := by
  go_enter Try.func24, Try.ntmps24
  go_wp2
  go_loopw [3] (fun i wr => ∃ (k : Nat) (ys : List Int), k ≤ 8 ∧ i = .int .i64 k ∧ Blk wr b ys ∧ ys.length = 9 ∧ val ys = val zs ∧ (∀ j, j < k → 0 ≤ ys.getD j 0 ∧ ys.getD j 0 < 65536) ∧
      (∀ j, k < j → 0 ≤ ys.getD j 0 ∧ ys.getD j 0 ≤ M) ∧ 0 ≤ ys.getD k 0 ∧ ys.getD k 0 ≤ 2 * M ∧ Below B w wr ∧ wr.heap.size = w.heap.size) (fun i _ => 9 - (intOf i).toNat)
  case atStart => exact ⟨0, zs, by omega, rfl, hb, hlen, rfl, fun j h => absurd h (by omega), fun j _ => hz j, (hz 0).1, by have := hz 0; omega, Below.refl _ _, rfl⟩
  case round =>
    obtain ⟨k, ys, hk, rfl, hbl, hyl, hv, hlo, hhi, k0, k1, hbel, hsz⟩ := hrel
    by_cases hlt : k < 8
    · have c0 := hbl.cell (i := k) (by omega)
      have c1 := hbl.cell (i := k + 1) (by omega)
      have f0 := hbl.free k
      have f1 := hbl.free (k + 1)
      obtain ⟨y0, hy0⟩ : ∃ y, ys.getD k 0 = y := ⟨_, rfl⟩
      obtain ⟨y1, hy1⟩ : ∃ y, ys.getD (k + 1) 0 = y := ⟨_, rfl⟩
      have y1b := hhi (k + 1) (by omega)
      rw [hy0] at c0 k0 k1
      rw [hy1] at c1 y1b
      obtain ⟨y10, y11⟩ := y1b
      have HV : Hid (val ys = val zs) := hv
      have H0 : Hid (ys.getD k 0 = y0) := hy0
      have H1 : Hid (ys.getD (k + 1) 0 = y1) := hy1
      have HL : Hid (∀ j, j < k → 0 ≤ ys.getD j 0 ∧ ys.getD j 0 < 65536) := hlo
      have HH : Hid (∀ j, k < j → 0 ≤ ys.getD j 0 ∧ ys.getD j 0 ≤ M) := hhi
      have HB : Hid (Blk wr b ys) := hbl
      have Hbel : Hid (Below B w wr) := hbel
      have Hz : Hid (wr.heap.size = w.heap.size) := hsz
      have Hyl : Hid (ys.length = 9) := hyl
      clear hv hy0 hy1 hlo hhi hbl hbel hsz hyl hb hz hlen
      have eA := Ar.low16_i64 y0
      have i0 : (0 : Int) ≤ (k : Int) := by omega
      have i1 : (k : Int) < 8 := by omega
      go_wp2
      go_region
      all_goals go_wp2
      go_roundw
      case rel =>
        obtain ⟨R1, R2, R3, R4, R5, R6⟩ := carry_step ys zs k y0 y1 M hlt Hyl.out H0.out H1.out HV.out HL.out HH.out k0 k1 y10 y11 hM
        exact ⟨k + 1, (ys.set (k + 1) (y1 + y0 / 65536)).set k (y0 % 65536), by omega, by go_num, (HB.out.set (k + 1) _).set k _, R1, R2, R3, R4, R5, R6,
          ((Hbel.out.setCell (p := ⟨b, k + 1, none⟩) hB _).setCell (p := ⟨b, k, none⟩) hB _).drew, by simpa using Hz.out⟩
      case measure => simp [intOf]; omega
    · obtain rfl : k = 8 := by omega
      have R : Hid (∃ ys : List Int, Blk wr b ys ∧ ys.length = 9 ∧ val ys = val zs ∧ (∀ j, j < 8 → 0 ≤ ys.getD j 0 ∧ ys.getD j 0 < 65536) ∧ 0 ≤ ys.getD 8 0 ∧ ys.getD 8 0 ≤ 2 * M) := ⟨ys, hbl, hyl, hv, hlo, k0, k1⟩
      have Hbel : Hid (Below B w wr) := hbel
      have Hz : Hid (wr.heap.size = w.heap.size) := hsz
      clear hbl hyl hv hlo hhi k0 k1 hbel hsz hb hz hlen
      go_wp2
      go_ret
      exact ⟨rfl, Hbel.out, Hz.out, R.out⟩

set_option maxHeartbeats 400000 in
theorem digits_any (a : Int) (a0 : 0 ≤ a) (a1 : a ≤ 9223372036854775807) (w : World) :
    Calls Try.prog 23 #[.int .i64 a] w fun e w' => e = .returned (.slice (some ⟨w.heap.size, 0, none⟩) 4 4) ∧
      w' = w.alloc (.cells #[.int .i64 (a % 65536), .int .i64 (a / 65536 % 65536), .int .i64 (a / 4294967296 % 65536), .int .i64 (a / 281474976710656 % 65536)] 2) := by
  have e0 := Ar.low16_i64 a
  have e1 := Ar.low16_i64 (a / 65536)
  have e2 := Ar.low16_i64 (a / 4294967296)
  have e3 := Ar.low16_i64 (a / 281474976710656)
  go_enter Try.func23, Try.ntmps23
  go_wp2
  go_ret
  exact ⟨rfl, rfl⟩

theorem val_mul (ys zs : List Int) (n : Int) (hl : ys.length = zs.length) (h : ∀ j, j < zs.length → ys.getD j 0 = zs.getD j 0 * n) : val ys = val zs * n := by
  induction zs generalizing ys with
  | nil => simp at hl; subst hl; simp [val]
  | cons z zs ih =>
    cases ys with
    | nil => simp at hl
    | cons y ys =>
      have h0 := h 0 (by simp)
      simp at h0
      have h1 := ih ys (by simpa using hl) (fun j hj => by simpa using h (j + 1) (by simpa using hj))
      simp only [val]
      rw [h1, h0, Int.add_mul, Int.mul_assoc]

set_option maxHeartbeats 2000000 in
theorem times_any (b cap B : Nat) (zs : List Int) (n M : Int) (n0 : 0 ≤ n) (n1 : n ≤ 10000) (hM : M ≤ 70368744177664) (hlen : zs.length = 9) (hz : ∀ j, 0 ≤ zs.getD j 0 ∧ zs.getD j 0 ≤ M) (w : World) (hb : Blk w b zs) (hB : B ≤ b) :
    Calls Try.prog 18 #[.slice (some ⟨b, 0, none⟩) 9 cap, .int .i64 n] w fun e w' => e = .returned (.slice (some ⟨b, 0, none⟩) 9 cap) ∧ Below B w w' ∧ w'.heap.size = w.heap.size ∧
      ∃ ys : List Int, Blk w' b ys ∧ ys.length = 9 ∧ val ys = val zs * n ∧ (∀ j, j < 8 → 0 ≤ ys.getD j 0 ∧ ys.getD j 0 < 65536) ∧ 0 ≤ ys.getD 8 0 ∧ ys.getD 8 0 ≤ 2 * (M * 10000) := by
  go_enter Try.func18, Try.ntmps18
  go_wp2
  go_loopw [5] (fun i wr => ∃ (k : Nat) (ys : List Int), k ≤ 9 ∧ i = .int .i64 k ∧ Blk wr b ys ∧ ys.length = 9 ∧ (∀ j, j < k → ys.getD j 0 = zs.getD j 0 * n) ∧
      (∀ j, k ≤ j → ys.getD j 0 = zs.getD j 0) ∧ Below B w wr ∧ wr.heap.size = w.heap.size) (fun i _ => 9 - (intOf i).toNat)
  case atStart => exact ⟨0, zs, by omega, rfl, hb, hlen, fun j h => absurd h (by omega), fun j _ => rfl, Below.refl _ _, rfl⟩
  case round =>
    obtain ⟨k, ys, hk, rfl, hbl, hyl, hlo, hhi, hbel, hsz⟩ := hrel
    by_cases hlt : k < 9
    · have c0 := hbl.cell (i := k) (by omega)
      have f0 := hbl.free k
      obtain ⟨y0, hy0⟩ : ∃ y, zs.getD k 0 = y := ⟨_, rfl⟩
      rw [hhi k (Nat.le_refl _), hy0] at c0
      have yb := hz k
      rw [hy0] at yb
      obtain ⟨yb0, yb1⟩ := yb
      obtain ⟨p, hp⟩ : ∃ p, y0 * n = p := ⟨_, rfl⟩
      have p0 : 0 ≤ p := by rw [← hp]; exact Int.mul_nonneg yb0 n0
      have p1 : p ≤ 703687441776640000 := by
        have h := Int.mul_le_mul (show y0 ≤ 70368744177664 by omega) n1 n0 (by decide : (0 : Int) ≤ 70368744177664)
        omega
      have R : Hid (Blk wr b ys ∧ ys.length = 9 ∧ (∀ j, j < k → ys.getD j 0 = zs.getD j 0 * n) ∧ (∀ j, k ≤ j → ys.getD j 0 = zs.getD j 0) ∧ Below B w wr ∧ wr.heap.size = w.heap.size ∧ zs.getD k 0 = y0 ∧ y0 * n = p) := ⟨hbl, hyl, hlo, hhi, hbel, hsz, hy0, hp⟩
      clear hbl hyl hlo hhi hbel hsz hb hz hlen hy0
      have i1 : (k : Int) < 9 := by omega
      go_wp2
      go_roundw
      case rel =>
        obtain ⟨hbl, hyl, hlo, hhi, hbel, hsz, hy0, hp⟩ := R.out
        refine ⟨k + 1, ys.set k p, by omega, by go_num, hbl.set k _, by simp [hyl], ?_, ?_, hbel.setCell (p := ⟨b, k, none⟩) hB _, by simpa using hsz⟩
        · intro j hj
          by_cases e : j = k
          · subst e; rw [getD_set_self _ _ _ (by omega), hy0, hp]
          · rw [getD_set_ne _ _ _ _ (by omega)]; exact hlo j (by omega)
        · intro j hj
          rw [getD_set_ne _ _ _ _ (by omega)]; exact hhi j (by omega)
      case measure => simp [intOf]; omega
    · obtain rfl : k = 9 := by omega
      have hv := val_mul ys zs n (by omega) (fun j hj => hlo j (by omega))
      have hyb : ∀ j, 0 ≤ ys.getD j 0 ∧ ys.getD j 0 ≤ M * 10000 := by
        intro j
        by_cases e : j < 9
        · rw [hlo j e]
          have h := hz j
          exact ⟨Int.mul_nonneg h.1 n0, Int.mul_le_mul h.2 n1 n0 (by omega)⟩
        · have h := hz 0
          simp [List.getD_eq_getElem?_getD, show ys.length ≤ j by omega]
          omega
      have C := carried_any b cap B ys (M * 10000) (by omega) hyl hyb wr hbl hB
      have Hbel : Hid (Below B w wr) := hbel
      have Hz : Hid (wr.heap.size = w.heap.size) := hsz
      have HV : Hid (val ys = val zs * n) := hv
      have HC : Hid (Calls Try.prog 24 #[.slice (some ⟨b, 0, none⟩) 9 cap] wr fun e w' => e = .returned (.slice (some ⟨b, 0, none⟩) 9 cap) ∧ Below B wr w' ∧ w'.heap.size = wr.heap.size ∧
        ∃ xs : List Int, Blk w' b xs ∧ xs.length = 9 ∧ val xs = val ys ∧ (∀ j, j < 8 → 0 ≤ xs.getD j 0 ∧ xs.getD j 0 < 65536) ∧ 0 ≤ xs.getD 8 0 ∧ xs.getD 8 0 ≤ 2 * (M * 10000)) := C
      clear hbl hyl hlo hhi hbel hsz hb hz hlen hv hyb C
      go_wp2_with (go_at_call 24; refine (HC.out).mono ?_; rintro e w' ⟨rfl, bel, hsz, xs, X1, X2, X3, X4, X5, X6⟩)
      go_ret
      exact ⟨rfl, Hbel.out.trans bel, hsz.trans Hz.out, xs, X1, X2, X3.trans HV.out, X4, X5, X6⟩

end Go.Proofs.Ytbnhpehobadebaa
