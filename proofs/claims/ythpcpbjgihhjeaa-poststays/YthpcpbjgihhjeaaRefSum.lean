/-
  The contracts of giroref1's (wide).add and Sum over this seat's program.
-/
import Derived.Test.YthpcpbjgihhjeaaProduct
import Derived.Deep.RegionWith
namespace Go.Proofs.Ythpcpbjgihhjeaa
open Go.RowKit
set_option linter.unusedVariables false

set_option maxHeartbeats 1000000 in
theorem wide_add (h l n : Int) (h0 : -1099511627776 ≤ h) (h1 : h ≤ 1099511627776) (l0 : 0 ≤ l) (l1 : l < 4294967296) (n0 : -9223372036854775808 ≤ n) (n1 : n ≤ 9223372036854775807) (w : World) :
    Calls Try.prog 34 #[.agg #[.int .i64 h, .int .i64 l], .int .i64 n] w fun e w' =>
      e = .returned (.agg #[.int .i64 (h + n / 4294967296 + (l + n % 4294967296) / 4294967296), .int .i64 ((l + n % 4294967296) % 4294967296)]) ∧ Below w.heap.size w w' := by
  have e0 := Ar.low32_i64 n
  have e1 := Ar.low32_i64 (l + n % 4294967296)
  go_enter Try.func34, Try.ntmps34
  go_wp2
  refine bodyPost_ret (v := .agg #[.int .i64 (h + n / 4294967296 + (l + n % 4294967296) / 4294967296), .int .i64 ((l + n % 4294967296) % 4294967296)]) (by simp [results, Try.results34, go_sem]) rfl ⟨rfl, ?_⟩
  repeat (first | exact Below.refl _ _ | apply below_drewN | refine Below.alloc ?_ (by simp <;> omega) _ | refine Below.setCell ?_ (by simp <;> omega) _)

/-- The number in two halves, in a block of its own. -/
def Two (w : World) (b : Nat) (H L : Int) : Prop := w.heap[b]? = some (.cells #[.int .i64 H, .int .i64 L] 62 (0, 0))
theorem Two.lt {w : World} {b : Nat} {H L : Int} (h : Two w b H L) : b < w.heap.size := lt_of_block h
theorem Two.c0 {w : World} {b : Nat} {H L : Int} (h : Two w b H L) : w.cell? ⟨b, 0, none⟩ = some (.int .i64 H) := by rw [cell_of_row w b 0 _ _ _ h]; rfl
theorem Two.c1 {w : World} {b : Nat} {H L : Int} (h : Two w b H L) : w.cell? ⟨b, 1, none⟩ = some (.int .i64 L) := by rw [cell_of_row w b 1 _ _ _ h]; rfl
theorem Two.free {w : World} {b : Nat} {H L : Int} (h : Two w b H L) (i : Nat) : w.frozen? ⟨b, i, none⟩ = false := frozen_of_row w b i _ _ h
theorem Two.below {B : Nat} {w w' : World} {b : Nat} {H L : Int} (h : Two w b H L) (k : Below B w w') (hb : b < B) : Two w' b H L := (k.block b hb).trans h
theorem Two.set {w : World} {b : Nat} {H L : Int} (h : Two w b H L) (x y : Int) : Two ((w.setCell ⟨b, 0, none⟩ (.int .i64 x)).setCell ⟨b, 1, none⟩ (.int .i64 y)) b x y := by
  unfold Two
  rw [heap_setCell_same _ b 1 _ _ _ (heap_setCell_same w b 0 _ _ _ h)]
  rfl

set_option maxHeartbeats 2000000 in
theorem refSum_row (b off cap : Nat) (zs : List Int) (w : World) (hbw : b < w.heap.size) (hlen : zs.length ≤ 60)
    (hwf : ∀ n ∈ zs, -9223372036854775808 ≤ n ∧ n ≤ 9223372036854775807)
    (hc : ∀ i, i < zs.length → w.cell? ⟨b, off + i, none⟩ = some (.int .i64 (zs.getD i 0))) :
    Calls Try.prog 15 #[.slice (some ⟨b, off, none⟩) zs.length cap] w fun e w' => e = .returned (.tuple #[.int .i64 (heldV (tot zs)), .bool (heldB (tot zs))]) ∧ Below w.heap.size w w' := by
  go_enter Try.func15, Try.ntmps15
  go_wp2
  go_loopw [5] (fun s wr => ∃ (k : Nat) (H L : Int), k ≤ zs.length ∧ s = .int .i64 k ∧ Two wr w.heap.size H L ∧ 0 ≤ L ∧ L < 4294967296 ∧ H * 4294967296 + L = tot (zs.take k) ∧ -2147483650 * k ≤ H ∧ H ≤ 2147483650 * k ∧ Below w.heap.size w wr) (fun s _ => zs.length - (intOf s).toNat)
  case atStart => exact ⟨0, 0, 0, by omega, rfl, heap_alloc_new w _, by omega, by omega, by simp [tot], by omega, by omega, (Below.refl _ _).alloc (Nat.le_refl _) _⟩
  case round =>
    obtain ⟨k, H, L, hk, rfl, h2, L0, L1, hv, H0, H1, hbel⟩ := hrel
    by_cases hlt : k < zs.length
    · have hcell : wr.cell? ⟨b, off + k, none⟩ = some (.int .i64 (zs.getD k 0)) := (hbel.cell (p := ⟨b, off + k, none⟩) hbw).trans (hc k hlt)
      obtain ⟨n, hn⟩ : ∃ n, zs.getD k 0 = n := ⟨_, rfl⟩
      have hb : -9223372036854775808 ≤ n ∧ n ≤ 9223372036854775807 := by
        refine hwf n ?_
        rw [← hn]
        simp [List.getD_eq_getElem?_getD, hlt]
      obtain ⟨n0, n1⟩ := hb
      have T : Hid (tot (zs.take (k + 1)) = tot (zs.take k) + n) := by rw [tot_take zs k hlt, hn]; exact rfl
      rw [hn] at hcell
      have c0 := h2.c0; have c1 := h2.c1; have f0 := h2.free 0; have f1 := h2.free 1
      have hsz : w.heap.size < wr.heap.size := h2.lt
      have R : Hid (Two wr w.heap.size H L ∧ H * 4294967296 + L = tot (zs.take k) ∧ Below w.heap.size w wr) := ⟨h2, hv, hbel⟩
      have Hb : Hid (-2147483650 * k ≤ H ∧ H ≤ 2147483650 * k) := ⟨H0, H1⟩
      have h0 : -1099511627776 ≤ H := by omega
      have h1 : H ≤ 1099511627776 := by omega
      clear hc hwf hn h2 hv hbel H0 H1
      have i1 : (k : Int) < (zs.length : Int) := by omega
      have i2 : (zs.length : Int) ≤ 60 := by omega
      go_wp2
      go_region_with (go_at_call 34; refine (wide_add H L n h0 h1 L0 L1 n0 n1 _).mono ?_; rintro e w1 ⟨rfl, bel⟩; have d0 := (bel.cell (p := ⟨w.heap.size, 0, none⟩) hsz).trans c0; have d1 := (bel.cell (p := ⟨w.heap.size, 1, none⟩) hsz).trans c1; have g0 := (bel.frozen (p := ⟨w.heap.size, 0, none⟩) hsz).trans f0; have g1 := (bel.frozen (p := ⟨w.heap.size, 1, none⟩) hsz).trans f1)
      all_goals
        have hb1 : Below wr.heap.size wr w1 := ((Below.refl _ _).drew).trans bel
        have HB1 : Hid (Below wr.heap.size wr w1) := hb1
        clear hb1 bel
        go_wp2
        go_roundw
        case rel =>
          obtain ⟨h2, hv, hbel⟩ := R.out
          have T := T.out
          have Hb := Hb.out
          refine ⟨k + 1, H + n / 4294967296 + (L + n % 4294967296) / 4294967296, (L + n) % 4294967296, by omega, by go_num, (h2.below HB1.out hsz).set _ _, by omega, by omega, by rw [T]; omega, by omega, by omega, ?_⟩
          exact ((hbel.trans (HB1.out.mono (Nat.le_of_lt hsz))).setCell (p := ⟨w.heap.size, 0, none⟩) (Nat.le_refl _) _).setCell (p := ⟨w.heap.size, 1, none⟩) (Nat.le_refl _) _
        case measure => simp [intOf]; omega
    · have hK : zs.take k = zs := List.take_of_length_le (by omega)
      rw [hK] at hv
      have c0 := h2.c0; have c1 := h2.c1
      have hsz : w.heap.size < wr.heap.size := h2.lt
      have Hbel : Hid (Below w.heap.size w wr) := hbel
      have h0 : -1099511627776 ≤ H := by omega
      have h1 : H ≤ 1099511627776 := by omega
      have HV : Hid (H * 4294967296 + L = tot zs) := hv
      clear hc hwf hK h2 hbel hv H0 H1
      by_cases g1 : H < -2147483648
      · go_wp2
        go_ret2
        have hv := HV.out
        have E : ¬ (-9223372036854775808 ≤ tot zs ∧ tot zs ≤ 9223372036854775807) := by omega
        exact ⟨ret_ib (heldV_no E).symm (heldB_no E).symm, Hbel.out⟩
      by_cases g2 : 2147483648 ≤ H
      · go_wp2
        go_ret2
        have hv := HV.out
        have E : ¬ (-9223372036854775808 ≤ tot zs ∧ tot zs ≤ 9223372036854775807) := by omega
        exact ⟨ret_ib (heldV_no E).symm (heldB_no E).symm, Hbel.out⟩
      · go_wp2
        go_ret2
        have hv := HV.out
        exact ⟨ret_ib (hv.trans (heldV_yes (by omega) (by omega)).symm) (heldB_yes (by omega) (by omega)).symm, Hbel.out⟩

set_option maxHeartbeats 1000000 in
theorem refSum_none (a : Option Addr) (cap : Nat) (w : World) :
    Calls Try.prog 15 #[.slice a 0 cap] w fun e w' => e = .returned (.tuple #[.int .i64 0, .bool true]) ∧ Below w.heap.size w w' := by
  go_enter Try.func15, Try.ntmps15
  go_wp2
  refine wp_loop_rounds 1 ?_
  rw [rounds_succ]
  go_wp2
  go_ret2
  exact ⟨rfl, (Below.refl _ _).alloc (Nat.le_refl _) _⟩

/-- The reference's Sum. -/
theorem refSum_any (a : Option Addr) (len cap : Nat) (zs : List Int) (w : World) (h : Has w a len zs) (hl : len ≤ 60) :
    Calls Try.prog 15 #[.slice a len cap] w fun e w' => e = .returned (.tuple #[.int .i64 (heldV (tot zs)), .bool (heldB (tot zs))]) ∧ Below w.heap.size w w' := by
  obtain ⟨rfl, h1, h2, h3⟩ := h
  rcases h3 with rfl | ⟨b, off, rfl, h3⟩
  · refine (refSum_none a cap w).mono ?_
    rintro e w' ⟨rfl, hw⟩
    exact ⟨by simp [tot, heldV, heldB], hw⟩
  · by_cases e : zs = []
    · subst e
      refine (refSum_none _ cap w).mono ?_
      rintro e w' ⟨rfl, hw⟩
      exact ⟨by simp [tot, heldV, heldB], hw⟩
    · have hp : 0 < zs.length := by cases zs with | nil => exact absurd rfl e | cons x l => simp
      exact refSum_row b off cap zs w (block_lt_of_cell (h3 0 hp)) hl h2 h3

end Go.Proofs.Ythpcpbjgihhjeaa
