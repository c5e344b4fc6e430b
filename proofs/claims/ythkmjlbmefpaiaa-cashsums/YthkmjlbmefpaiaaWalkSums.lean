/-
  The walk of girolaw1.CashSums: it answers true whatever the arguments, and writes nothing that was there.
-/
import Derived.Test.YthkmjlbmefpaiaaRot
import Derived.Test.YthkmjlbmefpaiaaWalkTells
namespace Go.Proofs.Ythkmjlbmefpaiaa
open Go.RowKit
set_option linter.unusedVariables false
namespace Walk

/-- A slice of integers that came in: nil, or a row of cells. -/
def IsRow (k : IntKind) (w : World) (a : Option Addr) (len cap : Nat) (zs : List Int) : Prop :=
  (a = none ∧ len = 0 ∧ cap = 0 ∧ zs = []) ∨
  ∃ x, a = some x ∧ len ≤ cap ∧ cap ≤ maxLen ∧ zs.length = cap ∧ (∀ i, i < zs.length → w.cell? (x.add i) = some (.int k (zs.getD i 0))) ∧ ∀ n ∈ zs, (Lit.int k n).wf = true

set_option maxHeartbeats 400000 in
theorem sums_long (a : Option Addr) (len cap : Nat) (turn : Int) (w : World) (h : 60 < len) (hm : len ≤ 9223372036854775807) :
    Calls Try.prog 4 #[.slice a len cap, .int .i64 turn] w fun e w' => e = .returned (.bool true) ∧ Below w.heap.size w w' := by
  have h1 : (60 : Int) < (len : Int) := by omega
  go_enter Try.func4, Try.ntmps4
  go_wp2
  go_ret
  exact ⟨rfl, Below.refl _ _⟩

set_option maxHeartbeats 1000000 in
theorem sums_none (a : Option Addr) (cap : Nat) (turn : Int) (w : World) :
    Calls Try.prog 4 #[.slice a 0 cap, .int .i64 turn] w fun e w' => e = .returned (.bool true) ∧ Below w.heap.size w w' := by
  go_enter Try.func4, Try.ntmps4
  go_wp2_with (first
    | (go_at_call 16; refine (sum_none _ _ _).mono ?_; rintro e w' ⟨rfl, rfl⟩)
    | (go_at_call 17; refine (refSum_none _ _ _).mono ?_; rintro e w1 ⟨rfl, bel1⟩))
  refine wp_loop_rounds 1 ?_
  rw [rounds_succ]
  go_wp2_with (first
    | (go_at_call 16; refine (sum_none _ _ _).mono ?_; rintro e w' ⟨rfl, rfl⟩)
    | (go_at_call 15; refine (known_any _).mono ?_; rintro e w2 ⟨rfl, bel2⟩))
  go_ret
  exact ⟨rfl, bel1.trans (bel2.mono bel1.size)⟩

set_option maxHeartbeats 2000000 in
theorem sums_row (b off cap t : Nat) (zs : List Int) (turn : Int) (w : World) (eT : bits .and .i64 turn 63 = (t : Int)) (t1 : t ≤ 63) (h0 : 0 < zs.length) (hlen : zs.length ≤ 60)
    (hwf : ∀ n ∈ zs, -9223372036854775808 ≤ n ∧ n ≤ 9223372036854775807)
    (hc : ∀ i, i < zs.length → w.cell? ⟨b, off + i, none⟩ = some (.int .i64 (zs.getD i 0))) :
    Calls Try.prog 4 #[.slice (some ⟨b, off, none⟩) zs.length cap, .int .i64 turn] w fun e w' => e = .returned (.bool true) ∧ Below w.heap.size w w' := by
  have hH : Has w (some ⟨b, off, none⟩) zs.length zs := ⟨rfl, by omega, hwf, .inr ⟨b, off, rfl, hc⟩⟩
  have S1 := sum_any (some ⟨b, off, none⟩) zs.length cap zs w hH
  have S2 := refSum_any (some ⟨b, off, none⟩) zs.length cap zs w hH hlen
  obtain ⟨i0, hi, hz0, hz1, hz2⟩ := info_parts Try.info2
  have hbw : b < w.heap.size := block_lt_of_cell (hc 0 h0)
  have l1 : (zs.length : Int) ≤ 60 := by omega
  have l0 : (0 : Int) < (zs.length : Int) := by omega
  have lne : ((zs.length : Int) == 0) = false := by rw [beq_eq_false_iff_ne]; omega
  have HH : Hid (∀ i, i < zs.length → w.cell? ⟨b, off + i, none⟩ = some (.int .i64 (zs.getD i 0))) := hc
  have HW : Hid (∀ n ∈ zs, -9223372036854775808 ≤ n ∧ n ≤ 9223372036854775807) := hwf
  clear hH hc hwf
  go_enter Try.func4, Try.ntmps4
  go_wp2_with fail
  refine S1.mono ?_
  rintro e w' ⟨rfl, hw'⟩
  rw [hw']
  clear S1 hw'
  go_wp2_with fail
  refine S2.mono ?_
  rintro e w1 ⟨rfl, bel1⟩
  clear S2
  have B1 : Hid (Below w.heap.size w w1) := bel1
  clear bel1
  go_wp2
  go_loopw [9, 10] (fun v i wr => ∃ k : Nat, k ≤ zs.length ∧ i = .int .i64 k ∧ wr.ownsRow w.heap.size 2 1 v k ((rot zs t k).map (Value.int .i64)) ∧ Below w.heap.size w wr) (fun _ i _ => zs.length - (intOf i).toNat)
  case atStart => exact ⟨0, by omega, rfl, World.ownsRow_nil _ _ _ _, B1.out⟩
  case round =>
    obtain ⟨k, hk, rfl, hown, hbel⟩ := hrel
    by_cases hlt : k < zs.length
    · have hm := Nat.mod_lt (k + t) h0
      obtain ⟨n, hn⟩ : ∃ n, zs.getD ((k + t) % zs.length) 0 = n := ⟨_, rfl⟩
      have hcell : wr.cell? ⟨b, off + (k + t) % zs.length, none⟩ = some (.int .i64 n) := by
        rw [← hn]
        exact (hbel.cell (p := ⟨b, off + (k + t) % zs.length, none⟩) hbw).trans (HH.out _ hm)
      have Hn : Hid (zs.getD ((k + t) % zs.length) 0 = n) := hn
      have Hbel : Hid (Below w.heap.size w wr) := hbel
      have hws : w.heap.size ≤ wr.heap.size := hbel.size
      have k1 : (k : Int) < (zs.length : Int) := by omega
      have m1 : ((k : Int) + (t : Int)) % (zs.length : Int) < (zs.length : Int) := Int.emod_lt_of_pos _ l0
      have m0 : 0 ≤ ((k : Int) + (t : Int)) % (zs.length : Int) := Int.emod_nonneg _ (by omega)
      clear hn hbel
      go_wp2_with (at_builtin; refine wpList_append_own _ rfl _ _ 27 rfl w.heap.size 2 i0 (.int .i64 0) 1 8 Try.underlying27 hi hz0 hz1 hz2 rfl (by decide) _ _ _ rfl (hown.alloc _) ⟨wr.heap.size, 0, none⟩ 1 1 [.int .i64 n] rfl rfl ?c1 ?c2 ?c3 ?c4 ?c5 ?_)
      case c1 =>
        intro j u hj
        match j, hj with
        | 0, hj => simp at hj; subst hj; simp [Addr.add]
      case c2 => intro u hu; simp at hu; subst hu; rfl
      case c3 => unfold maxLen; omega
      case c4 => omega
      case c5 => simp; omega
      intro v' w2 hown' hgrow _
      have R1 : Hid (w2.ownsRow w.heap.size 2 1 v' (k + 1) ((rot zs t (k + 1)).map (Value.int .i64))) := by
        have e : (rot zs t (k + 1)).map (Value.int .i64) = (rot zs t k).map (Value.int .i64) ++ [Value.int .i64 n] := by
          rw [← Hn.out]; simp [rot]
        show w2.ownsRow w.heap.size 2 1 v' (k + 1) ((rot zs t (k + 1)).map (Value.int .i64))
        rw [e]; exact hown'
      have R2 : Hid (Below w.heap.size w w2) := (Hbel.out.alloc hws _).grown hgrow (by simp; omega) (fun j hj => (hown.lt j hj).1)
      clear hown' hgrow hown hcell Hn Hbel
      go_wp2
      go_roundw
      case rel => exact ⟨k + 1, by omega, by go_num, R1.out, R2.out⟩
      case measure => simp [intOf]; omega
    · obtain rfl : k = zs.length := by omega
      rename_i v _
      have hr := rot_length zs t zs.length
      obtain ⟨a, c, hv, hh⟩ := has_own (ys := rot zs t zs.length) (by rw [hr]; exact hown) (by omega) (rot_wf zs t zs.length h0 HW.out)
      rw [hr] at hv hh
      have S3 := sum_any a zs.length c (rot zs t zs.length) wr hh
      rw [tot_rot zs t h0] at S3
      subst hv
      have Hbel : Hid (Below w.heap.size w wr) := hbel
      clear hown hh hr hbel
      go_wp2_with fail
      refine S3.mono ?_
      rintro e w3 ⟨rfl, hw3⟩
      rw [hw3]
      clear S3 hw3
      go_wp2_with (go_at_call 15; refine (known_any _).mono ?_; rintro e w4 ⟨rfl, bel4⟩)
      go_ret
      exact ⟨rfl, Hbel.out.trans (bel4.mono Hbel.out.size)⟩

theorem cashSums (a0 : Option Addr) (len0 cap0 : Nat) (z0 : List Int) (a1 : Int) (w : World) (w0 : IsRow .i64 w a0 len0 cap0 z0) (w1 : (Lit.int .i64 a1).wf = true) :
    Calls Try.prog 4 #[.slice a0 len0 cap0, .int .i64 a1] w fun e w' => e = .returned (.bool true) ∧ Below w.heap.size w w' := by
  by_cases h0 : len0 = 0
  · subst h0; exact sums_none a0 cap0 a1 w
  rcases w0 with ⟨_, h, _⟩ | ⟨x, rfl, hl, hm, hz, hcell, hwz⟩
  · exact absurd h h0
  unfold maxLen at hm
  by_cases h1 : 60 < len0
  · exact sums_long _ len0 cap0 a1 w h1 (by omega)
  · obtain ⟨b, off, spot⟩ := x
    have hs := hcell 0 (by omega)
    have hspot : spot = none := by simpa [Addr.add] using World.cell?_spot hs
    subst hspot
    have hlen : (z0.take len0).length = len0 := by simp; omega
    have hc : ∀ i, i < (z0.take len0).length → w.cell? ⟨b, off + i, none⟩ = some (.int .i64 ((z0.take len0).getD i 0)) := by
      intro i hi
      rw [hlen] at hi
      have h := hcell i (by omega)
      have e : (z0.take len0).getD i 0 = z0.getD i 0 := by simp [List.getD_eq_getElem?_getD, hi]
      have ea : (⟨b, off, none⟩ : Addr).add i = ⟨b, off + i, none⟩ := by cases i <;> simp [Addr.add]
      rw [ea] at h
      rw [e]
      exact h
    have hwf : ∀ n ∈ z0.take len0, -9223372036854775808 ≤ n ∧ n ≤ 9223372036854775807 := fun n hn => i64_bounds (hwz n (List.mem_of_mem_take hn))
    have hT : bits .and .i64 a1 63 = ((a1 % 64).toNat : Int) := by
      rw [Ar.low_i64 6 63 (by decide) (by decide) a1]
      show a1 % 64 = _
      omega
    have := sums_row b off cap0 (a1 % 64).toNat (z0.take len0) a1 w hT (by omega) (by omega) (by omega) hwf hc
    rw [hlen] at this
    exact this

end Walk
end Go.Proofs.Ythkmjlbmefpaiaa
