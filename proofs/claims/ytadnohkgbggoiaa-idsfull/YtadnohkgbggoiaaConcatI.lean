/-
  slices.Concat of three rows of int64s; slices.Grow of nil.
-/
import Derived.Test.YtadnohkgbggoiaaGood
import Derived.Lib.AppendZeros
namespace Go.Proofs.Ytadnohkgbggoiaa
open Go.RowKit
set_option linter.unusedVariables false
set_option linter.unusedSimpArgs false

set_option maxHeartbeats 1000000 in
theorem grow_any (n : Nat) (w : World) (h0 : 0 < n) (h : n ≤ 1000000) : Calls Try.prog 19 #[.slice none 0 0, .int .i64 n] w fun e w' => ∃ v, e = .returned v ∧ w'.ownsRow w.heap.size 2 1 v 0 [] ∧ Below w.heap.size w w' := by
  obtain ⟨i0, hi, hz0, hz1, hz2⟩ := info_parts infoI64
  have hr := fun ty => Lib.run_append_nil_zeros (P := Try.prog) w 22 3 ty 2 i0 (.int .i64 0) .i64 .i64 Try.underlying22 Try.underlying3 hi hz0 n h0 (by rw [hz1]; decide) (by omega) (by rw [hz2]; omega)
  obtain ⟨cp, hcp⟩ : ∃ cp, grownCap w n 0 2 = cp := ⟨_, rfl⟩
  have hge : n ≤ cp := by rw [← hcp]; exact grownCap_ge w n 0 _
  have hmx : cp ≤ maxLen := by rw [← hcp]; exact grownCap_le_maxLen w n 0 _ (by unfold maxLen; omega)
  simp only [hcp] at hr
  obtain ⟨w1, hw1⟩ : ∃ w1, w1 = w.drew.alloc (.cells (Builtin.zeroCells (Value.int .i64 0).cells n ++ Builtin.zeroCells (Value.int .i64 0).cells (cp - n)) 2) := ⟨_, rfl⟩
  rw [← hw1] at hr
  have HO : Hid (w1.ownsRow w.heap.size 2 1 (.slice (some ⟨w.heap.size, 0, none⟩) 0 cp) 0 []) := by
    rw [hw1]
    have := World.ownsRow_made (e := 2) (size := 1) (base := w.heap.size) w.drew (Builtin.zeroCells (Value.int .i64 0).cells n ++ Builtin.zeroCells (Value.int .i64 0).cells (cp - n)) cp (Nat.le_refl _) hmx (by simp [size_zeroCells, Value.cells]; omega)
    exact this
  have HB : Hid (Below w.heap.size w w1) := by
    rw [hw1]
    exact ((Below.refl _ _).drew).alloc (Nat.le_refl _) _
  have hmx' : cp ≤ 9223372036854775807 := hmx
  have i1 : (0 : Int) < (n : Int) := by omega
  have i2 : (n : Int) ≤ (cp : Int) := by omega
  clear hw1 hcp hmx
  go_enter Try.func19, Try.ntmps19
  go_wp2_with (at_builtin; refine Lib.wpList_append_run _ rfl _ _ _ _ rfl _ _ rfl rfl _ _ (hr _) ?_)
  go_ret
  exact ⟨_, rfl, HO.out, HB.out⟩

set_option maxHeartbeats 4000000 in
theorem concat3 (b c : Nat) (a1 a2 a3 : Option Addr) (n1 n2 n3 c1 c2 c3 : Nat) (l1 l2 l3 : List Int) (w : World) (p1 : w.cell? ⟨b, 0, none⟩ = some (.slice a1 n1 c1)) (p2 : w.cell? ⟨b, 1, none⟩ = some (.slice a2 n2 c2)) (p3 : w.cell? ⟨b, 2, none⟩ = some (.slice a3 n3 c3))
    (h1 : Good w a1 n1 c1 l1) (h2 : Good w a2 n2 c2 l2) (h3 : Good w a3 n3 c3 l3) (h0 : 0 < n1 + n2 + n3) (hr : n1 + n2 + n3 ≤ 1000000) :
    Calls Try.prog 16 #[.slice (some ⟨b, 0, none⟩) 3 c] w (MadeEnd w (l1 ++ (l2 ++ l3))) := by
  obtain ⟨i0, hi, hz0, hz1, hz2⟩ := info_parts infoI64
  have H1 : Hid (Good w a1 n1 c1 l1) := h1
  have H2 : Hid (Good w a2 n2 c2 l2) := h2
  have H3 : Hid (Good w a3 n3 c3 l3) := h3
  have G := grow_any (n1 + n2 + n3) w h0 hr
  obtain ⟨N, hN⟩ : ∃ N, n1 + n2 + n3 = N := ⟨_, rfl⟩
  rw [hN] at G
  have hNi : ((n1 : Int) + (n2 : Int) + (n3 : Int)) = (N : Int) := by omega
  have i1 : (n1 : Int) ≤ 1000000 := by omega
  have i2 : (n1 : Int) + (n2 : Int) ≤ 1000000 := by omega
  have i3 : (n1 : Int) + (n2 : Int) + (n3 : Int) ≤ 1000000 := by omega
  have HN : Hid (n1 + n2 + n3 = N) := hN
  have W12 : Hid (∀ z ∈ l1 ++ (l2 ++ l3), IntKind.i64.wrap z = z) := by
    intro z hz
    rw [List.mem_append, List.mem_append] at hz
    rcases hz with hz | hz | hz
    · exact h1.sl.2.1 z hz
    · exact h2.sl.2.1 z hz
    · exact h3.sl.2.1 z hz
  clear h1 h2 h3 hN
  go_enter Try.func16, Try.ntmps16
  go_wp2
  refine wp_loop_rounds 4 ?_
  rw [rounds_succ]
  go_wp2
  rw [rounds_succ]
  go_wp2
  rw [rounds_succ]
  go_wp2
  rw [rounds_succ]
  go_wp2_with fail
  go_at_call 19
  refine G.mono ?_
  rintro e w1 ⟨v, rfl, hown, hb⟩
  have B1 : Hid (Below w.heap.size w w1) := hb
  have O1 : Hid (w1.ownsRow w.heap.size 2 1 v 0 []) := hown
  have q1 : w1.cell? ⟨b, 0, none⟩ = some (.slice a1 n1 c1) := by rw [hb.cell (p := ⟨b, 0, none⟩) (block_lt_of_cell p1)]; exact p1
  have S1 : Hid (Good w1 a1 n1 c1 l1) := H1.out.below hb
  clear hb hown G p1 H1
  go_wp2
  refine wp_loop_rounds 4 ?_
  rw [rounds_succ]
  go_wp2_with (refine wpList_append_sl rfl _ _ 22 rfl w.heap.size 2 i0 (.int .i64 0) 8 Try.underlying22 hi hz0 hz1 hz2 rfl v 0 [] rfl O1.out .i64 a1 n1 c1 l1 rfl S1.out.sl S1.out.nil0 ?d1 ?d2 B1.out.size ?_)
  case d1 => have := HN.out; unfold maxLen; omega
  case d2 => have := HN.out; omega
  intro v2 w2 hown2 hgrow2 _
  have B2 : Hid (Below w.heap.size w w2) := B1.out.grown hgrow2 B1.out.size (fun k hk => (O1.out.lt k hk).1)
  have O2 : Hid (w2.ownsRow w.heap.size 2 1 v2 n1 (l1.map (Value.int .i64))) := by simpa [Hid] using hown2
  have q2 : w2.cell? ⟨b, 1, none⟩ = some (.slice a2 n2 c2) := by rw [B2.out.cell (p := ⟨b, 1, none⟩) (block_lt_of_cell p2)]; exact p2
  have S2 : Hid (Good w2 a2 n2 c2 l2) := H2.out.below B2.out
  clear hown2 hgrow2 O1 S1 q1 B1 p2 H2
  go_wp2
  rw [rounds_succ]
  go_wp2_with (refine wpList_append_sl rfl _ _ 22 rfl w.heap.size 2 i0 (.int .i64 0) 8 Try.underlying22 hi hz0 hz1 hz2 rfl v2 n1 _ rfl O2.out .i64 a2 n2 c2 l2 rfl S2.out.sl S2.out.nil0 ?d1 ?d2 B2.out.size ?_)
  case d1 => have := HN.out; unfold maxLen; omega
  case d2 => have := HN.out; omega
  intro v3 w3 hown3 hgrow3 _
  have B3 : Hid (Below w.heap.size w w3) := B2.out.grown hgrow3 B2.out.size (fun k hk => (O2.out.lt k hk).1)
  have O3 : Hid (w3.ownsRow w.heap.size 2 1 v3 (n1 + n2) ((l1 ++ l2).map (Value.int .i64))) := by rw [List.map_append]; exact hown3
  have q3 : w3.cell? ⟨b, 2, none⟩ = some (.slice a3 n3 c3) := by rw [B3.out.cell (p := ⟨b, 2, none⟩) (block_lt_of_cell p3)]; exact p3
  have S3 : Hid (Good w3 a3 n3 c3 l3) := H3.out.below B3.out
  clear hown3 hgrow3 O2 S2 q2 B2 p3 H3
  go_wp2
  rw [rounds_succ]
  go_wp2_with (refine wpList_append_sl rfl _ _ 22 rfl w.heap.size 2 i0 (.int .i64 0) 8 Try.underlying22 hi hz0 hz1 hz2 rfl v3 (n1 + n2) _ rfl O3.out .i64 a3 n3 c3 l3 rfl S3.out.sl S3.out.nil0 ?d1 ?d2 B3.out.size ?_)
  case d1 => have := HN.out; unfold maxLen; omega
  case d2 => have := HN.out; omega
  intro v4 w4 hown4 hgrow4 _
  have B4 : Hid (Below w.heap.size w w4) := B3.out.grown hgrow4 B3.out.size (fun k hk => (O3.out.lt k hk).1)
  have O4 : Hid (w4.ownsRow w.heap.size 2 1 v4 (n1 + n2 + n3) ((l1 ++ (l2 ++ l3)).map (Value.int .i64))) := by simpa [Hid] using hown4
  clear hown4 hgrow4 O3 S3 q3 B3
  go_wp2
  rw [rounds_succ]
  go_wp2
  go_ret
  obtain ⟨a, c, hv, g⟩ := Good.own O4.out W12.out
  subst hv
  exact ⟨a, c, rfl, g, B4.out⟩
end Go.Proofs.Ytadnohkgbggoiaa
