/-
  girolaw4.TapeFull.
-/
import Derived.Test.YtcclpmjoofaepaaKnown4
import Derived.Test.YtcclpmjoofaepaaTapeNil
import Derived.Test.YtcclpmjoofaepaaArgs
namespace Go.Proofs.Ytcclpmjoofaepaa
open Go.RowKit
set_option linter.unusedVariables false

def zeros (n : Nat) : List Int := List.replicate n 0
theorem zeros_len (n : Nat) : (zeros n).length = n := by simp [zeros]

theorem make_any (w : World) (n : Nat) (h : n ≤ 1000000) :
    ∃ w', (Instr.makeSlice 27 (.int .i64 n) (.int .i64 n)).run Try.prog w = .ok (.slice (some ⟨w.heap.size, 0, none⟩) n n) w' ∧ Sl .u8 w' (some ⟨w.heap.size, 0, none⟩) n (zeros n) ∧ Below w.heap.size w w' := by
  obtain ⟨i, hi, hz0, hz1, hz2⟩ := info_parts infoU8
  obtain ⟨w', hr, ho, hg⟩ := run_make_full (P := Try.prog) w w.heap.size 27 5 i (.int .u8 0) 1 Try.underlying27 hi hz0 hz1 .i64 .i64 n (by rw [hz2]; omega) (by unfold maxLen; omega) (Nat.le_refl _)
  refine ⟨w', hr, ?_, (Below.refl _ _).grown hg (Nat.le_refl _) (fun k hk => by simp at hk)⟩
  have e : (madeCells (Value.int .u8 0).cells (n * 1)).toList = (zeros n).map (Value.int .u8) := by
    rw [Nat.mul_one]
    show (madeCells #[Value.int .u8 0] n).toList = _
    rw [toList_madeCells_one]
    simp [zeros]
  rw [e] at ho
  have ho' : w'.ownsRow w.heap.size 5 1 (.slice (some ⟨w.heap.size, 0, none⟩) n n) (zeros n).length ((zeros n).map (Value.int .u8)) := by rw [zeros_len]; exact ho
  obtain ⟨a, c, hv, hs, _⟩ := Sl.own ho' (fun x hx => by simp [zeros] at hx; rw [hx.2]; decide)
  simp at hv
  rw [zeros_len] at hs
  rw [hv.1]
  exact hs

structure Calm (d : D) (r : Nat) (k : Nat) : Prop where
  room : d.room = r
  dn : d.dn = false
  ar : d.ar = false
  z1 : d.z1 = []
  ops : d.ops ≤ k

theorem Calm.crash {d : D} {r k : Nat} (h : Calm d r k) : d.crash = false := by simp [D.crash, h.ar]

theorem Calm.fits {d : D} {r k : Nat} (h : Calm d r k) (m : Nat) (hm : d.z0.length + m ≤ r) : d.append 0 (zeros m) = (0, d.more0 (zeros m)) ∧ Calm (d.more0 (zeros m)) r (k + 1) ∧ (d.more0 (zeros m)).z0.length = d.z0.length + m := by
  have hr : ¬ d.room - ((d.read 0).length : Int) < ((zeros m).length : Int) := by simp [D.read, zeros_len, h.room]; omega
  refine ⟨?_, ⟨h.room, rfl, h.ar, h.z1, ?_⟩, ?_⟩
  · simp [D.append, h.dn, h.crash, hr]
  · have := h.ops; simp [D.more0]; omega
  · simp [D.more0, zeros_len]

theorem Calm.full {d : D} {r k : Nat} (h : Calm d r k) (m : Nat) (hm : ¬ d.z0.length + m ≤ r) : d.append 0 (zeros m) = (3, d) := by
  have hr : d.room - ((d.read 0).length : Int) < ((zeros m).length : Int) := by simp [D.read, zeros_len, h.room]; omega
  simp [D.append, h.dn, hr]

theorem Calm.wiped {d : D} {r k : Nat} (h : Calm d r k) : d.wipe 0 = (0, d.none0) ∧ Calm d.none0 r (k + 1) := by
  refine ⟨by simp [D.wipe, h.dn, h.crash], ⟨h.room, rfl, h.ar, h.z1, ?_⟩⟩
  have := h.ops; simp [D.none0]; omega

theorem Calm.other {d : D} {r k : Nat} (h : Calm d r k) : d.append 1 (zeros r) = (0, d.more1 (zeros r)) := by
  have hr : ¬ d.room - ((d.read 1).length : Int) < ((zeros r).length : Int) := by simp [D.read, zeros_len, h.room, h.z1]
  simp [D.append, h.dn, h.crash, hr]

theorem new_apart {w0 w : World} {b : Nat} {d : D} (h : Mine w0 w b d) {ys : List Int} : ys ≠ [] → ∀ x, some (⟨w.heap.size, 0, none⟩ : Addr) = some x → x.block ≠ b := by
  intro _ x hx
  have := h.base.2
  simp at hx
  subst hx
  show w.heap.size ≠ b
  omega

set_option maxHeartbeats 4000000 in
theorem full_1 (r n m : Nat) (w : World) (hr : r ≤ 300) (hn : n ≤ 400) (hm : m ≤ 400) (c1 : n ≤ r) (c2 : m ≤ r - n) :
    Calls Try.prog 5 #[.int .i64 r, .int .i64 n, .int .i64 m] w fun e w' => e = .returned (.bool true) ∧ Below w.heap.size w w' := by
  have K1 : Calm (D.new r) r 0 := ⟨rfl, rfl, rfl, rfl, Nat.le_refl _⟩
  have i1 : (r : Int) ≤ 300 := by omega
  have i2 : (n : Int) ≤ 400 := by omega
  have i3 : (m : Int) ≤ 400 := by omega
  have i4 : (n : Int) ≤ r := by omega
  have i5 : (m : Int) ≤ (r : Int) - n := by omega
  have j0 : wrap64 ((r : Int) - n) = (r : Int) - n := by unfold wrap64; omega
  have j1 : wrap64 (r : Int) = r := by unfold wrap64; omega
  go_enter Try.func5, Try.ntmps5
  go_wp2_with fail
  go_at_call 9
  refine (my_new r w w (Below.refl _ _) (by omega) (by omega)).mono ?_
  rintro e w1 ⟨rfl, h1⟩
  obtain ⟨b, hb⟩ : ∃ b, w.heap.size = b := ⟨_, rfl⟩
  have HB : Hid (w.heap.size = b) := hb
  rw [hb] at h1
  rw [hb]
  clear hb
  have A2 := K1.fits n (by simp [D.new]; omega)
  have K2 := A2.2.1
  obtain ⟨v2, hr2, hs2, hb2⟩ := make_any w1 n (by omega)
  go_wp2_with fail
  go_at_call 11
  refine (my_append b w v2 _ (h1.below hb2) 0 _ n n (zeros n) hs2 (by simp) (new_apart h1) (by omega) (by have := K1.ops; omega) _ _ A2.1).mono ?_
  rintro e w2 ⟨rfl, h2⟩
  clear h1 hr2 hs2 hb2
  have A3 := K2.fits m (by rw [A2.2.2]; simp [D.new]; omega)
  have K3 := A3.2.1
  obtain ⟨v3, hr3, hs3, hb3⟩ := make_any w2 m (by omega)
  go_wp2_with fail
  go_at_call 11
  refine (my_append b w v3 _ (h2.below hb3) 0 _ m m (zeros m) hs3 (by simp) (new_apart h2) (by omega) (by have := K2.ops; omega) _ _ A3.1).mono ?_
  rintro e w3 ⟨rfl, h3⟩
  clear h2 hr3 hs3 hb3
  obtain ⟨d2, hd2⟩ : ∃ d2, ((D.new r).more0 (zeros n)).more0 (zeros m) = d2 := ⟨_, rfl⟩
  rw [hd2] at K3 h3
  clear hd2 A3 A2 K2 K1
  go_wp2_with fail
  go_at_call 17
  refine (nil_arm w3 0 0).mono ?_
  rintro e w4 ⟨rfl, hb4⟩
  have h4 := h3.below hb4
  clear h3 hb4
  go_wp2_with fail
  go_at_call 19
  refine (nil_restart w4).mono ?_
  rintro e wz ⟨rfl, hw⟩
  obtain rfl := hw.symm
  go_wp2_with fail
  go_at_call 15
  refine (my_wipe b w w4 _ h4 0 (by have := K3.ops; omega) _ _ K3.wiped.1).mono ?_
  rintro e w5 ⟨rfl, h5⟩
  clear h4
  have K5 := K3.wiped.2
  have z5 : Hid ((d2).none0.z0 = []) := rfl
  obtain ⟨d5, hd5⟩ : ∃ d5, (d2).none0 = d5 := ⟨_, rfl⟩
  rw [hd5] at h5 K5 z5
  clear hd5
  go_wp2_with fail
  go_at_call 24
  refine (my_read b w w5 _ h5 0 [] (by simp [D.read, z5.out])).mono ?_
  rintro e w6 ⟨a6, c6, rfl, s6, n6, k6, h6⟩
  clear h5 s6 n6 k6
  have A7 := K5.fits r (by have := z5.out; simp [this])
  obtain ⟨v7, hr7, hs7, hb7⟩ := make_any w6 r (by omega)
  go_wp2_with fail
  go_at_call 11
  refine (my_append b w v7 _ (h6.below hb7) 0 _ r r (zeros r) hs7 (by simp) (new_apart h6) (by omega) (by have := K5.ops; omega) _ _ A7.1).mono ?_
  rintro e w7 ⟨rfl, h7⟩
  clear h6 hr7 hs7 hb7
  obtain ⟨v8, hr8, hs8, hb8⟩ := make_any w7 r (by omega)
  go_wp2_with fail
  go_at_call 11
  refine (my_append b w v8 _ (h7.below hb8) 1 _ r r (zeros r) hs8 (by simp) (new_apart h7) (by omega) (by have := A7.2.1.ops; omega) _ _ A7.2.1.other).mono ?_
  rintro e w8 ⟨rfl, h8⟩
  clear h7 hr8 hs8 hb8
  go_wp2_with fail
  go_at_call 11
  refine (nil_append w8 0 none 0 0).mono ?_
  rintro e wz ⟨rfl, hw⟩
  obtain rfl := hw.symm
  go_wp2_with fail
  go_at_call 13
  refine (nil_sync w8).mono ?_
  rintro e wz ⟨rfl, hw⟩
  obtain rfl := hw.symm
  go_wp2_with fail
  go_at_call 15
  refine (nil_wipe w8 0).mono ?_
  rintro e wz ⟨rfl, hw⟩
  obtain rfl := hw.symm
  go_wp2_with fail
  go_at_call 21
  refine (nil_down w8).mono ?_
  rintro e wz ⟨rfl, hw⟩
  obtain rfl := hw.symm
  go_wp2_with fail
  go_at_call 24
  refine (nil_read w8 0).mono ?_
  rintro e wz ⟨rfl, hw⟩
  obtain rfl := hw.symm
  go_wp2_with fail
  go_at_call 22
  refine (nil_ops w8).mono ?_
  rintro e wz ⟨rfl, hw⟩
  obtain rfl := hw.symm
  go_wp2_with fail
  go_at_call 23
  refine (nil_room w8).mono ?_
  rintro e wz ⟨rfl, hw⟩
  obtain rfl := hw.symm
  go_wp2_with fail
  go_at_call 26
  refine (known_true w8).mono ?_
  rintro e w9 ⟨rfl, hb9⟩
  go_wp2
  go_ret
  exact ⟨rfl, h8.2.trans (hb9.mono h8.2.size)⟩

set_option maxHeartbeats 4000000 in
theorem full_2 (r n m : Nat) (w : World) (hr : r ≤ 300) (hn : n ≤ 400) (hm : m ≤ 400) (c1 : n ≤ r) (c2 : r - n < m) :
    Calls Try.prog 5 #[.int .i64 r, .int .i64 n, .int .i64 m] w fun e w' => e = .returned (.bool true) ∧ Below w.heap.size w w' := by
  have K1 : Calm (D.new r) r 0 := ⟨rfl, rfl, rfl, rfl, Nat.le_refl _⟩
  have i1 : (r : Int) ≤ 300 := by omega
  have i2 : (n : Int) ≤ 400 := by omega
  have i3 : (m : Int) ≤ 400 := by omega
  have i4 : (n : Int) ≤ r := by omega
  have i5 : (r : Int) - n < m := by omega
  have j0 : wrap64 ((r : Int) - n) = (r : Int) - n := by unfold wrap64; omega
  have j1 : wrap64 (r : Int) = r := by unfold wrap64; omega
  go_enter Try.func5, Try.ntmps5
  go_wp2_with fail
  go_at_call 9
  refine (my_new r w w (Below.refl _ _) (by omega) (by omega)).mono ?_
  rintro e w1 ⟨rfl, h1⟩
  obtain ⟨b, hb⟩ : ∃ b, w.heap.size = b := ⟨_, rfl⟩
  have HB : Hid (w.heap.size = b) := hb
  rw [hb] at h1
  rw [hb]
  clear hb
  have A2 := K1.fits n (by simp [D.new]; omega)
  have K2 := A2.2.1
  obtain ⟨v2, hr2, hs2, hb2⟩ := make_any w1 n (by omega)
  go_wp2_with fail
  go_at_call 11
  refine (my_append b w v2 _ (h1.below hb2) 0 _ n n (zeros n) hs2 (by simp) (new_apart h1) (by omega) (by have := K1.ops; omega) _ _ A2.1).mono ?_
  rintro e w2 ⟨rfl, h2⟩
  clear h1 hr2 hs2 hb2
  have A3 := K2.full m (by rw [A2.2.2]; simp [D.new]; omega)
  have K3 := K2
  obtain ⟨v3, hr3, hs3, hb3⟩ := make_any w2 m (by omega)
  go_wp2_with fail
  go_at_call 11
  refine (my_append b w v3 _ (h2.below hb3) 0 _ m m (zeros m) hs3 (by simp) (new_apart h2) (by omega) (by have := K2.ops; omega) _ _ A3).mono ?_
  rintro e w3 ⟨rfl, h3⟩
  clear h2 hr3 hs3 hb3
  obtain ⟨d2, hd2⟩ : ∃ d2, (D.new r).more0 (zeros n) = d2 := ⟨_, rfl⟩
  rw [hd2] at K3 h3
  clear hd2 A3 A2 K2 K1
  go_wp2_with fail
  go_at_call 17
  refine (nil_arm w3 0 0).mono ?_
  rintro e w4 ⟨rfl, hb4⟩
  have h4 := h3.below hb4
  clear h3 hb4
  go_wp2_with fail
  go_at_call 19
  refine (nil_restart w4).mono ?_
  rintro e wz ⟨rfl, hw⟩
  obtain rfl := hw.symm
  go_wp2_with fail
  go_at_call 15
  refine (my_wipe b w w4 _ h4 0 (by have := K3.ops; omega) _ _ K3.wiped.1).mono ?_
  rintro e w5 ⟨rfl, h5⟩
  clear h4
  have K5 := K3.wiped.2
  have z5 : Hid ((d2).none0.z0 = []) := rfl
  obtain ⟨d5, hd5⟩ : ∃ d5, (d2).none0 = d5 := ⟨_, rfl⟩
  rw [hd5] at h5 K5 z5
  clear hd5
  go_wp2_with fail
  go_at_call 24
  refine (my_read b w w5 _ h5 0 [] (by simp [D.read, z5.out])).mono ?_
  rintro e w6 ⟨a6, c6, rfl, s6, n6, k6, h6⟩
  clear h5 s6 n6 k6
  have A7 := K5.fits r (by have := z5.out; simp [this])
  obtain ⟨v7, hr7, hs7, hb7⟩ := make_any w6 r (by omega)
  go_wp2_with fail
  go_at_call 11
  refine (my_append b w v7 _ (h6.below hb7) 0 _ r r (zeros r) hs7 (by simp) (new_apart h6) (by omega) (by have := K5.ops; omega) _ _ A7.1).mono ?_
  rintro e w7 ⟨rfl, h7⟩
  clear h6 hr7 hs7 hb7
  obtain ⟨v8, hr8, hs8, hb8⟩ := make_any w7 r (by omega)
  go_wp2_with fail
  go_at_call 11
  refine (my_append b w v8 _ (h7.below hb8) 1 _ r r (zeros r) hs8 (by simp) (new_apart h7) (by omega) (by have := A7.2.1.ops; omega) _ _ A7.2.1.other).mono ?_
  rintro e w8 ⟨rfl, h8⟩
  clear h7 hr8 hs8 hb8
  go_wp2_with fail
  go_at_call 11
  refine (nil_append w8 0 none 0 0).mono ?_
  rintro e wz ⟨rfl, hw⟩
  obtain rfl := hw.symm
  go_wp2_with fail
  go_at_call 13
  refine (nil_sync w8).mono ?_
  rintro e wz ⟨rfl, hw⟩
  obtain rfl := hw.symm
  go_wp2_with fail
  go_at_call 15
  refine (nil_wipe w8 0).mono ?_
  rintro e wz ⟨rfl, hw⟩
  obtain rfl := hw.symm
  go_wp2_with fail
  go_at_call 21
  refine (nil_down w8).mono ?_
  rintro e wz ⟨rfl, hw⟩
  obtain rfl := hw.symm
  go_wp2_with fail
  go_at_call 24
  refine (nil_read w8 0).mono ?_
  rintro e wz ⟨rfl, hw⟩
  obtain rfl := hw.symm
  go_wp2_with fail
  go_at_call 22
  refine (nil_ops w8).mono ?_
  rintro e wz ⟨rfl, hw⟩
  obtain rfl := hw.symm
  go_wp2_with fail
  go_at_call 23
  refine (nil_room w8).mono ?_
  rintro e wz ⟨rfl, hw⟩
  obtain rfl := hw.symm
  go_wp2_with fail
  go_at_call 26
  refine (known_true w8).mono ?_
  rintro e w9 ⟨rfl, hb9⟩
  go_wp2
  go_ret
  exact ⟨rfl, h8.2.trans (hb9.mono h8.2.size)⟩

set_option maxHeartbeats 4000000 in
theorem full_3 (r n m : Nat) (w : World) (hr : r ≤ 300) (hn : n ≤ 400) (hm : m ≤ 400) (c1 : r < n) (c2 : m ≤ r) :
    Calls Try.prog 5 #[.int .i64 r, .int .i64 n, .int .i64 m] w fun e w' => e = .returned (.bool true) ∧ Below w.heap.size w w' := by
  have K1 : Calm (D.new r) r 0 := ⟨rfl, rfl, rfl, rfl, Nat.le_refl _⟩
  have i1 : (r : Int) ≤ 300 := by omega
  have i2 : (n : Int) ≤ 400 := by omega
  have i3 : (m : Int) ≤ 400 := by omega
  have i4 : (r : Int) < n := by omega
  have i5 : (m : Int) ≤ r := by omega
  have j0 : wrap64 ((r : Int) - n) = (r : Int) - n := by unfold wrap64; omega
  have j1 : wrap64 (r : Int) = r := by unfold wrap64; omega
  go_enter Try.func5, Try.ntmps5
  go_wp2_with fail
  go_at_call 9
  refine (my_new r w w (Below.refl _ _) (by omega) (by omega)).mono ?_
  rintro e w1 ⟨rfl, h1⟩
  obtain ⟨b, hb⟩ : ∃ b, w.heap.size = b := ⟨_, rfl⟩
  have HB : Hid (w.heap.size = b) := hb
  rw [hb] at h1
  rw [hb]
  clear hb
  have A2 := K1.full n (by simp [D.new]; omega)
  have K2 := K1
  obtain ⟨v2, hr2, hs2, hb2⟩ := make_any w1 n (by omega)
  go_wp2_with fail
  go_at_call 11
  refine (my_append b w v2 _ (h1.below hb2) 0 _ n n (zeros n) hs2 (by simp) (new_apart h1) (by omega) (by have := K1.ops; omega) _ _ A2).mono ?_
  rintro e w2 ⟨rfl, h2⟩
  clear h1 hr2 hs2 hb2
  have A3 := K2.fits m (by rw [(show (D.new r).z0.length = 0 from rfl)]; omega)
  have K3 := A3.2.1
  obtain ⟨v3, hr3, hs3, hb3⟩ := make_any w2 m (by omega)
  go_wp2_with fail
  go_at_call 11
  refine (my_append b w v3 _ (h2.below hb3) 0 _ m m (zeros m) hs3 (by simp) (new_apart h2) (by omega) (by have := K2.ops; omega) _ _ A3.1).mono ?_
  rintro e w3 ⟨rfl, h3⟩
  clear h2 hr3 hs3 hb3
  obtain ⟨d2, hd2⟩ : ∃ d2, (D.new r).more0 (zeros m) = d2 := ⟨_, rfl⟩
  rw [hd2] at K3 h3
  clear hd2 A3 A2 K2 K1
  go_wp2_with fail
  go_at_call 17
  refine (nil_arm w3 0 0).mono ?_
  rintro e w4 ⟨rfl, hb4⟩
  have h4 := h3.below hb4
  clear h3 hb4
  go_wp2_with fail
  go_at_call 19
  refine (nil_restart w4).mono ?_
  rintro e wz ⟨rfl, hw⟩
  obtain rfl := hw.symm
  go_wp2_with fail
  go_at_call 15
  refine (my_wipe b w w4 _ h4 0 (by have := K3.ops; omega) _ _ K3.wiped.1).mono ?_
  rintro e w5 ⟨rfl, h5⟩
  clear h4
  have K5 := K3.wiped.2
  have z5 : Hid ((d2).none0.z0 = []) := rfl
  obtain ⟨d5, hd5⟩ : ∃ d5, (d2).none0 = d5 := ⟨_, rfl⟩
  rw [hd5] at h5 K5 z5
  clear hd5
  go_wp2_with fail
  go_at_call 24
  refine (my_read b w w5 _ h5 0 [] (by simp [D.read, z5.out])).mono ?_
  rintro e w6 ⟨a6, c6, rfl, s6, n6, k6, h6⟩
  clear h5 s6 n6 k6
  have A7 := K5.fits r (by have := z5.out; simp [this])
  obtain ⟨v7, hr7, hs7, hb7⟩ := make_any w6 r (by omega)
  go_wp2_with fail
  go_at_call 11
  refine (my_append b w v7 _ (h6.below hb7) 0 _ r r (zeros r) hs7 (by simp) (new_apart h6) (by omega) (by have := K5.ops; omega) _ _ A7.1).mono ?_
  rintro e w7 ⟨rfl, h7⟩
  clear h6 hr7 hs7 hb7
  obtain ⟨v8, hr8, hs8, hb8⟩ := make_any w7 r (by omega)
  go_wp2_with fail
  go_at_call 11
  refine (my_append b w v8 _ (h7.below hb8) 1 _ r r (zeros r) hs8 (by simp) (new_apart h7) (by omega) (by have := A7.2.1.ops; omega) _ _ A7.2.1.other).mono ?_
  rintro e w8 ⟨rfl, h8⟩
  clear h7 hr8 hs8 hb8
  go_wp2_with fail
  go_at_call 11
  refine (nil_append w8 0 none 0 0).mono ?_
  rintro e wz ⟨rfl, hw⟩
  obtain rfl := hw.symm
  go_wp2_with fail
  go_at_call 13
  refine (nil_sync w8).mono ?_
  rintro e wz ⟨rfl, hw⟩
  obtain rfl := hw.symm
  go_wp2_with fail
  go_at_call 15
  refine (nil_wipe w8 0).mono ?_
  rintro e wz ⟨rfl, hw⟩
  obtain rfl := hw.symm
  go_wp2_with fail
  go_at_call 21
  refine (nil_down w8).mono ?_
  rintro e wz ⟨rfl, hw⟩
  obtain rfl := hw.symm
  go_wp2_with fail
  go_at_call 24
  refine (nil_read w8 0).mono ?_
  rintro e wz ⟨rfl, hw⟩
  obtain rfl := hw.symm
  go_wp2_with fail
  go_at_call 22
  refine (nil_ops w8).mono ?_
  rintro e wz ⟨rfl, hw⟩
  obtain rfl := hw.symm
  go_wp2_with fail
  go_at_call 23
  refine (nil_room w8).mono ?_
  rintro e wz ⟨rfl, hw⟩
  obtain rfl := hw.symm
  go_wp2_with fail
  go_at_call 26
  refine (known_true w8).mono ?_
  rintro e w9 ⟨rfl, hb9⟩
  go_wp2
  go_ret
  exact ⟨rfl, h8.2.trans (hb9.mono h8.2.size)⟩

set_option maxHeartbeats 4000000 in
theorem full_4 (r n m : Nat) (w : World) (hr : r ≤ 300) (hn : n ≤ 400) (hm : m ≤ 400) (c1 : r < n) (c2 : r < m) :
    Calls Try.prog 5 #[.int .i64 r, .int .i64 n, .int .i64 m] w fun e w' => e = .returned (.bool true) ∧ Below w.heap.size w w' := by
  have K1 : Calm (D.new r) r 0 := ⟨rfl, rfl, rfl, rfl, Nat.le_refl _⟩
  have i1 : (r : Int) ≤ 300 := by omega
  have i2 : (n : Int) ≤ 400 := by omega
  have i3 : (m : Int) ≤ 400 := by omega
  have i4 : (r : Int) < n := by omega
  have i5 : (r : Int) < m := by omega
  have j0 : wrap64 ((r : Int) - n) = (r : Int) - n := by unfold wrap64; omega
  have j1 : wrap64 (r : Int) = r := by unfold wrap64; omega
  go_enter Try.func5, Try.ntmps5
  go_wp2_with fail
  go_at_call 9
  refine (my_new r w w (Below.refl _ _) (by omega) (by omega)).mono ?_
  rintro e w1 ⟨rfl, h1⟩
  obtain ⟨b, hb⟩ : ∃ b, w.heap.size = b := ⟨_, rfl⟩
  have HB : Hid (w.heap.size = b) := hb
  rw [hb] at h1
  rw [hb]
  clear hb
  have A2 := K1.full n (by simp [D.new]; omega)
  have K2 := K1
  obtain ⟨v2, hr2, hs2, hb2⟩ := make_any w1 n (by omega)
  go_wp2_with fail
  go_at_call 11
  refine (my_append b w v2 _ (h1.below hb2) 0 _ n n (zeros n) hs2 (by simp) (new_apart h1) (by omega) (by have := K1.ops; omega) _ _ A2).mono ?_
  rintro e w2 ⟨rfl, h2⟩
  clear h1 hr2 hs2 hb2
  have A3 := K2.full m (by rw [(show (D.new r).z0.length = 0 from rfl)]; omega)
  have K3 := K2
  obtain ⟨v3, hr3, hs3, hb3⟩ := make_any w2 m (by omega)
  go_wp2_with fail
  go_at_call 11
  refine (my_append b w v3 _ (h2.below hb3) 0 _ m m (zeros m) hs3 (by simp) (new_apart h2) (by omega) (by have := K2.ops; omega) _ _ A3).mono ?_
  rintro e w3 ⟨rfl, h3⟩
  clear h2 hr3 hs3 hb3
  obtain ⟨d2, hd2⟩ : ∃ d2, D.new r = d2 := ⟨_, rfl⟩
  rw [hd2] at K3 h3
  clear hd2 A3 A2 K2 K1
  go_wp2_with fail
  go_at_call 17
  refine (nil_arm w3 0 0).mono ?_
  rintro e w4 ⟨rfl, hb4⟩
  have h4 := h3.below hb4
  clear h3 hb4
  go_wp2_with fail
  go_at_call 19
  refine (nil_restart w4).mono ?_
  rintro e wz ⟨rfl, hw⟩
  obtain rfl := hw.symm
  go_wp2_with fail
  go_at_call 15
  refine (my_wipe b w w4 _ h4 0 (by have := K3.ops; omega) _ _ K3.wiped.1).mono ?_
  rintro e w5 ⟨rfl, h5⟩
  clear h4
  have K5 := K3.wiped.2
  have z5 : Hid ((d2).none0.z0 = []) := rfl
  obtain ⟨d5, hd5⟩ : ∃ d5, (d2).none0 = d5 := ⟨_, rfl⟩
  rw [hd5] at h5 K5 z5
  clear hd5
  go_wp2_with fail
  go_at_call 24
  refine (my_read b w w5 _ h5 0 [] (by simp [D.read, z5.out])).mono ?_
  rintro e w6 ⟨a6, c6, rfl, s6, n6, k6, h6⟩
  clear h5 s6 n6 k6
  have A7 := K5.fits r (by have := z5.out; simp [this])
  obtain ⟨v7, hr7, hs7, hb7⟩ := make_any w6 r (by omega)
  go_wp2_with fail
  go_at_call 11
  refine (my_append b w v7 _ (h6.below hb7) 0 _ r r (zeros r) hs7 (by simp) (new_apart h6) (by omega) (by have := K5.ops; omega) _ _ A7.1).mono ?_
  rintro e w7 ⟨rfl, h7⟩
  clear h6 hr7 hs7 hb7
  obtain ⟨v8, hr8, hs8, hb8⟩ := make_any w7 r (by omega)
  go_wp2_with fail
  go_at_call 11
  refine (my_append b w v8 _ (h7.below hb8) 1 _ r r (zeros r) hs8 (by simp) (new_apart h7) (by omega) (by have := A7.2.1.ops; omega) _ _ A7.2.1.other).mono ?_
  rintro e w8 ⟨rfl, h8⟩
  clear h7 hr8 hs8 hb8
  go_wp2_with fail
  go_at_call 11
  refine (nil_append w8 0 none 0 0).mono ?_
  rintro e wz ⟨rfl, hw⟩
  obtain rfl := hw.symm
  go_wp2_with fail
  go_at_call 13
  refine (nil_sync w8).mono ?_
  rintro e wz ⟨rfl, hw⟩
  obtain rfl := hw.symm
  go_wp2_with fail
  go_at_call 15
  refine (nil_wipe w8 0).mono ?_
  rintro e wz ⟨rfl, hw⟩
  obtain rfl := hw.symm
  go_wp2_with fail
  go_at_call 21
  refine (nil_down w8).mono ?_
  rintro e wz ⟨rfl, hw⟩
  obtain rfl := hw.symm
  go_wp2_with fail
  go_at_call 24
  refine (nil_read w8 0).mono ?_
  rintro e wz ⟨rfl, hw⟩
  obtain rfl := hw.symm
  go_wp2_with fail
  go_at_call 22
  refine (nil_ops w8).mono ?_
  rintro e wz ⟨rfl, hw⟩
  obtain rfl := hw.symm
  go_wp2_with fail
  go_at_call 23
  refine (nil_room w8).mono ?_
  rintro e wz ⟨rfl, hw⟩
  obtain rfl := hw.symm
  go_wp2_with fail
  go_at_call 26
  refine (known_true w8).mono ?_
  rintro e w9 ⟨rfl, hb9⟩
  go_wp2
  go_ret
  exact ⟨rfl, h8.2.trans (hb9.mono h8.2.size)⟩

theorem Walk.tapeFull (a0 a1 a2 : Int) (w0 : (Lit.int .i64 a0).wf = true) (w1 : (Lit.int .i64 a1).wf = true) (w2 : (Lit.int .i64 a2).wf = true) (w : World) :
    Calls Try.prog 5 #[.int .i64 a0, .int .i64 a1, .int .i64 a2] w fun e w' => e = .returned (.bool true) ∧ Below w.heap.size w w' := by
  by_cases c0 : a0 < 0
  · go_enter Try.func5, Try.ntmps5
    go_wp2
    go_ret
    exact ⟨rfl, Below.refl _ _⟩
  by_cases c1 : 300 < a0
  · go_enter Try.func5, Try.ntmps5
    go_wp2
    go_ret
    exact ⟨rfl, Below.refl _ _⟩
  by_cases c2 : a1 < 0
  · go_enter Try.func5, Try.ntmps5
    go_wp2
    go_ret
    exact ⟨rfl, Below.refl _ _⟩
  by_cases c3 : 400 < a1
  · go_enter Try.func5, Try.ntmps5
    go_wp2
    go_ret
    exact ⟨rfl, Below.refl _ _⟩
  by_cases c4 : a2 < 0
  · go_enter Try.func5, Try.ntmps5
    go_wp2
    go_ret
    exact ⟨rfl, Below.refl _ _⟩
  by_cases c5 : 400 < a2
  · go_enter Try.func5, Try.ntmps5
    go_wp2
    go_ret
    exact ⟨rfl, Below.refl _ _⟩
  obtain ⟨r, rfl⟩ : ∃ r : Nat, a0 = r := ⟨a0.toNat, by omega⟩
  obtain ⟨n, rfl⟩ : ∃ r : Nat, a1 = r := ⟨a1.toNat, by omega⟩
  obtain ⟨m, rfl⟩ : ∃ r : Nat, a2 = r := ⟨a2.toNat, by omega⟩
  by_cases d1 : n ≤ r
  · by_cases d2 : m ≤ r - n
    · exact full_1 r n m w (by omega) (by omega) (by omega) d1 d2
    · exact full_2 r n m w (by omega) (by omega) (by omega) d1 (by omega)
  · by_cases d2 : m ≤ r
    · exact full_3 r n m w (by omega) (by omega) (by omega) (by omega) d2
    · exact full_4 r n m w (by omega) (by omega) (by omega) (by omega) (by omega)

end Go.Proofs.Ytcclpmjoofaepaa
