/-
  giroref4: Restart, Sync, Wipe, Read.
-/
import Derived.Test.YtdecdjjknbbolaaRefMeth
namespace Go.Proofs.Ytdecdjjknbbolaa
open Go.RowKit
set_option linter.unusedVariables false
set_option linter.unusedSimpArgs false

set_option maxHeartbeats 2000000 in
theorem ref_sync_well (b : Nat) (w : World) (S : Nat → Prop) (d : D) (h : RDeck w S b d) (hdn : d.dn = false) (hc : d.crash = false) (ho : d.ops ≤ 4611686018427387904) :
    Calls Try.prog 21 #[.pointer (some ⟨b, 0, none⟩)] w (fun e w' => e = .returned (.int .i64 0) ∧ RDeck w' S b d.kept ∧ Only S w w') := by
  obtain ⟨a0, c0, a1, c1, x0, y0, h⟩ := h
  have N := ref_crash_false b w S a0 c0 a1 c1 x0 y0 d h hc ho
  obtain ⟨⟨k0, k1, k2, k3, k4⟩, ⟨k5, k6, k7, k8, k9⟩, fz⟩ := h.dk.ten
  rw [hdn] at k9
  have H : Hid (RLies w S b a0 c0 a1 c1 x0 y0 d) := h
  clear h hc
  go_enter Try.func21, Try.ntmps21
  go_wp2_with fail
  go_at_call 40
  refine N.mono ?_
  rintro e w1 ⟨rfl, hd, o⟩
  have HD : Hid (Rk w1 b (.slice a0 d.z0.length c0) (.slice a1 d.z1.length c1) d.s0 d.s1 d.room (d.ops + 1) x0 y0 d.ar d.dn) := hd
  have O : Hid (Turned w b w1) := o
  clear N k0 k1 k2 k3 k4 k5 k6 k7 k8 k9 fz o hd
  obtain ⟨⟨k0, k1, k2, k3, k4⟩, ⟨k5, k6, k7, k8, k9⟩, fz⟩ := HD.out.ten
  go_wp2
  go_region
  obtain ⟨wa, hwa⟩ : ∃ x, ((w1.setCell ⟨b, 2, none⟩ (.int .i64 d.z0.length)).setCell ⟨b, 3, none⟩ (.int .i64 d.z1.length)).drew = x := ⟨_, rfl⟩
  have HA : Hid (Rk wa b (.slice a0 d.z0.length c0) (.slice a1 d.z1.length c1) d.z0.length d.z1.length d.room (d.ops + 1) x0 y0 d.ar d.dn) := by rw [← hwa]; exact heap_setCell_same _ b 3 _ _ _ (heap_setCell_same _ b 2 _ _ _ HD.out)
  have OA : Hid (Turned w b wa) := by rw [← hwa]; exact ((O.out.setCell 2 _).setCell 3 _).drew
  rw [hwa]
  clear hwa k0 k1 k2 k3 k4 k5 k6 k7 k8 k9 fz HD O
  go_wp2
  go_ret
  have h1 := HA.out
  rw [hdn] at h1
  exact ⟨rfl, ⟨a0, c0, a1, c1, x0, y0, H.out.same OA.out.1 h1 (Nat.le_refl _) (Nat.le_refl _) H.out.ok.k1 H.out.arm⟩, only_b OA.out.1 H.out.sb⟩

set_option maxHeartbeats 2000000 in
theorem ref_sync_crash (b : Nat) (w : World) (S : Nat → Prop) (d : D) (h : RDeck w S b d) (hdn : d.dn = false) (hc : d.crash = true) :
    Calls Try.prog 21 #[.pointer (some ⟨b, 0, none⟩)] w (fun e w' => e = .returned (.int .i64 11) ∧ RDeck w' S b d.lost ∧ Only S w w') := by
  obtain ⟨a0, c0, a1, c1, x0, y0, h⟩ := h
  have N := ref_crash_true b w S a0 c0 a1 c1 x0 y0 d h hc
  obtain ⟨⟨k0, k1, k2, k3, k4⟩, ⟨k5, k6, k7, k8, k9⟩, fz⟩ := h.dk.ten
  rw [hdn] at k9
  have hb := h.sb
  clear h hc
  go_enter Try.func21, Try.ntmps21
  go_wp2_with fail
  go_at_call 40
  refine N.mono ?_
  rintro e w1 ⟨rfl, hd, o⟩
  clear N k0 k1 k2 k3 k4 k5 k6 k7 k8 k9 fz
  go_wp2
  go_ret
  exact ⟨rfl, hd, only_b o.1 hb⟩

theorem ref_sync_down (b : Nat) (w : World) (S : Nat → Prop) (d : D) (h : RDeck w S b d) (hdn : d.dn = true) :
    Calls Try.prog 21 #[.pointer (some ⟨b, 0, none⟩)] w (fun e w' => e = .returned (.int .i64 11) ∧ w' = w) := by
  obtain ⟨a0, c0, a1, c1, x0, y0, h⟩ := h
  obtain ⟨⟨k0, k1, k2, k3, k4⟩, ⟨k5, k6, k7, k8, k9⟩, fz⟩ := h.dk.ten
  rw [hdn] at k9
  clear h
  go_enter Try.func21, Try.ntmps21
  go_wp2
  go_ret
  exact ⟨rfl, rfl⟩

set_option maxHeartbeats 2000000 in
theorem ref_wipe_0 (b : Nat) (w : World) (S : Nat → Prop) (d : D) (h : RDeck w S b d) (hdn : d.dn = false) (hc : d.crash = false) (ho : d.ops ≤ 4611686018427387904) :
    Calls Try.prog 51 #[.pointer (some ⟨b, 0, none⟩), .int .i64 0] w (fun e w' => e = .returned (.int .i64 0) ∧ RDeck w' S b d.none0 ∧ Only S w w') := by
  obtain ⟨a0, c0, a1, c1, x0, y0, h⟩ := h
  have N := ref_crash_false b w S a0 c0 a1 c1 x0 y0 d h hc ho
  obtain ⟨⟨k0, k1, k2, k3, k4⟩, ⟨k5, k6, k7, k8, k9⟩, fz⟩ := h.dk.ten
  rw [hdn] at k9
  have H : Hid (RLies w S b a0 c0 a1 c1 x0 y0 d) := h
  clear h hc
  go_enter Try.func51, Try.ntmps51
  go_wp2_with fail
  go_at_call 40
  refine N.mono ?_
  rintro e w1 ⟨rfl, hd, o⟩
  have HD : Hid (Rk w1 b (.slice a0 d.z0.length c0) (.slice a1 d.z1.length c1) d.s0 d.s1 d.room (d.ops + 1) x0 y0 d.ar d.dn) := hd
  have O : Hid (Turned w b w1) := o
  clear N k0 k1 k2 k3 k4 k5 k6 k7 k8 k9 fz o hd
  obtain ⟨⟨k0, k1, k2, k3, k4⟩, ⟨k5, k6, k7, k8, k9⟩, fz⟩ := HD.out.ten
  go_wp2
  go_region
  obtain ⟨wa, hwa⟩ : ∃ x, ((w1.setCell ⟨b, 0, none⟩ (.slice none 0 0)).setCell ⟨b, 2, none⟩ (.int .i64 0)).drew = x := ⟨_, rfl⟩
  have HA : Hid (Rk wa b (.slice none 0 0) (.slice a1 d.z1.length c1) 0 d.s1 d.room (d.ops + 1) x0 y0 d.ar d.dn) := by rw [← hwa]; exact heap_setCell_same _ b 2 _ _ _ (heap_setCell_same _ b 0 _ _ _ HD.out)
  have OA : Hid (Turned w b wa) := by rw [← hwa]; exact ((O.out.setCell 0 _).setCell 2 _).drew
  rw [hwa]
  clear hwa k0 k1 k2 k3 k4 k5 k6 k7 k8 k9 fz HD O
  go_wp2
  go_ret
  have h1 := HA.out
  rw [hdn] at h1
  have k := H.out
  refine ⟨rfl, ⟨none, 0, a1, c1, x0, y0, ⟨h1, Sl.nil _ _ _, k.sl1.only OA.out.1 (fun hz x hx => (k.sa1 hz x hx).2), ⟨Nat.le_refl _, Nat.zero_le _, fun _ => rfl⟩, k.cp1, k.sb, fun _ x hx => by simp at hx, k.sa1, k.arm, ?_⟩⟩, only_b OA.out.1 k.sb⟩
  exact ⟨k.ok.r0, k.ok.r1, Nat.le_refl _, k.ok.s1, k.ok.r0, k.ok.l1, Bs.nil, k.ok.b1, k.ok.k1⟩

set_option maxHeartbeats 2000000 in
theorem ref_wipe_1 (b : Nat) (w : World) (S : Nat → Prop) (d : D) (h : RDeck w S b d) (hdn : d.dn = false) (hc : d.crash = false) (ho : d.ops ≤ 4611686018427387904) :
    Calls Try.prog 51 #[.pointer (some ⟨b, 0, none⟩), .int .i64 1] w (fun e w' => e = .returned (.int .i64 0) ∧ RDeck w' S b d.none1 ∧ Only S w w') := by
  obtain ⟨a0, c0, a1, c1, x0, y0, h⟩ := h
  have N := ref_crash_false b w S a0 c0 a1 c1 x0 y0 d h hc ho
  obtain ⟨⟨k0, k1, k2, k3, k4⟩, ⟨k5, k6, k7, k8, k9⟩, fz⟩ := h.dk.ten
  rw [hdn] at k9
  have H : Hid (RLies w S b a0 c0 a1 c1 x0 y0 d) := h
  clear h hc
  go_enter Try.func51, Try.ntmps51
  go_wp2_with fail
  go_at_call 40
  refine N.mono ?_
  rintro e w1 ⟨rfl, hd, o⟩
  have HD : Hid (Rk w1 b (.slice a0 d.z0.length c0) (.slice a1 d.z1.length c1) d.s0 d.s1 d.room (d.ops + 1) x0 y0 d.ar d.dn) := hd
  have O : Hid (Turned w b w1) := o
  clear N k0 k1 k2 k3 k4 k5 k6 k7 k8 k9 fz o hd
  obtain ⟨⟨k0, k1, k2, k3, k4⟩, ⟨k5, k6, k7, k8, k9⟩, fz⟩ := HD.out.ten
  go_wp2
  go_region
  obtain ⟨wa, hwa⟩ : ∃ x, ((w1.setCell ⟨b, 1, none⟩ (.slice none 0 0)).setCell ⟨b, 3, none⟩ (.int .i64 0)).drew = x := ⟨_, rfl⟩
  have HA : Hid (Rk wa b (.slice a0 d.z0.length c0) (.slice none 0 0) d.s0 0 d.room (d.ops + 1) x0 y0 d.ar d.dn) := by rw [← hwa]; exact heap_setCell_same _ b 3 _ _ _ (heap_setCell_same _ b 1 _ _ _ HD.out)
  have OA : Hid (Turned w b wa) := by rw [← hwa]; exact ((O.out.setCell 1 _).setCell 3 _).drew
  rw [hwa]
  clear hwa k0 k1 k2 k3 k4 k5 k6 k7 k8 k9 fz HD O
  go_wp2
  go_ret
  have h1 := HA.out
  rw [hdn] at h1
  have k := H.out
  refine ⟨rfl, ⟨a0, c0, none, 0, x0, y0, ⟨h1, k.sl0.only OA.out.1 (fun hz x hx => (k.sa0 hz x hx).2), Sl.nil _ _ _, k.cp0, ⟨Nat.le_refl _, Nat.zero_le _, fun _ => rfl⟩, k.sb, k.sa0, fun _ x hx => by simp at hx, k.arm, ?_⟩⟩, only_b OA.out.1 k.sb⟩
  exact ⟨k.ok.r0, k.ok.r1, k.ok.s0, Nat.le_refl _, k.ok.l0, k.ok.r0, k.ok.b0, Bs.nil, k.ok.k1⟩

set_option maxHeartbeats 2000000 in
theorem ref_wipe_crash (b : Nat) (w : World) (S : Nat → Prop) (d : D) (h : RDeck w S b d) (side : Int) (hs : side = 0 ∨ side = 1) (hdn : d.dn = false) (hc : d.crash = true) :
    Calls Try.prog 51 #[.pointer (some ⟨b, 0, none⟩), .int .i64 side] w (fun e w' => e = .returned (.int .i64 11) ∧ RDeck w' S b d.lost ∧ Only S w w') := by
  obtain ⟨a0, c0, a1, c1, x0, y0, h⟩ := h
  have N := ref_crash_true b w S a0 c0 a1 c1 x0 y0 d h hc
  obtain ⟨⟨k0, k1, k2, k3, k4⟩, ⟨k5, k6, k7, k8, k9⟩, fz⟩ := h.dk.ten
  rw [hdn] at k9
  have hb := h.sb
  have hs0 : 0 ≤ side := by omega
  have hs1 : side ≤ 1 := by omega
  clear h hc hs
  go_enter Try.func51, Try.ntmps51
  go_wp2_with fail
  go_at_call 40
  refine N.mono ?_
  rintro e w1 ⟨rfl, hd, o⟩
  clear N k0 k1 k2 k3 k4 k5 k6 k7 k8 k9 fz
  go_wp2
  go_ret
  exact ⟨rfl, hd, only_b o.1 hb⟩

theorem ref_wipe_down (b : Nat) (w : World) (S : Nat → Prop) (d : D) (h : RDeck w S b d) (side : Int) (hdn : d.dn = true) :
    Calls Try.prog 51 #[.pointer (some ⟨b, 0, none⟩), .int .i64 side] w (fun e w' => e = .returned (.int .i64 11) ∧ w' = w) := by
  obtain ⟨a0, c0, a1, c1, x0, y0, h⟩ := h
  obtain ⟨⟨k0, k1, k2, k3, k4⟩, ⟨k5, k6, k7, k8, k9⟩, fz⟩ := h.dk.ten
  rw [hdn] at k9
  clear h
  go_enter Try.func51, Try.ntmps51
  go_wp2
  go_ret
  exact ⟨rfl, rfl⟩

theorem ref_wipe_side (b : Nat) (w : World) (S : Nat → Prop) (d : D) (h : RDeck w S b d) (side : Int) (hs : ¬ (0 ≤ side ∧ side ≤ 1)) (hdn : d.dn = false) :
    Calls Try.prog 51 #[.pointer (some ⟨b, 0, none⟩), .int .i64 side] w (fun e w' => e = .returned (.int .i64 1) ∧ w' = w) := by
  obtain ⟨a0, c0, a1, c1, x0, y0, h⟩ := h
  obtain ⟨⟨k0, k1, k2, k3, k4⟩, ⟨k5, k6, k7, k8, k9⟩, fz⟩ := h.dk.ten
  rw [hdn] at k9
  clear h
  by_cases h0 : side < 0
  · go_enter Try.func51, Try.ntmps51
    go_wp2
    go_ret
    exact ⟨rfl, rfl⟩
  · have h1 : 1 < side := by omega
    go_enter Try.func51, Try.ntmps51
    go_wp2
    go_ret
    exact ⟨rfl, rfl⟩

theorem ref_wipe (b : Nat) (w : World) (S : Nat → Prop) (d : D) (h : RDeck w S b d) (side : Int) (ho : d.ops ≤ 4611686018427387904) :
    Calls Try.prog 51 #[.pointer (some ⟨b, 0, none⟩), .int .i64 side] w (fun e w' => e = .returned (.int .i64 (d.wipe side).1) ∧ RDeck w' S b (d.wipe side).2 ∧ Only S w w') := by
  unfold D.wipe
  cases hdn : d.dn with
  | true =>
    refine (ref_wipe_down b w S d h side hdn).mono ?_
    rintro e w' ⟨rfl, rfl⟩
    exact ⟨rfl, h, Only.refl _ _⟩
  | false =>
    by_cases hs : 0 ≤ side ∧ side ≤ 1
    · simp only [hs, not_true, if_false, Bool.false_eq_true, and_self]
      cases hc : d.crash with
      | true => exact ref_wipe_crash b w S d h side (by omega) hdn hc
      | false =>
        simp only [if_false, Bool.false_eq_true]
        rcases (show side = 0 ∨ side = 1 by omega) with rfl | rfl
        · exact ref_wipe_0 b w S d h hdn hc ho
        · exact ref_wipe_1 b w S d h hdn hc ho
    · simp only [hs, not_false_eq_true, if_true, if_false, Bool.false_eq_true]
      refine (ref_wipe_side b w S d h side hs hdn).mono ?_
      rintro e w' ⟨rfl, rfl⟩
      exact ⟨rfl, h, Only.refl _ _⟩

theorem ref_sync (b : Nat) (w : World) (S : Nat → Prop) (d : D) (h : RDeck w S b d) (ho : d.ops ≤ 4611686018427387904) :
    Calls Try.prog 21 #[.pointer (some ⟨b, 0, none⟩)] w (fun e w' => e = .returned (.int .i64 d.sync.1) ∧ RDeck w' S b d.sync.2 ∧ Only S w w') := by
  unfold D.sync
  cases hdn : d.dn with
  | true =>
    refine (ref_sync_down b w S d h hdn).mono ?_
    rintro e w' ⟨rfl, rfl⟩
    exact ⟨rfl, h, Only.refl _ _⟩
  | false =>
    cases hc : d.crash with
    | true => exact ref_sync_crash b w S d h hdn hc
    | false => exact ref_sync_well b w S d h hdn hc ho

set_option maxHeartbeats 2000000 in
theorem ref_read_0 (b : Nat) (w : World) (S : Nat → Prop) (d : D) (h : RDeck w S b d) :
    Calls Try.prog 56 #[.pointer (some ⟨b, 0, none⟩), .int .i64 0] w (NewRow w d.z0) := by
  obtain ⟨a0, c0, a1, c1, x0, y0, h⟩ := h
  obtain ⟨i0, hi, hz0, hz1, hz2⟩ := info_parts infoU8
  have hb : b < w.heap.size := lt_of_block h.dk
  obtain ⟨⟨k0, k1, k2, k3, k4⟩, ⟨k5, k6, k7, k8, k9⟩, fz⟩ := h.dk.ten
  have hl : d.z0.length ≤ 200000 := by have := h.ok.l0; have := h.ok.r1; omega
  have H : Hid (Sl .u8 w a0 d.z0.length d.z0) := h.sl0
  have H0 : Hid (a0 = none → c0 = 0) := h.cp0.2.2
  clear h
  go_enter Try.func56, Try.ntmps56
  go_wp2_with (at_builtin; refine wpList_append_sl rfl _ _ 26 rfl w.heap.size 5 i0 _ 1 Try.underlying26 hi hz0 hz1 hz2 rfl _ 0 [] rfl (World.ownsRow_lit w #[] 0 (Nat.le_refl _) (Nat.zero_le _) rfl) .u8 a0 d.z0.length c0 d.z0 rfl (H.out.alloc _) H0.out (by unfold maxLen; omega) (by omega) (by simp) ?_)
  intro v' w' h1 h2 _
  have HB : Below w.heap.size w w' := ((Below.refl w.heap.size w).alloc (Nat.le_refl _) _).grown h2 (by simp) (fun k hk => by simp [Value.ownBlock] at hk; omega)
  clear h2
  go_wp2
  go_ret
  exact ⟨_, rfl, h1, HB⟩

set_option maxHeartbeats 2000000 in
theorem ref_read_1 (b : Nat) (w : World) (S : Nat → Prop) (d : D) (h : RDeck w S b d) :
    Calls Try.prog 56 #[.pointer (some ⟨b, 0, none⟩), .int .i64 1] w (NewRow w d.z1) := by
  obtain ⟨a0, c0, a1, c1, x0, y0, h⟩ := h
  obtain ⟨i0, hi, hz0, hz1, hz2⟩ := info_parts infoU8
  have hb : b < w.heap.size := lt_of_block h.dk
  obtain ⟨⟨k0, k1, k2, k3, k4⟩, ⟨k5, k6, k7, k8, k9⟩, fz⟩ := h.dk.ten
  have hl : d.z1.length ≤ 200000 := by have := h.ok.l1; have := h.ok.r1; omega
  have H : Hid (Sl .u8 w a1 d.z1.length d.z1) := h.sl1
  have H0 : Hid (a1 = none → c1 = 0) := h.cp1.2.2
  clear h
  go_enter Try.func56, Try.ntmps56
  go_wp2_with (at_builtin; refine wpList_append_sl rfl _ _ 26 rfl w.heap.size 5 i0 _ 1 Try.underlying26 hi hz0 hz1 hz2 rfl _ 0 [] rfl (World.ownsRow_lit w #[] 0 (Nat.le_refl _) (Nat.zero_le _) rfl) .u8 a1 d.z1.length c1 d.z1 rfl (H.out.alloc _) H0.out (by unfold maxLen; omega) (by omega) (by simp) ?_)
  intro v' w' h1 h2 _
  have HB : Below w.heap.size w w' := ((Below.refl w.heap.size w).alloc (Nat.le_refl _) _).grown h2 (by simp) (fun k hk => by simp [Value.ownBlock] at hk; omega)
  clear h2
  go_wp2
  go_ret
  exact ⟨_, rfl, h1, HB⟩

theorem ref_read (b : Nat) (w : World) (S : Nat → Prop) (d : D) (h : RDeck w S b d) (side : Int) (hs : side = 0 ∨ side = 1) :
    Calls Try.prog 56 #[.pointer (some ⟨b, 0, none⟩), .int .i64 side] w (NewRow w (d.read side)) := by
  rcases hs with rfl | rfl
  · exact ref_read_0 b w S d h
  · exact ref_read_1 b w S d h

end Go.Proofs.Ytdecdjjknbbolaa
