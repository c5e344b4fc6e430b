/-
  tape: Arm, Restart, Sync, Wipe at the cells of a deck.
-/
import Derived.Test.YtdecdjjknbbolaaTapeBegin
namespace Go.Proofs.Ytdecdjjknbbolaa
open Go.RowKit
set_option linter.unusedVariables false

theorem Only.alloc {S : Nat → Prop} {a w : World} (h : Only S a w) (o : Obj) : Only S a (w.alloc o) :=
  h.trans ⟨rfl, rfl, rfl, by simp, fun k hk _ => Below.heap_alloc _ _ _ hk⟩

set_option maxHeartbeats 4000000 in
theorem arm_any (b : Nat) (w : World) (room : Int) (v0 : Value) (s0 : Nat) (v1 : Value) (s1 : Nat) (ops : Nat) (ar : Bool) (at' kp : Int) (dn : Bool) (h : Dk w b room v0 s0 v1 s1 ops ar at' kp dn) (x y : Int) :
    Calls Try.prog 12 #[.pointer (some ⟨b, 0, none⟩), .agg #[.int .i64 x, .int .i64 y]] w (fun e w' => e = .returned (.tuple #[]) ∧ Dk w' b room v0 s0 v1 s1 ops true x y dn ∧ Only (· = b) w w') := by
  have hb : b < w.heap.size := lt_of_block h
  obtain ⟨⟨c0, c1, c2, c3, c4⟩, ⟨c5, c6, c7, c8, c9⟩, fz⟩ := h.ten
  have H : Hid (Dk w b room v0 s0 v1 s1 ops ar at' kp dn) := h
  clear h
  go_enter Try.func12, Try.ntmps12
  go_wp2
  go_region
  refine bodyPost_end (results_none rfl _ _ _) rfl ⟨rfl, ?_, ?_⟩
  · exact (heap_alloc_old _ _ (by simpa [World.setCell] using hb)).trans (heap_setCell_same _ b 8 _ _ _ (heap_setCell_same _ b 7 _ _ _ (heap_setCell_same _ b 6 _ _ _ H.out)))
  · exact ((((Only.refl (· = b) w).setCell (p := ⟨b, 6, none⟩) rfl _).setCell (p := ⟨b, 7, none⟩) rfl _).setCell (p := ⟨b, 8, none⟩) rfl _).alloc _ |>.drew

set_option maxHeartbeats 4000000 in
theorem restart_any (b : Nat) (w : World) (room : Int) (a0 : Option Addr) (l0 z0 : Nat) (s0 : Nat) (a1 : Option Addr) (l1 z1 : Nat) (s1 : Nat) (ops : Nat) (ar : Bool) (at' kp : Int) (dn : Bool)
    (h : Dk w b room (.slice a0 l0 z0) s0 (.slice a1 l1 z1) s1 ops ar at' kp dn)
    (hs0 : s0 ≤ l0) (hs1 : s1 ≤ l1) (hl0 : l0 ≤ z0) (hl1 : l1 ≤ z1) (hz0 : z0 ≤ 9223372036854775807) (hz1 : z1 ≤ 9223372036854775807) (ha0 : a0 = none → z0 = 0) (ha1 : a1 = none → z1 = 0) :
    Calls Try.prog 14 #[.pointer (some ⟨b, 0, none⟩)] w (fun e w' => e = .returned (.tuple #[]) ∧ Dk w' b room (.slice a0 s0 z0) s0 (.slice a1 s1 z1) s1 0 false 0 0 false ∧ Turned w b w') := by
  have N := lose_any b w _ _ _ _ _ _ _ _ _ _ _ _ _ _ h 0 (by omega) hs0 hs1 hl0 hl1 hz0 hz1 ha0 ha1
  have e0 : left0 0 l0 s0 = s0 := by unfold left0; omega
  have e1 : left1 0 l0 s0 l1 s1 = s1 := by unfold left1; omega
  rw [e0, e1] at N
  clear e0 e1 h
  go_enter Try.func14, Try.ntmps14
  go_wp2_with fail
  go_at_call 33
  refine N.mono ?_
  rintro e w1 ⟨rfl, h1, t1⟩
  obtain ⟨⟨c0, c1, c2, c3, c4⟩, ⟨c5, c6, c7, c8, c9⟩, fz⟩ := h1.ten
  have H1 : Hid (Dk w1 b room (.slice a0 s0 z0) s0 (.slice a1 s1 z1) s1 ops ar at' kp dn) := h1
  have T1 : Hid (Turned w b w1) := t1
  clear h1 t1
  go_wp2
  exact bodyPost_end (results_none rfl _ _ _) rfl ⟨rfl, heap_setCell_same _ b 8 _ _ _ (heap_setCell_same _ b 7 _ _ _ (heap_setCell_same _ b 5 _ _ _ (heap_setCell_same _ b 6 _ _ _ (heap_setCell_same _ b 9 _ _ _ H1.out)))),
    ((((T1.out.setCell 9 _).setCell 6 _).setCell 5 _).setCell 7 _).setCell 8 _⟩

/-- Does it crash? -/
def crashB (ops : Nat) (ar : Bool) (at' : Int) : Bool := ar && decide (at' ≤ (ops : Int))

set_option maxHeartbeats 4000000 in
theorem sync_down (b : Nat) (w : World) (room : Int) (v0 : Value) (s0 : Nat) (v1 : Value) (s1 : Nat) (ops : Nat) (ar : Bool) (at' kp : Int) (dn : Bool) (h : Dk w b room v0 s0 v1 s1 ops ar at' kp dn) (hdn : dn = true) :
    Calls Try.prog 19 #[.pointer (some ⟨b, 0, none⟩)] w (fun e w' => e = .returned (.int .i64 11) ∧ w' = w) := by
  obtain rfl := hdn
  have N := down_any b w _ _ _ _ _ _ _ _ _ _ h
  go_enter Try.func19, Try.ntmps19
  go_wp2_with fail
  go_at_call 38
  refine N.mono ?_
  rintro e w1 ⟨rfl, hw⟩
  obtain rfl := hw.symm
  go_wp2
  go_ret
  exact ⟨rfl, rfl⟩

set_option maxHeartbeats 4000000 in
theorem sync_crash (b : Nat) (w : World) (room : Int) (a0 : Option Addr) (l0 z0 : Nat) (s0 : Nat) (a1 : Option Addr) (l1 z1 : Nat) (s1 : Nat) (ops : Nat) (ar : Bool) (at' kp : Int) (dn : Bool)
    (h : Dk w b room (.slice a0 l0 z0) s0 (.slice a1 l1 z1) s1 ops ar at' kp dn) (hdn : dn = false) (hr : ar = true) (ha : at' ≤ (ops : Int)) (hk : kp ≤ 9223372036854775807)
    (hs0 : s0 ≤ l0) (hs1 : s1 ≤ l1) (hl0 : l0 ≤ z0) (hl1 : l1 ≤ z1) (hz0 : z0 ≤ 9223372036854775807) (hz1 : z1 ≤ 9223372036854775807) (ha0 : a0 = none → z0 = 0) (ha1 : a1 = none → z1 = 0) :
    Calls Try.prog 19 #[.pointer (some ⟨b, 0, none⟩)] w
      (fun e w' => e = .returned (.int .i64 11) ∧ Dk w' b room (.slice a0 (left0 kp l0 s0) z0) (left0 kp l0 s0) (.slice a1 (left1 kp l0 s0 l1 s1) z1) (left1 kp l0 s0 l1 s1) ops ar at' kp true ∧ Turned w b w') := by
  obtain rfl := hdn
  have N := down_any b w _ _ _ _ _ _ _ _ _ _ h
  have M := begin_crash b w _ _ _ _ _ _ _ _ _ _ _ _ _ _ h hr ha hk hs0 hs1 hl0 hl1 hz0 hz1 ha0 ha1
  go_enter Try.func19, Try.ntmps19
  go_wp2_with fail
  go_at_call 38
  refine N.mono ?_
  rintro e w1 ⟨rfl, hw⟩
  obtain rfl := hw.symm
  go_wp2_with fail
  go_at_call 37
  refine M.mono ?_
  rintro e w1 ⟨rfl, h1, t1⟩
  have H1 : Hid (Dk w1 b room (.slice a0 (left0 kp l0 s0) z0) (left0 kp l0 s0) (.slice a1 (left1 kp l0 s0 l1 s1) z1) (left1 kp l0 s0 l1 s1) ops ar at' kp true) := h1
  clear h1
  go_wp2
  go_ret
  exact ⟨rfl, H1.out, t1⟩

set_option maxHeartbeats 4000000 in
theorem sync_well (b : Nat) (w : World) (room : Int) (a0 : Option Addr) (l0 z0 : Nat) (s0 : Nat) (a1 : Option Addr) (l1 z1 : Nat) (s1 : Nat) (ops : Nat) (ar : Bool) (at' kp : Int) (dn : Bool)
    (h : Dk w b room (.slice a0 l0 z0) s0 (.slice a1 l1 z1) s1 ops ar at' kp dn) (hdn : dn = false) (hr : ar = false ∨ (ops : Int) < at') (ho : ops ≤ 4611686018427387904)
    (hs0 : s0 ≤ l0) (hs1 : s1 ≤ l1) (hl0 : l0 ≤ z0) (hl1 : l1 ≤ z1) (hz0 : z0 ≤ 9223372036854775807) (hz1 : z1 ≤ 9223372036854775807) (ha0 : a0 = none → z0 = 0) (ha1 : a1 = none → z1 = 0) :
    Calls Try.prog 19 #[.pointer (some ⟨b, 0, none⟩)] w (fun e w' => e = .returned (.int .i64 0) ∧ Dk w' b room (.slice a0 l0 z0) l0 (.slice a1 l1 z1) l1 (ops + 1) ar at' kp false ∧ Turned w b w') := by
  obtain rfl := hdn
  have N := down_any b w _ _ _ _ _ _ _ _ _ _ h
  have M := begin_well b w _ _ _ _ _ _ _ _ _ _ h hr ho
  go_enter Try.func19, Try.ntmps19
  go_wp2_with fail
  go_at_call 38
  refine N.mono ?_
  rintro e w1 ⟨rfl, hw⟩
  obtain rfl := hw.symm
  go_wp2_with fail
  go_at_call 37
  refine M.mono ?_
  rintro e w1 ⟨rfl, h1, t1⟩
  clear N M h hr
  have T1 : Hid (Turned w b w1) := t1
  clear t1
  go_wp2
  go_loopw [11] (fun i wr => ∃ j q0 q1 : Nat, i = .int .i64 j ∧ Dk wr b room (.slice a0 l0 z0) q0 (.slice a1 l1 z1) q1 (ops + 1) ar at' kp false ∧ Turned w b wr ∧
    ((j = 0 ∧ q0 = s0 ∧ q1 = s1) ∨ (j = 1 ∧ q0 = l0 ∧ q1 = s1) ∨ (j = 2 ∧ q0 = l0 ∧ q1 = l1))) (fun i _ => (2 - intOf i).toNat)
  case atStart => exact ⟨0, s0, s1, rfl, h1, T1.out, .inl ⟨rfl, rfl, rfl⟩⟩
  case round =>
    clear h1
    obtain ⟨j, q0, q1, rfl, hd, ho, hj⟩ := hrel
    obtain ⟨⟨c0, c1, c2, c3, c4⟩, ⟨c5, c6, c7, c8, c9⟩, fz⟩ := hd.ten
    have HD : Hid (Dk wr b room (.slice a0 l0 z0) q0 (.slice a1 l1 z1) q1 (ops + 1) ar at' kp false) := hd
    have HO : Hid (Turned w b wr) := ho
    clear hd ho
    rcases hj with ⟨rfl, h1, h2⟩ | ⟨rfl, h1, h2⟩ | ⟨rfl, h1, h2⟩
    · obtain ⟨rfl, rfl⟩ := And.intro h1.symm h2.symm
      go_wp2
      go_region_with (go_at_call 39; refine (keep0 b wr.drew _ _ _ _ _ _ _ _ _ _ _ _ (show Dk wr.drew b _ _ _ _ _ _ _ _ _ _ from HD.out) l0 l0 rfl (by omega) (by assumption) (by assumption)).mono ?_; rintro e w1 ⟨rfl, D2, O2⟩)
      have D1 : Hid (Dk w1 b room (.slice a0 l0 z0) l0 (.slice a1 l1 z1) s1 (ops + 1) ar at' kp false) := D2
      have O1 : Hid (Turned w b w1) := HO.out.drew.trans O2
      clear D2 O2 c0 c1 c2 c3 c4 c5 c6 c7 c8 c9 fz
      go_wp2
      go_roundw
      case rel => exact ⟨1, _, _, rfl, D1.out, O1.out, .inr (.inl ⟨rfl, rfl, rfl⟩)⟩
      case measure => simp [intOf]
    · obtain ⟨rfl, rfl⟩ := And.intro h1.symm h2.symm
      go_wp2
      go_region_with (go_at_call 39; refine (keep1 b wr.drew _ _ _ _ _ _ _ _ _ _ _ _ (show Dk wr.drew b _ _ _ _ _ _ _ _ _ _ from HD.out) l1 l1 rfl (by omega) (by assumption) (by assumption)).mono ?_; rintro e w1 ⟨rfl, D2, O2⟩)
      have D1 : Hid (Dk w1 b room (.slice a0 l0 z0) l0 (.slice a1 l1 z1) l1 (ops + 1) ar at' kp false) := D2
      have O1 : Hid (Turned w b w1) := HO.out.drew.trans O2
      clear D2 O2 c0 c1 c2 c3 c4 c5 c6 c7 c8 c9 fz
      go_wp2
      go_roundw
      case rel => exact ⟨2, _, _, rfl, D1.out, O1.out, .inr (.inr ⟨rfl, rfl, rfl⟩)⟩
      case measure => simp [intOf]
    · obtain ⟨rfl, rfl⟩ := And.intro h1.symm h2.symm
      go_wp2
      go_ret
      exact ⟨rfl, HD.out, HO.out⟩

end Go.Proofs.Ytdecdjjknbbolaa
