/-
  tape: lose, begin, Arm, Restart, Sync, Wipe at the cells of a deck.
-/
import Derived.Test.YtdecdjjknbbolaaTapeKeep
namespace Go.Proofs.Ytdecdjjknbbolaa
open Go.RowKit
set_option linter.unusedVariables false

set_option maxHeartbeats 4000000 in
theorem lose_neg (b : Nat) (w : World) (room : Int) (a0 : Option Addr) (l0 z0 : Nat) (s0 : Nat) (a1 : Option Addr) (l1 z1 : Nat) (s1 : Nat) (ops : Nat) (ar : Bool) (at' kp : Int) (dn : Bool)
    (h : Dk w b room (.slice a0 l0 z0) s0 (.slice a1 l1 z1) s1 ops ar at' kp dn) (k : Int) (hk : k < 0)
    (hs0 : s0 ≤ l0) (hs1 : s1 ≤ l1) (hl0 : l0 ≤ z0) (hl1 : l1 ≤ z1) (hz0 : z0 ≤ 9223372036854775807) (hz1 : z1 ≤ 9223372036854775807) (ha0 : a0 = none → z0 = 0) (ha1 : a1 = none → z1 = 0) :
    Calls Try.prog 33 #[.pointer (some ⟨b, 0, none⟩), .int .i64 k] w (fun e w' => e = .returned (.tuple #[]) ∧ Dk w' b room (.slice a0 s0 z0) s0 (.slice a1 s1 z1) s1 ops ar at' kp dn ∧ Turned w b w') := by
  go_enter Try.func33, Try.ntmps33
  go_wp2
  go_loopw [1, 9] (fun v i wr => ∃ j p0 p1 : Nat, v = .int .i64 0 ∧ i = .int .i64 j ∧ Dk wr b room (.slice a0 p0 z0) s0 (.slice a1 p1 z1) s1 ops ar at' kp dn ∧ Turned w b wr ∧
    ((j = 0 ∧ p0 = l0 ∧ p1 = l1) ∨ (j = 1 ∧ p0 = s0 ∧ p1 = l1) ∨ (j = 2 ∧ p0 = s0 ∧ p1 = s1))) (fun _ i _ => (2 - intOf i).toNat)
  case atStart => exact ⟨0, l0, l1, rfl, rfl, h, Turned.refl _ _, .inl ⟨rfl, rfl, rfl⟩⟩
  case round =>
    clear h
    obtain ⟨j, p0, p1, rfl, rfl, hd, ho, hj⟩ := hrel
    obtain ⟨⟨c0, c1, c2, c3, c4⟩, ⟨c5, c6, c7, c8, c9⟩, fz⟩ := hd.ten
    have HD : Hid (Dk wr b room (.slice a0 p0 z0) s0 (.slice a1 p1 z1) s1 ops ar at' kp dn) := hd
    have HO : Hid (Turned w b wr) := ho
    clear hd ho
    rcases hj with ⟨rfl, h1, h2⟩ | ⟨rfl, h1, h2⟩ | ⟨rfl, h1, h2⟩
    · obtain ⟨rfl, rfl⟩ := And.intro h1.symm h2.symm
      have hq : (0 : Int) ≤ (l0 : Int) - s0 := by omega
      have j0 : wrap64 ((l0 : Int) - s0) = (l0 : Int) - s0 := by unfold wrap64; omega
      have j3 : wrap64 (s0 : Int) = s0 := by unfold wrap64; omega
      go_wp2
      go_quiet (fail)
      go_wp2_with fail
      go_at_call 39
      refine (keep0 b (wr.drewN nq) _ _ _ _ _ _ _ _ _ _ _ _ HD.out s0 s0 rfl (by omega) (by assumption) (by assumption)).mono ?_
      rintro e w1 ⟨rfl, D2, O2⟩
      have D1 : Hid (Dk w1 b room (.slice a0 s0 z0) s0 (.slice a1 l1 z1) s1 ops ar at' kp dn) := D2
      have O1 : Hid (Turned w b w1) := (HO.out.drewN nq).trans O2
      clear D2 O2 c0 c1 c2 c3 c4 c5 c6 c7 c8 c9 fz
      go_wp2
      go_roundw
      case rel => exact ⟨1, _, _, rfl, rfl, D1.out, O1.out, .inr (.inl ⟨rfl, rfl, rfl⟩)⟩
      case measure => simp [intOf]
    · obtain ⟨rfl, rfl⟩ := And.intro h1.symm h2.symm
      have hq : (0 : Int) ≤ (l1 : Int) - s1 := by omega
      have j0 : wrap64 ((l1 : Int) - s1) = (l1 : Int) - s1 := by unfold wrap64; omega
      have j3 : wrap64 (s1 : Int) = s1 := by unfold wrap64; omega
      go_wp2
      go_quiet (fail)
      go_wp2_with fail
      go_at_call 39
      refine (keep1 b (wr.drewN nq) _ _ _ _ _ _ _ _ _ _ _ _ HD.out s1 s1 rfl (by omega) (by assumption) (by assumption)).mono ?_
      rintro e w1 ⟨rfl, D2, O2⟩
      have D1 : Hid (Dk w1 b room (.slice a0 s0 z0) s0 (.slice a1 s1 z1) s1 ops ar at' kp dn) := D2
      have O1 : Hid (Turned w b w1) := (HO.out.drewN nq).trans O2
      clear D2 O2 c0 c1 c2 c3 c4 c5 c6 c7 c8 c9 fz
      go_wp2
      go_roundw
      case rel => exact ⟨2, _, _, rfl, rfl, D1.out, O1.out, .inr (.inr ⟨rfl, rfl, rfl⟩)⟩
      case measure => simp [intOf]
    · obtain ⟨rfl, rfl⟩ := And.intro h1.symm h2.symm
      go_wp2
      exact bodyPost_end (results_none rfl _ _ _) rfl ⟨rfl, HD.out, HO.out⟩

/-- What a crash leaves of so many bytes of which so many are synced, if so many more may stay. -/
def left0 (k : Int) (l0 s0 : Nat) : Nat := s0 + min k.toNat (l0 - s0)
def left1 (k : Int) (l0 s0 l1 s1 : Nat) : Nat := s1 + min (k.toNat - min k.toNat (l0 - s0)) (l1 - s1)

theorem left0_le {k : Int} {l0 s0 : Nat} (h : s0 ≤ l0) : s0 ≤ left0 k l0 s0 ∧ left0 k l0 s0 ≤ l0 := by unfold left0; omega
theorem left1_le {k : Int} {l0 s0 l1 s1 : Nat} (h : s1 ≤ l1) : s1 ≤ left1 k l0 s0 l1 s1 ∧ left1 k l0 s0 l1 s1 ≤ l1 := by unfold left1; omega

theorem lose_any (b : Nat) (w : World) (room : Int) (a0 : Option Addr) (l0 z0 : Nat) (s0 : Nat) (a1 : Option Addr) (l1 z1 : Nat) (s1 : Nat) (ops : Nat) (ar : Bool) (at' kp : Int) (dn : Bool)
    (h : Dk w b room (.slice a0 l0 z0) s0 (.slice a1 l1 z1) s1 ops ar at' kp dn) (k : Int) (hk : k ≤ 9223372036854775807)
    (hs0 : s0 ≤ l0) (hs1 : s1 ≤ l1) (hl0 : l0 ≤ z0) (hl1 : l1 ≤ z1) (hz0 : z0 ≤ 9223372036854775807) (hz1 : z1 ≤ 9223372036854775807) (ha0 : a0 = none → z0 = 0) (ha1 : a1 = none → z1 = 0) :
    Calls Try.prog 33 #[.pointer (some ⟨b, 0, none⟩), .int .i64 k] w
      (fun e w' => e = .returned (.tuple #[]) ∧ Dk w' b room (.slice a0 (left0 k l0 s0) z0) (left0 k l0 s0) (.slice a1 (left1 k l0 s0 l1 s1) z1) (left1 k l0 s0 l1 s1) ops ar at' kp dn ∧ Turned w b w') := by
  rcases Int.lt_or_le k 0 with hn | hp
  · have e0 : left0 k l0 s0 = s0 := by unfold left0; omega
    have e1 : left1 k l0 s0 l1 s1 = s1 := by unfold left1; omega
    rw [e0, e1]
    exact lose_neg b w _ _ _ _ _ _ _ _ _ _ _ _ _ _ h k hn hs0 hs1 hl0 hl1 hz0 hz1 ha0 ha1
  · have e : k = (k.toNat : Int) := by omega
    have N := lose_pos b w _ _ _ _ _ _ _ _ _ _ _ _ _ _ h k.toNat _ _ (by omega) rfl rfl hs0 hs1 hl0 hl1 hz0 hz1 ha0 ha1
    rw [← e] at N
    exact N

set_option maxHeartbeats 4000000 in
theorem begin_off (b : Nat) (w : World) (room : Int) (v0 : Value) (s0 : Nat) (v1 : Value) (s1 : Nat) (ops : Nat) (ar : Bool) (at' kp : Int) (dn : Bool) (h : Dk w b room v0 s0 v1 s1 ops ar at' kp dn) (hr : ar = false) (ho : ops ≤ 4611686018427387904) :
    Calls Try.prog 37 #[.pointer (some ⟨b, 0, none⟩)] w (fun e w' => e = .returned (.bool true) ∧ Dk w' b room v0 s0 v1 s1 (ops + 1) ar at' kp dn ∧ Turned w b w') := by
  obtain rfl := hr
  obtain ⟨⟨c0, c1, c2, c3, c4⟩, ⟨c5, c6, c7, c8, c9⟩, fz⟩ := h.ten
  have H : Hid (Dk w b room v0 s0 v1 s1 ops false at' kp dn) := h
  clear h
  have j0 : wrap64 ((ops : Int) + 1) = (ops : Int) + 1 := by unfold wrap64; omega
  go_enter Try.func37, Try.ntmps37
  go_wp2
  go_quiet (fail)
  go_wp2
  go_ret
  exact ⟨rfl, heap_setCell_same _ b 5 _ _ _ H.out, ((Turned.refl w b).drewN nq).setCell 5 _⟩

set_option maxHeartbeats 4000000 in
theorem begin_early (b : Nat) (w : World) (room : Int) (v0 : Value) (s0 : Nat) (v1 : Value) (s1 : Nat) (ops : Nat) (ar : Bool) (at' kp : Int) (dn : Bool) (h : Dk w b room v0 s0 v1 s1 ops ar at' kp dn) (hr : ar = true) (ha : (ops : Int) < at') (ho : ops ≤ 4611686018427387904) :
    Calls Try.prog 37 #[.pointer (some ⟨b, 0, none⟩)] w (fun e w' => e = .returned (.bool true) ∧ Dk w' b room v0 s0 v1 s1 (ops + 1) ar at' kp dn ∧ Turned w b w') := by
  obtain rfl := hr
  obtain ⟨⟨c0, c1, c2, c3, c4⟩, ⟨c5, c6, c7, c8, c9⟩, fz⟩ := h.ten
  have H : Hid (Dk w b room v0 s0 v1 s1 ops true at' kp dn) := h
  clear h
  have j0 : wrap64 ((ops : Int) + 1) = (ops : Int) + 1 := by unfold wrap64; omega
  have j1 : decide (at' ≤ (ops : Int)) = false := by simp; omega
  go_enter Try.func37, Try.ntmps37
  go_wp2
  go_quiet (fail)
  go_wp2
  go_ret
  exact ⟨rfl, heap_setCell_same _ b 5 _ _ _ H.out, ((Turned.refl w b).drewN nq).setCell 5 _⟩

theorem begin_well (b : Nat) (w : World) (room : Int) (v0 : Value) (s0 : Nat) (v1 : Value) (s1 : Nat) (ops : Nat) (ar : Bool) (at' kp : Int) (dn : Bool) (h : Dk w b room v0 s0 v1 s1 ops ar at' kp dn) (hr : ar = false ∨ (ops : Int) < at') (ho : ops ≤ 4611686018427387904) :
    Calls Try.prog 37 #[.pointer (some ⟨b, 0, none⟩)] w (fun e w' => e = .returned (.bool true) ∧ Dk w' b room v0 s0 v1 s1 (ops + 1) ar at' kp dn ∧ Turned w b w') := by
  rcases (show ar = false ∨ ar = true by cases ar <;> simp) with har | har
  · exact begin_off b w _ _ _ _ _ _ _ _ _ _ h har ho
  · exact begin_early b w _ _ _ _ _ _ _ _ _ _ h har (by simpa [har] using hr) ho

set_option maxHeartbeats 4000000 in
theorem begin_crash (b : Nat) (w : World) (room : Int) (a0 : Option Addr) (l0 z0 : Nat) (s0 : Nat) (a1 : Option Addr) (l1 z1 : Nat) (s1 : Nat) (ops : Nat) (ar : Bool) (at' kp : Int) (dn : Bool)
    (h : Dk w b room (.slice a0 l0 z0) s0 (.slice a1 l1 z1) s1 ops ar at' kp dn) (hr : ar = true) (ha : at' ≤ (ops : Int)) (hk : kp ≤ 9223372036854775807)
    (hs0 : s0 ≤ l0) (hs1 : s1 ≤ l1) (hl0 : l0 ≤ z0) (hl1 : l1 ≤ z1) (hz0 : z0 ≤ 9223372036854775807) (hz1 : z1 ≤ 9223372036854775807) (ha0 : a0 = none → z0 = 0) (ha1 : a1 = none → z1 = 0) :
    Calls Try.prog 37 #[.pointer (some ⟨b, 0, none⟩)] w
      (fun e w' => e = .returned (.bool false) ∧ Dk w' b room (.slice a0 (left0 kp l0 s0) z0) (left0 kp l0 s0) (.slice a1 (left1 kp l0 s0 l1 s1) z1) (left1 kp l0 s0 l1 s1) ops ar at' kp true ∧ Turned w b w') := by
  obtain rfl := hr
  obtain ⟨⟨c0, c1, c2, c3, c4⟩, ⟨c5, c6, c7, c8, c9⟩, fz⟩ := h.ten
  have H : Hid (Dk w b room (.slice a0 l0 z0) s0 (.slice a1 l1 z1) s1 ops true at' kp dn) := h
  clear h
  go_enter Try.func37, Try.ntmps37
  go_wp2
  go_quiet (fail)
  go_wp2_with fail
  go_at_call 33
  refine (lose_any b (w.drewN nq) _ _ _ _ _ _ _ _ _ _ _ _ _ _ H.out kp hk hs0 hs1 hl0 hl1 hz0 hz1 ha0 ha1).mono ?_
  rintro e w1 ⟨rfl, h1, t1⟩
  have T1 : Hid (Turned w b w1) := ((Turned.refl w b).drewN nq).trans t1
  clear c0 c1 c2 c3 c4 c5 c6 c7 c8 c9 fz t1
  obtain ⟨⟨c0, c1, c2, c3, c4⟩, ⟨c5, c6, c7, c8, c9⟩, fz⟩ := h1.ten
  have H1 : Hid (Dk w1 b room (.slice a0 (left0 kp l0 s0) z0) (left0 kp l0 s0) (.slice a1 (left1 kp l0 s0 l1 s1) z1) (left1 kp l0 s0 l1 s1) ops true at' kp dn) := h1
  clear h1
  go_wp2
  go_ret
  exact ⟨rfl, heap_setCell_same _ b 9 _ _ _ H1.out, T1.out.setCell 9 _⟩

end Go.Proofs.Ytdecdjjknbbolaa
