/-
  giroref4: the cells of the document's deck; crash, Sync, Wipe, Arm, Restart.
-/
import Derived.Test.YtdecdjjknbbolaaTapeMeth
namespace Go.Proofs.Ytdecdjjknbbolaa
open Go.RowKit
set_option linter.unusedVariables false

/-- The cells of the document's deck. -/
def rk (v0 v1 : Value) (s0 s1 : Nat) (room : Int) (ops : Nat) (at' kp : Int) (ar dn : Bool) : Array Value :=
  #[v0, v1, .int .i64 s0, .int .i64 s1, .int .i64 room, .int .i64 ops, .int .i64 at', .int .i64 kp, .bool ar, .bool dn]

def Rk (w : World) (b : Nat) (v0 v1 : Value) (s0 s1 : Nat) (room : Int) (ops : Nat) (at' kp : Int) (ar dn : Bool) : Prop :=
  w.heap[b]? = some (.cells (rk v0 v1 s0 s1 room ops at' kp ar dn) 76 (0, 0))

theorem Rk.ten {w : World} {b : Nat} {v0 v1 : Value} {s0 s1 : Nat} {room : Int} {ops : Nat} {at' kp : Int} {ar dn : Bool} (h : Rk w b v0 v1 s0 s1 room ops at' kp ar dn) :
    (w.cell? ⟨b, 0, none⟩ = some v0 ∧ w.cell? ⟨b, 1, none⟩ = some v1 ∧ w.cell? ⟨b, 2, none⟩ = some (.int .i64 s0) ∧ w.cell? ⟨b, 3, none⟩ = some (.int .i64 s1) ∧ w.cell? ⟨b, 4, none⟩ = some (.int .i64 room)) ∧
    (w.cell? ⟨b, 5, none⟩ = some (.int .i64 ops) ∧ w.cell? ⟨b, 6, none⟩ = some (.int .i64 at') ∧ w.cell? ⟨b, 7, none⟩ = some (.int .i64 kp) ∧ w.cell? ⟨b, 8, none⟩ = some (.bool ar) ∧ w.cell? ⟨b, 9, none⟩ = some (.bool dn)) ∧
    ∀ j, w.frozen? ⟨b, j, none⟩ = false :=
  ⟨⟨cell_of_row w b 0 _ _ _ h, cell_of_row w b 1 _ _ _ h, cell_of_row w b 2 _ _ _ h, cell_of_row w b 3 _ _ _ h, cell_of_row w b 4 _ _ _ h⟩,
   ⟨cell_of_row w b 5 _ _ _ h, cell_of_row w b 6 _ _ _ h, cell_of_row w b 7 _ _ _ h, cell_of_row w b 8 _ _ _ h, cell_of_row w b 9 _ _ _ h⟩, fun j => frozen_of_row w b j _ _ h⟩

set_option maxHeartbeats 800000 in
theorem crash_off (b : Nat) (w : World) (v0 v1 : Value) (s0 s1 : Nat) (room : Int) (ops : Nat) (at' kp : Int) (ar dn : Bool) (h : Rk w b v0 v1 s0 s1 room ops at' kp ar dn) (hr : ar = false) (ho : ops ≤ 4611686018427387904) :
    Calls Try.prog 40 #[.pointer (some ⟨b, 0, none⟩)] w (fun e w' => e = .returned (.bool false) ∧ Rk w' b v0 v1 s0 s1 room (ops + 1) at' kp ar dn ∧ Turned w b w') := by
  obtain rfl := hr
  obtain ⟨⟨c0, c1, c2, c3, c4⟩, ⟨c5, c6, c7, c8, c9⟩, fz⟩ := h.ten
  have H : Hid (Rk w b v0 v1 s0 s1 room ops at' kp false dn) := h
  clear h
  have j0 : wrap64 ((ops : Int) + 1) = (ops : Int) + 1 := by unfold wrap64; omega
  go_enter Try.func40, Try.ntmps40
  go_wp2
  go_quiet (fail)
  go_wp2
  go_ret
  exact ⟨rfl, heap_setCell_same _ b 5 _ _ _ H.out, ((Turned.refl w b).drewN nq).setCell 5 _⟩

set_option maxHeartbeats 800000 in
theorem crash_early (b : Nat) (w : World) (v0 v1 : Value) (s0 s1 : Nat) (room : Int) (ops : Nat) (at' kp : Int) (ar dn : Bool) (h : Rk w b v0 v1 s0 s1 room ops at' kp ar dn) (hr : ar = true) (ha : (ops : Int) < at') (ho : ops ≤ 4611686018427387904) :
    Calls Try.prog 40 #[.pointer (some ⟨b, 0, none⟩)] w (fun e w' => e = .returned (.bool false) ∧ Rk w' b v0 v1 s0 s1 room (ops + 1) at' kp ar dn ∧ Turned w b w') := by
  obtain rfl := hr
  obtain ⟨⟨c0, c1, c2, c3, c4⟩, ⟨c5, c6, c7, c8, c9⟩, fz⟩ := h.ten
  have H : Hid (Rk w b v0 v1 s0 s1 room ops at' kp true dn) := h
  clear h
  have j0 : wrap64 ((ops : Int) + 1) = (ops : Int) + 1 := by unfold wrap64; omega
  go_enter Try.func40, Try.ntmps40
  go_wp2
  go_quiet (fail)
  go_wp2
  go_ret
  exact ⟨rfl, heap_setCell_same _ b 5 _ _ _ H.out, ((Turned.refl w b).drewN nq).setCell 5 _⟩

theorem crash_well (b : Nat) (w : World) (v0 v1 : Value) (s0 s1 : Nat) (room : Int) (ops : Nat) (at' kp : Int) (ar dn : Bool) (h : Rk w b v0 v1 s0 s1 room ops at' kp ar dn) (hr : ar = false ∨ (ops : Int) < at') (ho : ops ≤ 4611686018427387904) :
    Calls Try.prog 40 #[.pointer (some ⟨b, 0, none⟩)] w (fun e w' => e = .returned (.bool false) ∧ Rk w' b v0 v1 s0 s1 room (ops + 1) at' kp ar dn ∧ Turned w b w') := by
  rcases (show ar = false ∨ ar = true by cases ar <;> simp) with har | har
  · exact crash_off b w _ _ _ _ _ _ _ _ _ _ h har ho
  · exact crash_early b w _ _ _ _ _ _ _ _ _ _ h har (by simpa [har] using hr) ho

theorem w64 {x : Int} (h0 : -9223372036854775808 ≤ x) (h1 : x ≤ 9223372036854775807) : wrap64 x = x := by unfold wrap64; omega

theorem run_min_is {x y n : Int} (h : n ≤ x ∧ n ≤ y ∧ (n = x ∨ n = y)) : ∀ (w : World) (ts : Array TypeId) (t : TypeId), (Builtin.min_ ts t #[.int .i64 x, .int .i64 y]).run Try.prog w = .ok (.int .i64 n) w := by
  intro w ts t
  have e : (if y < x then y else x) = n := by split <;> omega
  rw [run_min_int2, e]

theorem round_facts (r l s n z : Nat) (hr : r ≤ 9223372036854775807) (hs : s ≤ l) (hl : l ≤ z) (hz : z ≤ 9223372036854775807) (hn : min r (l - s) = n) :
    (n ≤ r ∧ s + n ≤ l) ∧ IntKind.i64.wrap ((l : Int) - s) = (l : Int) - s ∧ IntKind.i64.wrap ((s : Int) + n) = (s : Int) + n ∧ IntKind.i64.wrap ((r : Int) - n) = (r : Int) - n ∧ (s : Int) + n ≤ z ∧ (0 : Int) ≤ (s : Int) + n ∧
      ∀ (w : World) (ts : Array TypeId) (t : TypeId), (Builtin.min_ ts t #[.int .i64 r, .int .i64 ((l : Int) - s)]).run Try.prog w = .ok (.int .i64 n) w := by
  have e : n ≤ r ∧ s + n ≤ l := by omega
  exact ⟨e, i64_wf (by omega) (by omega), i64_wf (by omega) (by omega), i64_wf (by omega) (by omega), by omega, by omega, run_min_is (by omega)⟩

set_option maxHeartbeats 800000 in
theorem crash_crash (b : Nat) (w : World) (a0 : Option Addr) (l0 z0 : Nat) (a1 : Option Addr) (l1 z1 : Nat) (s0 s1 : Nat) (room : Int) (ops : Nat) (at' kp : Int) (ar dn : Bool)
    (h : Rk w b (.slice a0 l0 z0) (.slice a1 l1 z1) s0 s1 room ops at' kp ar dn) (hr : ar = true) (ha : at' ≤ (ops : Int)) (K n0 n1 : Nat) (hk1 : kp ≤ 9223372036854775807) (hK : (if kp < 0 then 0 else kp) = (K : Int)) (hn0 : min K (l0 - s0) = n0) (hn1 : min (K - n0) (l1 - s1) = n1)
    (hs0 : s0 ≤ l0) (hs1 : s1 ≤ l1) (hl0 : l0 ≤ z0) (hl1 : l1 ≤ z1) (hz0 : z0 ≤ 9223372036854775807) (hz1 : z1 ≤ 9223372036854775807) (ha0 : a0 = none → z0 = 0) (ha1 : a1 = none → z1 = 0) :
    Calls Try.prog 40 #[.pointer (some ⟨b, 0, none⟩)] w
      (fun e w' => e = .returned (.bool true) ∧ Rk w' b (.slice a0 (s0 + n0) z0) (.slice a1 (s1 + n1) z1) (s0 + n0) (s1 + n1) room ops at' kp ar true ∧ Turned w b w') := by
  obtain rfl := hr
  obtain ⟨⟨c0, c1, c2, c3, c4⟩, ⟨c5, c6, c7, c8, c9⟩, fz⟩ := h.ten
  have H : Hid (Rk w b (.slice a0 l0 z0) (.slice a1 l1 z1) s0 s1 room ops at' kp true dn) := h
  clear h
  have hmx : ∀ (w : World) (ts : Array TypeId) (t : TypeId), (Builtin.max_ ts t #[.int .i64 kp, .int .i64 0]).run Try.prog w = .ok (.int .i64 K) w := by
    intro w ts t
    rw [run_max_int2]
    exact congrArg (fun x => Result.ok (Value.int .i64 x) w) hK
  have hKm : K ≤ 9223372036854775807 := by split at hK <;> omega
  have m0 : Hid (min K (l0 - s0) = n0) := hn0
  have m1 : Hid (min (K - n0) (l1 - s1) = n1) := hn1
  clear hn0 hn1 hK
  go_enter Try.func40, Try.ntmps40
  go_wp2
  go_quiet (fail)
  go_wp2
  go_loopw [3, 4] (fun v i wr => ∃ j r p0 q0 p1 q1 : Nat, v = .int .i64 r ∧ i = .int .i64 j ∧ Rk wr b (.slice a0 p0 z0) (.slice a1 p1 z1) q0 q1 room ops at' kp true dn ∧ Turned w b wr ∧
    ((j = 0 ∧ r = K ∧ p0 = l0 ∧ q0 = s0 ∧ p1 = l1 ∧ q1 = s1) ∨ (j = 1 ∧ r = K - n0 ∧ p0 = s0 + n0 ∧ q0 = s0 + n0 ∧ p1 = l1 ∧ q1 = s1) ∨ (j = 2 ∧ p0 = s0 + n0 ∧ q0 = s0 + n0 ∧ p1 = s1 + n1 ∧ q1 = s1 + n1))) (fun _ i _ => (2 - intOf i).toNat)
  case atStart => exact ⟨0, K, l0, s0, l1, s1, rfl, rfl, H.out, (Turned.refl _ _).drewN nq, .inl ⟨rfl, rfl, rfl, rfl, rfl, rfl⟩⟩
  case round =>
    clear H c0 c1 c2 c3 c4 c5 c6 c7 c8 c9 fz
    obtain ⟨j, r, p0, q0, p1, q1, rfl, rfl, hd, ho, hj⟩ := hrel
    obtain ⟨⟨c0, c1, c2, c3, c4⟩, ⟨c5, c6, c7, c8, c9⟩, fz⟩ := hd.ten
    have HD : Hid (Rk wr b (.slice a0 p0 z0) (.slice a1 p1 z1) q0 q1 room ops at' kp true dn) := hd
    have HO : Hid (Turned w b wr) := ho
    clear hd ho
    rcases hj with ⟨rfl, hr, h1, h2, h3, h4⟩ | ⟨rfl, hr, h1, h2, h3, h4⟩ | ⟨rfl, h1, h2, h3, h4⟩
    · obtain ⟨rfl, rfl, rfl, rfl⟩ := And.intro h1.symm (And.intro h2.symm (And.intro h3.symm h4.symm))
      have hr' : Hid (r = K) := hr
      have hrL : r ≤ 9223372036854775807 := by omega
      clear hr
      obtain ⟨en, j0, j1, j2, j3, j4, hmn⟩ := round_facts r l0 s0 n0 z0 hrL hs0 hl0 hz0 (by rw [hr'.out]; exact m0.out)
      go_wp2
      go_quiet (fail)
      go_wp2
      go_region
      obtain ⟨w5, hw5⟩ : ∃ x, (wr.drewN (nq + 1)).setCell ⟨b, 2, none⟩ (.int .i64 ((s0 : Int) + n0)) = x := ⟨_, rfl⟩
      have H5 : Hid (Rk w5 b (.slice a0 l0 z0) (.slice a1 l1 z1) (s0 + n0) s1 room ops at' kp true dn) := by rw [← hw5]; exact heap_setCell_same _ b 2 _ _ _ HD.out
      have T5 : Hid (Turned w b w5) := by rw [← hw5]; exact (HO.out.drewN _).setCell 2 _
      rw [hw5]
      clear hw5 HD HO c0 c1 c2 c3 c4 c5 c6 c7 c8 c9 fz hmn
      obtain ⟨⟨c0, c1, c2, c3, c4⟩, ⟨c5, c6, c7, c8, c9⟩, fz⟩ := H5.out.ten
      go_wp2
      go_region
      obtain ⟨w6, hw6⟩ : ∃ x, (w5.setCell ⟨b, 0, none⟩ (.slice a0 (s0 + n0) z0)).drew = x := ⟨_, rfl⟩
      have H6 : Hid (Rk w6 b (.slice a0 (s0 + n0) z0) (.slice a1 l1 z1) (s0 + n0) s1 room ops at' kp true dn) := by rw [← hw6]; exact heap_setCell_same _ b 0 _ _ _ H5.out
      have T6 : Hid (Turned w b w6) := by rw [← hw6]; exact (T5.out.setCell 0 _).drew
      rw [hw6]
      clear hw6 H5 T5 c0 c1 c2 c3 c4 c5 c6 c7 c8 c9 fz
      go_wp2
      go_roundw
      case rel => exact ⟨1, r - n0, _, _, _, _, congrArg (Value.int .i64) (by have := en; omega), rfl, H6.out, T6.out, .inr (.inl ⟨rfl, by rw [hr'.out], rfl, rfl, rfl, rfl⟩)⟩
      case measure => simp [intOf]
    · obtain ⟨rfl, rfl, rfl, rfl⟩ := And.intro h1.symm (And.intro h2.symm (And.intro h3.symm h4.symm))
      have hr' : Hid (r = K - n0) := hr
      have hrL : r ≤ 9223372036854775807 := by omega
      clear hr
      obtain ⟨en, j0, j1, j2, j3, j4, hmn⟩ := round_facts r l1 s1 n1 z1 hrL hs1 hl1 hz1 (by rw [hr'.out]; exact m1.out)
      go_wp2
      go_quiet (fail)
      go_wp2
      go_region
      obtain ⟨w5, hw5⟩ : ∃ x, (wr.drewN (nq + 1)).setCell ⟨b, 3, none⟩ (.int .i64 ((s1 : Int) + n1)) = x := ⟨_, rfl⟩
      have H5 : Hid (Rk w5 b (.slice a0 (s0 + n0) z0) (.slice a1 l1 z1) (s0 + n0) (s1 + n1) room ops at' kp true dn) := by rw [← hw5]; exact heap_setCell_same _ b 3 _ _ _ HD.out
      have T5 : Hid (Turned w b w5) := by rw [← hw5]; exact (HO.out.drewN _).setCell 3 _
      rw [hw5]
      clear hw5 HD HO c0 c1 c2 c3 c4 c5 c6 c7 c8 c9 fz hmn
      obtain ⟨⟨c0, c1, c2, c3, c4⟩, ⟨c5, c6, c7, c8, c9⟩, fz⟩ := H5.out.ten
      go_wp2
      go_region
      obtain ⟨w6, hw6⟩ : ∃ x, (w5.setCell ⟨b, 1, none⟩ (.slice a1 (s1 + n1) z1)).drew = x := ⟨_, rfl⟩
      have H6 : Hid (Rk w6 b (.slice a0 (s0 + n0) z0) (.slice a1 (s1 + n1) z1) (s0 + n0) (s1 + n1) room ops at' kp true dn) := by rw [← hw6]; exact heap_setCell_same _ b 1 _ _ _ H5.out
      have T6 : Hid (Turned w b w6) := by rw [← hw6]; exact (T5.out.setCell 1 _).drew
      rw [hw6]
      clear hw6 H5 T5 c0 c1 c2 c3 c4 c5 c6 c7 c8 c9 fz
      go_wp2
      go_roundw
      case rel => exact ⟨2, r - n1, _, _, _, _, congrArg (Value.int .i64) (by have := en; omega), rfl, H6.out, T6.out, .inr (.inr ⟨rfl, rfl, rfl, rfl, rfl⟩)⟩
      case measure => simp [intOf]
    · obtain ⟨rfl, rfl, rfl, rfl⟩ := And.intro h1.symm (And.intro h2.symm (And.intro h3.symm h4.symm))
      go_wp2
      go_ret
      exact ⟨rfl, heap_setCell_same _ b 9 _ _ _ HD.out, HO.out.setCell 9 _⟩

theorem crash_down (b : Nat) (w : World) (a0 : Option Addr) (l0 z0 : Nat) (a1 : Option Addr) (l1 z1 : Nat) (s0 s1 : Nat) (room : Int) (ops : Nat) (at' kp : Int) (ar dn : Bool)
    (h : Rk w b (.slice a0 l0 z0) (.slice a1 l1 z1) s0 s1 room ops at' kp ar dn) (hr : ar = true) (ha : at' ≤ (ops : Int)) (hk1 : kp ≤ 9223372036854775807)
    (hs0 : s0 ≤ l0) (hs1 : s1 ≤ l1) (hl0 : l0 ≤ z0) (hl1 : l1 ≤ z1) (hz0 : z0 ≤ 9223372036854775807) (hz1 : z1 ≤ 9223372036854775807) (ha0 : a0 = none → z0 = 0) (ha1 : a1 = none → z1 = 0) :
    Calls Try.prog 40 #[.pointer (some ⟨b, 0, none⟩)] w
      (fun e w' => e = .returned (.bool true) ∧ Rk w' b (.slice a0 (left0 kp l0 s0) z0) (.slice a1 (left1 kp l0 s0 l1 s1) z1) (left0 kp l0 s0) (left1 kp l0 s0 l1 s1) room ops at' kp ar true ∧ Turned w b w') :=
  crash_crash b w _ _ _ _ _ _ _ _ _ _ _ _ _ _ h hr ha kp.toNat _ _ hk1 (by split <;> omega) rfl rfl hs0 hs1 hl0 hl1 hz0 hz1 ha0 ha1

end Go.Proofs.Ytdecdjjknbbolaa
