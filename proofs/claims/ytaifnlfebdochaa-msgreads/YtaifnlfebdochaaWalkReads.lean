/-
  The walk of MsgReads.
-/
import Derived.Test.YtaifnlfebdochaaMsgEq
namespace Go.Proofs.Ytaifnlfebdochaa
open Go.RowKit
namespace Walk

theorem reads_out (a : Option Addr) (len cap : Nat) (w : World) (h : 200 < len) : Calls Try.prog 4 #[.slice a len cap] w fun e w' => e = .returned (.bool true) ∧ Below w.heap.size w w' := by
  have i1 : (200 : Int) < len := by omega
  go_enter Try.func4, Try.ntmps4
  go_wp2
  go_ret
  exact ⟨rfl, Below.refl _ _⟩

set_option maxHeartbeats 4000000 in
theorem reads_in (a : Option Addr) (len cap : Nat) (bs : List Int) (w : World) (h : Sl .u8 w a len bs) (hc : len ≤ cap) (hm : cap ≤ 9223372036854775807) (hr : len ≤ 200) :
    Calls Try.prog 4 #[.slice a len cap] w fun e w' => e = .returned (.bool true) ∧ Below w.heap.size w w' := by
  have i1 : (len : Int) ≤ 200 := by omega
  have H : Hid (Sl .u8 w a len bs) := h
  clear h
  go_enter Try.func4, Try.ntmps4
  go_wp2_with fail
  go_at_call 16
  refine (read_any a len cap bs _ H.out hc hm (by omega)).mono ?_
  rintro e w1 ⟨k, f0, f1, f2, f3, f4, f5, er, hR, rfl, b1⟩
  have B1 : Below w.heap.size w (w1.alloc (.cells #[.int .i64 k, .int .i64 f0, .int .i64 f1, .int .i64 f2, .int .i64 f3, .int .i64 f4, .int .i64 f5] 24)) := b1.alloc b1.size _
  have P1 := heap_alloc_new w1 (.cells #[.int .i64 k, .int .i64 f0, .int .i64 f1, .int .i64 f2, .int .i64 f3, .int .i64 f4, .int .i64 f5] 24)
  have HR : Hid (readS bs = ([k, f0, f1, f2, f3, f4, f5], er)) := hR
  clear hR b1
  go_wp2_with fail
  go_at_call 18
  refine (refRead_any a len cap bs _ (H.out.below B1) hc hm (by omega)).mono ?_
  rintro e w2 ⟨k', f0', f1', f2', f3', f4', f5', er', hR, rfl, b2⟩
  rw [HR.out] at hR
  simp only [Prod.mk.injEq, List.cons.injEq] at hR
  obtain ⟨⟨rfl, rfl, rfl, rfl, rfl, rfl, rfl, _⟩, rfl⟩ := hR
  have P1 := keeps b2 P1
  have B2 := B1.trans (b2.mono B1.size)
  clear B1 b2
  have B2' : Below w.heap.size w (w2.alloc (.cells #[.int .i64 k, .int .i64 f0, .int .i64 f1, .int .i64 f2, .int .i64 f3, .int .i64 f4, .int .i64 f5] 24)) := B2.alloc B2.size _
  have P1 := keeps ((Below.refl _ w2).alloc (Nat.le_refl _) (.cells #[.int .i64 k, .int .i64 f0, .int .i64 f1, .int .i64 f2, .int .i64 f3, .int .i64 f4, .int .i64 f5] 24)) P1
  have P2 := heap_alloc_new w2 (.cells #[.int .i64 k, .int .i64 f0, .int .i64 f1, .int .i64 f2, .int .i64 f3, .int .i64 f4, .int .i64 f5] 24)
  clear B2
  go_wp2_with fail
  go_at_call 17
  refine (readCmd_any a len cap bs _ (H.out.below B2') hc hm (by omega)).mono ?_
  rintro e w3 ⟨x, y, g0, g1, g2, g3, g4, g5, er3, hR, rfl, b3⟩
  have HR3 : Hid (readCmdS bs = ([x, y, g0, g1, g2, g3, g4, g5], er3)) := hR
  have P1 := keeps b3 P1
  have P2 := keeps b3 P2
  have B3 := B2'.trans (b3.mono B2'.size)
  clear hR b3 B2'
  have al := (Below.refl _ w3).alloc (Nat.le_refl _) (.cells #[.int .i64 x, .int .i64 y, .int .i64 g0, .int .i64 g1, .int .i64 g2, .int .i64 g3, .int .i64 g4, .int .i64 g5] 26)
  have B3' := B3.trans (al.mono B3.size)
  have P1 := keeps al P1
  have P2 := keeps al P2
  have P3 := heap_alloc_new w3 (.cells #[.int .i64 x, .int .i64 y, .int .i64 g0, .int .i64 g1, .int .i64 g2, .int .i64 g3, .int .i64 g4, .int .i64 g5] 26)
  clear B3 al
  go_wp2_with fail
  go_at_call 19
  refine (refReadCmd_any a len cap bs _ (H.out.below B3') hc hm (by omega)).mono ?_
  rintro e w4 ⟨x', y', g0', g1', g2', g3', g4', g5', er3', hR, rfl, b4⟩
  rw [HR3.out] at hR
  simp only [Prod.mk.injEq, List.cons.injEq] at hR
  obtain ⟨⟨rfl, rfl, rfl, rfl, rfl, rfl, rfl, rfl, _⟩, rfl⟩ := hR
  have P1 := keeps b4 P1
  have P2 := keeps b4 P2
  have P3 := keeps b4 P3
  have B4 := B3'.trans (b4.mono B3'.size)
  clear b4 B3'
  have al := (Below.refl _ w4).alloc (Nat.le_refl _) (.cells #[.int .i64 x, .int .i64 y, .int .i64 g0, .int .i64 g1, .int .i64 g2, .int .i64 g3, .int .i64 g4, .int .i64 g5] 26)
  have B4' := B4.trans (al.mono B4.size)
  obtain ⟨p0, p1, p2, p3, p4, p5, p6⟩ := seven (keeps al P1)
  obtain ⟨q0, q1, q2, q3, q4, q5, q6⟩ := seven (keeps al P2)
  obtain ⟨r0, r1, r2, r3, r4, r5, r6, r7⟩ := eight (keeps al P3)
  clear B4 al P1 P2 P3
  have AE := arr_eq
  go_wp2_with fail
  go_at_call 15
  refine (known_any _).mono ?_
  rintro e w5 ⟨rfl, b5⟩
  have B5 := B4'.trans (b5.mono B4'.size)
  clear b5 B4' p0 p1 p2 p3 p4 p5 p6 q0 q1 q2 q3 q4 q5 q6 r0 r1 r2 r3 r4 r5 r6 r7
  go_wp2
  go_ret
  exact ⟨rfl, B5⟩

theorem msgReads (a0 : Option Addr) (len0 cap0 : Nat) (z0 : List Int) (w : World) (w0 : IsRow .u8 w a0 len0 cap0 z0) :
    Calls Try.prog 4 #[.slice a0 len0 cap0] w fun e w' => e = .returned (.bool true) ∧ Below w.heap.size w w' := by
  obtain ⟨hS, hc, hm⟩ := w0.sl wf_u8'
  by_cases h : 200 < len0
  · exact reads_out a0 len0 cap0 w h
  · exact reads_in a0 len0 cap0 _ w hS hc hm (by omega)

end Walk
end Go.Proofs.Ytaifnlfebdochaa
