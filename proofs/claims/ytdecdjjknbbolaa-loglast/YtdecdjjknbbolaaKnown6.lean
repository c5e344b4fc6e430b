/-
  girolaw6.known.
-/
import Derived.Test.YtdecdjjknbbolaaLogOur
import Derived.Test.YtdecdjjknbbolaaLogWell
import Derived.Lib.SlBytesConst
namespace Go.Proofs.Ytdecdjjknbbolaa
open Go.RowKit
set_option linter.unusedVariables false
set_option linter.unusedSimpArgs false

set_option maxRecDepth 100000 in
set_option maxHeartbeats 4000000 in
theorem known_true (w : World) : Calls Try.prog 13 #[] w (fun e w' => e = .returned (.bool true) ∧ Below w.heap.size w w') := by
  obtain ⟨d1, o1, h1, dn1, rm1, ar1, op1⟩ := held_new 100 [115] (by decide) (by decide)
  obtain ⟨d2, o2, h2, dn2, rm2, ar2, op2⟩ := held_add_ok h1 dn1 ar1 0 [97] (by decide) (by rw [rm1]; decide)
  have L2 := h2.look
  have HP : Hid (d1.ops = 3 ∧ d1.add ⟨1, 0, 0, false⟩ [97] = (0, d2, ⟨1, 0, 0 + 1, false⟩) ∧ d2.look = ⟨1, 0, [115], [] ++ [[97]], true⟩ ∧ (D.new 100).opened [115] = (0, d1, some ⟨1, 0, 0, false⟩, [115], [])) := ⟨op1, o2, L2, o1⟩
  clear o1 h1 dn1 rm1 ar1 op1 o2 h2 dn2 rm2 ar2 op2 L2
  go_enter Try.func13, Try.ntmps13
  go_wp2_with fail
  go_at_call 8
  refine (our_new 100 w w No (fun j hj => hj.elim) (Below.refl _ _) (by decide) (by decide)).mono ?_
  rintro e w1 ⟨rfl, D1, b1⟩
  obtain ⟨b, hb⟩ : ∃ b, w.heap.size = b := ⟨_, rfl⟩
  have HB : Hid (w.heap.size = b) := hb
  rw [hb] at D1
  rw [hb]
  have C := Lib.run_convert_bytes_const (P := Try.prog) w1 26 5 #[.int .u8 115] 1 1 Try.underlying26 Try.underlying5
  have D2 : Hid (OurD w (w1.alloc (.cells #[.int .u8 115] 5 (1, 2))) (· = w1.heap.size) b (D.new 100)) := D1.widen ((Below.refl _ _).alloc (Nat.le_refl _) _) _ (by rintro j rfl; exact ⟨.inr (Nat.le_refl _), by simp⟩)
  clear hb b1 D1
  go_wp2_with fail
  go_at_call 9
  refine (our_open D2.out _ 1 1 [115] (one_const w1 115 (by decide)) (by simp) (fun _ x hx => .inr (by simp at hx; rw [← hx])) (by decide) (by decide) d1 ⟨1, 0, 0, false⟩ [115] [] HP.out.2.2.2).mono ?_
  rintro e w2 ⟨l, a1, c1, a2, c2, rfl, O2, oo2, s2, r2⟩
  have HO : Hid (Our w w2 (fun j => j = w1.heap.size ∨ ([(115 : Int)] ≠ [] ∧ ∃ x, a1 = some x ∧ j = x.block)) b l d1 ⟨1, 0, 0, false⟩) := O2
  have S2 : Hid (Sl .u8 w2 a1 1 [115]) := s2.sl
  clear C D2 O2 oo2 s2 r2
  have C := Lib.run_convert_bytes_const (P := Try.prog) w2 26 5 #[.int .u8 97] 1 1 Try.underlying26 Try.underlying5
  have ba : Below w2.heap.size w2 (w2.alloc (.cells #[.int .u8 97] 5 (1, 2))) := (Below.refl _ _).alloc (Nat.le_refl _) _
  have A := our_add (HO.out.grow ba) _ 1 1 [97] (one_const w2 97 (by decide)) (by simp) (by decide) (by rw [HP.out.1]; decide) (by decide)
  rw [HP.out.2.1] at A
  have S3 : Hid (Sl .u8 (w2.alloc (.cells #[.int .u8 97] 5 (1, 2))) a1 1 [115]) := S2.out.below ba
  clear S2 HO ba
  go_wp2_with fail
  go_at_call 10
  refine A.mono ?_
  rintro e w3 ⟨rfl, O3, oo3⟩
  have S4 : Hid (Sl .u8 w3 a1 1 [115]) := S3.out.onlyN oo3 (fun h0 x hx hs => hs.2 (.inr ⟨h0, x, hx, rfl⟩))
  have LK := our_look O3.deck
  rw [HP.out.2.2.1] at LK
  have HO : Hid (Our w w3 (fun j => j = w1.heap.size ∨ ([(115 : Int)] ≠ [] ∧ ∃ x, a1 = some x ∧ j = x.block)) b l d2 ⟨1, 0, 0 + 1, false⟩) := O3
  clear C A S3 O3 oo3
  go_wp2_with fail
  go_at_call 15
  refine LK.mono ?_
  rintro e w4 ⟨y1, e1, y2, e2, rfl, s4, r4, b4⟩
  obtain ⟨g, off, x, xc, hy, q, sx⟩ := r4.head
  have q0 : w4.cell? ⟨g, off, none⟩ = some (.slice x 1 xc) := q
  have T1 : (convert 26 9 (.slice a1 1 c1)).run Try.prog w4 = .ok (.string ⟨#[115]⟩) w4 := (S4.out.below b4).text (P := Try.prog) (cap := c1) 26 9 5 Try.underlying26 Try.underlying5 Try.underlying9
  have T2 : (convert 26 9 (.slice y1 1 e1)).run Try.prog w4 = .ok (.string ⟨#[115]⟩) w4 := s4.sl.text (P := Try.prog) (cap := e1) 26 9 5 Try.underlying26 Try.underlying5 Try.underlying9
  have T3 : (convert 26 9 (.slice x 1 xc)).run Try.prog w4 = .ok (.string ⟨#[97]⟩) w4 := sx.sl.text (P := Try.prog) (cap := xc) 26 9 5 Try.underlying26 Try.underlying5 Try.underlying9
  have O4 := HO.out.grow b4
  have R := our_rows O4
  have HB4 : Hid (Below w.heap.size w w4) := O4.blw
  clear s4 r4 q sx b4 S4 LK HO O4
  subst hy
  go_wp2_with fail
  go_at_call 28
  refine R.mono ?_
  rintro e w5 ⟨rfl, hw⟩
  obtain rfl := hw.symm
  go_wp2
  go_ret
  exact ⟨rfl, HB4.out⟩

end Go.Proofs.Ytdecdjjknbbolaa
