/-
  girolaw6.LogSides.
-/
import Derived.Test.YtdecdjjknbbolaaKnown6
namespace Go.Proofs.Ytdecdjjknbbolaa
open Go.RowKit
set_option linter.unusedVariables false
set_option linter.unusedSimpArgs false

/-- Behind k - 1 saves. -/
structure Sides (w wr : World) (b l : Nat) (k : Nat) (sd : Int) (d : D) (z : Int) : Prop where
  our : Our w wr No b l d ⟨k, sd, 0, false⟩
  held : Held d k sd [z] [] []
  dn : d.dn = false
  room : d.room = 500
  ar : d.ar = false
  ops : d.ops ≤ 5 * k
  side : sd = ((k : Int) - 1) % 2

set_option maxRecDepth 100000 in
set_option maxHeartbeats 4000000 in
theorem sides_main (n : Nat) (hn : n ≤ 20) (w : World) : Calls Try.prog 7 #[.int .i64 n] w fun e w' => e = .returned (.bool true) ∧ Below w.heap.size w w' := by
  obtain ⟨d1, o1, h1, dn1, rm1, ar1, op1⟩ := held_new 500 [115] (by decide) (by decide)
  have HP : Hid ((D.new 500).opened [115] = (0, d1, some ⟨1, 0, 0, false⟩, [115], []) ∧ Held d1 1 0 [115] [] [] ∧ d1.dn = false ∧ d1.room = 500 ∧ d1.ar = false ∧ d1.ops = 3) := ⟨o1, h1, dn1, rm1, ar1, op1⟩
  clear o1 h1 dn1 rm1 ar1 op1
  have n0 : ¬ (n : Int) < 0 := by omega
  have n1 : (n : Int) ≤ 20 := by omega
  go_enter Try.func7, Try.ntmps7
  go_wp2_with fail
  go_at_call 8
  refine (our_new 500 w w No (fun j hj => hj.elim) (Below.refl _ _) (by decide) (by decide)).mono ?_
  rintro e w1 ⟨rfl, D1, b1⟩
  obtain ⟨b, hb⟩ : ∃ b, w.heap.size = b := ⟨_, rfl⟩
  have HB : Hid (w.heap.size = b) := hb
  rw [hb] at D1
  rw [hb]
  have C := Lib.run_convert_bytes_const (P := Try.prog) w1 26 5 #[.int .u8 115] 1 1 Try.underlying26 Try.underlying5
  have D2 : Hid (OurD w (w1.alloc (.cells #[.int .u8 115] 5 (1, 2))) (· = w1.heap.size) b (D.new 500)) := D1.widen ((Below.refl _ _).alloc (Nat.le_refl _) _) _ (by rintro j rfl; exact ⟨.inr (Nat.le_refl _), by simp⟩)
  clear hb b1 D1
  go_wp2_with fail
  go_at_call 9
  refine (our_open D2.out _ 1 1 [115] (one_const w1 115 (by decide)) (by simp) (fun _ x hx => .inr (by simp at hx; rw [← hx])) (by decide) (by decide) d1 ⟨1, 0, 0, false⟩ [115] [] HP.out.1).mono ?_
  rintro e w2 ⟨l, a1, c1, a2, c2, rfl, O2, oo2, s2, r2⟩
  have HO : Hid (Our w w2 No b l d1 ⟨1, 0, 0, false⟩) := O2.less (fun j hj => hj.elim)
  clear C D2 O2 oo2 s2 r2
  go_wp2
  go_loopw [8] (fun i wr => ∃ (k : Nat) (sd : Int) (d : D) (z : Int), i = .int .i64 k ∧ 1 ≤ k ∧ k ≤ n + 1 ∧ Sides w wr b l k sd d z) (fun i _ => ((n : Int) + 1 - intOf i).toNat)
  case atStart => exact ⟨1, 0, d1, 115, rfl, by omega, by omega, HO.out, HP.out.2.1, HP.out.2.2.1, HP.out.2.2.2.1, HP.out.2.2.2.2.1, by have := HP.out.2.2.2.2.2; omega, rfl⟩
  case round =>
    obtain ⟨k, sd, d, z, rfl, hk1, hk2, hs⟩ := hrel
    have HS : Hid (Sides w wr b l k sd d z) := hs
    clear hs HO HP
    by_cases hkn : k ≤ n
    · have ki : (k : Int) ≤ n := by omega
      have j1 : IntKind.i64.wrap ((k : Int) + 1) = (k : Int) + 1 := i64_wf (by omega) (by omega)
      have j2 : IntKind.u8.wrap (k : Int) = k := u8_wf (by omega) (by omega)
      obtain ⟨d2, e2, h2, dn2, rm2, ar2, op2⟩ := held_add_ok HS.out.held HS.out.dn HS.out.ar 0 [114] (by decide) (by rw [HS.out.room]; simp [encR])
      obtain ⟨d3, e3, h3, dn3, rm3, ar3, op3⟩ := held_save_ok h2 dn2 ar2 1 false [(k : Int)] (by simp) (by rw [rm2, HS.out.room]; simp) (by omega)
      have L3 := h3.look
      have C := Lib.run_convert_bytes_const (P := Try.prog) wr 26 5 #[.int .u8 114] 1 1 Try.underlying26 Try.underlying5
      have ba : Below wr.heap.size wr (wr.alloc (.cells #[.int .u8 114] 5 (1, 2))) := (Below.refl _ _).alloc (Nat.le_refl _) _
      have A := our_add (HS.out.our.grow ba) _ 1 1 [114] (one_const wr 114 (by decide)) (by simp) (by decide) (by have := HS.out.ops; omega) (by simp)
      rw [e2] at A
      have hsd := HS.out.side
      have HD : Hid (d2.resave ⟨k, sd, 0 + 1, false⟩ [(k : Int)] = (0, d3, ⟨(k : Int) + 1, 1 - sd, 0, false⟩) ∧ d3.look = ⟨(k : Int) + 1, 1 - sd, [(k : Int)], [], true⟩ ∧ d2.ops ≤ 5 * k + 2 ∧ (∀ wq, Our w wq No b l d3 ⟨(k : Int) + 1, 1 - sd, 0, false⟩ → Sides w wq b l (k + 1) (1 - sd) d3 k)) := by
        refine ⟨e3, L3, by have := HS.out.ops; omega, fun wq hq => ⟨by simpa using hq, by simpa using h3, dn3, by rw [rm3, rm2, HS.out.room], ar3, by have := HS.out.ops; omega, by have := hsd; simp; omega⟩⟩
      have hsd2 : 1 - sd = (k : Int) % 2 := by omega
      have hsd3 : sd = 0 ∨ sd = 1 := by omega
      clear e2 h2 dn2 rm2 ar2 op2 e3 h3 dn3 rm3 ar3 op3 L3 ba hsd
      go_wp2_with fail
      go_at_call 10
      refine A.mono ?_
      rintro e w3 ⟨rfl, O3, oo3⟩
      have ba : Below w3.heap.size w3 (w3.alloc (.cells #[.int .u8 k] 5)) := (Below.refl _ _).alloc (Nat.le_refl _) _
      have V := our_save (O3.grow ba) _ 1 1 [(k : Int)] (one_byte w3 k j2) (by simp) (by decide) (by have := HD.out.2.2.1; omega) (by simp) (by simp; omega) (by simpa using hsd3)
      rw [HD.out.1] at V
      clear C A O3 oo3 ba
      go_wp2_with fail
      go_at_call 11
      refine V.mono ?_
      rintro e w4 ⟨rfl, O4, oo4⟩
      have LK := our_look O4.deck
      rw [HD.out.2.1] at LK
      have HO : Hid (Our w w4 No b l d3 ⟨(k : Int) + 1, 1 - sd, 0, false⟩) := O4
      clear V O4 oo4
      go_wp2_with fail
      go_at_call 15
      refine LK.mono ?_
      rintro e w5 ⟨y1, c3, y2, c4, rfl, s5, r5, b5⟩
      have T1 : (convert 26 9 (.slice y1 1 c3)).run Try.prog w5 = .ok (.string (strOfNums [(k : Int)])) w5 := s5.sl.text (P := Try.prog) (cap := c3) 26 9 5 Try.underlying26 Try.underlying5 Try.underlying9
      have T2 : (convert 26 9 (.slice (some ⟨w5.heap.size, 0, none⟩) 1 1)).run Try.prog (w5.alloc (.cells #[.int .u8 k] 5)) = .ok (.string (strOfNums [(k : Int)])) (w5.alloc (.cells #[.int .u8 k] 5)) := (one_byte w5 k j2).text (P := Try.prog) (cap := 1) 26 9 5 Try.underlying26 Try.underlying5 Try.underlying9
      have N5 : Hid (Sides w (w5.alloc (.cells #[.int .u8 k] 5)) b l (k + 1) (1 - sd) d3 k) := HD.out.2.2.2 _ ((HO.out.grow b5).grow ((Below.refl _ _).alloc (Nat.le_refl _) _))
      clear LK s5 r5 b5 HO
      simp only [List.length_cons, List.length_nil]
      rw [hsd2] at N5 ⊢
      clear hsd2 hsd3
      go_wp2
      go_roundw
      case rel => exact ⟨k + 1, _, d3, k, by simp, by omega, by omega, N5.out⟩
      case measure => simp [intOf]; omega
    · have hk3 : k = n + 1 := by omega
      have ki : ¬ (k : Int) ≤ n := by omega
      have BL : Hid (Below w.heap.size w wr) := HS.out.our.blw
      clear HS
      go_wp2_with fail
      go_at_call 9
      refine (open_nil wr _).mono ?_
      rintro e w3 ⟨rfl, hw⟩
      obtain rfl := hw.symm
      go_wp2_with fail
      go_at_call 10
      refine (add_nil wr _).mono ?_
      rintro e w3 ⟨rfl, hw⟩
      obtain rfl := hw.symm
      go_wp2_with fail
      go_at_call 11
      refine (save_nil wr _).mono ?_
      rintro e w3 ⟨rfl, hw⟩
      obtain rfl := hw.symm
      go_wp2_with fail
      go_at_call 28
      refine (rows_nil wr).mono ?_
      rintro e w3 ⟨rfl, hw⟩
      obtain rfl := hw.symm
      go_wp2_with fail
      go_at_call 13
      refine (known_true wr).mono ?_
      rintro e w4 ⟨rfl, b4⟩
      have B4 : Hid (Below w.heap.size w w4) := BL.out.trans (b4.mono BL.out.size)
      clear b4
      go_wp2
      go_ret
      exact ⟨rfl, B4.out⟩

theorem Walk.logSides (a0 : Int) (h0 : (Lit.int .i64 a0).wf = true) (w : World) : Calls Try.prog 7 #[.int .i64 a0] w fun e w' => e = .returned (.bool true) ∧ Below w.heap.size w w' := by
  by_cases h1 : a0 < 0
  · go_enter Try.func7, Try.ntmps7
    go_wp2
    go_ret
    exact ⟨rfl, Below.refl _ _⟩
  by_cases h2 : 20 < a0
  · go_enter Try.func7, Try.ntmps7
    go_wp2
    go_ret
    exact ⟨rfl, Below.refl _ _⟩
  obtain ⟨n, rfl⟩ : ∃ n : Nat, a0 = n := ⟨a0.toNat, by omega⟩
  exact sides_main n (by omega) w

end Go.Proofs.Ytdecdjjknbbolaa
