/-
  girolaw10.LimCopies: a copy is the same, and does not hang on what it is of.
-/
import Derived.Test.YtpaieecbedgeaaaKnown10
import Derived.Test.YtpaieecbedgeaaaLimRefSame
import Derived.Test.YtpaieecbedgeaaaLimPoke
import Derived.Test.YtpaieecbedgeaaaArgs
namespace Go.Proofs.Ytpaieecbedgeaaa
open Go.RowKit
set_option linter.unusedVariables false
set_option linter.unusedSimpArgs false

theorem and63 (x : Int) : 0 ≤ bits .and .i64 x 63 ∧ bits .and .i64 x 63 ≤ 63 := by
  show 0 ≤ IntKind.i64.wrap ((BitVec.ofInt 64 x &&& BitVec.ofInt 64 63).toNat : Nat) ∧ IntKind.i64.wrap ((BitVec.ofInt 64 x &&& BitVec.ofInt 64 63).toNat : Nat) ≤ 63
  have h : (BitVec.ofInt 64 x &&& BitVec.ofInt 64 63).toNat ≤ 63 := by
    rw [BitVec.toNat_and]
    exact Nat.le_trans Nat.and_le_right (by decide)
  rw [IntKind.wrap_i64]
  omega
theorem balV_range (zs : List Int) (i : Nat) : 0 ≤ balV zs i ∧ balV zs i ≤ 63 := by
  unfold balV
  split
  · exact and63 _
  · omega
theorem wrap_wrap64 (v : Int) : IntKind.i64.wrap (wrap64 v) = wrap64 v := by
  rw [IntKind.wrap_i64]
  unfold wrap64
  omega
theorem sameB_first {a b : Bks} {v0 c0 r0 c1 r1 : Int} {A' A2 : List A3} (ha : a.A = (v0, c0, r0) :: A') (hb : b.A = (v0 + 1, c1, r1) :: A2) : sameB a b = false := by
  rw [Bool.eq_false_iff]
  intro h
  rw [sameB_yes] at h
  rw [h, hb] at ha
  simp at ha
  omega

set_option maxHeartbeats 8000000 in
set_option maxRecDepth 100000 in
theorem Walk.limCopies (a : Option Addr) (len cap : Nat) (zs0 : List Int) (way : Int) (w : World) (h0 : Walk.IsRow .i64 w a len cap zs0) (hway : (Lit.int .i64 way).wf = true) : Calls Try.prog 4 #[.slice a len cap, .int .i64 way] w fun e w' => e = .returned (.bool true) ∧ Below w.heap.size w w' := by
  obtain ⟨hsl, hcap, hmax⟩ := h0.sl fun n hn => by
    simp only [Lit.wf, Bool.and_eq_true, decide_eq_true_eq] at hn
    exact i64_wf hn.1 hn.2
  have S := some_any a len cap (zs0.take len) way w hsl (by omega)
  obtain ⟨kb, hkb⟩ : ∃ kb, someK (zs0.take len) (bitB way 1) (bitB way 2) (bitB way 4) = kb := ⟨_, rfl⟩
  rw [hkb] at S
  have HSM : Hid (Small kb) := by rw [← hkb]; exact small_some _ _ _ _
  have HSH : Hid (Sh3 kb) := by rw [← hkb]; exact sh3_some _ _ _ _
  obtain ⟨v0, c0, r0, A', hA, hv0⟩ : ∃ v0 c0 r0 A', kb.A = (v0, c0, r0) :: A' ∧ 0 ≤ v0 ∧ v0 ≤ 63 := by rw [← hkb]; exact ⟨_, _, _, _, rfl, balV_range _ _⟩
  have HA : Hid (kb.A = (v0, c0, r0) :: A') := hA
  obtain ⟨hv1, hv2⟩ := hv0
  have K := known10
  clear hkb hA hsl h0 hway
  go_enter Try.func4, Try.ntmps4
  go_wp2_with fail
  go_at_call 10
  refine S.mono ?_
  rintro e w1 ⟨yb, rfl, nb, bel⟩
  clear S
  have B1 : Hid (Below w.heap.size w w1) := bel
  have N1 : Hid (Bk w1 yb kb) := nb.bk
  clear nb bel
  obtain ⟨bA, b1, b2, bB, b3, b4, bM, b5, b6, bP, b7, b8⟩ := yb
  obtain ⟨w2, hw2⟩ : ∃ w2, w2 = w1.alloc (.cells #[.slice bA b1 b2, .slice bB b3 b4, .slice bM b5 b6, .slice bP b7 b8] 26) := ⟨_, rfl⟩
  have B2 : Hid (Below w.heap.size w w2) := by rw [hw2]; exact B1.out.alloc B1.out.size _
  have XB2 : Hid (Box4 w2 w1.heap.size ⟨bA, b1, b2, bB, b3, b4, bM, b5, b6, bP, b7, b8⟩) := by rw [hw2]; exact Box4.new w1 ⟨bA, b1, b2, bB, b3, b4, bM, b5, b6, bP, b7, b8⟩ _ _
  have HW12 : Hid (w1.heap.size < w2.heap.size) := by show _ < _; rw [hw2, size_alloc]; omega
  have BK2 : Hid (Bk w2 ⟨bA, b1, b2, bB, b3, b4, bM, b5, b6, bP, b7, b8⟩ kb) := by rw [hw2]; exact N1.out.below (box_below _ _)
  have E1 := limCopy_any ⟨bA, b1, b2, bB, b3, b4, bM, b5, b6, bP, b7, b8⟩ kb w2 BK2.out HSM.out
  rw [hw2] at E1
  clear N1 B1
  go_wp2_with fail
  go_at_call 11
  refine E1.mono ?_
  rw [← hw2]
  rintro e w3 ⟨yc, rfl, nc, bel⟩
  clear E1 hw2
  have B23 : Hid (Below w2.heap.size w2 w3) := bel
  have NC3 : Hid (NewBk w3 w2.heap.size yc kb) := nc
  clear nc bel
  obtain ⟨cA, c1, c2, cB, c3, c4, cM, c5, c6, cP, c7, c8⟩ := yc
  obtain ⟨w4, hw4⟩ : ∃ w4, w4 = w3.alloc (.cells #[.slice cA c1 c2, .slice cB c3 c4, .slice cM c5 c6, .slice cP c7 c8] 26) := ⟨_, rfl⟩
  have B24 : Hid (Below w2.heap.size w2 w4) := by rw [hw4]; exact B23.out.alloc B23.out.size _
  have XC4 : Hid (Box4 w4 w3.heap.size ⟨cA, c1, c2, cB, c3, c4, cM, c5, c6, cP, c7, c8⟩) := by rw [hw4]; exact Box4.new w3 ⟨cA, c1, c2, cB, c3, c4, cM, c5, c6, cP, c7, c8⟩ _ _
  have ZC4 : Hid (w4.heap[w3.heap.size]? = some (.cells #[.slice cA c1 c2, .slice cB c3 c4, .slice cM c5 c6, .slice cP c7 c8] 26 (0, 0))) := by rw [hw4]; exact heap_alloc_new w3 _
  have NC4 : Hid (NewBk w4 w2.heap.size ⟨cA, c1, c2, cB, c3, c4, cM, c5, c6, cP, c7, c8⟩ kb) := by rw [hw4]; exact NC3.out.below (box_below _ _)
  obtain ⟨xb0, xb1, xb2, xb3⟩ := XB2.out.below B24.out
  obtain ⟨xc0, xc1, xc2, xc3⟩ := XC4.out
  have E2 := limSame_any ⟨bA, b1, b2, bB, b3, b4, bM, b5, b6, bP, b7, b8⟩ ⟨cA, c1, c2, cB, c3, c4, cM, c5, c6, cP, c7, c8⟩ kb kb w4 (BK2.out.below B24.out) NC4.out.bk
  rw [sameB_yes.2 rfl, hw4] at E2
  rw [hw4] at xb0 xb1 xb2 xb3 xc0 xc1 xc2 xc3
  have HZ3 : Hid (w2.heap.size ≤ w3.heap.size) := B23.out.size
  clear NC3
  go_wp2_with fail
  go_at_call 12
  refine E2.mono ?_
  rw [← hw4]
  rintro e w5 ⟨rfl, bel⟩
  clear E2 hw4 xb0 xb1 xb2 xb3 xc0 xc1 xc2 xc3
  have B45 : Hid (Below w4.heap.size w4 w5) := bel
  clear bel
  have B25 : Hid (Below w2.heap.size w2 w5) := B24.out.trans (B45.out.mono B24.out.size)
  have XC5 : Hid (Box4 w5 w3.heap.size ⟨cA, c1, c2, cB, c3, c4, cM, c5, c6, cP, c7, c8⟩) := XC4.out.below B45.out
  have ZC5 : Hid (w5.heap[w3.heap.size]? = some (.cells #[.slice cA c1 c2, .slice cB c3 c4, .slice cM c5 c6, .slice cP c7 c8] 26 (0, 0))) := (B45.out.block _ (lt_of_block ZC4.out)).trans ZC4.out
  have NC5 : Hid (NewBk w5 w2.heap.size ⟨cA, c1, c2, cB, c3, c4, cM, c5, c6, cP, c7, c8⟩ kb) := NC4.out.below B45.out
  obtain ⟨xb0, xb1, xb2, xb3⟩ := XB2.out.below B25.out
  obtain ⟨xc0, xc1, xc2, xc3⟩ := XC5.out
  have E3 := refSame_any ⟨bA, b1, b2, bB, b3, b4, bM, b5, b6, bP, b7, b8⟩ ⟨cA, c1, c2, cB, c3, c4, cM, c5, c6, cP, c7, c8⟩ kb kb w5 (BK2.out.below B25.out) NC5.out.bk
  rw [sameB_yes.2 rfl] at E3
  clear NC4 XC4 B24 B45
  go_wp2_with fail
  go_at_call 13
  refine E3.mono ?_
  rintro e w6 ⟨rfl, bel⟩
  clear E3 xb0 xb1 xb2 xb3 xc0 xc1 xc2 xc3
  have B56 : Hid (Below w5.heap.size w5 w6) := bel
  clear bel
  have B26 : Hid (Below w2.heap.size w2 w6) := B25.out.trans (B56.out.mono B25.out.size)
  have XC6 : Hid (Box4 w6 w3.heap.size ⟨cA, c1, c2, cB, c3, c4, cM, c5, c6, cP, c7, c8⟩) := XC5.out.below B56.out
  have ZC6 : Hid (w6.heap[w3.heap.size]? = some (.cells #[.slice cA c1 c2, .slice cB c3 c4, .slice cM c5 c6, .slice cP c7 c8] 26 (0, 0))) := (B56.out.block _ (lt_of_block ZC5.out)).trans ZC5.out
  have NC6 : Hid (NewBk w6 w2.heap.size ⟨cA, c1, c2, cB, c3, c4, cM, c5, c6, cP, c7, c8⟩ kb) := NC5.out.below B56.out
  obtain ⟨xb0, xb1, xb2, xb3⟩ := XB2.out.below B26.out
  have E4 := refCopy_any ⟨bA, b1, b2, bB, b3, b4, bM, b5, b6, bP, b7, b8⟩ kb w6 (BK2.out.below B26.out) HSM.out
  clear NC5 XC5 B25 B56
  go_wp2_with fail
  go_at_call 14
  refine E4.mono ?_
  rintro e w7 ⟨yd, rfl, nd, bel⟩
  clear E4 xb0 xb1 xb2 xb3
  have B67 : Hid (Below w6.heap.size w6 w7) := bel
  have ND7 : Hid (NewBk w7 w6.heap.size yd kb) := nd
  clear nd bel
  obtain ⟨dA, d1, d2, dB, d3, d4, dM, d5, d6, dP, d7, d8⟩ := yd
  obtain ⟨w8, hw8⟩ : ∃ w8, w8 = w7.alloc (.cells #[.slice dA d1 d2, .slice dB d3 d4, .slice dM d5 d6, .slice dP d7 d8] 26) := ⟨_, rfl⟩
  have B68 : Hid (Below w6.heap.size w6 w8) := by rw [hw8]; exact B67.out.alloc B67.out.size _
  have B28 : Hid (Below w2.heap.size w2 w8) := B26.out.trans (B68.out.mono B26.out.size)
  have XC8 : Hid (Box4 w8 w3.heap.size ⟨cA, c1, c2, cB, c3, c4, cM, c5, c6, cP, c7, c8⟩) := XC6.out.below B68.out
  have NC8 : Hid (NewBk w8 w2.heap.size ⟨cA, c1, c2, cB, c3, c4, cM, c5, c6, cP, c7, c8⟩ kb) := NC6.out.below B68.out
  have XD8 : Hid (Box4 w8 w7.heap.size ⟨dA, d1, d2, dB, d3, d4, dM, d5, d6, dP, d7, d8⟩) := by rw [hw8]; exact Box4.new w7 ⟨dA, d1, d2, dB, d3, d4, dM, d5, d6, dP, d7, d8⟩ _ _
  have ND8 : Hid (NewBk w8 w6.heap.size ⟨dA, d1, d2, dB, d3, d4, dM, d5, d6, dP, d7, d8⟩ kb) := by rw [hw8]; exact ND7.out.below (box_below _ _)
  obtain ⟨gA, eA, e1, hgA, _, cA6, ⟨csA, hA6⟩, _⟩ := NC6.out.first HSH.out HA.out
  obtain ⟨vb, hb6⟩ := NC6.out.bil
  obtain ⟨gB, eB, e3, ⟨csB, hB6⟩, rB⟩ := hb6.three HSH.out.b HSH.out.bs
  obtain ⟨g1, rc1, cur1, s1, hg1, h16, _, _⟩ := rB 1 (by decide)
  obtain ⟨vp, hp6⟩ := NC6.out.pos
  obtain ⟨gP, eP, e7, ⟨csP, hP6⟩, rP⟩ := hp6.three HSH.out.p HSH.out.ps
  obtain ⟨g2, rc2, cur2, t1, hg2, h26, _, _⟩ := rP 2 (by decide)
  obtain ⟨gM, cM', curM, eM, hgM, hM6, _, _⟩ := own_three NC6.out.mul HSH.out.m NC6.out.wf
  simp only [Value.slice.injEq] at eM
  obtain ⟨eM, e5, e6⟩ := eM
  clear e6
  have eA : cA = some ⟨gA, 0, none⟩ := eA
  have e1 : c1 = 3 := e1
  have eB : cB = some ⟨gB, 0, none⟩ := eB
  have e3 : c3 = 3 := e3
  have eP : cP = some ⟨gP, 0, none⟩ := eP
  have e7 : c7 = 3 := e7
  have eM : cM = some ⟨gM, 0, none⟩ := eM
  have e5 : c5 = 3 := e5
  subst eA e1 eB e3 eM e5 eP e7
  have LT : Hid (w2.heap.size ≤ gA ∧ w2.heap.size ≤ g1 ∧ w2.heap.size ≤ g2 ∧ w2.heap.size ≤ gM ∧ gA < w6.heap.size ∧ g1 < w6.heap.size ∧ g2 < w6.heap.size ∧ gM < w6.heap.size ∧ w6.heap.size ≤ w7.heap.size ∧ w1.heap.size < w2.heap.size) := ⟨hgA, hg1, hg2, hgM, lt_of_block hA6, lt_of_block h16, lt_of_block h26, lt_of_block hM6, B67.out.size, HW12.out⟩
  have AP : Hid (gB ≠ gA ∧ gB ≠ g1 ∧ gB ≠ gM ∧ gB ≠ g2 ∧ gP ≠ gA ∧ gP ≠ g1 ∧ gP ≠ gM ∧ gP ≠ g2 ∧ w3.heap.size ≠ gA ∧ w3.heap.size ≠ g1 ∧ w3.heap.size ≠ gM ∧ w3.heap.size ≠ g2) := ⟨types_apart hB6 hA6 (by decide), types_apart hB6 h16 (by decide), types_apart hB6 hM6 (by decide), types_apart hB6 h26 (by decide), types_apart hP6 hA6 (by decide), types_apart hP6 h16 (by decide), types_apart hP6 hM6 (by decide), types_apart hP6 h26 (by decide), types_apart ZC6.out hA6 (by decide), types_apart ZC6.out h16 (by decide), types_apart ZC6.out hM6 (by decide), types_apart ZC6.out h26 (by decide)⟩
  have S8 : Hid (w8.cell? ⟨gB, 1, none⟩ = some (.slice (some ⟨g1, 0, none⟩) 3 rc1)) := (B68.out.cell (p := ⟨gB, 1, none⟩) (lt_of_block hB6)).trans s1
  have T8 : Hid (w8.cell? ⟨gP, 2, none⟩ = some (.slice (some ⟨g2, 0, none⟩) 3 rc2)) := (B68.out.cell (p := ⟨gP, 2, none⟩) (lt_of_block hP6)).trans t1
  clear s1 t1 rB rP hA6 hB6 hP6 hM6 h16 h26 hb6 hp6 cA6 hgA hg1 hg2 hgM NC6 XC6 ZC6 B67 ND7
  obtain ⟨gA', eA', _, _, fA, cA0, _, upd⟩ := NC8.out.first HSH.out HA.out
  have eA' : some (⟨gA, 0, none⟩ : Addr) = some ⟨gA', 0, none⟩ := eA'
  simp at eA'
  subst eA'
  obtain ⟨w9, hw9⟩ : ∃ x, x = w8.setCell ⟨gA, 0, none⟩ (.int .i64 (v0 + 1)) := ⟨_, rfl⟩
  have B29 : Hid (Below w2.heap.size w2 w9) := by rw [hw9]; exact B28.out.setCell (p := ⟨gA, 0, none⟩) (by have := LT.out; show w2.heap.size ≤ gA; omega) _
  have XC9 : Hid (Box4 w9 w3.heap.size ⟨some ⟨gA, 0, none⟩, 3, c2, some ⟨gB, 0, none⟩, 3, c4, some ⟨gM, 0, none⟩, 3, c6, some ⟨gP, 0, none⟩, 3, c8⟩) := by
    rw [hw9]
    obtain ⟨q0, q1, q2, q3⟩ := XC8.out
    have ne : w3.heap.size ≠ gA := by have := AP.out; simp only [ne_eq] at this; exact (by omega)
    exact ⟨(cell_far ne).trans q0, (cell_far ne).trans q1, (cell_far ne).trans q2, (cell_far ne).trans q3⟩
  have XD9 : Hid (Box4 w9 w7.heap.size ⟨dA, d1, d2, dB, d3, d4, dM, d5, d6, dP, d7, d8⟩) := by
    rw [hw9]
    obtain ⟨q0, q1, q2, q3⟩ := XD8.out
    have ne : w7.heap.size ≠ gA := by have := LT.out; omega
    exact ⟨(cell_far ne).trans q0, (cell_far ne).trans q1, (cell_far ne).trans q2, (cell_far ne).trans q3⟩
  have ND9 : Hid (NewBk w9 w6.heap.size ⟨dA, d1, d2, dB, d3, d4, dM, d5, d6, dP, d7, d8⟩ kb) := by rw [hw9]; exact ND8.out.kept (Kept.set _ ⟨gA, 0, none⟩ _ (by have := LT.out; show ¬ w6.heap.size ≤ gA; omega))
  have S9 : Hid (w9.cell? ⟨gB, 1, none⟩ = some (.slice (some ⟨g1, 0, none⟩) 3 rc1)) := by rw [hw9]; exact (cell_far (by have := AP.out; simp only [ne_eq] at this; show gB ≠ gA; omega)).trans S8.out
  have T9 : Hid (w9.cell? ⟨gP, 2, none⟩ = some (.slice (some ⟨g2, 0, none⟩) 3 rc2)) := by rw [hw9]; exact (cell_far (by have := AP.out; simp only [ne_eq] at this; show gP ≠ gA; omega)).trans T8.out
  have NC9 : Hid (NewBk w9 w2.heap.size ⟨some ⟨gA, 0, none⟩, 3, c2, some ⟨gB, 0, none⟩, 3, c4, some ⟨gM, 0, none⟩, 3, c6, some ⟨gP, 0, none⟩, 3, c8⟩ ⟨(v0 + 1, c0, r0) :: A', kb.B, kb.M, kb.P⟩) := by rw [hw9]; exact upd (v0 + 1)
  have SH9 : Sh3 ⟨(v0 + 1, c0, r0) :: A', kb.B, kb.M, kb.P⟩ := ⟨by have := HSH.out.a; rw [HA.out] at this; simpa using this, HSH.out.b, HSH.out.bs, HSH.out.m, HSH.out.p, HSH.out.ps⟩
  obtain ⟨k9, hk9⟩ : ∃ k : Bks, (⟨(v0 + 1, c0, r0) :: A', kb.B, kb.M, kb.P⟩ : Bks) = k := ⟨_, rfl⟩
  have HA9 : Hid (k9.A = (v0 + 1, c0, r0) :: A') := by rw [← hk9]; rfl
  rw [hk9] at NC9 SH9
  have HS9 : Hid (Sh3 k9) := SH9
  obtain ⟨y0, y1, y2, y3⟩ := XC8.out
  clear upd SH9 hk9 NC8
  rw [hw8] at y0 y1 y2 y3 cA0 fA hw9
  go_upto_region 7 with fail
  rw [← hw9]
  clear hw9 hw8 y0 y1 y2 y3 cA0 fA
  clear B28 XC8 XD8 ND8 S8 T8
  obtain ⟨vb, hb⟩ := NC9.out.bil
  obtain ⟨gB', eB', _, _, rB⟩ := hb.three HS9.out.b HS9.out.bs
  have eB' : some (⟨gB, 0, none⟩ : Addr) = some ⟨gB', 0, none⟩ := eB'
  simp at eB'
  subst eB'
  obtain ⟨g1', d1', cur1, s1, _, hcur, ff, vv⟩ := rB 1 (by decide)
  rw [S9.out] at s1
  simp at s1
  obtain ⟨rfl, rfl⟩ := s1
  clear rB hb
  obtain ⟨v10, cv, l10, u10'⟩ := vv 2 (by decide)
  have fv := ff 2
  obtain ⟨z10, ez⟩ : ∃ z, wrap64 (v10 + 1) = z := ⟨_, rfl⟩
  have WZ : Hid (IntKind.i64.wrap z10 = z10) := by rw [← ez]; exact wrap_wrap64 _
  obtain ⟨w10, hw10⟩ : ∃ x, x = w9.setCell ⟨g1, 2, none⟩ (.int .i64 z10) := ⟨_, rfl⟩
  have B210 : Hid (Below w2.heap.size w2 w10) := by rw [hw10]; exact B29.out.setCell (p := ⟨g1, 2, none⟩) (by have := LT.out; show w2.heap.size ≤ g1; omega) _
  have XC10 : Hid (Box4 w10 w3.heap.size ⟨some ⟨gA, 0, none⟩, 3, c2, some ⟨gB, 0, none⟩, 3, c4, some ⟨gM, 0, none⟩, 3, c6, some ⟨gP, 0, none⟩, 3, c8⟩) := by
    rw [hw10]
    obtain ⟨q0, q1, q2, q3⟩ := XC9.out
    have ne : w3.heap.size ≠ g1 := by have := AP.out; simp only [ne_eq] at this; exact (by omega)
    exact ⟨(cell_far ne).trans q0, (cell_far ne).trans q1, (cell_far ne).trans q2, (cell_far ne).trans q3⟩
  have XD10 : Hid (Box4 w10 w7.heap.size ⟨dA, d1, d2, dB, d3, d4, dM, d5, d6, dP, d7, d8⟩) := by
    rw [hw10]
    obtain ⟨q0, q1, q2, q3⟩ := XD9.out
    have ne : w7.heap.size ≠ g1 := by have := LT.out; omega
    exact ⟨(cell_far ne).trans q0, (cell_far ne).trans q1, (cell_far ne).trans q2, (cell_far ne).trans q3⟩
  have ND10 : Hid (NewBk w10 w6.heap.size ⟨dA, d1, d2, dB, d3, d4, dM, d5, d6, dP, d7, d8⟩ kb) := by rw [hw10]; exact ND9.out.kept (Kept.set _ ⟨g1, 2, none⟩ _ (by have := LT.out; show ¬ w6.heap.size ≤ g1; omega))
  have S10 : Hid (w10.cell? ⟨gB, 1, none⟩ = some (.slice (some ⟨g1, 0, none⟩) 3 rc1)) := by rw [hw10]; exact (cell_far (by have := AP.out; simp only [ne_eq] at this; show gB ≠ g1; omega)).trans S9.out
  have T10 : Hid (w10.cell? ⟨gP, 2, none⟩ = some (.slice (some ⟨g2, 0, none⟩) 3 rc2)) := by rw [hw10]; exact (cell_far (by have := AP.out; simp only [ne_eq] at this; show gP ≠ g1; omega)).trans T9.out
  obtain ⟨k10, nk, ak, sk⟩ := NC9.out.poke HS9.out hcur WZ.out (i := 2)
  have NC10 : Hid (NewBk w10 w2.heap.size ⟨some ⟨gA, 0, none⟩, 3, c2, some ⟨gB, 0, none⟩, 3, c4, some ⟨gM, 0, none⟩, 3, c6, some ⟨gP, 0, none⟩, 3, c8⟩ k10) := by rw [hw10]; exact nk
  have HA10 : Hid (k10.A = (v0 + 1, c0, r0) :: A') := ak.trans HA9.out
  have HS10 : Hid (Sh3 k10) := sk
  obtain ⟨y0, y1, y2, y3⟩ := XC9.out
  have sp := S9.out
  clear nk ak sk vv ff hcur NC9 HA9 HS9
  go_upto_region 8 with fail
  rw [← hw10]
  clear hw10 y0 y1 y2 y3 cv fv ez WZ sp
  clear B29 XC9 XD9 ND9 S9 T9
  obtain ⟨gM', cM', curM, eM', _, hcur, ff, vv⟩ := own_three NC10.out.mul HS10.out.m NC10.out.wf
  simp only [Value.slice.injEq, Option.some.injEq, Addr.mk.injEq] at eM'
  obtain ⟨⟨rfl, hx⟩, hx'⟩ := eM'
  clear hx hx'
  obtain ⟨v11, cv, l11, u11'⟩ := vv 1 (by decide)
  have fv := ff 1
  obtain ⟨z11, ez⟩ : ∃ z, wrap64 (v11 + 1) = z := ⟨_, rfl⟩
  have WZ : Hid (IntKind.i64.wrap z11 = z11) := by rw [← ez]; exact wrap_wrap64 _
  obtain ⟨w11, hw11⟩ : ∃ x, x = w10.setCell ⟨gM, 1, none⟩ (.int .i64 z11) := ⟨_, rfl⟩
  have B211 : Hid (Below w2.heap.size w2 w11) := by rw [hw11]; exact B210.out.setCell (p := ⟨gM, 1, none⟩) (by have := LT.out; show w2.heap.size ≤ gM; omega) _
  have XC11 : Hid (Box4 w11 w3.heap.size ⟨some ⟨gA, 0, none⟩, 3, c2, some ⟨gB, 0, none⟩, 3, c4, some ⟨gM, 0, none⟩, 3, c6, some ⟨gP, 0, none⟩, 3, c8⟩) := by
    rw [hw11]
    obtain ⟨q0, q1, q2, q3⟩ := XC10.out
    have ne : w3.heap.size ≠ gM := by have := AP.out; simp only [ne_eq] at this; exact (by omega)
    exact ⟨(cell_far ne).trans q0, (cell_far ne).trans q1, (cell_far ne).trans q2, (cell_far ne).trans q3⟩
  have XD11 : Hid (Box4 w11 w7.heap.size ⟨dA, d1, d2, dB, d3, d4, dM, d5, d6, dP, d7, d8⟩) := by
    rw [hw11]
    obtain ⟨q0, q1, q2, q3⟩ := XD10.out
    have ne : w7.heap.size ≠ gM := by have := LT.out; omega
    exact ⟨(cell_far ne).trans q0, (cell_far ne).trans q1, (cell_far ne).trans q2, (cell_far ne).trans q3⟩
  have ND11 : Hid (NewBk w11 w6.heap.size ⟨dA, d1, d2, dB, d3, d4, dM, d5, d6, dP, d7, d8⟩ kb) := by rw [hw11]; exact ND10.out.kept (Kept.set _ ⟨gM, 1, none⟩ _ (by have := LT.out; show ¬ w6.heap.size ≤ gM; omega))
  have S11 : Hid (w11.cell? ⟨gB, 1, none⟩ = some (.slice (some ⟨g1, 0, none⟩) 3 rc1)) := by rw [hw11]; exact (cell_far (by have := AP.out; simp only [ne_eq] at this; show gB ≠ gM; omega)).trans S10.out
  have T11 : Hid (w11.cell? ⟨gP, 2, none⟩ = some (.slice (some ⟨g2, 0, none⟩) 3 rc2)) := by rw [hw11]; exact (cell_far (by have := AP.out; simp only [ne_eq] at this; show gP ≠ gM; omega)).trans T10.out
  obtain ⟨k11, nk, ak, sk⟩ := NC10.out.poke HS10.out hcur WZ.out (i := 1)
  have NC11 : Hid (NewBk w11 w2.heap.size ⟨some ⟨gA, 0, none⟩, 3, c2, some ⟨gB, 0, none⟩, 3, c4, some ⟨gM, 0, none⟩, 3, c6, some ⟨gP, 0, none⟩, 3, c8⟩ k11) := by rw [hw11]; exact nk
  have HA11 : Hid (k11.A = (v0 + 1, c0, r0) :: A') := ak.trans HA10.out
  have HS11 : Hid (Sh3 k11) := sk
  obtain ⟨y0, y1, y2, y3⟩ := XC10.out
  clear nk ak sk vv ff hcur NC10 HA10 HS10
  go_upto_region 9 with fail
  rw [← hw11]
  clear hw11 y0 y1 y2 y3 cv fv ez WZ 
  clear B210 XC10 XD10 ND10 S10 T10
  obtain ⟨vp, hp⟩ := NC11.out.pos
  obtain ⟨gP', eP', _, _, rP⟩ := hp.three HS11.out.p HS11.out.ps
  have eP' : some (⟨gP, 0, none⟩ : Addr) = some ⟨gP', 0, none⟩ := eP'
  simp at eP'
  subst eP'
  obtain ⟨g2', d2', cur2, t1, _, hcur, ff, vv⟩ := rP 2 (by decide)
  rw [T11.out] at t1
  simp at t1
  obtain ⟨rfl, rfl⟩ := t1
  clear rP hp
  obtain ⟨v12, cv, l12, u12'⟩ := vv 0 (by decide)
  have fv := ff 0
  obtain ⟨z12, ez⟩ : ∃ z, wrap64 (v12 + 1) = z := ⟨_, rfl⟩
  have WZ : Hid (IntKind.i64.wrap z12 = z12) := by rw [← ez]; exact wrap_wrap64 _
  obtain ⟨w12, hw12⟩ : ∃ x, x = w11.setCell ⟨g2, 0, none⟩ (.int .i64 z12) := ⟨_, rfl⟩
  have B212 : Hid (Below w2.heap.size w2 w12) := by rw [hw12]; exact B211.out.setCell (p := ⟨g2, 0, none⟩) (by have := LT.out; show w2.heap.size ≤ g2; omega) _
  have XC12 : Hid (Box4 w12 w3.heap.size ⟨some ⟨gA, 0, none⟩, 3, c2, some ⟨gB, 0, none⟩, 3, c4, some ⟨gM, 0, none⟩, 3, c6, some ⟨gP, 0, none⟩, 3, c8⟩) := by
    rw [hw12]
    obtain ⟨q0, q1, q2, q3⟩ := XC11.out
    have ne : w3.heap.size ≠ g2 := by have := AP.out; simp only [ne_eq] at this; exact (by omega)
    exact ⟨(cell_far ne).trans q0, (cell_far ne).trans q1, (cell_far ne).trans q2, (cell_far ne).trans q3⟩
  have XD12 : Hid (Box4 w12 w7.heap.size ⟨dA, d1, d2, dB, d3, d4, dM, d5, d6, dP, d7, d8⟩) := by
    rw [hw12]
    obtain ⟨q0, q1, q2, q3⟩ := XD11.out
    have ne : w7.heap.size ≠ g2 := by have := LT.out; omega
    exact ⟨(cell_far ne).trans q0, (cell_far ne).trans q1, (cell_far ne).trans q2, (cell_far ne).trans q3⟩
  have ND12 : Hid (NewBk w12 w6.heap.size ⟨dA, d1, d2, dB, d3, d4, dM, d5, d6, dP, d7, d8⟩ kb) := by rw [hw12]; exact ND11.out.kept (Kept.set _ ⟨g2, 0, none⟩ _ (by have := LT.out; show ¬ w6.heap.size ≤ g2; omega))
  have S12 : Hid (w12.cell? ⟨gB, 1, none⟩ = some (.slice (some ⟨g1, 0, none⟩) 3 rc1)) := by rw [hw12]; exact (cell_far (by have := AP.out; simp only [ne_eq] at this; show gB ≠ g2; omega)).trans S11.out
  have T12 : Hid (w12.cell? ⟨gP, 2, none⟩ = some (.slice (some ⟨g2, 0, none⟩) 3 rc2)) := by rw [hw12]; exact (cell_far (by have := AP.out; simp only [ne_eq] at this; show gP ≠ g2; omega)).trans T11.out
  obtain ⟨k12, nk, ak, sk⟩ := NC11.out.poke HS11.out hcur WZ.out (i := 0)
  have NC12 : Hid (NewBk w12 w2.heap.size ⟨some ⟨gA, 0, none⟩, 3, c2, some ⟨gB, 0, none⟩, 3, c4, some ⟨gM, 0, none⟩, 3, c6, some ⟨gP, 0, none⟩, 3, c8⟩ k12) := by rw [hw12]; exact nk
  have HA12 : Hid (k12.A = (v0 + 1, c0, r0) :: A') := ak.trans HA11.out
  have HS12 : Hid (Sh3 k12) := sk
  obtain ⟨y0, y1, y2, y3⟩ := XC11.out
  have sp := T11.out
  clear nk ak sk vv ff hcur NC11 HA11 HS11
  go_upto_region 10 with fail
  rw [← hw12]
  clear hw12 y0 y1 y2 y3 cv fv ez WZ sp
  clear B211 XC11 XD11 ND11 S11 T11
  have BB12 : Hid (Bk w12 ⟨bA, b1, b2, bB, b3, b4, bM, b5, b6, bP, b7, b8⟩ kb) := BK2.out.below B212.out
  obtain ⟨xb0, xb1, xb2, xb3⟩ := XB2.out.below B212.out
  obtain ⟨xd0, xd1, xd2, xd3⟩ := XD12.out
  have E5 := refSame_any ⟨bA, b1, b2, bB, b3, b4, bM, b5, b6, bP, b7, b8⟩ ⟨dA, d1, d2, dB, d3, d4, dM, d5, d6, dP, d7, d8⟩ kb kb w12 BB12.out ND12.out.bk
  rw [sameB_yes.2 rfl] at E5
  go_wp2_with fail
  go_at_call 13
  refine E5.mono ?_
  rintro e w13 ⟨rfl, bel⟩
  have B213 : Hid (Below w2.heap.size w2 w13) := B212.out.trans (bel.mono B212.out.size)
  have NC13 : Hid (NewBk w13 w2.heap.size ⟨some ⟨gA, 0, none⟩, 3, c2, some ⟨gB, 0, none⟩, 3, c4, some ⟨gM, 0, none⟩, 3, c6, some ⟨gP, 0, none⟩, 3, c8⟩ k12) := NC12.out.below bel
  have XC13 : Hid (Box4 w13 w3.heap.size ⟨some ⟨gA, 0, none⟩, 3, c2, some ⟨gB, 0, none⟩, 3, c4, some ⟨gM, 0, none⟩, 3, c6, some ⟨gP, 0, none⟩, 3, c8⟩) := XC12.out.below bel
  clear bel E5 xb0 xb1 xb2 xb3 xd0 xd1 xd2 xd3
  obtain ⟨xb0, xb1, xb2, xb3⟩ := XB2.out.below B213.out
  obtain ⟨xc0, xc1, xc2, xc3⟩ := XC13.out
  have E6 := limSame_any ⟨bA, b1, b2, bB, b3, b4, bM, b5, b6, bP, b7, b8⟩ ⟨some ⟨gA, 0, none⟩, 3, c2, some ⟨gB, 0, none⟩, 3, c4, some ⟨gM, 0, none⟩, 3, c6, some ⟨gP, 0, none⟩, 3, c8⟩ kb k12 w13 (BK2.out.below B213.out) NC13.out.bk
  rw [sameB_first HA.out HA12.out] at E6
  go_wp2_with fail
  go_at_call 12
  refine E6.mono ?_
  rintro e w14 ⟨rfl, bel⟩
  have B14 : Hid (Below w.heap.size w w14) := B2.out.trans ((B213.out.trans (bel.mono B213.out.size)).mono B2.out.size)
  clear bel E6 xb0 xb1 xb2 xb3 xc0 xc1 xc2 xc3
  go_wp2_with fail
  go_at_call 9
  refine (K w14).mono ?_
  rintro e w15 ⟨rfl, bel⟩
  have B15 : Hid (Below w.heap.size w w15) := B14.out.trans (bel.mono B14.out.size)
  clear bel
  go_wp2
  go_ret
  exact ⟨rfl, B15.out⟩

end Go.Proofs.Ytpaieecbedgeaaa
