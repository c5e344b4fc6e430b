/-
  rowed: any payments as a row (the laws of stages 14 to 16, 18 to 22 make it, the same text in each).
-/
import Derived.Test.YtmfmdicdbjghkaaRowRef
import Derived.Test.YtmfmdicdbjghkaaRowPure
namespace Go.Proofs.Ytmfmdicdbjghkaa
open Go.RowKit
set_option linter.unusedVariables false
set_option linter.unusedSimpArgs false

theorem i64_andMask (n : Int) (m : Nat) (hm : m ≤ 16) : bits .and .i64 n ((2 ^ m - 1 : Nat) : Int) = n % ((2 ^ m : Nat) : Int) := by
  have h1 : (BitVec.ofInt 64 ((2 ^ m - 1 : Nat) : Int)).toNat = 2 ^ m - 1 := by
    rw [BitVec.toNat_ofInt]
    have : 2 ^ m ≤ 2 ^ 16 := Nat.pow_le_pow_right (by omega) hm
    omega
  have key : (BitVec.ofInt 64 n &&& BitVec.ofInt 64 ((2 ^ m - 1 : Nat) : Int)).toNat = (n % ((2 ^ 64 : Nat) : Int)).toNat % 2 ^ m := by
    rw [BitVec.toNat_and, BitVec.toNat_ofInt, h1, Nat.and_two_pow_sub_one_eq_mod]
  show IntKind.i64.wrap ((BitVec.ofInt 64 n &&& BitVec.ofInt 64 ((2 ^ m - 1 : Nat) : Int)).toNat : Nat) = n % ((2 ^ m : Nat) : Int)
  rw [key, IntKind.wrap_i64]
  rcases (by omega : m = 0 ∨ m = 1 ∨ m = 2 ∨ m = 3 ∨ m = 4 ∨ m = 5 ∨ m = 6 ∨ m = 7 ∨ m = 8 ∨ m = 9 ∨ m = 10 ∨ m = 11 ∨ m = 12 ∨ m = 13 ∨ m = 14 ∨ m = 15 ∨ m = 16) with rfl | rfl | rfl | rfl | rfl | rfl | rfl | rfl | rfl | rfl | rfl | rfl | rfl | rfl | rfl | rfl | rfl <;> simp <;> omega
theorem and255 (n : Int) : bits .and .i64 n 255 = n % 256 := i64_andMask n 8 (by omega)
theorem and31 (n : Int) : bits .and .i64 n 31 = n % 32 := i64_andMask n 5 (by omega)
theorem and15 (n : Int) : bits .and .i64 n 15 = n % 16 := i64_andMask n 4 (by omega)
theorem and7 (n : Int) : bits .and .i64 n 7 = n % 8 := i64_andMask n 3 (by omega)

/-- The i-th payment as one of a row. -/
def rowTo3 (f t : Int) : Int := if f = t then (f + 1) % 3 else t
def rowP (i : Nat) (p : P7) : P7 := ((i : Int) + 1, p.fr % 256 % 3, rowTo3 (p.fr % 256 % 3) (p.to % 256 % 3), 1 + p.am % 32, 1 + p.cl % 256 % 3, p.st % 8, p.st % 8 + p.ti % 16)
/-- The row of the first k. -/
def rowTo (L : List P7) : Nat → List P7
  | 0 => []
  | k + 1 => qPut (rowTo L k) (rowP k (L.getD k p70))
def rowedL (L : List P7) : List P7 := rowTo L L.length

/-- A row that is answered; it may be one that was there. -/
def PGot (w : World) (L : List P7) (e : Ending) (w' : World) : Prop := ∃ a c, e = .returned (.slice a L.length c) ∧ PGood w' a L.length c L ∧ Below w.heap.size w w'
theorem put_err {l : List P7} {p : P7} (h : ¬ qPutE l p = 0) : qPut l p = l := by
  unfold qPutE at h
  unfold qPut
  split
  · rfl
  · split
    · rfl
    · rename_i h1 h2
      rw [if_neg h1, if_neg h2] at h
      exact absurd rfl h

set_option maxHeartbeats 4000000 in
set_option maxRecDepth 100000 in
theorem rowed_any (a : Option Addr) (n c : Nat) (L : List P7) (w : World) (h : PGood w a n c L) (hm : n ≤ 100000) :
    Calls Try.prog 18 #[.slice a n c] w (PGot w (rowedL L)) := by
  have H : Hid (PGood w a n c L) := h
  have HN : Hid (n = L.length) := h.len
  clear h
  go_enter Try.func18, Try.ntmps18
  go_wp2
  go_loopw [3, 4] (fun tv i wr => ∃ (k z c' : Nat) (a' : Option Addr), k ≤ n ∧ i = .int .i64 k ∧ tv = .slice a' z c' ∧ z ≤ k ∧ Hid (PGood wr a' z c' (rowTo L k)) ∧ Hid (Below w.heap.size w wr)) (fun _ i _ => n - (intOf i).toNat)
  case atStart => exact ⟨0, 0, 0, none, by omega, rfl, rfl, by omega, PGood.nil _, Below.refl _ _⟩
  case round =>
    obtain ⟨k, z, c', a', hk, rfl, rfl, hz, HG, HB⟩ := hrel
    by_cases hlt : k < n
    · obtain ⟨b, off, rfl, HC⟩ := H.out.at hlt
      have i1 : (k : Int) < (n : Int) := by omega
      obtain ⟨x, hx⟩ : ∃ x, L.getD k p70 = x := ⟨_, rfl⟩
      have C0 := (HC k hlt).below HB.out
      rw [hx] at C0
      obtain ⟨x0, x1, x2, x3, x4, x5, x6⟩ := x
      have HX : Hid (L.getD k p70 = (x0, x1, x2, x3, x4, x5, x6)) := hx
      obtain ⟨p0, p1, p2, p3, p4, p5, p6⟩ := C0
      simp only [P7.id, P7.fr, P7.to, P7.am, P7.cl, P7.st, P7.ti] at p0 p1 p2 p3 p4 p5 p6
      obtain ⟨u1, e1⟩ : ∃ u, bits .and .i64 x1 255 = u := ⟨_, rfl⟩
      obtain ⟨f1, d1⟩ : ∃ f, u1 % 3 = f := ⟨_, rfl⟩
      obtain ⟨u2, e2⟩ : ∃ u, bits .and .i64 x2 255 = u := ⟨_, rfl⟩
      obtain ⟨f2, d2⟩ : ∃ f, u2 % 3 = f := ⟨_, rfl⟩
      obtain ⟨u4, e4⟩ : ∃ u, bits .and .i64 x4 255 = u := ⟨_, rfl⟩
      obtain ⟨f4, d4⟩ : ∃ f, u4 % 3 = f := ⟨_, rfl⟩
      obtain ⟨u3, e3⟩ : ∃ u, bits .and .i64 x3 31 = u := ⟨_, rfl⟩
      obtain ⟨u5, e5⟩ : ∃ u, bits .and .i64 x5 7 = u := ⟨_, rfl⟩
      obtain ⟨u6, e6⟩ : ∃ u, bits .and .i64 x6 15 = u := ⟨_, rfl⟩
      obtain ⟨f3, d3⟩ : ∃ f, (f1 + 1) % 3 = f := ⟨_, rfl⟩
      have r1 := (and255 x1).symm.trans e1
      have r2 := (and255 x2).symm.trans e2
      have r4 := (and255 x4).symm.trans e4
      have r3 := (and31 x3).symm.trans e3
      have r5 := (and7 x5).symm.trans e5
      have r6 := (and15 x6).symm.trans e6
      have HP : Hid (rowP k (x0, x1, x2, x3, x4, x5, x6) = ((k : Int) + 1, f1, if f1 = f2 then f3 else f2, 1 + u3, 1 + f4, u5, u5 + u6)) := by
        show _ = _
        unfold rowP rowTo3
        simp only [P7.id, P7.fr, P7.to, P7.am, P7.cl, P7.st, P7.ti]
        rw [r1, r2, r4, r3, r5, r6, d1, d2, d4, d3]
      have b1 : 0 ≤ u1 ∧ u1 ≤ 255 := by omega
      have b2 : 0 ≤ u2 ∧ u2 ≤ 255 := by omega
      have b4 : 0 ≤ u4 ∧ u4 ≤ 255 := by omega
      have b3 : 0 ≤ u3 ∧ u3 ≤ 31 := by omega
      have b5 : 0 ≤ u5 ∧ u5 ≤ 7 := by omega
      have b6 : 0 ≤ u6 ∧ u6 ≤ 15 := by omega
      have c1 : 0 ≤ f1 ∧ f1 ≤ 2 := by omega
      have c4 : 0 ≤ f4 ∧ f4 ≤ 2 := by omega
      obtain ⟨b1, b1'⟩ := b1
      obtain ⟨b2, b2'⟩ := b2
      obtain ⟨b3, b3'⟩ := b3
      obtain ⟨b4, b4'⟩ := b4
      obtain ⟨b5, b5'⟩ := b5
      obtain ⟨b6, b6'⟩ := b6
      obtain ⟨c1, c1'⟩ := c1
      obtain ⟨c4, c4'⟩ := c4
      clear r1 r2 r3 r4 r5 r6 HC hx
      by_cases hf : f1 = f2
      · have HFF : Hid ((if f1 = f2 then f3 else f2) = f3) := by show _ = _; rw [if_pos hf]
        subst hf
        have HP2 : Hid (rowP k (x0, x1, x2, x3, x4, x5, x6) = ((k : Int) + 1, f1, f3, 1 + u3, 1 + f4, u5, u5 + u6)) := by show _ = _; rw [HP.out, HFF.out]
        have S := refPut_any a' z c' (rowTo L k) ((k : Int) + 1, f1, f3, 1 + u3, 1 + f4, u5, u5 + u6) (wr.alloc (.cells #[.int .i64 ((k : Int) + 1), .int .i64 f1, .int .i64 f3, .int .i64 (1 + u3), .int .i64 (1 + f4), .int .i64 u5, .int .i64 (u5 + u6)] 34)) (HG.out.below (box_below _ _)) (by omega)
        unfold RPutEnd at S
        have HT : Hid (rowTo L (k + 1) = qPut (rowTo L k) ((k : Int) + 1, f1, f3, 1 + u3, 1 + f4, u5, u5 + u6)) := by show qPut (rowTo L k) (rowP k (L.getD k p70)) = _; rw [HX.out, HP2.out]
        have hpl := put_len (rowTo L k) ((k : Int) + 1, f1, f3, 1 + u3, 1 + f4, u5, u5 + u6)
        have hzl := HG.out.len
        obtain ⟨E, hE⟩ : ∃ E, qPutE (rowTo L k) ((k : Int) + 1, f1, f3, 1 + u3, 1 + f4, u5, u5 + u6) = E := ⟨_, rfl⟩
        have hst : ¬ E = 0 → qPut (rowTo L k) ((k : Int) + 1, f1, f3, 1 + u3, 1 + f4, u5, u5 + u6) = rowTo L k := fun h => put_err (by rw [hE]; exact h)
        obtain ⟨M, hM⟩ : ∃ M, qPut (rowTo L k) ((k : Int) + 1, f1, f3, 1 + u3, 1 + f4, u5, u5 + u6) = M := ⟨_, rfl⟩
        rw [hE, hM] at S
        rw [hM] at hpl hst
        have HT2 : Hid (rowTo L (k + 1) = M) := by rw [← hM]; exact HT.out
        obtain ⟨ml, hml⟩ : ∃ ml, M.length = ml := ⟨_, rfl⟩
        rw [hml] at S hpl
        have hmk : ml ≤ k + 1 := by omega
        have HB2 : Hid (Below w.heap.size w (wr.alloc (.cells #[.int .i64 ((k : Int) + 1), .int .i64 f1, .int .i64 f3, .int .i64 (1 + u3), .int .i64 (1 + f4), .int .i64 u5, .int .i64 (u5 + u6)] 34))) := HB.out.alloc HB.out.size _
        have HG2 : Hid (PGood (wr.alloc (.cells #[.int .i64 ((k : Int) + 1), .int .i64 f1, .int .i64 f3, .int .i64 (1 + u3), .int .i64 (1 + f4), .int .i64 u5, .int .i64 (u5 + u6)] 34)) a' z c' (rowTo L k)) := HG.out.below (box_below _ _)
        have HST : Hid (¬ E = 0 → M = rowTo L k) := hst
        clear hE hM hpl hzl hml hst HP HFF HB HG HT
        by_cases he : E = 0
        · subst he
          go_wp2_with fail
          go_at_call 29
          refine S.mono ?_
          rintro e w1 ⟨a9, c9, rfl, g4, hb⟩
          have B1 : Hid (Below w.heap.size w w1) := HB2.out.trans (hb.mono HB2.out.size)
          have G1 : Hid (PGood w1 a9 ml c9 (rowTo L (k + 1))) := by rw [HT2.out]; exact g4
          clear g4 hb S p0 p1 p2 p3 p4 p5 p6 e1 e2 e3 e4 e5 e6 d1 d2 d3 d4 b1 b2 b3 b4 b5 b6 b1' b2' b3' b4' b5' b6' c1 c1' c4 c4'
          go_wp2
          go_roundw
          case rel => exact ⟨k + 1, ml, c9, a9, by omega, by go_num, rfl, hmk, G1, B1⟩
          case measure => simp [intOf]; omega
        · have he2 : (E == 0) = false := by rw [beq_eq_false_iff_ne]; exact he
          have HE := HST.out he
          clear he
          go_wp2_with fail
          go_at_call 29
          refine S.mono ?_
          rintro e w1 ⟨a9, c9, rfl, g4, hb⟩
          have B1 : Hid (Below w.heap.size w w1) := HB2.out.trans (hb.mono HB2.out.size)
          have G1 : Hid (PGood w1 a' z c' (rowTo L (k + 1))) := by rw [HT2.out, HE]; exact HG2.out.below hb
          clear g4 hb S HE p0 p1 p2 p3 p4 p5 p6 e1 e2 e3 e4 e5 e6 d1 d2 d3 d4 b1 b2 b3 b4 b5 b6 b1' b2' b3' b4' b5' b6' c1 c1' c4 c4'
          go_wp2
          go_roundw
          case rel => exact ⟨k + 1, z, c', a', by omega, by go_num, rfl, by omega, G1, B1⟩
          case measure => simp [intOf]; omega
      · have HFF : Hid ((if f1 = f2 then f3 else f2) = f2) := by show _ = _; rw [if_neg hf]
        have hf2 : (f1 == f2) = false := by rw [beq_eq_false_iff_ne]; exact hf
        clear hf
        have HP2 : Hid (rowP k (x0, x1, x2, x3, x4, x5, x6) = ((k : Int) + 1, f1, f2, 1 + u3, 1 + f4, u5, u5 + u6)) := by show _ = _; rw [HP.out, HFF.out]
        have S := refPut_any a' z c' (rowTo L k) ((k : Int) + 1, f1, f2, 1 + u3, 1 + f4, u5, u5 + u6) (wr.alloc (.cells #[.int .i64 ((k : Int) + 1), .int .i64 f1, .int .i64 f2, .int .i64 (1 + u3), .int .i64 (1 + f4), .int .i64 u5, .int .i64 (u5 + u6)] 34)) (HG.out.below (box_below _ _)) (by omega)
        unfold RPutEnd at S
        have HT : Hid (rowTo L (k + 1) = qPut (rowTo L k) ((k : Int) + 1, f1, f2, 1 + u3, 1 + f4, u5, u5 + u6)) := by show qPut (rowTo L k) (rowP k (L.getD k p70)) = _; rw [HX.out, HP2.out]
        have hpl := put_len (rowTo L k) ((k : Int) + 1, f1, f2, 1 + u3, 1 + f4, u5, u5 + u6)
        have hzl := HG.out.len
        obtain ⟨E, hE⟩ : ∃ E, qPutE (rowTo L k) ((k : Int) + 1, f1, f2, 1 + u3, 1 + f4, u5, u5 + u6) = E := ⟨_, rfl⟩
        have hst : ¬ E = 0 → qPut (rowTo L k) ((k : Int) + 1, f1, f2, 1 + u3, 1 + f4, u5, u5 + u6) = rowTo L k := fun h => put_err (by rw [hE]; exact h)
        obtain ⟨M, hM⟩ : ∃ M, qPut (rowTo L k) ((k : Int) + 1, f1, f2, 1 + u3, 1 + f4, u5, u5 + u6) = M := ⟨_, rfl⟩
        rw [hE, hM] at S
        rw [hM] at hpl hst
        have HT2 : Hid (rowTo L (k + 1) = M) := by rw [← hM]; exact HT.out
        obtain ⟨ml, hml⟩ : ∃ ml, M.length = ml := ⟨_, rfl⟩
        rw [hml] at S hpl
        have hmk : ml ≤ k + 1 := by omega
        have HB2 : Hid (Below w.heap.size w (wr.alloc (.cells #[.int .i64 ((k : Int) + 1), .int .i64 f1, .int .i64 f2, .int .i64 (1 + u3), .int .i64 (1 + f4), .int .i64 u5, .int .i64 (u5 + u6)] 34))) := HB.out.alloc HB.out.size _
        have HG2 : Hid (PGood (wr.alloc (.cells #[.int .i64 ((k : Int) + 1), .int .i64 f1, .int .i64 f2, .int .i64 (1 + u3), .int .i64 (1 + f4), .int .i64 u5, .int .i64 (u5 + u6)] 34)) a' z c' (rowTo L k)) := HG.out.below (box_below _ _)
        have HST : Hid (¬ E = 0 → M = rowTo L k) := hst
        clear hE hM hpl hzl hml hst HP HFF HB HG HT
        by_cases he : E = 0
        · subst he
          go_wp2_with fail
          go_at_call 29
          refine S.mono ?_
          rintro e w1 ⟨a9, c9, rfl, g4, hb⟩
          have B1 : Hid (Below w.heap.size w w1) := HB2.out.trans (hb.mono HB2.out.size)
          have G1 : Hid (PGood w1 a9 ml c9 (rowTo L (k + 1))) := by rw [HT2.out]; exact g4
          clear g4 hb S p0 p1 p2 p3 p4 p5 p6 e1 e2 e3 e4 e5 e6 d1 d2 d3 d4 b1 b2 b3 b4 b5 b6 b1' b2' b3' b4' b5' b6' c1 c1' c4 c4'
          go_wp2
          go_roundw
          case rel => exact ⟨k + 1, ml, c9, a9, by omega, by go_num, rfl, hmk, G1, B1⟩
          case measure => simp [intOf]; omega
        · have he2 : (E == 0) = false := by rw [beq_eq_false_iff_ne]; exact he
          have HE := HST.out he
          clear he
          go_wp2_with fail
          go_at_call 29
          refine S.mono ?_
          rintro e w1 ⟨a9, c9, rfl, g4, hb⟩
          have B1 : Hid (Below w.heap.size w w1) := HB2.out.trans (hb.mono HB2.out.size)
          have G1 : Hid (PGood w1 a' z c' (rowTo L (k + 1))) := by rw [HT2.out, HE]; exact HG2.out.below hb
          clear g4 hb S HE p0 p1 p2 p3 p4 p5 p6 e1 e2 e3 e4 e5 e6 d1 d2 d3 d4 b1 b2 b3 b4 b5 b6 b1' b2' b3' b4' b5' b6' c1 c1' c4 c4'
          go_wp2
          go_roundw
          case rel => exact ⟨k + 1, z, c', a', by omega, by go_num, rfl, by omega, G1, B1⟩
          case measure => simp [intOf]; omega
    · obtain rfl : k = n := by omega
      have HF : Hid (rowTo L k = rowedL L) := by show _ = _; rw [HN.out]; rfl
      clear H
      go_wp2
      go_ret
      have hg := HG.out
      rw [HF.out] at hg
      have hl := hg.len
      subst hl
      exact ⟨a', c', rfl, hg, HB.out⟩

end Go.Proofs.Ytmfmdicdbjghkaa
