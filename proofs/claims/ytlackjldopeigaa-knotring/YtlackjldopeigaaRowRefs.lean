/-
  Texts of this seat in one: PayRefSame, PayConcat, PFacts, RowFind, RowCmp, RowSearch, RowPut, RowDrop, RowRefIns, RowRefDrop, RowRef, RowIs, RowRefIs, RowPure, Rowed, RowedFacts, SameFacts, PayEq.
-/
import Derived.Test.YtlackjldopeigaaRowBase
import Derived.Lib.AppendZeros
import Derived.Deep.RegionHeld3
import Derived.Laws.BitsLemmas

/-
  pay: giroref11.Same.
-/
namespace Go.Proofs.Ytlackjldopeigaa
open Go.RowKit
set_option linter.unusedVariables false
set_option linter.unusedSimpArgs false

set_option maxHeartbeats 4000000 in
theorem refPaySame_row (b1 o1 c1 b2 o2 c2 : Nat) (xs ys : List P7) (w : World) (hl : xs.length = ys.length) (hm : xs.length ≤ 9223372036854775807)
    (h1 : ∀ i, i < xs.length → At7 w b1 (o1 + i * 7) (xs.getD i p70)) (h2 : ∀ i, i < ys.length → At7 w b2 (o2 + i * 7) (ys.getD i p70)) :
    Calls Try.prog 26 #[.slice (some ⟨b1, o1, none⟩) xs.length c1, .slice (some ⟨b2, o2, none⟩) xs.length c2] w fun e w' => e = .returned (.bool (eqP xs ys)) ∧ ∃ n, w' = w.drewN n := by
  have HL : Hid (xs.length = ys.length) := hl
  clear hl
  go_enter Try.func26, Try.ntmps26
  go_wp2
  go_loopw [5] (fun i wr => ∃ (k n : Nat), k ≤ xs.length ∧ i = .int .i64 k ∧ xs.take k = ys.take k ∧ wr = w.drewN n) (fun i _ => xs.length - (intOf i).toNat)
  case atStart => exact ⟨0, 0, by omega, rfl, by simp, rfl⟩
  case round =>
    obtain ⟨k, n, hk, rfl, he, rfl⟩ := hrel
    have HE : Hid (xs.take k = ys.take k) := he
    clear he
    by_cases hlt : k < xs.length
    · obtain ⟨p0, p1, p2, p3, p4, p5, p6⟩ := h1 k hlt
      obtain ⟨q0, q1, q2, q3, q4, q5, q6⟩ := h2 k (by rw [← HL.out]; exact hlt)
      obtain ⟨x, hx⟩ : ∃ x, xs.getD k p70 = x := ⟨_, rfl⟩
      obtain ⟨y, hy⟩ : ∃ y, ys.getD k p70 = y := ⟨_, rfl⟩
      rw [hx] at p0 p1 p2 p3 p4 p5 p6
      rw [hy] at q0 q1 q2 q3 q4 q5 q6
      have i1 : (k : Int) < (xs.length : Int) := by omega
      have HX : Hid (xs.getD k p70 = x) := hx
      have HY : Hid (ys.getD k p70 = y) := hy
      clear hx hy h1 h2
      obtain ⟨x0, x1, x2, x3, x4, x5, x6⟩ := x
      obtain ⟨y0, y1, y2, y3, y4, y5, y6⟩ := y
      simp only [P7.id, P7.fr, P7.to, P7.am, P7.cl, P7.st, P7.ti] at p0 p1 p2 p3 p4 p5 p6 q0 q1 q2 q3 q4 q5 q6
      by_cases hxy : x0 = y0 ∧ x1 = y1 ∧ x2 = y2 ∧ x3 = y3 ∧ x4 = y4 ∧ x5 = y5 ∧ x6 = y6
      · obtain ⟨rfl, rfl, rfl, rfl, rfl, rfl, rfl⟩ := hxy
        go_wp2
        go_quiet (fail)
        go_wp2
        go_roundw
        case rel => exact ⟨k + 1, n + nq, by omega, by go_num, by rw [take_snocA xs p70 k hlt, take_snocA ys p70 k (by rw [← HL.out]; exact hlt), HE.out, HX.out, HY.out], rfl⟩
        case measure => simp [intOf]; omega
      · have HD : Hid (false = eqP xs ys) := by
          have : ¬ xs = ys := fun h => hxy (by
            have e : (x0, x1, x2, x3, x4, x5, x6) = (y0, y1, y2, y3, y4, y5, y6) := by rw [← HX.out, ← HY.out, h]
            simpa using e)
          show false = eqP xs ys
          rw [eqP_no this]
        by_cases e0 : (x0 == y0) = true
        rotate_left
        · replace e0 : (x0 == y0) = false := by simpa using e0
          clear hxy
          go_wp2
          go_quiet (fail)
          go_wp2
          go_ret
          exact ⟨rt_bool HD.out, n + nq, by first | rfl | exact World.drewN_drewN _ _ _⟩
        by_cases e1 : (x1 == y1) = true
        rotate_left
        · replace e1 : (x1 == y1) = false := by simpa using e1
          clear hxy
          go_wp2
          go_quiet (fail)
          go_wp2
          go_ret
          exact ⟨rt_bool HD.out, n + nq, by first | rfl | exact World.drewN_drewN _ _ _⟩
        by_cases e2 : (x2 == y2) = true
        rotate_left
        · replace e2 : (x2 == y2) = false := by simpa using e2
          clear hxy
          go_wp2
          go_quiet (fail)
          go_wp2
          go_ret
          exact ⟨rt_bool HD.out, n + nq, by first | rfl | exact World.drewN_drewN _ _ _⟩
        by_cases e3 : (x3 == y3) = true
        rotate_left
        · replace e3 : (x3 == y3) = false := by simpa using e3
          clear hxy
          go_wp2
          go_quiet (fail)
          go_wp2
          go_ret
          exact ⟨rt_bool HD.out, n + nq, by first | rfl | exact World.drewN_drewN _ _ _⟩
        by_cases e4 : (x4 == y4) = true
        rotate_left
        · replace e4 : (x4 == y4) = false := by simpa using e4
          clear hxy
          go_wp2
          go_quiet (fail)
          go_wp2
          go_ret
          exact ⟨rt_bool HD.out, n + nq, by first | rfl | exact World.drewN_drewN _ _ _⟩
        by_cases e5 : (x5 == y5) = true
        rotate_left
        · replace e5 : (x5 == y5) = false := by simpa using e5
          clear hxy
          go_wp2
          go_quiet (fail)
          go_wp2
          go_ret
          exact ⟨rt_bool HD.out, n + nq, by first | rfl | exact World.drewN_drewN _ _ _⟩
        have e6 : (x6 == y6) = false := by
          rw [Bool.eq_false_iff]
          intro h
          simp only [beq_iff_eq] at e0 e1 e2 e3 e4 e5 h
          exact hxy ⟨e0, e1, e2, e3, e4, e5, h⟩
        clear hxy
        go_wp2
        go_quiet (fail)
        go_wp2
        go_ret
        exact ⟨rt_bool HD.out, n + nq, by first | rfl | exact World.drewN_drewN _ _ _⟩
    · obtain rfl : k = xs.length := by omega
      have HD : Hid (true = eqP xs ys) := by
        have h := HE.out
        rw [List.take_length, HL.out, List.take_length] at h
        show true = eqP xs ys
        rw [eqP_yes h]
      clear h1 h2
      go_wp2
      go_ret
      exact ⟨rt_bool HD.out, _, rfl⟩

set_option maxHeartbeats 400000 in
theorem refPaySame_not (a b : Option Addr) (la lb c1 c2 : Nat) (w : World) (h : la ≠ lb) :
    Calls Try.prog 26 #[.slice a la c1, .slice b lb c2] w fun e w' => e = .returned (.bool false) ∧ w' = w := by
  have h' : ((la : Int) == (lb : Int)) = false := by rw [beq_eq_false_iff_ne]; omega
  go_enter Try.func26, Try.ntmps26
  go_wp2
  go_ret
  exact ⟨rfl, rfl⟩

set_option maxHeartbeats 400000 in
theorem refPaySame_none (a b : Option Addr) (c1 c2 : Nat) (w : World) :
    Calls Try.prog 26 #[.slice a 0 c1, .slice b 0 c2] w fun e w' => e = .returned (.bool true) ∧ w' = w := by
  go_enter Try.func26, Try.ntmps26
  go_wp2
  refine wp_loop_rounds 1 ?_
  rw [rounds_succ]
  go_wp2
  go_ret
  exact ⟨rfl, rfl⟩

/-- Are two rows one? -/
theorem refPaySame_any (a b : Option Addr) (la lb c1 c2 : Nat) (xs ys : List P7) (w : World) (h1 : Pays w a la xs) (h2 : Pays w b lb ys) (hm : la ≤ 9223372036854775807) :
    Calls Try.prog 26 #[.slice a la c1, .slice b lb c2] w fun e w' => e = .returned (.bool (eqP xs ys)) ∧ ∃ n, w' = w.drewN n := by
  have l1 := h1.1
  have l2 := h2.1
  subst l1 l2
  by_cases hl : xs.length = ys.length
  · rcases h1.2 with h0 | ⟨b1, o1, rfl, hc1⟩
    · subst h0
      have : ys = [] := List.length_eq_zero_iff.mp (by simpa using hl.symm)
      subst this
      refine (refPaySame_none a b c1 c2 w).mono ?_
      rintro e w' ⟨rfl, rfl⟩
      exact ⟨rfl, 0, rfl⟩
    · rcases h2.2 with h0 | ⟨b2, o2, rfl, hc2⟩
      · subst h0
        have : xs = [] := List.length_eq_zero_iff.mp (by simpa using hl)
        subst this
        refine (refPaySame_none _ b c1 c2 w).mono ?_
        rintro e w' ⟨rfl, rfl⟩
        exact ⟨rfl, 0, rfl⟩
      · have := refPaySame_row b1 o1 c1 b2 o2 c2 xs ys w hl hm hc1 hc2
        rw [← hl]
        exact this
  · refine (refPaySame_not a b _ _ c1 c2 w hl).mono ?_
    rintro e w' ⟨rfl, rfl⟩
    have : ¬ xs = ys := fun h => hl (by rw [h])
    exact ⟨by rw [eqP_no this], 0, rfl⟩

end Go.Proofs.Ytlackjldopeigaa

/-
  slices.Concat and slices.Grow of rows of payments.
-/
namespace Go.Proofs.Ytlackjldopeigaa
open Go.RowKit
set_option linter.unusedVariables false
set_option linter.unusedSimpArgs false

set_option maxHeartbeats 1000000 in
theorem growP_some (n : Nat) (w : World) (h0 : 0 < n) (h : n ≤ 1000000) : Calls Try.prog 61 #[.slice none 0 0, .int .i64 n] w fun e w' => ∃ v, e = .returned v ∧ w'.ownsRow w.heap.size 51 7 v 0 (payL []) ∧ Below w.heap.size w w' := by
  obtain ⟨i0, hi, hz0, hz1, hz2⟩ := payInfo
  have hr := fun ty => Lib.run_append_nil_zeros (P := Try.prog) w 23 3 ty 51 i0 _ .i64 .i64 Try.underlying23 Try.underlying3 hi hz0 n h0 (by rw [hz1]; decide) (by omega) (by rw [hz2]; omega)
  obtain ⟨cp, hcp⟩ : ∃ cp, grownCap w n 0 51 = cp := ⟨_, rfl⟩
  have hge : n ≤ cp := by rw [← hcp]; exact grownCap_ge w n 0 _
  have hmx : cp ≤ maxLen := by rw [← hcp]; exact grownCap_le_maxLen w n 0 _ (by unfold maxLen; omega)
  simp only [hcp] at hr
  obtain ⟨zc, hzc⟩ : ∃ zc, (Value.agg #[.int .i64 0, .int .i64 0, .int .i64 0, .int .i64 0, .int .i64 0, .int .i64 0, .int .i64 0]).cells = zc := ⟨_, rfl⟩
  have hz7 : zc.size = 7 := by rw [← hzc]; rfl
  simp only [hzc] at hr
  obtain ⟨w1, hw1⟩ : ∃ w1, w1 = w.drew.alloc (.cells (Builtin.zeroCells zc n ++ Builtin.zeroCells zc (cp - n)) 51) := ⟨_, rfl⟩
  rw [← hw1] at hr
  have HO : Hid (w1.ownsRow w.heap.size 51 7 (.slice (some ⟨w.heap.size, 0, none⟩) 0 cp) 0 (payL [])) := by
    rw [hw1]
    have := World.ownsRow_made (e := 51) (size := 7) (base := w.heap.size) w.drew (Builtin.zeroCells zc n ++ Builtin.zeroCells zc (cp - n)) cp (Nat.le_refl _) hmx (by simp [size_zeroCells, hz7]; omega)
    exact this
  have HB : Hid (Below w.heap.size w w1) := by
    rw [hw1]
    exact ((Below.refl _ _).drew).alloc (Nat.le_refl _) _
  have hmx' : cp ≤ 9223372036854775807 := hmx
  have i1 : (0 : Int) < (n : Int) := by omega
  have i2 : (n : Int) ≤ (cp : Int) := by omega
  clear hw1 hcp hmx hzc hz7 hz0 hz1 hz2 hi
  go_enter Try.func61, Try.ntmps61
  go_wp2_with (at_builtin; refine Lib.wpList_append_run _ rfl _ _ _ _ rfl _ _ rfl rfl _ _ (hr _) ?_)
  go_ret
  exact ⟨_, rfl, HO.out, HB.out⟩

theorem growP_none (w : World) : Calls Try.prog 61 #[.slice none 0 0, .int .i64 0] w fun e w' => e = .returned (.slice none 0 0) ∧ w' = w := by
  go_enter Try.func61, Try.ntmps61
  go_wp2
  go_ret
  exact ⟨rfl, rfl⟩

theorem growP_any (n : Nat) (w : World) (h : n ≤ 1000000) : Calls Try.prog 61 #[.slice none 0 0, .int .i64 n] w fun e w' => ∃ v, e = .returned v ∧ w'.ownsRow w.heap.size 51 7 v 0 (payL []) ∧ Below w.heap.size w w' := by
  rcases Nat.eq_zero_or_pos n with h0 | h0
  · subst h0
    refine (growP_none w).mono ?_
    rintro e w' ⟨rfl, rfl⟩
    exact ⟨_, rfl, World.ownsRow_nil _ _ _ _, Below.refl _ _⟩
  · exact growP_some n w h0 h

/-- Rows of payments that stand at b, one behind the other. -/
def Spine (w : World) (b : Nat) (Ls : List (List P7)) : Prop :=
  ∀ i, i < Ls.length → ∃ a n c, w.cell? ⟨b, i, none⟩ = some (.slice a n c) ∧ PGood w a n c (Ls.getD i [])
theorem Spine.below {w w' : World} {b : Nat} {Ls : List (List P7)} (h : Spine w b Ls) (k : Below w.heap.size w w') : Spine w' b Ls := by
  intro i hi
  obtain ⟨a, n, c, h1, h2⟩ := h i hi
  exact ⟨a, n, c, (k.cell (p := ⟨b, i, none⟩) (block_lt_of_cell h1)).trans h1, h2.below k⟩

theorem flat_snoc (Ls : List (List P7)) (k : Nat) (hk : k < Ls.length) : (Ls.take (k + 1)).flatten = (Ls.take k).flatten ++ Ls.getD k [] := by
  rw [take_snocA Ls [] k hk, List.flatten_append]
  simp
theorem flat_le (Ls : List (List P7)) (k : Nat) : (Ls.take k).flatten.length ≤ Ls.flatten.length := by
  have : (Ls.take k).flatten.length + (Ls.drop k).flatten.length = Ls.flatten.length := by rw [← List.length_append, ← List.flatten_append, List.take_append_drop]
  omega

set_option maxHeartbeats 4000000 in
theorem concatP_any (b m c : Nat) (Ls : List (List P7)) (w : World) (h : Spine w b Ls) (hm : m = Ls.length) (hm2 : m ≤ 1000000) (hr : Ls.flatten.length ≤ 1000000) :
    Calls Try.prog 34 #[.slice (some ⟨b, 0, none⟩) m c] w (PEnd w Ls.flatten) := by
  have HS : Hid (Spine w b Ls) := h
  have HM : Hid (m = Ls.length) := hm
  have HR : Hid (Ls.flatten.length ≤ 1000000) := hr
  have G := growP_any Ls.flatten.length w hr
  obtain ⟨N, hN⟩ : ∃ N, Ls.flatten.length = N := ⟨_, rfl⟩
  rw [hN] at G
  have HNe : Hid (Ls.flatten.length = N) := hN
  clear h hm hr hN
  go_enter Try.func34, Try.ntmps34
  go_wp2
  go_loop [3, 11] (fun t i => ∃ k z : Nat, k ≤ m ∧ i = .int .i64 k ∧ t = .int .i64 z ∧ Hid ((Ls.take k).flatten.length = z)) (fun _ i => m - (intOf i).toNat)
  case atStart => exact ⟨0, 0, by omega, rfl, rfl, by simp [Hid]⟩
  case round =>
    obtain ⟨k, z, hk, rfl, rfl, HZ⟩ := hrel
    by_cases hlt : k < m
    · obtain ⟨a, n, c2, q0, g⟩ := HS.out k (by have := HM.out; omega)
      have HT : Hid ((Ls.take (k + 1)).flatten.length = z + n) := by
        show _ = _
        rw [flat_snoc Ls k (by have := HM.out; omega), List.length_append, HZ.out, g.len]
      have i1 : (k : Int) < (m : Int) := by omega
      have i2 : (z : Int) + (n : Int) ≤ 1000000 := by have := HT.out; have := flat_le Ls (k + 1); have := HR.out; omega
      clear g HS G
      go_wp2
      go_round
      case rel => exact ⟨k + 1, z + n, by omega, by go_num, by go_num, HT⟩
      case measure => simp [intOf]; omega
    · obtain rfl : k = m := by omega
      have hz : z = N := by
        have h1 := HZ.out
        rw [HM.out, List.take_length, HNe.out] at h1
        exact h1.symm
      subst hz
      go_wp2_with fail
      go_at_call 61
      refine G.mono ?_
      rintro e w1 ⟨v1, rfl, ho1, hb1⟩
      have O1 : Hid (w1.ownsRow w.heap.size 51 7 v1 0 (payL [])) := ho1
      have B1 : Hid (Below w.heap.size w w1) := hb1
      clear ho1 hb1 G HZ
      go_wp2
      go_loopw [6, 27] (fun t i wr => ∃ (k2 z2 : Nat) (v : Value), k2 ≤ k ∧ i = .int .i64 k2 ∧ v = t ∧ Hid (wr.ownsRow w.heap.size 51 7 v z2 (payL (Ls.take k2).flatten)) ∧ Hid ((Ls.take k2).flatten.length = z2) ∧ Hid (Below w.heap.size w wr)) (fun _ i _ => k - (intOf i).toNat)
      case atStart => exact ⟨0, 0, v1, by omega, rfl, rfl, O1, by simp [Hid], B1⟩
      case round =>
        obtain ⟨k2, z2, v, hk2, rfl, rfl, HO, HZ2, HB⟩ := hrel
        by_cases hlt2 : k2 < k
        · obtain ⟨a, n, c2, q0, g⟩ := (HS.out.below HB.out) k2 (by have := HM.out; omega)
          have HGd : Hid (PGood wr a n c2 (Ls.getD k2 [])) := g
          have HT : Hid ((Ls.take (k2 + 1)).flatten.length = z2 + n) := by
            show _ = _
            rw [flat_snoc Ls k2 (by have := HM.out; omega), List.length_append, HZ2.out, g.len]
          have HF : Hid ((Ls.take k2).flatten ++ Ls.getD k2 [] = (Ls.take (k2 + 1)).flatten) := (flat_snoc Ls k2 (by have := HM.out; omega)).symm
          have i1 : (k2 : Int) < (k : Int) := by omega
          have i2 : Hid (z2 + n ≤ 1000000) := by have := HT.out; have := flat_le Ls (k2 + 1); have := HR.out; show z2 + n ≤ 1000000; omega
          clear g
          go_wp2_with (refine wpList_append_pays rfl _ _ rfl w.heap.size v z2 _ rfl HO.out a n c2 _ rfl HGd.out i2.out HB.out.size ?_)
          intro v3 w3 ho3 hg3
          have O3 : Hid (w3.ownsRow w.heap.size 51 7 v3 (z2 + n) (payL (Ls.take (k2 + 1)).flatten)) := by rw [← HF.out]; exact ho3
          have B3 : Hid (Below w.heap.size w w3) := HB.out.grown hg3 HB.out.size (fun j hj => (HO.out.lt j hj).1)
          clear ho3 hg3 HGd q0
          go_wp2
          go_roundw
          case rel => exact ⟨k2 + 1, z2 + n, v3, by omega, by go_num, rfl, O3, HT, B3⟩
          case measure => simp [intOf]; omega
        · obtain rfl : k2 = k := by omega
          have hf : (Ls.take k2).flatten = Ls.flatten := by rw [HM.out, List.take_length]
          have HF : Hid ((Ls.take k2).flatten = Ls.flatten) := hf
          clear hf
          go_wp2
          go_ret
          have := HO.out
          rw [HF.out] at this
          obtain ⟨a, c3, hv, g, hnew⟩ := PGood.own this
          subst hv
          exact ⟨a, c3, rfl, g, hnew, HB.out⟩

/-- A row in new memory. -/
theorem copyP_any (a : Option Addr) (n c : Nat) (L : List P7) (w : World) (h : PGood w a n c L) (hr : n ≤ 1000000) : Calls Try.prog 67 #[.slice a n c] w (PEnd w L) := by
  obtain ⟨w1, hw1⟩ : ∃ w1, w1 = w.alloc (.cells #[.slice a n c] 23) := ⟨_, rfl⟩
  have hb : Below w.heap.size w w1 := by rw [hw1]; exact box_below _ _
  have hs : Spine w1 w.heap.size [L] := by
    intro i hi
    obtain rfl : i = 0 := by simp at hi; omega
    exact ⟨a, n, c, by rw [hw1, cell_new]; rfl, h.below hb⟩
  have C := concatP_any w.heap.size 1 1 [L] w1 hs rfl (by omega) (by simp; have := h.len; omega)
  rw [show [L].flatten = L by simp] at C
  rw [hw1] at C
  have HW : Hid (w1 = _) := hw1
  have HB : Hid (Below w.heap.size w w1) := hb
  clear h hw1 hb hs
  go_enter Try.func67, Try.ntmps67
  go_wp2_with fail
  go_at_call 34
  refine C.mono ?_
  rintro e w2 ⟨a2, c2, rfl, g2, hn2, hb2⟩
  have B2 : Hid (Below w.heap.size w w2) := by rw [← HW.out] at hb2; exact HB.out.trans (hb2.mono HB.out.size)
  have G2 : Hid (PGood w2 a2 L.length c2 L) := g2
  obtain ⟨nl, hnl⟩ : ∃ nl, L.length = nl := ⟨_, rfl⟩
  have R : Hid (PEnd w L (.returned (.slice a2 nl c2)) w2) := ⟨a2, c2, by rw [hnl], G2.out, fun x hx => by have := hn2 x hx; rw [← HW.out] at this; have := HB.out.size; omega, B2.out⟩
  rw [hnl]
  clear g2 hb2 C hnl HW G2 B2 hn2
  go_wp2
  go_ret
  exact R.out

end Go.Proofs.Ytlackjldopeigaa

/-
  Rows of payments as facts of operations in a region that draws; rows laid for slices.Concat.
-/
namespace Go.Proofs.Ytlackjldopeigaa
open Go.RowKit
set_option linter.unusedVariables false
set_option linter.unusedSimpArgs false

/-- A row of these payments, in no block below B. -/
def Fact.pnew (B : Nat) (L : List P7) : Fact := ⟨fun w v => ∃ a c, v = .slice a L.length c ∧ PGood w a L.length c L ∧ ∀ x, a = some x → B ≤ x.block, fun _ _ _ hb ⟨a, c, h1, h2, h3⟩ => ⟨a, c, h1, h2.below hb, h3⟩⟩
/-- Rows one behind the other. -/
def Fact.spine (Ls : List (List P7)) : Fact := ⟨fun w v => ∃ b, v = .slice (some ⟨b, 0, none⟩) Ls.length Ls.length ∧ Spine w b Ls, fun _ _ _ hb ⟨b, h1, h2⟩ => ⟨b, h1, h2.below hb⟩⟩
theorem pend_fact {B : Nat} {f : FuncId} {args : Array Value} {w : World} {L : List P7} (hB : B ≤ w.heap.size) (h : Calls Try.prog f args w (PEnd w L)) : Calls Try.prog f args w fun e w' => ∃ v, e = .returned v ∧ Below w.heap.size w w' ∧ (Fact.pnew B L).1 w' v :=
  h.mono fun e w' ⟨a, c, h1, h2, h4, h3⟩ => ⟨_, h1, h3, a, c, rfl, h2, fun x hx => Nat.le_trans hB (h4 x hx)⟩

theorem Spine.new2 {w : World} {a1 a2 : Option Addr} {n1 n2 c1 c2 : Nat} {l1 l2 : List P7} (g1 : PGood w a1 n1 c1 l1) (g2 : PGood w a2 n2 c2 l2) (t : TypeId) : Spine (w.alloc (.cells #[.slice a1 n1 c1, .slice a2 n2 c2] t)) w.heap.size [l1, l2] := by
  intro i hi
  have hi : i < 2 := hi
  rcases (by omega : i = 0 ∨ i = 1) with rfl | rfl
  · exact ⟨a1, n1, c1, by rw [cell_new]; rfl, g1.below (box_below _ _)⟩
  · exact ⟨a2, n2, c2, by rw [cell_new]; rfl, g2.below (box_below _ _)⟩
theorem Spine.new3 {w : World} {a1 a2 a3 : Option Addr} {n1 n2 n3 c1 c2 c3 : Nat} {l1 l2 l3 : List P7} (g1 : PGood w a1 n1 c1 l1) (g2 : PGood w a2 n2 c2 l2) (g3 : PGood w a3 n3 c3 l3) (t : TypeId) : Spine (w.alloc (.cells #[.slice a1 n1 c1, .slice a2 n2 c2, .slice a3 n3 c3] t)) w.heap.size [l1, l2, l3] := by
  intro i hi
  have hi : i < 3 := hi
  rcases (by omega : i = 0 ∨ i = 1 ∨ i = 2) with rfl | rfl | rfl
  · exact ⟨a1, n1, c1, by rw [cell_new]; rfl, g1.below (box_below _ _)⟩
  · exact ⟨a2, n2, c2, by rw [cell_new]; rfl, g2.below (box_below _ _)⟩
  · exact ⟨a3, n3, c3, by rw [cell_new]; rfl, g3.below (box_below _ _)⟩

end Go.Proofs.Ytlackjldopeigaa

/-
  row.Find, giroref13.Find; slices.IndexFunc.
-/
namespace Go.Proofs.Ytlackjldopeigaa
open Go.RowKit
set_option linter.unusedVariables false
set_option linter.unusedSimpArgs false

theorem findF_any (p : P7) (g : Nat) (x : Int) (w : World) (h : w.cell? ⟨g, 0, none⟩ = some (.int .i64 x)) : Calls Try.prog 90 #[p.val, .pointer (some ⟨g, 0, none⟩)] w fun e w' => e = .returned (.bool (p.id == x)) ∧ Below w.heap.size w w' := by
  obtain ⟨i1, f1, o1, m1, c1, s1, u1⟩ := p
  have hg := block_lt_of_cell h
  have hb := box_below w (.cells #[.int .i64 i1, .int .i64 f1, .int .i64 o1, .int .i64 m1, .int .i64 c1, .int .i64 s1, .int .i64 u1] 51)
  have h' := (hb.cell (p := ⟨g, 0, none⟩) hg).trans h
  have HB : Hid (Below w.heap.size w _) := hb
  clear hb h hg
  go_enter Try.func90, Try.ntmps90
  go_wp2
  go_ret
  exact ⟨rfl, HB.out⟩

theorem index_none (a : Option Addr) (c : Nat) (f : Value) (w : World) : Calls Try.prog 89 #[.slice a 0 c, f] w fun e w' => e = .returned (.int .i64 (-1)) ∧ w' = w := by
  go_enter Try.func89, Try.ntmps89
  go_wp2
  refine wp_loop_rounds 1 ?_
  rw [rounds_succ]
  go_wp2
  go_ret
  exact ⟨rfl, rfl⟩

set_option maxHeartbeats 4000000 in
theorem indexF_row (b off c g : Nat) (x : Int) (L : List P7) (w : World) (hm : L.length ≤ 1000000) (hg : w.cell? ⟨g, 0, none⟩ = some (.int .i64 x)) (hc : ∀ i, i < L.length → At7 w b (off + i * 7) (L.getD i p70)) :
    Calls Try.prog 89 #[.slice (some ⟨b, off, none⟩) L.length c, .func (.func 90) #[] #[.pointer (some ⟨g, 0, none⟩)]] w fun e w' => e = .returned (.int .i64 (qFind L x)) ∧ Below w.heap.size w w' := by
  have HC : Hid (∀ i, i < L.length → At7 w b (off + i * 7) (L.getD i p70)) := hc
  have HG : Hid (w.cell? ⟨g, 0, none⟩ = some (.int .i64 x)) := hg
  clear hc hg
  go_enter Try.func89, Try.ntmps89
  go_wp2
  go_loopw [8] (fun i wr => ∃ k : Nat, k ≤ L.length ∧ i = .int .i64 k ∧ Hid (∀ t, t < k → ¬ (L.getD t p70).id = x) ∧ Hid (Below w.heap.size w wr)) (fun i _ => L.length - (intOf i).toNat)
  case atStart => exact ⟨0, by omega, rfl, fun t ht => by omega, Below.refl _ _⟩
  case round =>
    obtain ⟨k, hk, rfl, HP, HB⟩ := hrel
    by_cases hlt : k < L.length
    · have i1 : (k : Int) < (L.length : Int) := by omega
      have G1 : wr.cell? ⟨g, 0, none⟩ = some (.int .i64 x) := (HB.out.cell (p := ⟨g, 0, none⟩) (block_lt_of_cell HG.out)).trans HG.out
      obtain ⟨p0, p1, p2, p3, p4, p5, p6⟩ := (HC.out k hlt).below HB.out
      obtain ⟨y, hy⟩ : ∃ y, L.getD k p70 = y := ⟨_, rfl⟩
      rw [hy] at p0 p1 p2 p3 p4 p5 p6
      have HY : Hid (L.getD k p70 = y) := hy
      clear hy
      obtain ⟨y0, y1, y2, y3, y4, y5, y6⟩ := y
      simp only [P7.id, P7.fr, P7.to, P7.am, P7.cl, P7.st, P7.ti] at p0 p1 p2 p3 p4 p5 p6
      have F := findF_any (y0, y1, y2, y3, y4, y5, y6) g x wr G1
      clear G1 HC HG
      by_cases hyx : y0 = x
      · have HD : Hid ((k : Int) = qFind L x) := by
          have := find_yes hlt HP.out (by rw [HY.out]; exact hyx)
          show (k : Int) = qFind L x
          rw [qFind_yes this.1, this.2]
        have he : (P7.id (y0, y1, y2, y3, y4, y5, y6) == x) = true := by simpa using hyx
        rw [he] at F
        clear he hyx
        go_wp2_with fail
        go_at_call 90
        refine F.mono ?_
        rintro e w1 ⟨rfl, hb1⟩
        have B1 : Hid (Below w.heap.size w w1) := HB.out.trans (hb1.mono HB.out.size)
        clear hb1 p0 p1 p2 p3 p4 p5 p6 F
        go_wp2
        go_ret
        exact ⟨rt_int HD.out, B1.out⟩
      · have he : (P7.id (y0, y1, y2, y3, y4, y5, y6) == x) = false := by simpa using hyx
        have HN : Hid (¬ y0 = x) := hyx
        rw [he] at F
        clear he hyx
        go_wp2_with fail
        go_at_call 90
        refine F.mono ?_
        rintro e w1 ⟨rfl, hb1⟩
        have B1 : Hid (Below w.heap.size w w1) := HB.out.trans (hb1.mono HB.out.size)
        clear hb1 p0 p1 p2 p3 p4 p5 p6 F
        go_wp2
        go_roundw
        case rel =>
          refine ⟨k + 1, by omega, by go_num, fun t ht => ?_, B1⟩
          by_cases htk : t < k
          · exact HP.out t htk
          · obtain rfl : t = k := by omega
            rw [HY.out]
            exact HN.out
        case measure => simp [intOf]; omega
    · obtain rfl : k = L.length := by omega
      have HD : Hid (-1 = qFind L x) := (qFind_no (find_no HP.out)).symm
      clear HC HG
      go_wp2
      go_ret
      exact ⟨rt_int HD.out, HB.out⟩

theorem index_any (a : Option Addr) (n c g : Nat) (x : Int) (L : List P7) (w : World) (hm : n ≤ 1000000) (hg : w.cell? ⟨g, 0, none⟩ = some (.int .i64 x)) (h : Pays w a n L) :
    Calls Try.prog 89 #[.slice a n c, .func (.func 90) #[] #[.pointer (some ⟨g, 0, none⟩)]] w fun e w' => e = .returned (.int .i64 (qFind L x)) ∧ Below w.heap.size w w' := by
  have l := h.1
  subst l
  rcases h.2 with h0 | ⟨b, off, rfl, hc⟩
  · subst h0
    refine (index_none a c _ w).mono ?_
    rintro e w' ⟨rfl, rfl⟩
    exact ⟨rfl, Below.refl _ _⟩
  · exact indexF_row b off c g x L w hm hg hc

set_option maxHeartbeats 1000000 in
theorem find_any (a : Option Addr) (n c : Nat) (x : Int) (L : List P7) (w : World) (hm : n ≤ 1000000) (h : Pays w a n L) :
    Calls Try.prog 66 #[.slice a n c, .int .i64 x] w fun e w' => e = .returned (.int .i64 (qFind L x)) ∧ Below w.heap.size w w' := by
  have I := index_any a n c w.heap.size x L (w.alloc (.cells #[.int .i64 x] 2)) hm (by rw [cell_new]; rfl) (h.below (box_below _ _))
  clear h
  go_enter Try.func66, Try.ntmps66
  go_wp2_with fail
  go_at_call 89
  refine I.mono ?_
  rintro e w1 ⟨rfl, hb⟩
  have B1 : Hid (Below w.heap.size w w1) := (box_below _ _).trans (hb.mono (box_below _ _).size)
  clear hb I
  go_wp2
  go_ret
  exact ⟨rfl, B1.out⟩

theorem refFind_none (a : Option Addr) (c : Nat) (x : Int) (w : World) : Calls Try.prog 41 #[.slice a 0 c, .int .i64 x] w fun e w' => e = .returned (.int .i64 (-1)) ∧ w' = w := by
  go_enter Try.func41, Try.ntmps41
  go_wp2
  refine wp_loop_rounds 1 ?_
  rw [rounds_succ]
  go_wp2
  go_ret
  exact ⟨rfl, rfl⟩

set_option maxHeartbeats 4000000 in
theorem refFind_row (b off c : Nat) (x : Int) (L : List P7) (w : World) (hm : L.length ≤ 9223372036854775807) (hc : ∀ i, i < L.length → At7 w b (off + i * 7) (L.getD i p70)) :
    Calls Try.prog 41 #[.slice (some ⟨b, off, none⟩) L.length c, .int .i64 x] w fun e w' => e = .returned (.int .i64 (qFind L x)) ∧ w' = w := by
  have HC : Hid (∀ i, i < L.length → At7 w b (off + i * 7) (L.getD i p70)) := hc
  clear hc
  go_enter Try.func41, Try.ntmps41
  go_wp2
  go_loop [5] (fun i => ∃ k : Nat, k ≤ L.length ∧ i = .int .i64 k ∧ Hid (∀ t, t < k → ¬ (L.getD t p70).id = x)) (fun i => L.length - (intOf i).toNat)
  case atStart => exact ⟨0, by omega, rfl, fun t ht => by omega⟩
  case round =>
    obtain ⟨k, hk, rfl, HP⟩ := hrel
    by_cases hlt : k < L.length
    · have i1 : (k : Int) < (L.length : Int) := by omega
      obtain ⟨p0, -⟩ := HC.out k hlt
      obtain ⟨y, hy⟩ : ∃ y, (L.getD k p70).id = y := ⟨_, rfl⟩
      rw [hy] at p0
      have HY : Hid ((L.getD k p70).id = y) := hy
      clear hy HC
      by_cases hyx : y = x
      · have HD : Hid ((k : Int) = qFind L x) := by
          have := find_yes hlt HP.out (by rw [HY.out]; exact hyx)
          show (k : Int) = qFind L x
          rw [qFind_yes this.1, this.2]
        subst hyx
        go_wp2
        go_ret
        exact ⟨rt_int HD.out, rfl⟩
      · have he : (y == x) = false := by simpa using hyx
        go_wp2
        go_round
        case rel =>
          refine ⟨k + 1, by omega, by go_num, fun t ht => ?_⟩
          by_cases htk : t < k
          · exact HP.out t htk
          · obtain rfl : t = k := by omega
            rw [HY.out]
            exact hyx
        case measure => simp [intOf]; omega
    · obtain rfl : k = L.length := by omega
      have HD : Hid (-1 = qFind L x) := (qFind_no (find_no HP.out)).symm
      clear HC
      go_wp2
      go_ret
      exact ⟨rt_int HD.out, rfl⟩

theorem refFind_any (a : Option Addr) (n c : Nat) (x : Int) (L : List P7) (w : World) (hm : n ≤ 9223372036854775807) (h : Pays w a n L) :
    Calls Try.prog 41 #[.slice a n c, .int .i64 x] w fun e w' => e = .returned (.int .i64 (qFind L x)) ∧ w' = w := by
  have l := h.1
  subst l
  rcases h.2 with h0 | ⟨b, off, rfl, hc⟩
  · subst h0
    exact refFind_none a c x w
  · exact refFind_row b off c x L w hm hc

end Go.Proofs.Ytlackjldopeigaa

/-
  row: which of two payments stands ahead: the program's answer and the document's.
-/
namespace Go.Proofs.Ytlackjldopeigaa
open Go.RowKit
set_option linter.unusedVariables false
set_option linter.unusedSimpArgs false


theorem qLe_lt {a b : P7} (h : a.fr < b.fr) : true = qLe a b := (qLe_iff.2 (.inl h)).symm
theorem qLe_gt {a b : P7} (h : b.fr < a.fr) : false = qLe a b := (qLe_not.2 (.inl h)).symm
theorem qLe_rest {a b : P7} (h : a.fr = b.fr) : decide (a.cl ≤ b.cl) = qLe a b := by rw [Bool.eq_iff_iff, decide_eq_true_eq, qLe_iff]; omega
set_option maxHeartbeats 4000000 in
theorem refAhead_any (p q : P7) (w : World) : Calls Try.prog 42 #[p.val, q.val] w fun e w' => e = .returned (.bool (qLe p q)) ∧ Below w.heap.size w w' := by
  obtain ⟨i1, f1, o1, m1, c1, s1, u1⟩ := p
  obtain ⟨i2, f2, o2, m2, c2, s2, u2⟩ := q
  have B2 : Hid (Below w.heap.size w ((w.alloc (.cells #[.int .i64 i1, .int .i64 f1, .int .i64 o1, .int .i64 m1, .int .i64 c1, .int .i64 s1, .int .i64 u1] 51)).alloc (.cells #[.int .i64 i2, .int .i64 f2, .int .i64 o2, .int .i64 m2, .int .i64 c2, .int .i64 s2, .int .i64 u2] 51))) := (box_below _ _).alloc (box_below _ _).size _
  rcases (by omega : f1 < f2 ∨ f2 < f1 ∨ f1 = f2) with h | h | h
  · have H : Hid (true = qLe (i1, f1, o1, m1, c1, s1, u1) (i2, f2, o2, m2, c2, s2, u2)) := qLe_lt (a := (i1, f1, o1, m1, c1, s1, u1)) (b := (i2, f2, o2, m2, c2, s2, u2)) h
    go_enter Try.func42, Try.ntmps42
    go_wp2
    go_ret
    exact ⟨rt_bool H.out, B2.out⟩
  · have H : Hid (false = qLe (i1, f1, o1, m1, c1, s1, u1) (i2, f2, o2, m2, c2, s2, u2)) := qLe_gt (a := (i1, f1, o1, m1, c1, s1, u1)) (b := (i2, f2, o2, m2, c2, s2, u2)) h
    have h2 : ¬ f1 < f2 := by omega
    have h3 : (f1 == f2) = false := by simp; omega
    go_enter Try.func42, Try.ntmps42
    go_wp2
    go_ret
    exact ⟨rt_bool H.out, B2.out⟩
  · have H : Hid (decide (c1 ≤ c2) = qLe (i1, f1, o1, m1, c1, s1, u1) (i2, f2, o2, m2, c2, s2, u2)) := qLe_rest (a := (i1, f1, o1, m1, c1, s1, u1)) (b := (i2, f2, o2, m2, c2, s2, u2)) h
    subst h
    go_enter Try.func42, Try.ntmps42
    go_wp2
    go_ret
    exact ⟨rt_bool H.out, B2.out⟩

end Go.Proofs.Ytlackjldopeigaa

/-
  row.behind, row.ahead; sort.Search.
-/
namespace Go.Proofs.Ytlackjldopeigaa
open Go.RowKit
set_option linter.unusedVariables false
set_option linter.unusedSimpArgs false



end Go.Proofs.Ytlackjldopeigaa

/-
  row.with, row.Put.
-/
namespace Go.Proofs.Ytlackjldopeigaa
open Go.RowKit
set_option linter.unusedVariables false
set_option linter.unusedSimpArgs false



end Go.Proofs.Ytlackjldopeigaa

/-
  row.Drop.
-/
namespace Go.Proofs.Ytlackjldopeigaa
open Go.RowKit
set_option linter.unusedVariables false
set_option linter.unusedSimpArgs false

/-- A payment that lies at g by itself. -/
def PBox (w : World) (g : Nat) (p : P7) : Prop := w.heap[g]? = some (.cells #[.int .i64 p.id, .int .i64 p.fr, .int .i64 p.to, .int .i64 p.am, .int .i64 p.cl, .int .i64 p.st, .int .i64 p.ti] 51 (0, 0))
theorem PBox.at7 {w : World} {g : Nat} {p : P7} (h : PBox w g p) : At7 w g 0 p :=
  ⟨cell_of_row w g 0 _ _ _ h, cell_of_row w g 1 _ _ _ h, cell_of_row w g 2 _ _ _ h, cell_of_row w g 3 _ _ _ h, cell_of_row w g 4 _ _ _ h, cell_of_row w g 5 _ _ _ h, cell_of_row w g 6 _ _ _ h⟩
theorem PBox.lt {w : World} {g : Nat} {p : P7} (h : PBox w g p) : g < w.heap.size := block_lt_of_cell h.at7.1
theorem PBox.below {w w' : World} {g : Nat} {p : P7} (h : PBox w g p) (hb : Below w.heap.size w w') : PBox w' g p := by
  unfold PBox; rw [hb.block g h.lt]; exact h
theorem PBox.new (w : World) (p : P7) : PBox (w.alloc (.cells #[.int .i64 p.id, .int .i64 p.fr, .int .i64 p.to, .int .i64 p.am, .int .i64 p.cl, .int .i64 p.st, .int .i64 p.ti] 51)) w.heap.size p := heap_alloc_new w _
theorem PBox.set {w : World} {g : Nat} {p : P7} (h : PBox w g p) (q : P7) : PBox (w.setRow g #[.int .i64 q.id, .int .i64 q.fr, .int .i64 q.to, .int .i64 q.am, .int .i64 q.cl, .int .i64 q.st, .int .i64 q.ti]) g q := setRow_heap w g _ _ _ _ h
theorem PBox.far {w : World} {g k : Nat} {p : P7} (h : PBox w g p) (hk : g ≠ k) (cs : Array Value) : PBox (w.setRow k cs) g p := by unfold PBox; rw [setRow_other _ _ _ _ hk]; exact h

/-- A payment is laid over another one. -/
theorem store_pay {ops : Array Oper} {rest : List Oper} {o : Oper} {a : Act} {w : World} {Q : Exit → Act → World → Prop} (hgd : o.guard = none) (x y : Operand) (ho : o.op = .store 51 x y)
    (g : Nat) (p : P7) (hx : a.eval x = .pointer (some ⟨g, 0, none⟩)) (hy : a.eval y = p.val)
    (p' : P7) (hg : PBox w g p')
    (h : wpList Try.prog ops Q rest (a.put o.dst undef) (w.setRow g #[.int .i64 p.id, .int .i64 p.fr, .int .i64 p.to, .int .i64 p.am, .int .i64 p.cl, .int .i64 p.st, .int .i64 p.ti])) : wpList Try.prog ops Q (o :: rest) a w :=
  wpList_store_row hgd 51 x y ho g _ hx hy _ _ hg sizePay (by simp) (by simp [Value.oneCell']) h

/-- What Drop leaves. -/
def DropEnd7 (w : World) (L : List P7) (p : P7) (n : Int) (e : Ending) (w' : World) : Prop := ∃ a c, e = .returned (.tuple #[.slice a L.length c, p.val, .int .i64 n]) ∧ PGood w' a L.length c L ∧ (∀ x, a = some x → w.heap.size ≤ x.block) ∧ Below w.heap.size w w'

set_option maxHeartbeats 4000000 in
theorem drop_no_any (a : Option Addr) (n c : Nat) (L : List P7) (x : Int) (w : World) (h : PGood w a n c L) (hm : n ≤ 100000) (hh : qHas L x = false) :
    Calls Try.prog 36 #[.slice a n c, .int .i64 x] w (DropEnd7 w (qDrop L x) (qDropP L x) (qDropE L x)) := by
  rw [(drop_no hh).1, (drop_no hh).2.1, (drop_no hh).2.2]
  have F := fun u (hb : Below w.heap.size w u) => find_any a n c x L u (by omega) (h.below hb).pays
  have C := fun u (hb : Below w.heap.size w u) => copyP_any a n c L u (h.below hb) (by omega)
  have r1 := qFind_nn L x
  rw [hh] at r1
  obtain ⟨r, hr⟩ : ∃ r, qFind L x = r := ⟨_, rfl⟩
  rw [hr] at r1
  simp only [hr] at F
  have r2 : ¬ 0 ≤ r := of_decide_eq_false r1
  have r3 : r < 0 := by omega
  obtain ⟨nl, hnl⟩ : ∃ nl, L.length = nl := ⟨_, rfl⟩
  unfold PEnd at C
  simp only [hnl] at C
  unfold DropEnd7
  rw [hnl]
  have B0 : Hid (Below w.heap.size w (w.alloc (.cells #[.int .i64 0, .int .i64 0, .int .i64 0, .int .i64 0, .int .i64 0, .int .i64 0, .int .i64 0] 51))) := box_below _ _
  have X0 : Hid (PBox (w.alloc (.cells #[.int .i64 0, .int .i64 0, .int .i64 0, .int .i64 0, .int .i64 0, .int .i64 0, .int .i64 0] 51)) w.heap.size p70) := PBox.new w p70
  have Z0 : Hid (w.heap.size < (w.alloc (.cells #[.int .i64 0, .int .i64 0, .int .i64 0, .int .i64 0, .int .i64 0, .int .i64 0, .int .i64 0] 51)).heap.size) := by show _ < _; rw [size_alloc]; omega
  have F1 := F _ B0.out
  clear hh r1 r2 hnl h hr F
  go_enter Try.func36, Try.ntmps36
  go_wp2_with fail
  go_at_call 66
  refine F1.mono ?_
  rintro e w1 ⟨rfl, hb⟩
  have B1 : Hid (Below w.heap.size w w1) := B0.out.trans (hb.mono B0.out.size)
  have X1 : Hid (PBox w1 w.heap.size p70) := X0.out.below hb
  have Z1 : Hid (w.heap.size < w1.heap.size) := Nat.lt_of_lt_of_le Z0.out hb.size
  have C1 := C w1 B1.out
  clear hb F1 C B0 X0 Z0
  go_wp2_with fail
  go_at_call 67
  refine C1.mono ?_
  rintro e w2 ⟨a2, c2, rfl, g2, hn2, hb⟩
  have B2 : Hid (Below w.heap.size w w2) := B1.out.trans (hb.mono B1.out.size)
  have X2 : Hid (PBox w2 w.heap.size p70) := X1.out.below hb
  have R : Hid (PGood (w2.setRow w.heap.size #[.int .i64 0, .int .i64 0, .int .i64 0, .int .i64 0, .int .i64 0, .int .i64 0, .int .i64 0]) a2 nl c2 L ∧ (∀ x, a2 = some x → w.heap.size ≤ x.block) ∧ Below w.heap.size w (w2.setRow w.heap.size #[.int .i64 0, .int .i64 0, .int .i64 0, .int .i64 0, .int .i64 0, .int .i64 0, .int .i64 0])) :=
    ⟨g2.far (fun x hx => by have := hn2 x hx; have := Z1.out; omega) _, fun x hx => by have := hn2 x hx; have := Z1.out; omega, Below.setRow B2.out (Nat.le_refl _) _⟩
  have Y : Hid (PBox (w2.setRow w.heap.size #[.int .i64 0, .int .i64 0, .int .i64 0, .int .i64 0, .int .i64 0, .int .i64 0, .int .i64 0]) w.heap.size p70) := X2.out.set p70
  clear hb C1 B1 X1 g2 hn2 Z1
  go_wp2_with (refine store_pay rfl _ _ rfl w.heap.size p70 rfl rfl p70 X2.out ?_)
  simp only [p70] at Y ⊢
  generalize w2.setRow w.heap.size #[.int .i64 0, .int .i64 0, .int .i64 0, .int .i64 0, .int .i64 0, .int .i64 0, .int .i64 0] = w3 at R Y ⊢
  obtain ⟨d0, d1, d2, d3, d4, d5, d6⟩ := Y.out.at7
  go_wp2
  exact bodyPost_ret (v := .tuple #[.slice a2 nl c2, .agg #[.int .i64 0, .int .i64 0, .int .i64 0, .int .i64 0, .int .i64 0, .int .i64 0, .int .i64 0], .int .i64 4]) (by simp [results, Try.results36, d0, d1, d2, d3, d4, d5, d6, go_sem]) rfl ⟨a2, c2, rfl, R.out.1, R.out.2.1, R.out.2.2⟩

set_option maxHeartbeats 4000000 in
set_option maxRecDepth 100000 in
theorem drop_yes_any (a : Option Addr) (n c : Nat) (L : List P7) (x : Int) (w : World) (h : PGood w a n c L) (hm : n ≤ 100000) (hh : qHas L x = true) :
    Calls Try.prog 36 #[.slice a n c, .int .i64 x] w (DropEnd7 w (qDrop L x) (qDropP L x) (qDropE L x)) := by
  rw [(drop_yes hh).1, (drop_yes hh).2.1, (drop_yes hh).2.2]
  have F := fun u (hb : Below w.heap.size w u) => find_any a n c x L u (by omega) (h.below hb).pays
  rw [qFind_yes hh] at F
  have hl := h.len
  have hk := at_lt hh
  obtain ⟨k, hkk⟩ : ∃ k, qAt L x = k := ⟨_, rfl⟩
  rw [hkk] at F hk ⊢
  have hc := h.cap
  have hmx := h.max
  obtain ⟨b, off, rfl, HC⟩ := h.at (i := k) (by omega)
  obtain ⟨p, hp⟩ : ∃ p, L.getD k p70 = p := ⟨_, rfl⟩
  have HX0 := HC k (by omega)
  rw [hp] at HX0 ⊢
  obtain ⟨p0, p1, p2, p3, p4, p5, p6⟩ := p
  have HX : Hid (At7 w b (off + k * 7) (p0, p1, p2, p3, p4, p5, p6)) := HX0
  have k0 : (0 : Int) ≤ (k : Int) := by omega
  have k1 : (k : Int) < (n : Int) := by omega
  have k2 : (k : Int) + 1 ≤ (n : Int) := by omega
  have k3 : (k : Int) + 1 ≤ (c : Int) := by omega
  have k4 : (n : Int) ≤ (c : Int) := by omega
  have k5 : ¬ (k : Int) < 0 := by omega
  have H : Hid (PGood w (some ⟨b, off, none⟩) n c L) := h
  have HKn : Hid (k + 1 ≤ n) := by show k + 1 ≤ n; omega
  have HE : Hid ([L.take k, L.drop (k + 1)].flatten = qRest L k) := by simp [Hid, qRest]
  have HL : Hid ([L.take k, L.drop (k + 1)].flatten.length ≤ 1000000) := by
    show _ ≤ _
    rw [HE.out, qRest_len hk]
    omega
  have B0 : Hid (Below w.heap.size w (w.alloc (.cells #[.int .i64 0, .int .i64 0, .int .i64 0, .int .i64 0, .int .i64 0, .int .i64 0, .int .i64 0] 51))) := box_below _ _
  have X0 : Hid (PBox (w.alloc (.cells #[.int .i64 0, .int .i64 0, .int .i64 0, .int .i64 0, .int .i64 0, .int .i64 0, .int .i64 0] 51)) w.heap.size p70) := PBox.new w p70
  have Z0 : Hid (w.heap.size < (w.alloc (.cells #[.int .i64 0, .int .i64 0, .int .i64 0, .int .i64 0, .int .i64 0, .int .i64 0, .int .i64 0] 51)).heap.size) := by show _ < _; rw [size_alloc]; omega
  have F1 := F _ B0.out
  clear hh h F hkk HC hp HX0 hl hk hc hmx
  go_enter Try.func36, Try.ntmps36
  go_wp2_with fail
  go_at_call 66
  refine F1.mono ?_
  rintro e w1 ⟨rfl, hb⟩
  have B1 : Hid (Below w.heap.size w w1) := B0.out.trans (hb.mono B0.out.size)
  have X1 : Hid (PBox w1 w.heap.size p70) := X0.out.below hb
  have Z1 : Hid (w.heap.size < w1.heap.size) := Nat.lt_of_lt_of_le Z0.out hb.size
  obtain ⟨c0, c1, c2, c3, c4, c5, c6⟩ := HX.out.below B1.out
  simp only [P7.id, P7.fr, P7.to, P7.am, P7.cl, P7.st, P7.ti] at c0 c1 c2 c3 c4 c5 c6
  clear hb F1 B0 X0 Z0
  go_wp2_with fail
  refine region_owes_tail 14 (L := [Fact.is (.slice (some ⟨b, off, none⟩) n c),
    Fact.is (.int .i64 k),
    Fact.is (.slice (some ⟨b, off, none⟩) k c),
    Fact.is (.slice (some ⟨b, off, none⟩) n c),
    Fact.is (.int .i64 k),
    Fact.is (.int .i64 (k + 1)),
    Fact.is (.slice (pcut (some ⟨b, off, none⟩) c (k + 1)) (n - (k + 1)) (c - (k + 1))),
    Fact.spine [L.take k, L.drop (k + 1)],
    Fact.pnew w1.heap.size (qRest L k),
    Fact.is (.slice (some ⟨b, off, none⟩) n c),
    Fact.is (.int .i64 k),
    Fact.is (.pointer (some ⟨b, off + k * 7, none⟩)),
    Fact.is (.agg #[.int .i64 p0, .int .i64 p1, .int .i64 p2, .int .i64 p3, .int .i64 p4, .int .i64 p5, .int .i64 p6]),
    Fact.pnew w1.heap.size (qRest L k)])
    (T := [16, 17, 18, 19, 20, 21, 22, 23, 24, 25, 26, 27, 28, 4]) (by kernel_rfl) rfl (Nat.le_of_ble_eq_true rfl) (by kernel_rfl) (by kernel_rfl) (by kernel_rfl) rfl ?owes ?_
  case owes =>
    simp only [List.take_succ_cons, List.take_zero]
    refine .cons (owes_move (.tmp 0) (.inl rfl) fun q u lh => ⟨wants_free rfl, lh.old 0 rfl⟩) ?_
    refine .cons (owes_move (.tmp 7) (.inl rfl) fun q u lh => ⟨wants_free rfl, lh.old 7 rfl⟩) ?_
    refine .cons (owes_value fun q u lh => ⟨wants_free rfl, .slice (some ⟨b, off, none⟩) k c, by have e16 : q.tmps.getD 16 undef = .slice (some ⟨b, off, none⟩) n c := lh.dep 0 rfl; have e17 : q.tmps.getD 17 undef = .int .i64 k := lh.dep 1 rfl; have z1 : k ≤ c := (by omega); have z2 : ¬ c < k := (by omega); simp [execOp, Act.eval, e16, e17, z1, z2, go_sem], rfl⟩) ?_
    refine .cons (owes_move (.tmp 0) (.inl rfl) fun q u lh => ⟨wants_free rfl, lh.old 0 rfl⟩) ?_
    refine .cons (owes_move (.tmp 7) (.inl rfl) fun q u lh => ⟨wants_free rfl, lh.old 7 rfl⟩) ?_
    refine .cons (owes_value fun q u lh => ⟨wants_free rfl, .int .i64 (k + 1), by have e20 : q.tmps.getD 20 undef = .int .i64 k := lh.dep 4 rfl; have z1 : IntKind.i64.wrap ((k : Int) + 1) = k + 1 := (i64_wf (by omega) (by omega)); simp [execOp, Act.eval, e20, z1, go_sem], rfl⟩) ?_
    refine .cons (owes_value fun q u lh => ⟨wants_free rfl, .slice (pcut (some ⟨b, off, none⟩) c (k + 1)) (n - (k + 1)) (c - (k + 1)), by have e19 : q.tmps.getD 19 undef = .slice (some ⟨b, off, none⟩) n c := lh.dep 3 rfl; have e21 : q.tmps.getD 21 undef = .int .i64 (k + 1) := lh.dep 5 rfl; have z1 : (k : Int) + 1 ≤ n := (by omega); have z2 : ((k : Int) + 1).toNat = k + 1 := (by omega); have z3 : (0 : Int) ≤ (k : Int) + 1 := (by omega); simp [execOp, Act.eval, e19, e21, z1, z2, z3, pcut, go_sem], rfl⟩) ?_
    refine .cons (owes_make fun q u lh => by have e18 : q.tmps[18]?.getD undef = .slice (some ⟨b, off, none⟩) k c := (Array.getD_eq_getD_getElem? ..).symm.trans (lh.dep 2 rfl); have e22 : q.tmps[22]?.getD undef = .slice (pcut (some ⟨b, off, none⟩) c (k + 1)) (n - (k + 1)) (c - (k + 1)) := (Array.getD_eq_getD_getElem? ..).symm.trans (lh.dep 6 rfl); exact ⟨wants_free rfl, .slice (some ⟨u.heap.size, 0, none⟩) 2 2, u.alloc (.cells #[.slice (some ⟨b, off, none⟩) k c, .slice (pcut (some ⟨b, off, none⟩) c (k + 1)) (n - (k + 1)) (c - (k + 1))] 23), by simp [execOp, Act.eval, e18, e22, go_sem], box_below _ _, ⟨_, rfl, Spine.new2 (((H.out.below B1.out).below lh.below).take k (by have := HKn.out; omega)) (((H.out.below B1.out).below lh.below).from (k + 1) HKn.out) _⟩⟩) ?_
    refine .cons (owes_call 34 Try.func34 (by kernel_rfl) (by kernel_rfl) [.tmp 23] #[95] rfl fun q u lh => ⟨wants_free rfl, by obtain ⟨bb, e23, th⟩ := lh.dep 7 rfl; have e23 : q.tmps.getD 23 undef = .slice (some ⟨bb, 0, none⟩) 2 2 := e23; show Calls Try.prog 34 #[q.tmps.getD 23 undef] u _; rw [e23, ← HE.out]; exact pend_fact lh.below.size (concatP_any bb 2 2 _ u th rfl (by omega) HL.out)⟩) ?_
    refine .cons (owes_move (.tmp 0) (.inl rfl) fun q u lh => ⟨wants_free rfl, lh.old 0 rfl⟩) ?_
    refine .cons (owes_move (.tmp 7) (.inl rfl) fun q u lh => ⟨wants_free rfl, lh.old 7 rfl⟩) ?_
    refine .cons (owes_value fun q u lh => ⟨wants_free rfl, .pointer (some ⟨b, off + k * 7, none⟩), by have e25 : q.tmps.getD 25 undef = .slice (some ⟨b, off, none⟩) n c := lh.dep 9 rfl; have e26 : q.tmps.getD 26 undef = .int .i64 k := lh.dep 10 rfl; simp [execOp, Act.eval, e25, e26, k1, go_sem], rfl⟩) ?_
    refine .cons (owes_value fun q u lh => ⟨wants_free rfl, .agg #[.int .i64 p0, .int .i64 p1, .int .i64 p2, .int .i64 p3, .int .i64 p4, .int .i64 p5, .int .i64 p6], by have e27 : q.tmps.getD 27 undef = .pointer (some ⟨b, off + k * 7, none⟩) := lh.dep 11 rfl; obtain ⟨z0, z1, z2, z3, z4, z5, z6⟩ := (HX.out.below B1.out).below lh.below; simp [execOp, Act.eval, e27, z0, z1, z2, z3, z4, z5, z6, go_sem], rfl⟩) ?_
    refine .cons (owes_move (.tmp 24) (.inr rfl) fun q u lh => ⟨wants_free rfl, lh.dep 8 rfl⟩) ?_
    exact .nil _
  intro q u hb hsz hdf hold hfact
  obtain ⟨v23, e23⟩ : ∃ v, q.tmps.getD 23 undef = v := ⟨_, rfl⟩
  have f23 : (Fact.spine [L.take k, L.drop (k + 1)]).1 u v23 := by rw [← e23]; exact hfact 7 (by decide)
  obtain ⟨v24, e24⟩ : ∃ v, q.tmps.getD 24 undef = v := ⟨_, rfl⟩
  have f24 : (Fact.pnew w1.heap.size (qRest L k)).1 u v24 := by rw [← e24]; exact hfact 8 (by decide)
  obtain ⟨a4, m4, e4, g4, n4⟩ : (Fact.pnew w1.heap.size (qRest L k)).1 u (q.tmps.getD 4 undef) := hfact 13 (by decide)
  obtain rfl := frame_puts hsz hdf [16, 17, 18, 19, 20, 21, 22, 23, 24, 25, 26, 27, 28, 4] hold [(16, Value.slice (some ⟨b, off, none⟩) n c), (17, Value.int .i64 k), (18, Value.slice (some ⟨b, off, none⟩) k c), (19, Value.slice (some ⟨b, off, none⟩) n c), (20, Value.int .i64 k), (21, Value.int .i64 (k + 1)), (22, Value.slice (pcut (some ⟨b, off, none⟩) c (k + 1)) (n - (k + 1)) (c - (k + 1))), (23, v23), (24, v24), (25, Value.slice (some ⟨b, off, none⟩) n c), (26, Value.int .i64 k), (27, Value.pointer (some ⟨b, off + k * 7, none⟩)), (28, Value.agg #[.int .i64 p0, .int .i64 p1, .int .i64 p2, .int .i64 p3, .int .i64 p4, .int .i64 p5, .int .i64 p6]), (4, Value.slice a4 (qRest L k).length m4)] ⟨hfact 0 (by decide), hfact 1 (by decide), hfact 2 (by decide), hfact 3 (by decide), hfact 4 (by decide), hfact 5 (by decide), hfact 6 (by decide), e23, e24, hfact 9 (by decide), hfact 10 (by decide), hfact 11 (by decide), hfact 12 (by decide), e4, trivial⟩ rfl
  clear hsz hdf hold hfact
  simp only [List.drop_succ_cons, List.drop_zero, TailWp]
  have XU : PBox u w.heap.size p70 := X1.out.below hb
  have Y : Hid (PBox (u.setRow w.heap.size #[.int .i64 p0, .int .i64 p1, .int .i64 p2, .int .i64 p3, .int .i64 p4, .int .i64 p5, .int .i64 p6]) w.heap.size (p0, p1, p2, p3, p4, p5, p6)) := XU.set (p0, p1, p2, p3, p4, p5, p6)
  have R : Hid (PGood (u.setRow w.heap.size #[.int .i64 p0, .int .i64 p1, .int .i64 p2, .int .i64 p3, .int .i64 p4, .int .i64 p5, .int .i64 p6]) a4 (qRest L k).length m4 (qRest L k) ∧ (∀ x, a4 = some x → w.heap.size ≤ x.block) ∧ Below w.heap.size w (u.setRow w.heap.size #[.int .i64 p0, .int .i64 p1, .int .i64 p2, .int .i64 p3, .int .i64 p4, .int .i64 p5, .int .i64 p6])) :=
    ⟨g4.far (fun x hx => by have := n4 x hx; have := Z1.out; omega) _, fun x hx => by have := n4 x hx; have := Z1.out; omega, Below.setRow (B1.out.trans (hb.mono B1.out.size)) (Nat.le_refl _) _⟩
  clear hb g4 n4 X1 Z1 HX H c0 c1 c2 c3 c4 c5 c6
  simp only [puts, Act.put, List.setIfInBounds_toArray, List.set_cons_zero, List.set_cons_succ]
  refine wp_store_row 51 (.tmp 5) (.tmp 28) rfl w.heap.size #[.int .i64 p0, .int .i64 p1, .int .i64 p2, .int .i64 p3, .int .i64 p4, .int .i64 p5, .int .i64 p6] rfl rfl _ _ XU sizePay (by simp) (by simp [Value.oneCell']) ?_
  refine wp_assign _ rfl ?_
  clear XU
  generalize u.setRow w.heap.size #[.int .i64 p0, .int .i64 p1, .int .i64 p2, .int .i64 p3, .int .i64 p4, .int .i64 p5, .int .i64 p6] = w3 at R Y ⊢
  obtain ⟨d0, d1, d2, d3, d4, d5, d6⟩ := Y.out.at7
  go_wp2
  exact bodyPost_ret (v := .tuple #[.slice a4 (qRest L k).length m4, .agg #[.int .i64 p0, .int .i64 p1, .int .i64 p2, .int .i64 p3, .int .i64 p4, .int .i64 p5, .int .i64 p6], .int .i64 0]) (by simp [results, Try.results36, d0, d1, d2, d3, d4, d5, d6, go_sem]) rfl ⟨a4, m4, rfl, R.out.1, R.out.2.1, R.out.2.2⟩

theorem drop_any7 (a : Option Addr) (n c : Nat) (L : List P7) (x : Int) (w : World) (h : PGood w a n c L) (hm : n ≤ 100000) :
    Calls Try.prog 36 #[.slice a n c, .int .i64 x] w (DropEnd7 w (qDrop L x) (qDropP L x) (qDropE L x)) := by
  cases hh : qHas L x with
  | true => exact drop_yes_any a n c L x w h hm hh
  | false => exact drop_no_any a n c L x w h hm hh

end Go.Proofs.Ytlackjldopeigaa

/-
  giroref13.insert.
-/
namespace Go.Proofs.Ytlackjldopeigaa
open Go.RowKit
set_option linter.unusedVariables false
set_option linter.unusedSimpArgs false

theorem litP_own {w : World} {g B : Nat} (h : w.heap[g]? = some (.cells #[] 51 (0, 0))) (hB : B ≤ g) : w.ownsRow B 51 7 (.slice (some ⟨g, 0, none⟩) 0 0) 0 (payL []) :=
  ⟨by simp [payL], .inr ⟨g, 0, #[], rfl, hB, h, Nat.le_refl _, by unfold maxLen; omega, rfl, rfl⟩⟩
/-- A payment that was just laid is there behind an append. -/
theorem pgood_grown {w w' : World} {g : Nat} {o : Option Nat} {n c : Nat} {L : List P7} (h : PGood w (some ⟨g, 0, none⟩) n c L) (hg : w.grownBy w' o) (hne : some g ≠ o) (hlt : g < w.heap.size) : PGood w' (some ⟨g, 0, none⟩) n c L := by
  refine ⟨⟨h.pays.1, ?_⟩, h.cap, h.max, h.nil0⟩
  rcases h.pays.2 with h0 | ⟨b, off, ha, hc⟩
  · exact .inl h0
  · simp at ha
    obtain ⟨rfl, rfl⟩ := ha
    refine .inr ⟨g, 0, rfl, fun i hi => At7.of fun j hj => ?_⟩
    have := (hc i hi).nth j hj
    rw [← this]
    unfold World.cell?
    rw [hg.block g hlt hne]

set_option maxHeartbeats 4000000 in
set_option maxRecDepth 100000 in
theorem refInsert_any (a : Option Addr) (n c k : Nat) (L : List P7) (p : P7) (w : World) (h : PGood w a n c L) (hm : n ≤ 100000) (hk : k ≤ n) :
    Calls Try.prog 51 #[.slice a n c, .int .i64 k, p.val] w (PEnd w (qIns L k p)) := by
  obtain ⟨p0, p1, p2, p3, p4, p5, p6⟩ := p
  obtain ⟨w1, hw1⟩ : ∃ w1, w1 = w.alloc (.cells #[.int .i64 p0, .int .i64 p1, .int .i64 p2, .int .i64 p3, .int .i64 p4, .int .i64 p5, .int .i64 p6] 51) := ⟨_, rfl⟩
  have HB : Hid (Below w.heap.size w w1) := by rw [hw1]; exact box_below _ _
  have HX : Hid (At7 w1 w.heap.size 0 (p0, p1, p2, p3, p4, p5, p6)) := by rw [hw1]; exact At7.new w (p0, p1, p2, p3, p4, p5, p6) _ _
  have H : Hid (PGood w1 a n c L) := h.below HB.out
  have hc := h.cap
  have hmx := h.max
  have hl := h.len
  have k0 : (0 : Int) ≤ (k : Int) := by omega
  have k1 : (k : Int) ≤ (n : Int) := by omega
  have k2 : (k : Int) ≤ (c : Int) := by omega
  have k3 : (n : Int) ≤ (c : Int) := by omega
  have SA : Hid (∀ u, Below w1.heap.size w1 u → PGood u a k c (L.take k)) := fun u hu => (H.out.below hu).take k hk
  have SB : Hid (∀ u, Below w1.heap.size w1 u → PGood u (pcut a c k) (n - k) (c - k) (L.drop k)) := fun u hu => (H.out.below hu).from k hk
  have R : Hid (∀ v u, u.ownsRow w1.heap.size 51 7 v (k + 1 + (n - k)) (payL ((L.take k ++ [(p0, p1, p2, p3, p4, p5, p6)]) ++ L.drop k)) → Below w1.heap.size w1 u → PEnd w (qIns L k (p0, p1, p2, p3, p4, p5, p6)) (.returned v) u) := by
    intro v u ho hb
    rw [show (L.take k ++ [(p0, p1, p2, p3, p4, p5, p6)]) ++ L.drop k = qIns L k (p0, p1, p2, p3, p4, p5, p6) by simp [qIns]] at ho
    obtain ⟨a4, c4, rfl, g4, n4⟩ := PGood.own ho
    exact ⟨a4, c4, rfl, g4, fun x hx => by have := n4 x hx; have := HB.out.size; omega, HB.out.trans (hb.mono HB.out.size)⟩
  obtain ⟨q0, q1, q2, q3, q4, q5, q6⟩ := HX.out
  simp only [P7.id, P7.fr, P7.to, P7.am, P7.cl, P7.st, P7.ti] at q0 q1 q2 q3 q4 q5 q6
  obtain ⟨g0, hg0⟩ : ∃ g0, w.heap.size = g0 := ⟨_, rfl⟩
  have HG : Hid (w.heap.size = g0) := hg0
  rw [hg0] at q0 q1 q2 q3 q4 q5 q6
  have RS : ∀ u, Below w1.heap.size w1 u → u.cell? ⟨g0, 0, none⟩ = some (.int .i64 p0) ∧ u.cell? ⟨g0, 1, none⟩ = some (.int .i64 p1) ∧ u.cell? ⟨g0, 2, none⟩ = some (.int .i64 p2) ∧ u.cell? ⟨g0, 3, none⟩ = some (.int .i64 p3) ∧ u.cell? ⟨g0, 4, none⟩ = some (.int .i64 p4) ∧ u.cell? ⟨g0, 5, none⟩ = some (.int .i64 p5) ∧ u.cell? ⟨g0, 6, none⟩ = some (.int .i64 p6) ∧ Below w1.heap.size w1 u := fun u hu => by
    have hlt := block_lt_of_cell q0
    exact ⟨(hu.cell (p := ⟨g0, 0, none⟩) hlt).trans q0, (hu.cell (p := ⟨g0, 1, none⟩) hlt).trans q1, (hu.cell (p := ⟨g0, 2, none⟩) hlt).trans q2, (hu.cell (p := ⟨g0, 3, none⟩) hlt).trans q3, (hu.cell (p := ⟨g0, 4, none⟩) hlt).trans q4, (hu.cell (p := ⟨g0, 5, none⟩) hlt).trans q5, (hu.cell (p := ⟨g0, 6, none⟩) hlt).trans q6, hu⟩
  have RS0 := RS w1.drew ((Below.refl _ _).drew)
  have RSA : ∀ u o, (u.cell? ⟨g0, 0, none⟩ = some (.int .i64 p0) ∧ u.cell? ⟨g0, 1, none⟩ = some (.int .i64 p1) ∧ u.cell? ⟨g0, 2, none⟩ = some (.int .i64 p2) ∧ u.cell? ⟨g0, 3, none⟩ = some (.int .i64 p3) ∧ u.cell? ⟨g0, 4, none⟩ = some (.int .i64 p4) ∧ u.cell? ⟨g0, 5, none⟩ = some (.int .i64 p5) ∧ u.cell? ⟨g0, 6, none⟩ = some (.int .i64 p6) ∧ Below w1.heap.size w1 u) → _ := fun u o hu => RS (u.alloc o) (hu.2.2.2.2.2.2.2.alloc hu.2.2.2.2.2.2.2.size o)
  have RSB : ∀ u, (u.cell? ⟨g0, 0, none⟩ = some (.int .i64 p0) ∧ u.cell? ⟨g0, 1, none⟩ = some (.int .i64 p1) ∧ u.cell? ⟨g0, 2, none⟩ = some (.int .i64 p2) ∧ u.cell? ⟨g0, 3, none⟩ = some (.int .i64 p3) ∧ u.cell? ⟨g0, 4, none⟩ = some (.int .i64 p4) ∧ u.cell? ⟨g0, 5, none⟩ = some (.int .i64 p5) ∧ u.cell? ⟨g0, 6, none⟩ = some (.int .i64 p6) ∧ Below w1.heap.size w1 u) → Below w1.heap.size w1 u := fun u hu => hu.2.2.2.2.2.2.2
  have OA : Hid ((w1.drew.alloc (.cells #[] 51)).ownsRow w1.heap.size 51 7 (.slice (some ⟨w1.heap.size, 0, none⟩) 0 0) 0 (payL [])) := litP_own (heap_alloc_new w1.drew _) (Nat.le_refl _)
  have OB : Hid (((w1.drew.alloc (.cells #[] 51)).alloc (.cells #[.int .i64 p0, .int .i64 p1, .int .i64 p2, .int .i64 p3, .int .i64 p4, .int .i64 p5, .int .i64 p6] 51)).ownsRow w1.heap.size 51 7 (.slice (some ⟨w1.heap.size, 0, none⟩) 0 0) 0 (payL [])) := own_below OA.out (box_below _ _)
  have OC : Hid (((w1.drew.alloc (.cells #[.int .i64 p0, .int .i64 p1, .int .i64 p2, .int .i64 p3, .int .i64 p4, .int .i64 p5, .int .i64 p6] 51)).alloc (.cells #[] 51)).ownsRow w1.heap.size 51 7 (.slice (some ⟨w1.heap.size + 1, 0, none⟩) 0 0) 0 (payL [])) := by
    have := heap_alloc_new (w1.drew.alloc (.cells #[.int .i64 p0, .int .i64 p1, .int .i64 p2, .int .i64 p3, .int .i64 p4, .int .i64 p5, .int .i64 p6] 51)) (.cells #[] 51)
    rw [size_alloc] at this
    exact litP_own this (by omega)
  have LB : Hid (PGood ((w1.drew.alloc (.cells #[] 51)).alloc (.cells #[.int .i64 p0, .int .i64 p1, .int .i64 p2, .int .i64 p3, .int .i64 p4, .int .i64 p5, .int .i64 p6] 51)) (some ⟨w1.heap.size + 1, 0, none⟩) 1 1 [(p0, p1, p2, p3, p4, p5, p6)]) := by
    have := PGood.lit1 (w1.drew.alloc (.cells #[] 51)) (p0, p1, p2, p3, p4, p5, p6)
    rw [size_alloc] at this
    exact this
  have LC : Hid (PGood ((w1.drew.alloc (.cells #[.int .i64 p0, .int .i64 p1, .int .i64 p2, .int .i64 p3, .int .i64 p4, .int .i64 p5, .int .i64 p6] 51)).alloc (.cells #[] 51)) (some ⟨w1.heap.size, 0, none⟩) 1 1 [(p0, p1, p2, p3, p4, p5, p6)]) := (PGood.lit1 w1.drew (p0, p1, p2, p3, p4, p5, p6)).below (box_below _ _)
  have HW : Hid (w1 = _) := hw1
  clear h hw1 hl hg0
  go_enter Try.func51, Try.ntmps51
  go_wp2_with fail
  rw [HG.out] at *
  rw [← HW.out]
  go_region_held3 (fun w' => w'.cell? ⟨g0, 0, none⟩ = some (.int .i64 p0) ∧ w'.cell? ⟨g0, 1, none⟩ = some (.int .i64 p1) ∧ w'.cell? ⟨g0, 2, none⟩ = some (.int .i64 p2) ∧ w'.cell? ⟨g0, 3, none⟩ = some (.int .i64 p3) ∧ w'.cell? ⟨g0, 4, none⟩ = some (.int .i64 p4) ∧ w'.cell? ⟨g0, 5, none⟩ = some (.int .i64 p5) ∧ w'.cell? ⟨g0, 6, none⟩ = some (.int .i64 p6) ∧ Below w1.heap.size w1 w') (first | assumption | exact RS _ (by assumption) | exact RS0 | exact RSA _ _ (by assumption)) (first
    | (refine step_append_pays (by rfl) (.tmp 7) (.tmp 10) (by rfl) w1.heap.size (.slice (some ⟨w1.heap.size, 0, none⟩) 0 0) 0 [] (by rfl) (by first | exact OA.out | exact OB.out) a k c (L.take k) (by rfl) (SA.out _ (RSB _ (by assumption))) (by omega) (Below.size (RSB _ (by assumption))) ?_
       intro v2 w2 o2 g2
       have B2 : Below w1.heap.size w1 w2 := Below.grown (RSB _ (by assumption)) g2 (Below.size (RSB _ (by assumption))) (fun j hj => by simp [Value.ownBlock] at hj; omega)
       simp only [Nat.zero_add, List.nil_append] at o2)
    | (refine step_append_pays (by rfl) (.tmp 7) (.tmp 10) (by rfl) w1.heap.size (.slice (some ⟨w1.heap.size + 1, 0, none⟩) 0 0) 0 [] (by rfl) OC.out a k c (L.take k) (by rfl) (SA.out _ (RSB _ (by assumption))) (by omega) (Below.size (RSB _ (by assumption))) ?_
       intro v2 w2 o2 g2
       have B2 : Below w1.heap.size w1 w2 := Below.grown (RSB _ (by assumption)) g2 (Below.size (RSB _ (by assumption))) (fun j hj => by simp [Value.ownBlock] at hj; omega)
       simp only [Nat.zero_add, List.nil_append] at o2)
    | (refine step_append_pays (by rfl) (.tmp 11) (.tmp 13) (by rfl) w1.heap.size v2 k (L.take k) (by rfl) (own_below o2 (box_below _ _)) (some ⟨w2.heap.size, 0, none⟩) 1 1 [(p0, p1, p2, p3, p4, p5, p6)] (by rfl) (PGood.lit1 w2 (p0, p1, p2, p3, p4, p5, p6)) (by omega) (Below.size (RSB _ (by assumption))) ?_
       intro v3 w3 o3 g3
       have B3 : Below w1.heap.size w1 w3 := Below.grown (RSB _ (by assumption)) g3 (Below.size (RSB _ (by assumption))) (fun j hj => (o2.lt j hj).1))
    | (refine step_append_pays (by rfl) (.tmp 11) (.tmp 13) (by rfl) w1.heap.size v2 k (L.take k) (by rfl) o2 (some ⟨w1.heap.size + 1, 0, none⟩) 1 1 [(p0, p1, p2, p3, p4, p5, p6)] (by rfl) (pgood_grown LB.out g2 (by simp [Value.ownBlock]) (by simp)) (by omega) B2.size ?_
       intro v3 w3 o3 g3
       have B3 : Below w1.heap.size w1 w3 := Below.grown B2 g3 B2.size (fun j hj => (o2.lt j hj).1))
    | (refine step_append_pays (by rfl) (.tmp 11) (.tmp 13) (by rfl) w1.heap.size v2 k (L.take k) (by rfl) o2 (some ⟨w1.heap.size, 0, none⟩) 1 1 [(p0, p1, p2, p3, p4, p5, p6)] (by rfl) (pgood_grown LC.out g2 (by simp [Value.ownBlock]) (by simp; omega)) (by omega) B2.size ?_
       intro v3 w3 o3 g3
       have B3 : Below w1.heap.size w1 w3 := Below.grown B2 g3 B2.size (fun j hj => (o2.lt j hj).1))
    | (refine step_append_pays (by rfl) (.tmp 14) (.tmp 17) (by rfl) w1.heap.size v3 (k + 1) (L.take k ++ [(p0, p1, p2, p3, p4, p5, p6)]) (by rfl) o3 (pcut a c k) (n - k) (c - k) (L.drop k) (by rfl) (SB.out _ B3) (by omega) B3.size ?_
       intro v4 w4 o4 g4
       have B4 : Below w1.heap.size w1 w4 := Below.grown B3 g4 B3.size (fun j hj => (o3.lt j hj).1)
       have FR := R.out v4 w4 o4 B4)
    | fail)
  all_goals
    go_wp2
    all_goals
      go_ret
      exact FR

end Go.Proofs.Ytlackjldopeigaa

/-
  giroref13.Drop.
-/
namespace Go.Proofs.Ytlackjldopeigaa
open Go.RowKit
set_option linter.unusedVariables false
set_option linter.unusedSimpArgs false

/-- What the document's calls leave. -/
def RPutEnd (w : World) (L : List P7) (n : Int) (e : Ending) (w' : World) : Prop := ∃ a c, e = .returned (.tuple #[.slice a L.length c, .int .i64 n]) ∧ PGood w' a L.length c L ∧ Below w.heap.size w w'
def RDropEnd (w : World) (L : List P7) (p : P7) (n : Int) (e : Ending) (w' : World) : Prop := ∃ a c, e = .returned (.tuple #[.slice a L.length c, p.val, .int .i64 n]) ∧ PGood w' a L.length c L ∧ Below w.heap.size w w'

/-- What is answered is the list that was handed in, or lies in new memory. -/
def RDropNew (w : World) (a0 : Option Addr) (L : List P7) (p : P7) (n : Int) (e : Ending) (w' : World) : Prop := ∃ a c, e = .returned (.tuple #[.slice a L.length c, p.val, .int .i64 n]) ∧ PGood w' a L.length c L ∧ (a = a0 ∨ ∀ x, a = some x → w.heap.size ≤ x.block) ∧ Below w.heap.size w w'
theorem RDropNew.end {w : World} {a0 : Option Addr} {L : List P7} {p : P7} {n : Int} {e : Ending} {w' : World} (h : RDropNew w a0 L p n e w') : RDropEnd w L p n e w' := by
  obtain ⟨a, c, h1, h2, _, h3⟩ := h
  exact ⟨a, c, h1, h2, h3⟩

/-- A payment is laid over another one, cell by cell. -/
def payChain (w : World) (g : Nat) (p : P7) : World := ((((((w.setCell ⟨g, 0, none⟩ (.int .i64 p.id)).setCell ⟨g, 1, none⟩ (.int .i64 p.fr)).setCell ⟨g, 2, none⟩ (.int .i64 p.to)).setCell ⟨g, 3, none⟩ (.int .i64 p.am)).setCell ⟨g, 4, none⟩ (.int .i64 p.cl)).setCell ⟨g, 5, none⟩ (.int .i64 p.st)).setCell ⟨g, 6, none⟩ (.int .i64 p.ti)
theorem payChain_eq {w : World} {g : Nat} {q : P7} (h : PBox w g q) (p : P7) : payChain w g p = w.setRow g #[.int .i64 p.id, .int .i64 p.fr, .int .i64 p.to, .int .i64 p.am, .int .i64 p.cl, .int .i64 p.st, .int .i64 p.ti] := by
  unfold payChain
  have step : ∀ (cs : Array Value) (i : Nat) (v : Value), (w.setRow g cs).setCell ⟨g, i, none⟩ v = w.setRow g (cs.setIfInBounds i v) := fun cs i v => by
    rw [setCell_eq_setRow _ _ _ _ _ _ _ (setRow_heap w g _ cs _ _ h), setRow_setRow]
  rw [setCell_eq_setRow _ _ _ _ _ _ _ h, step, step, step, step, step, step]
  rfl

set_option maxHeartbeats 4000000 in
theorem refDrop_no (a : Option Addr) (n c : Nat) (L : List P7) (x : Int) (w : World) (h : PGood w a n c L) (hm : n ≤ 100000) (hh : qHas L x = false) :
    Calls Try.prog 37 #[.slice a n c, .int .i64 x] w (RDropNew w a (qDrop L x) (qDropP L x) (qDropE L x)) := by
  rw [(drop_no hh).1, (drop_no hh).2.1, (drop_no hh).2.2]
  have F := fun u (hb : Below w.heap.size w u) => refFind_any a n c x L u (by omega) (h.below hb).pays
  have r1 := qFind_nn L x
  rw [hh] at r1
  obtain ⟨r, hr⟩ : ∃ r, qFind L x = r := ⟨_, rfl⟩
  rw [hr] at r1
  simp only [hr] at F
  have r2 : ¬ 0 ≤ r := of_decide_eq_false r1
  have r3 : r < 0 := by omega
  have hl := h.len
  have R : Hid (RDropNew w a L p70 4 (.returned (.tuple #[.slice a n c, .agg #[.int .i64 0, .int .i64 0, .int .i64 0, .int .i64 0, .int .i64 0, .int .i64 0, .int .i64 0], .int .i64 4])) (w.alloc (.cells #[.int .i64 0, .int .i64 0, .int .i64 0, .int .i64 0, .int .i64 0, .int .i64 0, .int .i64 0] 51))) :=
    ⟨a, c, by rw [← hl]; rfl, by rw [← hl]; exact h.below (box_below _ _), .inl rfl, box_below _ _⟩
  have F1 := F (w.alloc (.cells #[.int .i64 0, .int .i64 0, .int .i64 0, .int .i64 0, .int .i64 0, .int .i64 0, .int .i64 0] 51)) (box_below _ _)
  clear hh r1 r2 h hr F hl
  go_enter Try.func37, Try.ntmps37
  go_wp2_with fail
  go_at_call 41
  refine F1.mono ?_
  rintro e w1 ⟨rfl, hw⟩
  obtain rfl := hw
  clear F1
  go_wp2
  exact bodyPost_ret (v := .tuple #[.slice a n c, .agg #[.int .i64 0, .int .i64 0, .int .i64 0, .int .i64 0, .int .i64 0, .int .i64 0, .int .i64 0], .int .i64 4]) (by simp [results, Try.results37, go_sem]) rfl R.out

set_option maxHeartbeats 4000000 in
set_option maxRecDepth 100000 in
theorem refDrop_yes (a : Option Addr) (n c : Nat) (L : List P7) (x : Int) (w : World) (h : PGood w a n c L) (hm : n ≤ 100000) (hh : qHas L x = true) :
    Calls Try.prog 37 #[.slice a n c, .int .i64 x] w (RDropNew w a (qDrop L x) (qDropP L x) (qDropE L x)) := by
  rw [(drop_yes hh).1, (drop_yes hh).2.1, (drop_yes hh).2.2]
  have F := fun u (hb : Below w.heap.size w u) => refFind_any a n c x L u (by omega) (h.below hb).pays
  rw [qFind_yes hh] at F
  have hl := h.len
  have hk := at_lt hh
  obtain ⟨k, hkk⟩ : ∃ k, qAt L x = k := ⟨_, rfl⟩
  rw [hkk] at F hk ⊢
  have hc := h.cap
  have hmx := h.max
  obtain ⟨b, off, rfl, HC⟩ := h.at (i := k) (by omega)
  obtain ⟨p, hp⟩ : ∃ p, L.getD k p70 = p := ⟨_, rfl⟩
  have HX0 := HC k (by omega)
  rw [hp] at HX0 ⊢
  obtain ⟨p0, p1, p2, p3, p4, p5, p6⟩ := p
  have k0 : (0 : Int) ≤ (k : Int) := by omega
  have k1 : (k : Int) < (n : Int) := by omega
  have k4 : (n : Int) ≤ (c : Int) := by omega
  have k5 : ¬ (k : Int) < 0 := by omega
  have k6 : (k : Int) ≤ (c : Int) := by omega
  obtain ⟨m, hmk⟩ : ∃ m, k + 1 = m := ⟨_, rfl⟩
  have HMK : Hid (k + 1 = m) := hmk
  have k7 : (0 : Int) ≤ (m : Int) := by omega
  have k8 : IntKind.i64.wrap ((k : Int) + 1) = (m : Int) := by rw [i64_wf (by omega) (by omega)]; omega
  have k9 : (m : Int) ≤ (n : Int) := by omega
  have k10 : (m : Int) ≤ (c : Int) := by omega
  obtain ⟨w1, hw1⟩ : ∃ w1, w1 = w.alloc (.cells #[.int .i64 0, .int .i64 0, .int .i64 0, .int .i64 0, .int .i64 0, .int .i64 0, .int .i64 0] 51) := ⟨_, rfl⟩
  have HB : Hid (Below w.heap.size w w1) := by rw [hw1]; exact box_below _ _
  have X0 : Hid (PBox w1 w.heap.size p70) := by rw [hw1]; exact PBox.new w p70
  have Z0 : Hid (w.heap.size < w1.heap.size) := by rw [hw1]; show _ < _; rw [size_alloc]; omega
  have H : Hid (PGood w1 (some ⟨b, off, none⟩) n c L) := h.below HB.out
  have SA : Hid (∀ u, Below w1.heap.size w1 u → PGood u (some ⟨b, off, none⟩) k c (L.take k)) := fun u hu => (H.out.below hu).take k (by omega)
  have EK : pcut (some ⟨b, off, none⟩) c m = (if c = m then some ⟨b, off, none⟩ else some ⟨b, off + m * 7, none⟩) := by simp [pcut, Addr.add_flat]
  obtain ⟨y, hy⟩ : ∃ y : Option Addr, (if c = m then some ⟨b, off, none⟩ else some ⟨b, off + m * 7, none⟩) = y := ⟨_, rfl⟩
  rw [hy] at EK
  have SB : Hid (∀ u, Below w1.heap.size w1 u → PGood u y (n - m) (c - m) (L.drop m)) := fun u hu => by have := (H.out.below hu).from m (by omega); rw [EK] at this; exact this
  have RS : ∀ u, Below w.heap.size w u → u.cell? ⟨b, off + k * 7, none⟩ = some (.int .i64 p0) ∧ u.cell? ⟨b, off + k * 7 + 1, none⟩ = some (.int .i64 p1) ∧ u.cell? ⟨b, off + k * 7 + 2, none⟩ = some (.int .i64 p2) ∧ u.cell? ⟨b, off + k * 7 + 3, none⟩ = some (.int .i64 p3) ∧ u.cell? ⟨b, off + k * 7 + 4, none⟩ = some (.int .i64 p4) ∧ u.cell? ⟨b, off + k * 7 + 5, none⟩ = some (.int .i64 p5) ∧ u.cell? ⟨b, off + k * 7 + 6, none⟩ = some (.int .i64 p6) := fun u hu => HX0.below hu
  have RS0 := RS w1.drew (HB.out.trans ((Below.refl _ _).drew.mono HB.out.size))
  have RS1 := fun o => RS (w1.alloc o).drew (HB.out.alloc HB.out.size o).drew
  have OA : Hid ((w1.drew.alloc (.cells #[] 51)).ownsRow w1.heap.size 51 7 (.slice (some ⟨w1.heap.size, 0, none⟩) 0 0) 0 (payL [])) := litP_own (heap_alloc_new w1.drew _) (Nat.le_refl _)
  have BA : Hid (Below w1.heap.size w1 (w1.drew.alloc (.cells #[] 51))) := ((Below.refl _ _).drew).alloc (Nat.le_refl _) _
  have R : Hid (∀ v u, u.ownsRow w1.heap.size 51 7 v (k + (n - m)) (payL (L.take k ++ L.drop m)) → Below w1.heap.size w1 u → RDropNew w (some ⟨b, off, none⟩) (qRest L k) (p0, p1, p2, p3, p4, p5, p6) 0 (.returned (.tuple #[v, .agg #[.int .i64 p0, .int .i64 p1, .int .i64 p2, .int .i64 p3, .int .i64 p4, .int .i64 p5, .int .i64 p6], .int .i64 0])) (u.setRow w.heap.size #[.int .i64 p0, .int .i64 p1, .int .i64 p2, .int .i64 p3, .int .i64 p4, .int .i64 p5, .int .i64 p6]) ∧ PBox (u.setRow w.heap.size #[.int .i64 p0, .int .i64 p1, .int .i64 p2, .int .i64 p3, .int .i64 p4, .int .i64 p5, .int .i64 p6]) w.heap.size (p0, p1, p2, p3, p4, p5, p6)) := by
    intro v u ho hb
    rw [show L.take k ++ L.drop m = qRest L k by rw [← HMK.out]; rfl] at ho
    obtain ⟨a4, c4, rfl, g4, n4⟩ := PGood.own ho
    refine ⟨⟨a4, c4, rfl, g4.far (fun x hx => by have := n4 x hx; have := Z0.out; omega) _, .inr (fun x hx => by have := n4 x hx; have := Z0.out; omega), Below.setRow (HB.out.trans (hb.mono HB.out.size)) (Nat.le_refl _) _⟩, ?_⟩
    exact (X0.out.below hb).set (p0, p1, p2, p3, p4, p5, p6)
  have HY : Hid ((if c = m then some ⟨b, off, none⟩ else some ⟨b, off + m * 7, none⟩) = y) := hy
  have F1 := F w1 HB.out
  rw [hw1] at F1
  have HW : Hid (w1 = _) := hw1
  clear hh h F hkk HC hp HX0 hl hk hc hmx hw1 EK hmk
  go_enter Try.func37, Try.ntmps37
  go_wp2_with fail
  go_at_call 41
  refine F1.mono ?_
  rintro e w2 ⟨rfl, hw2⟩
  rw [← HW.out] at hw2
  obtain rfl := hw2.symm
  clear F1
  go_wp2
  go_region_held3 (fun w' => w'.cell? ⟨b, off + k * 7, none⟩ = some (.int .i64 p0) ∧ w'.cell? ⟨b, off + k * 7 + 1, none⟩ = some (.int .i64 p1) ∧ w'.cell? ⟨b, off + k * 7 + 2, none⟩ = some (.int .i64 p2) ∧ w'.cell? ⟨b, off + k * 7 + 3, none⟩ = some (.int .i64 p3) ∧ w'.cell? ⟨b, off + k * 7 + 4, none⟩ = some (.int .i64 p4) ∧ w'.cell? ⟨b, off + k * 7 + 5, none⟩ = some (.int .i64 p5) ∧ w'.cell? ⟨b, off + k * 7 + 6, none⟩ = some (.int .i64 p6)) (first | with_reducible exact RS0 | with_reducible exact RS1 _ | with_reducible exact RS _ (by with_reducible assumption)) (first
    | (refine step_append_pays (by rfl) (.tmp 15) (.tmp 18) (by rfl) w1.heap.size (.slice (some ⟨w1.heap.size, 0, none⟩) 0 0) 0 [] (by rfl) OA.out (some ⟨b, off, none⟩) k c (L.take k) (by rfl) (SA.out _ BA.out) (by omega) BA.out.size ?_
       intro v2 w2 o2 g2
       have B2 : Below w1.heap.size w1 w2 := Below.grown BA.out g2 BA.out.size (fun j hj => by simp [Value.ownBlock] at hj; omega)
       have BW2 : Below w.heap.size w w2 := HB.out.trans (B2.mono HB.out.size)
       simp only [Nat.zero_add, List.nil_append] at o2)
    | (refine step_append_pays (by rfl) (.tmp 19) (.tmp 23) (by rfl) w1.heap.size v2 k (L.take k) (by rfl) o2 y (n - m) (c - m) (L.drop m) (by rfl) (SB.out _ B2) (by have := HMK.out; omega) B2.size ?_
       intro v3 w3 o3 g3
       have B3 : Below w1.heap.size w1 w3 := Below.grown B2 g3 B2.size (fun j hj => (o2.lt j hj).1)
       have BW3 : Below w.heap.size w w3 := HB.out.trans (B3.mono HB.out.size)
       have EC : (((((((w3.setCell ⟨w.heap.size, 0, none⟩ (.int .i64 p0)).setCell ⟨w.heap.size, 1, none⟩ (.int .i64 p1)).setCell ⟨w.heap.size, 2, none⟩ (.int .i64 p2)).setCell ⟨w.heap.size, 3, none⟩ (.int .i64 p3)).setCell ⟨w.heap.size, 4, none⟩ (.int .i64 p4)).setCell ⟨w.heap.size, 5, none⟩ (.int .i64 p5)).setCell ⟨w.heap.size, 6, none⟩ (.int .i64 p6)) = w3.setRow w.heap.size #[.int .i64 p0, .int .i64 p1, .int .i64 p2, .int .i64 p3, .int .i64 p4, .int .i64 p5, .int .i64 p6] := payChain_eq (X0.out.below B3) (p0, p1, p2, p3, p4, p5, p6)
       have BWC : Below w.heap.size w (((((((w3.setCell ⟨w.heap.size, 0, none⟩ (.int .i64 p0)).setCell ⟨w.heap.size, 1, none⟩ (.int .i64 p1)).setCell ⟨w.heap.size, 2, none⟩ (.int .i64 p2)).setCell ⟨w.heap.size, 3, none⟩ (.int .i64 p3)).setCell ⟨w.heap.size, 4, none⟩ (.int .i64 p4)).setCell ⟨w.heap.size, 5, none⟩ (.int .i64 p5)).setCell ⟨w.heap.size, 6, none⟩ (.int .i64 p6)) := by rw [EC]; exact Below.setRow BW3 (Nat.le_refl _) _
       have FR := R.out v3 w3 o3 B3
       rw [← EC] at FR
       have EC' : Hid ((((((((w3.setCell ⟨w.heap.size, 0, none⟩ (.int .i64 p0)).setCell ⟨w.heap.size, 1, none⟩ (.int .i64 p1)).setCell ⟨w.heap.size, 2, none⟩ (.int .i64 p2)).setCell ⟨w.heap.size, 3, none⟩ (.int .i64 p3)).setCell ⟨w.heap.size, 4, none⟩ (.int .i64 p4)).setCell ⟨w.heap.size, 5, none⟩ (.int .i64 p5)).setCell ⟨w.heap.size, 6, none⟩ (.int .i64 p6)) = w3.setRow w.heap.size #[.int .i64 p0, .int .i64 p1, .int .i64 p2, .int .i64 p3, .int .i64 p4, .int .i64 p5, .int .i64 p6]) := EC
       clear EC
       obtain ⟨d0, d1, d2, d3, d4, d5, d6⟩ := (X0.out.below B3).at7
       have fz : ∀ j, w3.frozen? ⟨w.heap.size, j, none⟩ = false := fun j => frozen_of_row w3 w.heap.size j _ _ (X0.out.below B3))
    | fail)
  obtain ⟨FE, FB⟩ := FR
  generalize (((((((w3.setCell ⟨w.heap.size, 0, none⟩ (.int .i64 p0)).setCell ⟨w.heap.size, 1, none⟩ (.int .i64 p1)).setCell ⟨w.heap.size, 2, none⟩ (.int .i64 p2)).setCell ⟨w.heap.size, 3, none⟩ (.int .i64 p3)).setCell ⟨w.heap.size, 4, none⟩ (.int .i64 p4)).setCell ⟨w.heap.size, 5, none⟩ (.int .i64 p5)).setCell ⟨w.heap.size, 6, none⟩ (.int .i64 p6)) = w4 at FE FB ⊢
  obtain ⟨f0, f1, f2, f3, f4, f5, f6⟩ := FB.at7
  clear EC' d0 d1 d2 d3 d4 d5 d6 fz BWC
  go_wp2
  all_goals exact bodyPost_ret (v := .tuple #[v3, .agg #[.int .i64 p0, .int .i64 p1, .int .i64 p2, .int .i64 p3, .int .i64 p4, .int .i64 p5, .int .i64 p6], .int .i64 0]) (by simp [results, Try.results37, f0, f1, f2, f3, f4, f5, f6, go_sem]) rfl FE

end Go.Proofs.Ytlackjldopeigaa

/-
  giroref13.behind, Put, Front, Back, Class.
-/
namespace Go.Proofs.Ytlackjldopeigaa
open Go.RowKit
set_option linter.unusedVariables false
set_option linter.unusedSimpArgs false

theorem refDrop_new (a : Option Addr) (n c : Nat) (L : List P7) (x : Int) (w : World) (h : PGood w a n c L) (hm : n ≤ 100000) :
    Calls Try.prog 37 #[.slice a n c, .int .i64 x] w (RDropNew w a (qDrop L x) (qDropP L x) (qDropE L x)) := by
  cases hh : qHas L x with
  | true => exact refDrop_yes a n c L x w h hm hh
  | false => exact refDrop_no a n c L x w h hm hh
theorem refDrop_any (a : Option Addr) (n c : Nat) (L : List P7) (x : Int) (w : World) (h : PGood w a n c L) (hm : n ≤ 100000) :
    Calls Try.prog 37 #[.slice a n c, .int .i64 x] w (RDropEnd w (qDrop L x) (qDropP L x) (qDropE L x)) :=
  (refDrop_new a n c L x w h hm).mono fun e w' h => h.end

theorem beh_of {L : List P7} {p : P7} {k : Nat} (hk : k ≤ L.length) (h1 : ∀ t, t < k → qLe (L.getD t p70) p = true) (h2 : k < L.length → qLe (L.getD k p70) p = false) : qBeh L p = k :=
  findIdx_of hk (fun t ht => by rw [h1 t ht]; rfl) (fun h => by rw [h2 h]; rfl)
theorem ahd_of {L : List P7} {p : P7} {k : Nat} (hk : k ≤ L.length) (h1 : ∀ t, t < k → qLe p (L.getD t p70) = false) (h2 : k < L.length → qLe p (L.getD k p70) = true) : qAhd L p = k := findIdx_of hk h1 h2
set_option maxHeartbeats 4000000 in
set_option maxRecDepth 100000 in
theorem refBehind_any (a : Option Addr) (n c : Nat) (L : List P7) (p : P7) (w : World) (h : PGood w a n c L) (hm : n ≤ 100000) :
    Calls Try.prog 52 #[.slice a n c, p.val] w fun e w' => e = .returned (.int .i64 (qBeh L p : Nat)) ∧ Below w.heap.size w w' := by
  obtain ⟨p0, p1, p2, p3, p4, p5, p6⟩ := p
  obtain ⟨w1, hw1⟩ : ∃ w1, w1 = w.alloc (.cells #[.int .i64 p0, .int .i64 p1, .int .i64 p2, .int .i64 p3, .int .i64 p4, .int .i64 p5, .int .i64 p6] 51) := ⟨_, rfl⟩
  have HB1 : Hid (Below w.heap.size w w1) := by rw [hw1]; exact box_below _ _
  have X1 : Hid (At7 w1 w.heap.size 0 (p0, p1, p2, p3, p4, p5, p6)) := by rw [hw1]; exact At7.new w (p0, p1, p2, p3, p4, p5, p6) _ _
  have H : Hid (PGood w1 a n c L) := h.below HB1.out
  have HN : Hid (n = L.length) := h.len
  have HW : Hid (w1 = _) := hw1
  clear h hw1
  go_enter Try.func52, Try.ntmps52
  go_wp2
  rw [← HW.out]
  clear HW
  go_loopw [5] (fun i wr => ∃ k : Nat, k ≤ n ∧ i = .int .i64 k ∧ Hid (∀ t, t < k → qLe (L.getD t p70) (p0, p1, p2, p3, p4, p5, p6) = true) ∧ Hid (Below w1.heap.size w1 wr)) (fun i _ => n - (intOf i).toNat)
  case atStart => exact ⟨0, by omega, rfl, fun t ht => absurd ht (Nat.not_lt_zero _), Below.refl _ _⟩
  case round =>
    obtain ⟨k, hk, rfl, HL, HB⟩ := hrel
    by_cases hlt : k < n
    · obtain ⟨b, off, rfl, HC⟩ := H.out.at hlt
      have i1 : (k : Int) < (n : Int) := by omega
      have C0 := (HC k hlt).below HB.out
      have X2 : Hid (At7 wr w.heap.size 0 (p0, p1, p2, p3, p4, p5, p6)) := X1.out.below HB.out
      obtain ⟨x, hx⟩ : ∃ x, L.getD k p70 = x := ⟨_, rfl⟩
      rw [hx] at C0
      have HX : Hid (L.getD k p70 = x) := hx
      obtain ⟨x0, x1, x2, x3, x4, x5, x6⟩ := x
      have C : Hid (At7 wr b (off + k * 7) (x0, x1, x2, x3, x4, x5, x6)) := C0
      have A := fun u => refAhead_any (x0, x1, x2, x3, x4, x5, x6) (p0, p1, p2, p3, p4, p5, p6) u
      clear C0 hx HC H X1
      cases hq : qLe (x0, x1, x2, x3, x4, x5, x6) (p0, p1, p2, p3, p4, p5, p6) with
      | true =>
        simp only [hq] at A
        have HQ : Hid (qLe (x0, x1, x2, x3, x4, x5, x6) (p0, p1, p2, p3, p4, p5, p6) = true) := hq
        have A' : Hid (∀ u, Calls Try.prog 42 #[P7.val (x0, x1, x2, x3, x4, x5, x6), P7.val (p0, p1, p2, p3, p4, p5, p6)] u fun e w' => e = .returned (.bool true) ∧ Below u.heap.size u w') := A
        clear A hq
        go_wp2_with fail
        refine region_owes (L := [Fact.is (.int .i64 k),
          Fact.is (.slice (some ⟨b, off, none⟩) n c),
          Fact.is (.int .i64 n),
          Fact.is (.bool true),
          Fact.is (.bool true),
          Fact.is (.slice (some ⟨b, off, none⟩) n c),
          Fact.is (.int .i64 k),
          Fact.is (.pointer (some ⟨b, off + k * 7, none⟩)),
          Fact.is (.agg #[.int .i64 x0, .int .i64 x1, .int .i64 x2, .int .i64 x3, .int .i64 x4, .int .i64 x5, .int .i64 x6]),
          Fact.is (.agg #[.int .i64 p0, .int .i64 p1, .int .i64 p2, .int .i64 p3, .int .i64 p4, .int .i64 p5, .int .i64 p6]),
          Fact.is (.bool true),
          Fact.is (.bool true)])
          (T := [6, 7, 8, 9, 10, 11, 12, 13, 14, 15, 16, 17]) (by kernel_rfl) (by kernel_rfl) rfl ?owes ?_
        case owes =>
          refine .cons (owes_move (.tmp 5) (.inl rfl) fun q u lh => ⟨wants_free rfl, lh.old 5 rfl⟩) ?_
          refine .cons (owes_move (.tmp 0) (.inl rfl) fun q u lh => ⟨wants_free rfl, lh.old 0 rfl⟩) ?_
          refine .cons (owes_value fun q u lh => ⟨wants_free rfl, .int .i64 n, by have e7 : q.tmps.getD 7 undef = .slice (some ⟨b, off, none⟩) n c := lh.dep 1 rfl; simp [execOp, Act.eval, e7, go_sem], rfl⟩) ?_
          refine .cons (owes_value fun q u lh => ⟨wants_free rfl, .bool true, by have e6 : q.tmps.getD 6 undef = .int .i64 k := lh.dep 0 rfl; have e8 : q.tmps.getD 8 undef = .int .i64 n := lh.dep 2 rfl; simp [execOp, Act.eval, e6, e8, hlt, go_sem], rfl⟩) ?_
          refine .cons (owes_move (.tmp 9) (.inl rfl) fun q u lh => ⟨wants_free rfl, lh.dep 3 rfl⟩) ?_
          refine .cons (owes_move (.tmp 0) (.inl rfl) fun q u lh => ⟨lh.wants1 4 true rfl rfl rfl, lh.old 0 rfl⟩) ?_
          refine .cons (owes_move (.tmp 5) (.inl rfl) fun q u lh => ⟨lh.wants1 4 true rfl rfl rfl, lh.old 5 rfl⟩) ?_
          refine .cons (owes_value fun q u lh => ⟨lh.wants1 4 true rfl rfl rfl, .pointer (some ⟨b, off + k * 7, none⟩), by have e11 : q.tmps.getD 11 undef = .slice (some ⟨b, off, none⟩) n c := lh.dep 5 rfl; have e12 : q.tmps.getD 12 undef = .int .i64 k := lh.dep 6 rfl; simp [execOp, Act.eval, e11, e12, i1, go_sem], rfl⟩) ?_
          refine .cons (owes_value fun q u lh => ⟨lh.wants1 4 true rfl rfl rfl, .agg #[.int .i64 x0, .int .i64 x1, .int .i64 x2, .int .i64 x3, .int .i64 x4, .int .i64 x5, .int .i64 x6], by have e13 : q.tmps.getD 13 undef = .pointer (some ⟨b, off + k * 7, none⟩) := lh.dep 7 rfl; obtain ⟨z0, z1, z2, z3, z4, z5, z6⟩ := C.out.below lh.below; simp [execOp, Act.eval, e13, z0, z1, z2, z3, z4, z5, z6, go_sem], rfl⟩) ?_
          refine .cons (owes_value fun q u lh => ⟨lh.wants1 4 true rfl rfl rfl, .agg #[.int .i64 p0, .int .i64 p1, .int .i64 p2, .int .i64 p3, .int .i64 p4, .int .i64 p5, .int .i64 p6], by have e3 : q.tmps.getD 3 undef = .pointer (some ⟨w.heap.size, 0, none⟩) := lh.old 3 rfl; obtain ⟨z0, z1, z2, z3, z4, z5, z6⟩ := X2.out.below lh.below; simp [execOp, Act.eval, e3, z0, z1, z2, z3, z4, z5, z6, go_sem], rfl⟩) ?_
          refine .cons (owes_call 42 Try.func42 (by kernel_rfl) (by kernel_rfl) [.tmp 14, .tmp 15] #[51, 51] rfl fun q u lh => ⟨lh.wants1 4 true rfl rfl rfl, by have e14 : q.tmps.getD 14 undef = .agg #[.int .i64 x0, .int .i64 x1, .int .i64 x2, .int .i64 x3, .int .i64 x4, .int .i64 x5, .int .i64 x6] := lh.dep 8 rfl; have e15 : q.tmps.getD 15 undef = .agg #[.int .i64 p0, .int .i64 p1, .int .i64 p2, .int .i64 p3, .int .i64 p4, .int .i64 p5, .int .i64 p6] := lh.dep 9 rfl; show Calls Try.prog 42 #[q.tmps.getD 14 undef, q.tmps.getD 15 undef] u _; rw [e14, e15]; exact bool_fact (A'.out u)⟩) ?_
          refine .cons (owes_pick (.tmp 10) (.tmp 16) (.const (.bool false)) rfl fun q u lh => ⟨wants_free rfl, true, lh.dep 4 rfl, lh.dep 10 rfl⟩) ?_
          exact .nil _
        intro q u hb hsz hdf hold hfact
        obtain rfl := frame_puts hsz hdf [6, 7, 8, 9, 10, 11, 12, 13, 14, 15, 16, 17] hold [(6, Value.int .i64 k), (7, Value.slice (some ⟨b, off, none⟩) n c), (8, Value.int .i64 n), (9, Value.bool true), (10, Value.bool true), (11, Value.slice (some ⟨b, off, none⟩) n c), (12, Value.int .i64 k), (13, Value.pointer (some ⟨b, off + k * 7, none⟩)), (14, Value.agg #[.int .i64 x0, .int .i64 x1, .int .i64 x2, .int .i64 x3, .int .i64 x4, .int .i64 x5, .int .i64 x6]), (15, Value.agg #[.int .i64 p0, .int .i64 p1, .int .i64 p2, .int .i64 p3, .int .i64 p4, .int .i64 p5, .int .i64 p6]), (16, Value.bool true), (17, Value.bool true)] ⟨hfact 0 (by decide), hfact 1 (by decide), hfact 2 (by decide), hfact 3 (by decide), hfact 4 (by decide), hfact 5 (by decide), hfact 6 (by decide), hfact 7 (by decide), hfact 8 (by decide), hfact 9 (by decide), hfact 10 (by decide), hfact 11 (by decide), trivial⟩ rfl
        clear hsz hdf hold hfact
        simp only [puts, Act.put, List.setIfInBounds_toArray, List.set_cons_zero, List.set_cons_succ]
        have B4 : Hid (Below w1.heap.size w1 u) := HB.out.trans (hb.mono HB.out.size)
        clear hb C X2
        go_wp2
        go_roundw
        case rel =>
          refine ⟨k + 1, by omega, by go_num, fun t ht => ?_, B4⟩
          by_cases htk : t < k
          · exact HL.out t htk
          · obtain rfl : t = k := by omega
            rw [HX.out]
            exact HQ.out
        case measure => simp [intOf]; omega
      | false =>
        simp only [hq] at A
        have HD : Hid ((k : Int) = (qBeh L (p0, p1, p2, p3, p4, p5, p6) : Nat)) := by
          show (k : Int) = _
          rw [beh_of (by have := HN.out; omega) HL.out (fun _ => by rw [HX.out]; exact hq)]
        have A' : Hid (∀ u, Calls Try.prog 42 #[P7.val (x0, x1, x2, x3, x4, x5, x6), P7.val (p0, p1, p2, p3, p4, p5, p6)] u fun e w' => e = .returned (.bool false) ∧ Below u.heap.size u w') := A
        clear A hq
        go_wp2_with fail
        refine region_owes (L := [Fact.is (.int .i64 k),
          Fact.is (.slice (some ⟨b, off, none⟩) n c),
          Fact.is (.int .i64 n),
          Fact.is (.bool true),
          Fact.is (.bool true),
          Fact.is (.slice (some ⟨b, off, none⟩) n c),
          Fact.is (.int .i64 k),
          Fact.is (.pointer (some ⟨b, off + k * 7, none⟩)),
          Fact.is (.agg #[.int .i64 x0, .int .i64 x1, .int .i64 x2, .int .i64 x3, .int .i64 x4, .int .i64 x5, .int .i64 x6]),
          Fact.is (.agg #[.int .i64 p0, .int .i64 p1, .int .i64 p2, .int .i64 p3, .int .i64 p4, .int .i64 p5, .int .i64 p6]),
          Fact.is (.bool false),
          Fact.is (.bool false)])
          (T := [6, 7, 8, 9, 10, 11, 12, 13, 14, 15, 16, 17]) (by kernel_rfl) (by kernel_rfl) rfl ?owes ?_
        case owes =>
          refine .cons (owes_move (.tmp 5) (.inl rfl) fun q u lh => ⟨wants_free rfl, lh.old 5 rfl⟩) ?_
          refine .cons (owes_move (.tmp 0) (.inl rfl) fun q u lh => ⟨wants_free rfl, lh.old 0 rfl⟩) ?_
          refine .cons (owes_value fun q u lh => ⟨wants_free rfl, .int .i64 n, by have e7 : q.tmps.getD 7 undef = .slice (some ⟨b, off, none⟩) n c := lh.dep 1 rfl; simp [execOp, Act.eval, e7, go_sem], rfl⟩) ?_
          refine .cons (owes_value fun q u lh => ⟨wants_free rfl, .bool true, by have e6 : q.tmps.getD 6 undef = .int .i64 k := lh.dep 0 rfl; have e8 : q.tmps.getD 8 undef = .int .i64 n := lh.dep 2 rfl; simp [execOp, Act.eval, e6, e8, hlt, go_sem], rfl⟩) ?_
          refine .cons (owes_move (.tmp 9) (.inl rfl) fun q u lh => ⟨wants_free rfl, lh.dep 3 rfl⟩) ?_
          refine .cons (owes_move (.tmp 0) (.inl rfl) fun q u lh => ⟨lh.wants1 4 true rfl rfl rfl, lh.old 0 rfl⟩) ?_
          refine .cons (owes_move (.tmp 5) (.inl rfl) fun q u lh => ⟨lh.wants1 4 true rfl rfl rfl, lh.old 5 rfl⟩) ?_
          refine .cons (owes_value fun q u lh => ⟨lh.wants1 4 true rfl rfl rfl, .pointer (some ⟨b, off + k * 7, none⟩), by have e11 : q.tmps.getD 11 undef = .slice (some ⟨b, off, none⟩) n c := lh.dep 5 rfl; have e12 : q.tmps.getD 12 undef = .int .i64 k := lh.dep 6 rfl; simp [execOp, Act.eval, e11, e12, i1, go_sem], rfl⟩) ?_
          refine .cons (owes_value fun q u lh => ⟨lh.wants1 4 true rfl rfl rfl, .agg #[.int .i64 x0, .int .i64 x1, .int .i64 x2, .int .i64 x3, .int .i64 x4, .int .i64 x5, .int .i64 x6], by have e13 : q.tmps.getD 13 undef = .pointer (some ⟨b, off + k * 7, none⟩) := lh.dep 7 rfl; obtain ⟨z0, z1, z2, z3, z4, z5, z6⟩ := C.out.below lh.below; simp [execOp, Act.eval, e13, z0, z1, z2, z3, z4, z5, z6, go_sem], rfl⟩) ?_
          refine .cons (owes_value fun q u lh => ⟨lh.wants1 4 true rfl rfl rfl, .agg #[.int .i64 p0, .int .i64 p1, .int .i64 p2, .int .i64 p3, .int .i64 p4, .int .i64 p5, .int .i64 p6], by have e3 : q.tmps.getD 3 undef = .pointer (some ⟨w.heap.size, 0, none⟩) := lh.old 3 rfl; obtain ⟨z0, z1, z2, z3, z4, z5, z6⟩ := X2.out.below lh.below; simp [execOp, Act.eval, e3, z0, z1, z2, z3, z4, z5, z6, go_sem], rfl⟩) ?_
          refine .cons (owes_call 42 Try.func42 (by kernel_rfl) (by kernel_rfl) [.tmp 14, .tmp 15] #[51, 51] rfl fun q u lh => ⟨lh.wants1 4 true rfl rfl rfl, by have e14 : q.tmps.getD 14 undef = .agg #[.int .i64 x0, .int .i64 x1, .int .i64 x2, .int .i64 x3, .int .i64 x4, .int .i64 x5, .int .i64 x6] := lh.dep 8 rfl; have e15 : q.tmps.getD 15 undef = .agg #[.int .i64 p0, .int .i64 p1, .int .i64 p2, .int .i64 p3, .int .i64 p4, .int .i64 p5, .int .i64 p6] := lh.dep 9 rfl; show Calls Try.prog 42 #[q.tmps.getD 14 undef, q.tmps.getD 15 undef] u _; rw [e14, e15]; exact bool_fact (A'.out u)⟩) ?_
          refine .cons (owes_pick (.tmp 10) (.tmp 16) (.const (.bool false)) rfl fun q u lh => ⟨wants_free rfl, true, lh.dep 4 rfl, lh.dep 10 rfl⟩) ?_
          exact .nil _
        intro q u hb hsz hdf hold hfact
        obtain rfl := frame_puts hsz hdf [6, 7, 8, 9, 10, 11, 12, 13, 14, 15, 16, 17] hold [(6, Value.int .i64 k), (7, Value.slice (some ⟨b, off, none⟩) n c), (8, Value.int .i64 n), (9, Value.bool true), (10, Value.bool true), (11, Value.slice (some ⟨b, off, none⟩) n c), (12, Value.int .i64 k), (13, Value.pointer (some ⟨b, off + k * 7, none⟩)), (14, Value.agg #[.int .i64 x0, .int .i64 x1, .int .i64 x2, .int .i64 x3, .int .i64 x4, .int .i64 x5, .int .i64 x6]), (15, Value.agg #[.int .i64 p0, .int .i64 p1, .int .i64 p2, .int .i64 p3, .int .i64 p4, .int .i64 p5, .int .i64 p6]), (16, Value.bool false), (17, Value.bool false)] ⟨hfact 0 (by decide), hfact 1 (by decide), hfact 2 (by decide), hfact 3 (by decide), hfact 4 (by decide), hfact 5 (by decide), hfact 6 (by decide), hfact 7 (by decide), hfact 8 (by decide), hfact 9 (by decide), hfact 10 (by decide), hfact 11 (by decide), trivial⟩ rfl
        clear hsz hdf hold hfact
        simp only [puts, Act.put, List.setIfInBounds_toArray, List.set_cons_zero, List.set_cons_succ]
        have B4 : Hid (Below w.heap.size w u) := HB1.out.trans ((HB.out.trans (hb.mono HB.out.size)).mono HB1.out.size)
        clear hb C X2
        go_wp2
        go_ret
        exact ⟨rt_int HD.out, B4.out⟩
    · obtain rfl : k = n := by omega
      have HD : Hid ((k : Int) = (qBeh L (p0, p1, p2, p3, p4, p5, p6) : Nat)) := by
        show (k : Int) = _
        rw [beh_of (by have := HN.out; omega) HL.out (fun h => by have := HN.out; omega)]
      have B4 : Hid (∀ q, Below w.heap.size w (wr.drewN q)) := fun q => HB1.out.trans ((HB.out.trans ((drawn_below wr q).mono HB.out.size)).mono HB1.out.size)
      clear H X1
      go_wp2
      go_quiet (fail)
      go_wp2
      go_ret
      exact ⟨rt_int HD.out, B4.out _⟩

set_option maxHeartbeats 4000000 in
theorem refPut_no (a : Option Addr) (n c : Nat) (L : List P7) (p : P7) (w : World) (h : PGood w a n c L) (hm : n ≤ 100000) (hh : qHas L p.id = true ∨ 40 ≤ L.length) :
    Calls Try.prog 28 #[.slice a n c, p.val] w (RPutEnd w (qPut L p) (qPutE L p)) := by
  have F := fun u (hb : Below w.heap.size w u) => refFind_any a n c p.id L u (by omega) (h.below hb).pays
  have hl := h.len
  have r1 := qFind_nn L p.id
  obtain ⟨r, hr⟩ : ∃ r, qFind L p.id = r := ⟨_, rfl⟩
  rw [hr] at r1
  simp only [hr] at F
  cases hq : qHas L p.id with
  | true =>
    rw [(put_has hq).1, (put_has hq).2]
    rw [hq] at r1
    have r2 : 0 ≤ r := of_decide_eq_true r1
    obtain ⟨p0, p1, p2, p3, p4, p5, p6⟩ := p
    have R : Hid (RPutEnd w L 6 (.returned (.tuple #[.slice a n c, .int .i64 6])) (w.alloc (.cells #[.int .i64 p0, .int .i64 p1, .int .i64 p2, .int .i64 p3, .int .i64 p4, .int .i64 p5, .int .i64 p6] 51))) := ⟨a, c, by rw [← hl], by rw [← hl]; exact h.below (box_below _ _), box_below _ _⟩
    have F1 := F _ (box_below w (.cells #[.int .i64 p0, .int .i64 p1, .int .i64 p2, .int .i64 p3, .int .i64 p4, .int .i64 p5, .int .i64 p6] 51))
    clear hq hh r1 hl h hr F
    go_enter Try.func28, Try.ntmps28
    go_wp2_with fail
    go_at_call 41
    refine F1.mono ?_
    rintro e w1 ⟨rfl, hw⟩
    obtain rfl := hw
    clear F1
    go_wp2
    go_ret2
    exact R.out
  | false =>
    have hf : 40 ≤ L.length := by
      rcases hh with hh | hh
      · rw [hq] at hh; cases hh
      · exact hh
    rw [(put_full hq hf).1, (put_full hq hf).2]
    rw [hq] at r1
    have r2 : ¬ 0 ≤ r := of_decide_eq_false r1
    have hn4 : (40 : Int) ≤ (n : Int) := by omega
    obtain ⟨p0, p1, p2, p3, p4, p5, p6⟩ := p
    have R : Hid (RPutEnd w L 3 (.returned (.tuple #[.slice a n c, .int .i64 3])) (w.alloc (.cells #[.int .i64 p0, .int .i64 p1, .int .i64 p2, .int .i64 p3, .int .i64 p4, .int .i64 p5, .int .i64 p6] 51))) := ⟨a, c, by rw [← hl], by rw [← hl]; exact h.below (box_below _ _), box_below _ _⟩
    have F1 := F _ (box_below w (.cells #[.int .i64 p0, .int .i64 p1, .int .i64 p2, .int .i64 p3, .int .i64 p4, .int .i64 p5, .int .i64 p6] 51))
    clear hq hh r1 hl h hr F hf
    go_enter Try.func28, Try.ntmps28
    go_wp2_with fail
    go_at_call 41
    refine F1.mono ?_
    rintro e w1 ⟨rfl, hw⟩
    obtain rfl := hw
    clear F1
    go_wp2
    go_ret2
    exact R.out

set_option maxHeartbeats 4000000 in
set_option maxRecDepth 100000 in
theorem refPut_ins (a : Option Addr) (n c : Nat) (L : List P7) (p : P7) (w : World) (h : PGood w a n c L) (hh : qHas L p.id = false) (hf : L.length < 40) :
    Calls Try.prog 28 #[.slice a n c, p.val] w (RPutEnd w (qPut L p) (qPutE L p)) := by
  have hl := h.len
  have F := fun u (hb : Below w.heap.size w u) => refFind_any a n c p.id L u (by omega) (h.below hb).pays
  have S := fun u (hb : Below w.heap.size w u) => refBehind_any a n c L p u (h.below hb) (by omega)
  have W := fun u (hb : Below w.heap.size w u) => refInsert_any a n c (qBeh L p) L p u (h.below hb) (by omega) (by have := qBeh_le L p; omega)
  unfold RPutEnd
  rw [(put_ins hh hf).1, (put_ins hh hf).2]
  have r1 := qFind_nn L p.id
  rw [hh] at r1
  obtain ⟨r, hr⟩ : ∃ r, qFind L p.id = r := ⟨_, rfl⟩
  rw [hr] at r1
  simp only [hr] at F
  have r2 : ¬ 0 ≤ r := of_decide_eq_false r1
  obtain ⟨k, hk⟩ : ∃ k, qBeh L p = k := ⟨_, rfl⟩
  rw [hk] at S W ⊢
  have hn4 : (n : Int) < (40 : Int) := by omega
  obtain ⟨p0, p1, p2, p3, p4, p5, p6⟩ := p
  obtain ⟨w1, hw1⟩ : ∃ w1, w1 = w.alloc (.cells #[.int .i64 p0, .int .i64 p1, .int .i64 p2, .int .i64 p3, .int .i64 p4, .int .i64 p5, .int .i64 p6] 51) := ⟨_, rfl⟩
  have HB : Hid (Below w.heap.size w w1) := by rw [hw1]; exact box_below _ _
  have HX : Hid (At7 w1 w.heap.size 0 (p0, p1, p2, p3, p4, p5, p6)) := by rw [hw1]; exact At7.new w (p0, p1, p2, p3, p4, p5, p6) _ _
  have F1 := F w1 HB.out
  rw [hw1] at F1
  have HW : Hid (w1 = _) := hw1
  clear hh r1 hl h hr F hf hk hw1
  go_enter Try.func28, Try.ntmps28
  go_wp2_with fail
  go_at_call 41
  refine F1.mono ?_
  rintro e w2 ⟨rfl, hw2⟩
  rw [← HW.out] at hw2
  obtain rfl := hw2.symm
  clear F1 HW
  go_wp2_with fail
  refine region_owes (L := [Fact.is (.slice a n c),
    Fact.is (.slice a n c),
    Fact.is (.agg #[.int .i64 p0, .int .i64 p1, .int .i64 p2, .int .i64 p3, .int .i64 p4, .int .i64 p5, .int .i64 p6]),
    Fact.is (.int .i64 k),
    Fact.is (.agg #[.int .i64 p0, .int .i64 p1, .int .i64 p2, .int .i64 p3, .int .i64 p4, .int .i64 p5, .int .i64 p6]),
    Fact.pnew w.heap.size (qIns L k (p0, p1, p2, p3, p4, p5, p6)),
    Fact.pnew w.heap.size (qIns L k (p0, p1, p2, p3, p4, p5, p6)),
    Fact.is (.int .i64 0)])
    (T := [16, 17, 18, 19, 20, 21, 4, 5]) (by kernel_rfl) (by kernel_rfl) rfl ?owes ?_
  case owes =>
    refine .cons (owes_move (.tmp 0) (.inl rfl) fun q u lh => ⟨wants_free rfl, lh.old 0 rfl⟩) ?_
    refine .cons (owes_move (.tmp 0) (.inl rfl) fun q u lh => ⟨wants_free rfl, lh.old 0 rfl⟩) ?_
    refine .cons (owes_value fun q u lh => ⟨wants_free rfl, .agg #[.int .i64 p0, .int .i64 p1, .int .i64 p2, .int .i64 p3, .int .i64 p4, .int .i64 p5, .int .i64 p6], by have e3 : q.tmps.getD 3 undef = .pointer (some ⟨w.heap.size, 0, none⟩) := lh.old 3 rfl; obtain ⟨z0, z1, z2, z3, z4, z5, z6⟩ := HX.out.below lh.below; simp [execOp, Act.eval, e3, z0, z1, z2, z3, z4, z5, z6, go_sem], rfl⟩) ?_
    refine .cons (owes_call 52 Try.func52 (by kernel_rfl) (by kernel_rfl) [.tmp 17, .tmp 18] #[23, 51] rfl fun q u lh => ⟨wants_free rfl, by have e17 : q.tmps.getD 17 undef = .slice a n c := lh.dep 1 rfl; have e18 : q.tmps.getD 18 undef = .agg #[.int .i64 p0, .int .i64 p1, .int .i64 p2, .int .i64 p3, .int .i64 p4, .int .i64 p5, .int .i64 p6] := lh.dep 2 rfl; show Calls Try.prog 52 #[q.tmps.getD 17 undef, q.tmps.getD 18 undef] u _; rw [e17, e18]; exact int_fact (S u (HB.out.trans (lh.below.mono HB.out.size)))⟩) ?_
    refine .cons (owes_value fun q u lh => ⟨wants_free rfl, .agg #[.int .i64 p0, .int .i64 p1, .int .i64 p2, .int .i64 p3, .int .i64 p4, .int .i64 p5, .int .i64 p6], by have e3 : q.tmps.getD 3 undef = .pointer (some ⟨w.heap.size, 0, none⟩) := lh.old 3 rfl; obtain ⟨z0, z1, z2, z3, z4, z5, z6⟩ := HX.out.below lh.below; simp [execOp, Act.eval, e3, z0, z1, z2, z3, z4, z5, z6, go_sem], rfl⟩) ?_
    refine .cons (owes_call 51 Try.func51 (by kernel_rfl) (by kernel_rfl) [.tmp 16, .tmp 19, .tmp 20] #[23, 3, 51] rfl fun q u lh => ⟨wants_free rfl, by have e16 : q.tmps.getD 16 undef = .slice a n c := lh.dep 0 rfl; have e19 : q.tmps.getD 19 undef = .int .i64 k := lh.dep 3 rfl; have e20 : q.tmps.getD 20 undef = .agg #[.int .i64 p0, .int .i64 p1, .int .i64 p2, .int .i64 p3, .int .i64 p4, .int .i64 p5, .int .i64 p6] := lh.dep 4 rfl; show Calls Try.prog 51 #[q.tmps.getD 16 undef, q.tmps.getD 19 undef, q.tmps.getD 20 undef] u _; rw [e16, e19, e20]; exact pend_fact (Nat.le_trans HB.out.size lh.below.size) (W u (HB.out.trans (lh.below.mono HB.out.size)))⟩) ?_
    refine .cons (owes_move (.tmp 21) (.inr rfl) fun q u lh => ⟨wants_free rfl, lh.dep 5 rfl⟩) ?_
    refine .cons (owes_value fun q u lh => ⟨wants_free rfl, .int .i64 0, by simp [execOp, Act.eval, go_sem], rfl⟩) ?_
    exact .nil _
  intro q u hb hsz hdf hold hfact
  obtain ⟨v21, e21⟩ : ∃ v, q.tmps.getD 21 undef = v := ⟨_, rfl⟩
  have f21 : (Fact.pnew w.heap.size (qIns L k (p0, p1, p2, p3, p4, p5, p6))).1 u v21 := by rw [← e21]; exact hfact 5 (by decide)
  obtain ⟨a4, m4, e4, g4, n4⟩ : (Fact.pnew w.heap.size (qIns L k (p0, p1, p2, p3, p4, p5, p6))).1 u (q.tmps.getD 4 undef) := hfact 6 (by decide)
  obtain rfl := frame_puts hsz hdf [16, 17, 18, 19, 20, 21, 4, 5] hold [(16, Value.slice a n c), (17, Value.slice a n c), (18, Value.agg #[.int .i64 p0, .int .i64 p1, .int .i64 p2, .int .i64 p3, .int .i64 p4, .int .i64 p5, .int .i64 p6]), (19, Value.int .i64 k), (20, Value.agg #[.int .i64 p0, .int .i64 p1, .int .i64 p2, .int .i64 p3, .int .i64 p4, .int .i64 p5, .int .i64 p6]), (21, v21), (4, Value.slice a4 (qIns L k (p0, p1, p2, p3, p4, p5, p6)).length m4), (5, Value.int .i64 0)] ⟨hfact 0 (by decide), hfact 1 (by decide), hfact 2 (by decide), hfact 3 (by decide), hfact 4 (by decide), e21, e4, hfact 7 (by decide), trivial⟩ rfl
  clear hsz hdf hold hfact
  simp only [puts, Act.put, List.setIfInBounds_toArray, List.set_cons_zero, List.set_cons_succ]
  have B3 : Hid (Below w.heap.size w u) := HB.out.trans (hb.mono HB.out.size)
  clear hb S W HX HB
  go_wp2
  go_ret2
  exact ⟨a4, m4, rfl, g4, B3.out⟩

theorem refPut_any (a : Option Addr) (n c : Nat) (L : List P7) (p : P7) (w : World) (h : PGood w a n c L) (hm : n ≤ 100000) :
    Calls Try.prog 28 #[.slice a n c, p.val] w (RPutEnd w (qPut L p) (qPutE L p)) := by
  cases hh : qHas L p.id with
  | true => exact refPut_no a n c L p w h hm (.inl hh)
  | false =>
    by_cases hf : 40 ≤ L.length
    · exact refPut_no a n c L p w h hm (.inr hf)
    · exact refPut_ins a n c L p w h hh (by omega)




end Go.Proofs.Ytlackjldopeigaa

/-
  row.Is.
-/
namespace Go.Proofs.Ytlackjldopeigaa
open Go.RowKit
set_option linter.unusedVariables false
set_option linter.unusedSimpArgs false

theorem qIs_long {L : List P7} (h : 40 < L.length) : false = qIs L := by
  symm
  apply qIs_no
  intro hq
  have := hq.1
  omega
theorem qIs_bad {L : List P7} (h : ¬ L.Pairwise QR) : false = qIs L := by
  symm
  apply qIs_no
  intro hq
  exact h hq.2
theorem qIs_all {L : List P7} {k : Nat} (hk : k = L.length) (h : (L.take k).Pairwise QR) (h4 : L.length ≤ 40) : true = qIs L := by
  rw [hk, List.take_length] at h
  exact (qIs_iff.2 ⟨h4, h⟩).symm


end Go.Proofs.Ytlackjldopeigaa

/-
  giroref13.Is.
-/
namespace Go.Proofs.Ytlackjldopeigaa
open Go.RowKit
set_option linter.unusedVariables false
set_option linter.unusedSimpArgs false

theorem qIs_end {L : List P7} {k : Nat} (hk : k = L.length) (h : (L.take k).Pairwise QR) : decide ((k : Int) ≤ 40) = qIs L := by
  rw [hk, List.take_length] at h
  subst hk
  unfold qIs
  rw [qOk_iff.2 h, Bool.and_true, Bool.eq_iff_iff, decide_eq_true_eq, decide_eq_true_eq]
  omega

theorem refIs_none (a : Option Addr) (c : Nat) (w : World) : Calls Try.prog 18 #[.slice a 0 c] w fun e w' => e = .returned (.bool true) ∧ w' = w := by
  go_enter Try.func18, Try.ntmps18
  go_wp2
  refine wp_loop_rounds 1 ?_
  rw [rounds_succ]
  go_wp2
  go_ret
  exact ⟨rfl, rfl⟩

set_option maxHeartbeats 4000000 in
set_option maxRecDepth 100000 in
theorem refIs_row (b off n c : Nat) (L : List P7) (w : World) (h4 : n ≤ 9223372036854775807) (hg : PGood w (some ⟨b, off, none⟩) n c L) (hc : ∀ i, i < n → At7 w b (off + i * 7) (L.getD i p70)) :
    Calls Try.prog 18 #[.slice (some ⟨b, off, none⟩) n c] w fun e w' => e = .returned (.bool (qIs L)) ∧ Below w.heap.size w w' := by
  have HC : Hid (∀ i, i < n → At7 w b (off + i * 7) (L.getD i p70)) := hc
  have HN : Hid (n = L.length) := hg.len
  have HP : Hid (PGood w (some ⟨b, off, none⟩) n c L) := hg
  clear hc hg
  go_enter Try.func18, Try.ntmps18
  go_wp2
  go_loopw [3] (fun i wr => ∃ k : Nat, k ≤ n ∧ i = .int .i64 k ∧ Hid ((L.take k).Pairwise QR) ∧ Hid (Below w.heap.size w wr)) (fun i _ => n - (intOf i).toNat)
  case atStart => exact ⟨0, by omega, rfl, by simp [Hid], Below.refl _ _⟩
  case round =>
    obtain ⟨k, hk, rfl, HQ, HB⟩ := hrel
    by_cases hlt : k < n
    · have i1 : (k : Int) < (n : Int) := by omega
      have HK : Hid (k < L.length) := by have := HN.out; show k < L.length; omega
      have C0 := (HC.out k hlt).below HB.out
      obtain ⟨x, hx⟩ : ∃ x, L.getD k p70 = x := ⟨_, rfl⟩
      rw [hx] at C0
      have HX : Hid (L.getD k p70 = x) := hx
      have hff := find_first HK.out
      rw [hx] at hff
      clear hx
      obtain ⟨x0, x1, x2, x3, x4, x5, x6⟩ := x
      have C : Hid (At7 wr b (off + k * 7) (x0, x1, x2, x3, x4, x5, x6)) := C0
      have F0 := fun u (hb : Below w.heap.size w u) => refFind_any (some ⟨b, off, none⟩) n c x0 L u (by omega) (HP.out.below hb).pays
      obtain ⟨r, hr⟩ : ∃ r, qFind L x0 = r := ⟨_, rfl⟩
      simp only [hr] at F0
      rw [show P7.id (x0, x1, x2, x3, x4, x5, x6) = x0 from rfl, hr] at hff
      clear hr
      cases hd : qHas (L.take k) x0 with
      | true =>
        have HS : Hid (false = qIs L) := qIs_bad (pw_no_id HK.out (by rw [HX.out]; exact hd))
        rw [hd] at hff
        have rk : (r != (k : Int)) = true := hff
        have rk2 : ¬ r = (k : Int) := by simpa using hff
        have F1 := fun q => F0 (wr.drewN q) (HB.out.trans ((drawn_below wr q).mono HB.out.size))
        have B4 : Hid (∀ q, Below w.heap.size w (wr.drewN q)) := fun q => HB.out.trans ((drawn_below wr q).mono HB.out.size)
        obtain ⟨z0, z1, z2, z3, z4, z5, z6⟩ := C0
        simp only [P7.id, P7.fr, P7.to, P7.am, P7.cl, P7.st, P7.ti] at z0 z1 z2 z3 z4 z5 z6
        clear hff hd F0
        go_wp2
        go_quiet ((go_at_call 41; exact Calls.quiet_of_same (F1 _)))
        go_wp2
        go_ret
        exact ⟨rt_bool HS.out, B4.out _⟩
      | false =>
        have HD : Hid (qHas (L.take k) (L.getD k p70).id = false) := by rw [HX.out]; exact hd
        rw [hd] at hff
        obtain rfl : r = (k : Int) := by simpa using hff
        have F : Hid (∀ u, Below w.heap.size w u → Calls Try.prog 41 #[.slice (some ⟨b, off, none⟩) n c, .int .i64 x0] u fun e w' => e = .returned (.int .i64 k) ∧ w' = u) := F0
        clear hff hd F0
        by_cases hk0 : k = 0
        · have HS : Hid ((L.take (k + 1)).Pairwise QR) := pw_step HK.out HQ.out HD.out (fun h => by omega)
          have kd : decide (0 < k) = false := by simp [hk0]
          have F1 := fun q => F.out (wr.drewN q) (HB.out.trans ((drawn_below wr q).mono HB.out.size))
          have B4 : Hid (∀ q, Below w.heap.size w (wr.drewN q)) := fun q => HB.out.trans ((drawn_below wr q).mono HB.out.size)
          obtain ⟨z0, z1, z2, z3, z4, z5, z6⟩ := C0
          simp only [P7.id, P7.fr, P7.to, P7.am, P7.cl, P7.st, P7.ti] at z0 z1 z2 z3 z4 z5 z6
          clear hk0 F
          go_wp2
          go_quiet ((go_at_call 41; exact Calls.quiet_of_same (F1 _)))
          go_wp2
          go_roundw
          case rel => exact ⟨k + 1, by omega, by go_num, HS.out, B4.out _⟩
          case measure => simp [intOf]; omega
        · have kn : 0 < k := by omega
          obtain ⟨m, hm⟩ : ∃ m, m + 1 = k := ⟨k - 1, by omega⟩
          have KM : Hid ((k : Int) - 1 = m) := by show (k : Int) - 1 = m; omega
          have mp : (m : Int) < (n : Int) := by omega
          have Y0 := (HC.out m (by omega)).below HB.out
          obtain ⟨y, hy⟩ : ∃ y, L.getD m p70 = y := ⟨_, rfl⟩
          rw [hy] at Y0
          have HY : Hid (L.getD (k - 1) p70 = y) := by show _ = _; rw [show k - 1 = m by omega]; exact hy
          obtain ⟨y0, y1, y2, y3, y4, y5, y6⟩ := y
          have Y : Hid (At7 wr b (off + m * 7) (y0, y1, y2, y3, y4, y5, y6)) := Y0
          have HM : Hid (m + 1 = k) := hm
          have A0 := fun u => refAhead_any (y0, y1, y2, y3, y4, y5, y6) (x0, x1, x2, x3, x4, x5, x6) u
          clear hy Y0 hm hk0 C0
          cases hle : qLe (y0, y1, y2, y3, y4, y5, y6) (x0, x1, x2, x3, x4, x5, x6) with
          | true =>
            have HS : Hid ((L.take (k + 1)).Pairwise QR) := pw_step HK.out HQ.out HD.out (fun h => by rw [HY.out, HX.out]; exact hle)
            simp only [hle] at A0
            have A : Hid (∀ u, Calls Try.prog 42 #[P7.val (y0, y1, y2, y3, y4, y5, y6), P7.val (x0, x1, x2, x3, x4, x5, x6)] u fun e w' => e = .returned (.bool true) ∧ Below u.heap.size u w') := A0
            clear A0 hle
            go_wp2_with fail
            refine region_owes (L := [Fact.is (.slice (some ⟨b, off, none⟩) n c),
              Fact.is (.slice (some ⟨b, off, none⟩) n c),
              Fact.is (.int .i64 k),
              Fact.is (.pointer (some ⟨b, off + k * 7, none⟩)),
              Fact.is (.pointer (some ⟨b, off + k * 7, none⟩)),
              Fact.is (.int .i64 x0),
              Fact.is (.int .i64 k),
              Fact.is (.int .i64 k),
              Fact.is (.bool false),
              Fact.is (.bool false),
              Fact.is (.int .i64 k),
              Fact.is (.bool true),
              Fact.is (.bool true),
              Fact.is (.slice (some ⟨b, off, none⟩) n c),
              Fact.is (.int .i64 k),
              Fact.is (.int .i64 m),
              Fact.is (.pointer (some ⟨b, off + m * 7, none⟩)),
              Fact.is (.agg #[.int .i64 y0, .int .i64 y1, .int .i64 y2, .int .i64 y3, .int .i64 y4, .int .i64 y5, .int .i64 y6]),
              Fact.is (.slice (some ⟨b, off, none⟩) n c),
              Fact.is (.int .i64 k),
              Fact.is (.pointer (some ⟨b, off + k * 7, none⟩)),
              Fact.is (.agg #[.int .i64 x0, .int .i64 x1, .int .i64 x2, .int .i64 x3, .int .i64 x4, .int .i64 x5, .int .i64 x6]),
              Fact.is (.bool true),
              Fact.is (.bool false),
              Fact.is (.bool false),
              Fact.is (.bool false)])
              (T := [10, 11, 12, 13, 14, 15, 16, 17, 18, 19, 20, 21, 22, 23, 24, 25, 26, 27, 28, 29, 30, 31, 32, 33, 34, 35]) (by kernel_rfl) (by kernel_rfl) rfl ?owes ?_
            case owes =>
              refine .cons (owes_move (.tmp 0) (.inl rfl) fun q u lh => ⟨wants_free rfl, lh.old 0 rfl⟩) ?_
              refine .cons (owes_move (.tmp 0) (.inl rfl) fun q u lh => ⟨wants_free rfl, lh.old 0 rfl⟩) ?_
              refine .cons (owes_move (.tmp 3) (.inl rfl) fun q u lh => ⟨wants_free rfl, lh.old 3 rfl⟩) ?_
              refine .cons (owes_value fun q u lh => ⟨wants_free rfl, .pointer (some ⟨b, off + k * 7, none⟩), by have e11 : q.tmps.getD 11 undef = .slice (some ⟨b, off, none⟩) n c := lh.dep 1 rfl; have e12 : q.tmps.getD 12 undef = .int .i64 k := lh.dep 2 rfl; simp [execOp, Act.eval, e11, e12, i1, go_sem], rfl⟩) ?_
              refine .cons (owes_value fun q u lh => ⟨wants_free rfl, .pointer (some ⟨b, off + k * 7, none⟩), by have e13 : q.tmps.getD 13 undef = .pointer (some ⟨b, off + k * 7, none⟩) := lh.dep 3 rfl; simp [execOp, Act.eval, e13, go_sem], rfl⟩) ?_
              refine .cons (owes_value fun q u lh => ⟨wants_free rfl, .int .i64 x0, by have e14 : q.tmps.getD 14 undef = .pointer (some ⟨b, off + k * 7, none⟩) := lh.dep 4 rfl; obtain ⟨z0, z1, z2, z3, z4, z5, z6⟩ := C.out.below lh.below; simp [execOp, Act.eval, e14, z0, go_sem], rfl⟩) ?_
              refine .cons (owes_call 41 Try.func41 (by kernel_rfl) (by kernel_rfl) [.tmp 10, .tmp 15] #[23, 2] rfl fun q u lh => ⟨wants_free rfl, by have e10 : q.tmps.getD 10 undef = .slice (some ⟨b, off, none⟩) n c := lh.dep 0 rfl; have e15 : q.tmps.getD 15 undef = .int .i64 x0 := lh.dep 5 rfl; show Calls Try.prog 41 #[q.tmps.getD 10 undef, q.tmps.getD 15 undef] u _; rw [e10, e15]; exact int_fact ((F.out u (HB.out.trans (lh.below.mono HB.out.size))).mono fun e w' ⟨h1, h2⟩ => ⟨h1, h2 ▸ Below.refl _ _⟩)⟩) ?_
              refine .cons (owes_move (.tmp 3) (.inl rfl) fun q u lh => ⟨wants_free rfl, lh.old 3 rfl⟩) ?_
              refine .cons (owes_value fun q u lh => ⟨wants_free rfl, .bool false, by have e16 : q.tmps.getD 16 undef = .int .i64 k := lh.dep 6 rfl; have e17 : q.tmps.getD 17 undef = .int .i64 k := lh.dep 7 rfl; simp [execOp, Act.eval, e16, e17, go_sem], rfl⟩) ?_
              refine .cons (owes_move (.tmp 18) (.inl rfl) fun q u lh => ⟨wants_free rfl, lh.dep 8 rfl⟩) ?_
              refine .cons (owes_move (.tmp 3) (.inl rfl) fun q u lh => ⟨lh.wants1 9 false rfl rfl rfl, lh.old 3 rfl⟩) ?_
              refine .cons (owes_value fun q u lh => ⟨lh.wants1 9 false rfl rfl rfl, .bool true, by have e20 : q.tmps.getD 20 undef = .int .i64 k := lh.dep 10 rfl; simp [execOp, Act.eval, e20, kn, go_sem], rfl⟩) ?_
              refine .cons (owes_move (.tmp 21) (.inl rfl) fun q u lh => ⟨lh.wants1 9 false rfl rfl rfl, lh.dep 11 rfl⟩) ?_
              refine .cons (owes_move (.tmp 0) (.inl rfl) fun q u lh => ⟨lh.wants1 12 true rfl rfl rfl, lh.old 0 rfl⟩) ?_
              refine .cons (owes_move (.tmp 3) (.inl rfl) fun q u lh => ⟨lh.wants1 12 true rfl rfl rfl, lh.old 3 rfl⟩) ?_
              refine .cons (owes_value fun q u lh => ⟨lh.wants1 12 true rfl rfl rfl, .int .i64 m, by have e24 : q.tmps.getD 24 undef = .int .i64 k := lh.dep 14 rfl; have z1 : IntKind.i64.wrap ((k : Int) - 1) = m := (by rw [KM.out]; exact i64_wf (by omega) (by omega)); simp [execOp, Act.eval, e24, z1, go_sem], rfl⟩) ?_
              refine .cons (owes_value fun q u lh => ⟨lh.wants1 12 true rfl rfl rfl, .pointer (some ⟨b, off + m * 7, none⟩), by have e23 : q.tmps.getD 23 undef = .slice (some ⟨b, off, none⟩) n c := lh.dep 13 rfl; have e25 : q.tmps.getD 25 undef = .int .i64 m := lh.dep 15 rfl; simp [execOp, Act.eval, e23, e25, mp, go_sem], rfl⟩) ?_
              refine .cons (owes_value fun q u lh => ⟨lh.wants1 12 true rfl rfl rfl, .agg #[.int .i64 y0, .int .i64 y1, .int .i64 y2, .int .i64 y3, .int .i64 y4, .int .i64 y5, .int .i64 y6], by have e26 : q.tmps.getD 26 undef = .pointer (some ⟨b, off + m * 7, none⟩) := lh.dep 16 rfl; obtain ⟨z0, z1, z2, z3, z4, z5, z6⟩ := Y.out.below lh.below; simp [execOp, Act.eval, e26, z0, z1, z2, z3, z4, z5, z6, go_sem], rfl⟩) ?_
              refine .cons (owes_move (.tmp 0) (.inl rfl) fun q u lh => ⟨lh.wants1 12 true rfl rfl rfl, lh.old 0 rfl⟩) ?_
              refine .cons (owes_move (.tmp 3) (.inl rfl) fun q u lh => ⟨lh.wants1 12 true rfl rfl rfl, lh.old 3 rfl⟩) ?_
              refine .cons (owes_value fun q u lh => ⟨lh.wants1 12 true rfl rfl rfl, .pointer (some ⟨b, off + k * 7, none⟩), by have e28 : q.tmps.getD 28 undef = .slice (some ⟨b, off, none⟩) n c := lh.dep 18 rfl; have e29 : q.tmps.getD 29 undef = .int .i64 k := lh.dep 19 rfl; simp [execOp, Act.eval, e28, e29, i1, go_sem], rfl⟩) ?_
              refine .cons (owes_value fun q u lh => ⟨lh.wants1 12 true rfl rfl rfl, .agg #[.int .i64 x0, .int .i64 x1, .int .i64 x2, .int .i64 x3, .int .i64 x4, .int .i64 x5, .int .i64 x6], by have e30 : q.tmps.getD 30 undef = .pointer (some ⟨b, off + k * 7, none⟩) := lh.dep 20 rfl; obtain ⟨z0, z1, z2, z3, z4, z5, z6⟩ := C.out.below lh.below; simp [execOp, Act.eval, e30, z0, z1, z2, z3, z4, z5, z6, go_sem], rfl⟩) ?_
              refine .cons (owes_call 42 Try.func42 (by kernel_rfl) (by kernel_rfl) [.tmp 27, .tmp 31] #[51, 51] rfl fun q u lh => ⟨lh.wants1 12 true rfl rfl rfl, by have e27 : q.tmps.getD 27 undef = .agg #[.int .i64 y0, .int .i64 y1, .int .i64 y2, .int .i64 y3, .int .i64 y4, .int .i64 y5, .int .i64 y6] := lh.dep 17 rfl; have e31 : q.tmps.getD 31 undef = .agg #[.int .i64 x0, .int .i64 x1, .int .i64 x2, .int .i64 x3, .int .i64 x4, .int .i64 x5, .int .i64 x6] := lh.dep 21 rfl; show Calls Try.prog 42 #[q.tmps.getD 27 undef, q.tmps.getD 31 undef] u _; rw [e27, e31]; exact bool_fact (A.out u)⟩) ?_
              refine .cons (owes_value fun q u lh => ⟨lh.wants1 12 true rfl rfl rfl, .bool false, by have e32 : q.tmps.getD 32 undef = .bool true := lh.dep 22 rfl; simp [execOp, Act.eval, e32, go_sem], rfl⟩) ?_
              refine .cons (owes_pick (.tmp 22) (.tmp 33) (.const (.bool false)) rfl fun q u lh => ⟨lh.wants1 9 false rfl rfl rfl, true, lh.dep 12 rfl, lh.dep 23 rfl⟩) ?_
              refine .cons (owes_pick (.tmp 19) (.const (.bool true)) (.tmp 34) rfl fun q u lh => ⟨wants_free rfl, false, lh.dep 9 rfl, lh.dep 24 rfl⟩) ?_
              exact .nil _
            intro q u hb hsz hdf hold hfact
            obtain rfl := frame_puts hsz hdf [10, 11, 12, 13, 14, 15, 16, 17, 18, 19, 20, 21, 22, 23, 24, 25, 26, 27, 28, 29, 30, 31, 32, 33, 34, 35] hold [(10, Value.slice (some ⟨b, off, none⟩) n c), (11, Value.slice (some ⟨b, off, none⟩) n c), (12, Value.int .i64 k), (13, Value.pointer (some ⟨b, off + k * 7, none⟩)), (14, Value.pointer (some ⟨b, off + k * 7, none⟩)), (15, Value.int .i64 x0), (16, Value.int .i64 k), (17, Value.int .i64 k), (18, Value.bool false), (19, Value.bool false), (20, Value.int .i64 k), (21, Value.bool true), (22, Value.bool true), (23, Value.slice (some ⟨b, off, none⟩) n c), (24, Value.int .i64 k), (25, Value.int .i64 m), (26, Value.pointer (some ⟨b, off + m * 7, none⟩)), (27, Value.agg #[.int .i64 y0, .int .i64 y1, .int .i64 y2, .int .i64 y3, .int .i64 y4, .int .i64 y5, .int .i64 y6]), (28, Value.slice (some ⟨b, off, none⟩) n c), (29, Value.int .i64 k), (30, Value.pointer (some ⟨b, off + k * 7, none⟩)), (31, Value.agg #[.int .i64 x0, .int .i64 x1, .int .i64 x2, .int .i64 x3, .int .i64 x4, .int .i64 x5, .int .i64 x6]), (32, Value.bool true), (33, Value.bool false), (34, Value.bool false), (35, Value.bool false)] ⟨hfact 0 (by decide), hfact 1 (by decide), hfact 2 (by decide), hfact 3 (by decide), hfact 4 (by decide), hfact 5 (by decide), hfact 6 (by decide), hfact 7 (by decide), hfact 8 (by decide), hfact 9 (by decide), hfact 10 (by decide), hfact 11 (by decide), hfact 12 (by decide), hfact 13 (by decide), hfact 14 (by decide), hfact 15 (by decide), hfact 16 (by decide), hfact 17 (by decide), hfact 18 (by decide), hfact 19 (by decide), hfact 20 (by decide), hfact 21 (by decide), hfact 22 (by decide), hfact 23 (by decide), hfact 24 (by decide), hfact 25 (by decide), trivial⟩ rfl
            clear hsz hdf hold hfact
            simp only [puts, Act.put, List.setIfInBounds_toArray, List.set_cons_zero, List.set_cons_succ]
            have B4 : Hid (Below w.heap.size w u) := HB.out.trans (hb.mono HB.out.size)
            clear hb
            go_wp2
            go_roundw
            case rel => exact ⟨k + 1, by omega, by go_num, HS.out, B4⟩
            case measure => simp [intOf]; omega
          | false =>
            have HS : Hid (false = qIs L) := qIs_bad (pw_no_le (k := k) (by have := HM.out; omega) HK.out (by rw [HY.out, HX.out]; exact hle))
            simp only [hle] at A0
            have A : Hid (∀ u, Calls Try.prog 42 #[P7.val (y0, y1, y2, y3, y4, y5, y6), P7.val (x0, x1, x2, x3, x4, x5, x6)] u fun e w' => e = .returned (.bool false) ∧ Below u.heap.size u w') := A0
            clear A0 hle
            go_wp2_with fail
            refine region_owes (L := [Fact.is (.slice (some ⟨b, off, none⟩) n c),
              Fact.is (.slice (some ⟨b, off, none⟩) n c),
              Fact.is (.int .i64 k),
              Fact.is (.pointer (some ⟨b, off + k * 7, none⟩)),
              Fact.is (.pointer (some ⟨b, off + k * 7, none⟩)),
              Fact.is (.int .i64 x0),
              Fact.is (.int .i64 k),
              Fact.is (.int .i64 k),
              Fact.is (.bool false),
              Fact.is (.bool false),
              Fact.is (.int .i64 k),
              Fact.is (.bool true),
              Fact.is (.bool true),
              Fact.is (.slice (some ⟨b, off, none⟩) n c),
              Fact.is (.int .i64 k),
              Fact.is (.int .i64 m),
              Fact.is (.pointer (some ⟨b, off + m * 7, none⟩)),
              Fact.is (.agg #[.int .i64 y0, .int .i64 y1, .int .i64 y2, .int .i64 y3, .int .i64 y4, .int .i64 y5, .int .i64 y6]),
              Fact.is (.slice (some ⟨b, off, none⟩) n c),
              Fact.is (.int .i64 k),
              Fact.is (.pointer (some ⟨b, off + k * 7, none⟩)),
              Fact.is (.agg #[.int .i64 x0, .int .i64 x1, .int .i64 x2, .int .i64 x3, .int .i64 x4, .int .i64 x5, .int .i64 x6]),
              Fact.is (.bool false),
              Fact.is (.bool true),
              Fact.is (.bool true),
              Fact.is (.bool true)])
              (T := [10, 11, 12, 13, 14, 15, 16, 17, 18, 19, 20, 21, 22, 23, 24, 25, 26, 27, 28, 29, 30, 31, 32, 33, 34, 35]) (by kernel_rfl) (by kernel_rfl) rfl ?owes ?_
            case owes =>
              refine .cons (owes_move (.tmp 0) (.inl rfl) fun q u lh => ⟨wants_free rfl, lh.old 0 rfl⟩) ?_
              refine .cons (owes_move (.tmp 0) (.inl rfl) fun q u lh => ⟨wants_free rfl, lh.old 0 rfl⟩) ?_
              refine .cons (owes_move (.tmp 3) (.inl rfl) fun q u lh => ⟨wants_free rfl, lh.old 3 rfl⟩) ?_
              refine .cons (owes_value fun q u lh => ⟨wants_free rfl, .pointer (some ⟨b, off + k * 7, none⟩), by have e11 : q.tmps.getD 11 undef = .slice (some ⟨b, off, none⟩) n c := lh.dep 1 rfl; have e12 : q.tmps.getD 12 undef = .int .i64 k := lh.dep 2 rfl; simp [execOp, Act.eval, e11, e12, i1, go_sem], rfl⟩) ?_
              refine .cons (owes_value fun q u lh => ⟨wants_free rfl, .pointer (some ⟨b, off + k * 7, none⟩), by have e13 : q.tmps.getD 13 undef = .pointer (some ⟨b, off + k * 7, none⟩) := lh.dep 3 rfl; simp [execOp, Act.eval, e13, go_sem], rfl⟩) ?_
              refine .cons (owes_value fun q u lh => ⟨wants_free rfl, .int .i64 x0, by have e14 : q.tmps.getD 14 undef = .pointer (some ⟨b, off + k * 7, none⟩) := lh.dep 4 rfl; obtain ⟨z0, z1, z2, z3, z4, z5, z6⟩ := C.out.below lh.below; simp [execOp, Act.eval, e14, z0, go_sem], rfl⟩) ?_
              refine .cons (owes_call 41 Try.func41 (by kernel_rfl) (by kernel_rfl) [.tmp 10, .tmp 15] #[23, 2] rfl fun q u lh => ⟨wants_free rfl, by have e10 : q.tmps.getD 10 undef = .slice (some ⟨b, off, none⟩) n c := lh.dep 0 rfl; have e15 : q.tmps.getD 15 undef = .int .i64 x0 := lh.dep 5 rfl; show Calls Try.prog 41 #[q.tmps.getD 10 undef, q.tmps.getD 15 undef] u _; rw [e10, e15]; exact int_fact ((F.out u (HB.out.trans (lh.below.mono HB.out.size))).mono fun e w' ⟨h1, h2⟩ => ⟨h1, h2 ▸ Below.refl _ _⟩)⟩) ?_
              refine .cons (owes_move (.tmp 3) (.inl rfl) fun q u lh => ⟨wants_free rfl, lh.old 3 rfl⟩) ?_
              refine .cons (owes_value fun q u lh => ⟨wants_free rfl, .bool false, by have e16 : q.tmps.getD 16 undef = .int .i64 k := lh.dep 6 rfl; have e17 : q.tmps.getD 17 undef = .int .i64 k := lh.dep 7 rfl; simp [execOp, Act.eval, e16, e17, go_sem], rfl⟩) ?_
              refine .cons (owes_move (.tmp 18) (.inl rfl) fun q u lh => ⟨wants_free rfl, lh.dep 8 rfl⟩) ?_
              refine .cons (owes_move (.tmp 3) (.inl rfl) fun q u lh => ⟨lh.wants1 9 false rfl rfl rfl, lh.old 3 rfl⟩) ?_
              refine .cons (owes_value fun q u lh => ⟨lh.wants1 9 false rfl rfl rfl, .bool true, by have e20 : q.tmps.getD 20 undef = .int .i64 k := lh.dep 10 rfl; simp [execOp, Act.eval, e20, kn, go_sem], rfl⟩) ?_
              refine .cons (owes_move (.tmp 21) (.inl rfl) fun q u lh => ⟨lh.wants1 9 false rfl rfl rfl, lh.dep 11 rfl⟩) ?_
              refine .cons (owes_move (.tmp 0) (.inl rfl) fun q u lh => ⟨lh.wants1 12 true rfl rfl rfl, lh.old 0 rfl⟩) ?_
              refine .cons (owes_move (.tmp 3) (.inl rfl) fun q u lh => ⟨lh.wants1 12 true rfl rfl rfl, lh.old 3 rfl⟩) ?_
              refine .cons (owes_value fun q u lh => ⟨lh.wants1 12 true rfl rfl rfl, .int .i64 m, by have e24 : q.tmps.getD 24 undef = .int .i64 k := lh.dep 14 rfl; have z1 : IntKind.i64.wrap ((k : Int) - 1) = m := (by rw [KM.out]; exact i64_wf (by omega) (by omega)); simp [execOp, Act.eval, e24, z1, go_sem], rfl⟩) ?_
              refine .cons (owes_value fun q u lh => ⟨lh.wants1 12 true rfl rfl rfl, .pointer (some ⟨b, off + m * 7, none⟩), by have e23 : q.tmps.getD 23 undef = .slice (some ⟨b, off, none⟩) n c := lh.dep 13 rfl; have e25 : q.tmps.getD 25 undef = .int .i64 m := lh.dep 15 rfl; simp [execOp, Act.eval, e23, e25, mp, go_sem], rfl⟩) ?_
              refine .cons (owes_value fun q u lh => ⟨lh.wants1 12 true rfl rfl rfl, .agg #[.int .i64 y0, .int .i64 y1, .int .i64 y2, .int .i64 y3, .int .i64 y4, .int .i64 y5, .int .i64 y6], by have e26 : q.tmps.getD 26 undef = .pointer (some ⟨b, off + m * 7, none⟩) := lh.dep 16 rfl; obtain ⟨z0, z1, z2, z3, z4, z5, z6⟩ := Y.out.below lh.below; simp [execOp, Act.eval, e26, z0, z1, z2, z3, z4, z5, z6, go_sem], rfl⟩) ?_
              refine .cons (owes_move (.tmp 0) (.inl rfl) fun q u lh => ⟨lh.wants1 12 true rfl rfl rfl, lh.old 0 rfl⟩) ?_
              refine .cons (owes_move (.tmp 3) (.inl rfl) fun q u lh => ⟨lh.wants1 12 true rfl rfl rfl, lh.old 3 rfl⟩) ?_
              refine .cons (owes_value fun q u lh => ⟨lh.wants1 12 true rfl rfl rfl, .pointer (some ⟨b, off + k * 7, none⟩), by have e28 : q.tmps.getD 28 undef = .slice (some ⟨b, off, none⟩) n c := lh.dep 18 rfl; have e29 : q.tmps.getD 29 undef = .int .i64 k := lh.dep 19 rfl; simp [execOp, Act.eval, e28, e29, i1, go_sem], rfl⟩) ?_
              refine .cons (owes_value fun q u lh => ⟨lh.wants1 12 true rfl rfl rfl, .agg #[.int .i64 x0, .int .i64 x1, .int .i64 x2, .int .i64 x3, .int .i64 x4, .int .i64 x5, .int .i64 x6], by have e30 : q.tmps.getD 30 undef = .pointer (some ⟨b, off + k * 7, none⟩) := lh.dep 20 rfl; obtain ⟨z0, z1, z2, z3, z4, z5, z6⟩ := C.out.below lh.below; simp [execOp, Act.eval, e30, z0, z1, z2, z3, z4, z5, z6, go_sem], rfl⟩) ?_
              refine .cons (owes_call 42 Try.func42 (by kernel_rfl) (by kernel_rfl) [.tmp 27, .tmp 31] #[51, 51] rfl fun q u lh => ⟨lh.wants1 12 true rfl rfl rfl, by have e27 : q.tmps.getD 27 undef = .agg #[.int .i64 y0, .int .i64 y1, .int .i64 y2, .int .i64 y3, .int .i64 y4, .int .i64 y5, .int .i64 y6] := lh.dep 17 rfl; have e31 : q.tmps.getD 31 undef = .agg #[.int .i64 x0, .int .i64 x1, .int .i64 x2, .int .i64 x3, .int .i64 x4, .int .i64 x5, .int .i64 x6] := lh.dep 21 rfl; show Calls Try.prog 42 #[q.tmps.getD 27 undef, q.tmps.getD 31 undef] u _; rw [e27, e31]; exact bool_fact (A.out u)⟩) ?_
              refine .cons (owes_value fun q u lh => ⟨lh.wants1 12 true rfl rfl rfl, .bool true, by have e32 : q.tmps.getD 32 undef = .bool false := lh.dep 22 rfl; simp [execOp, Act.eval, e32, go_sem], rfl⟩) ?_
              refine .cons (owes_pick (.tmp 22) (.tmp 33) (.const (.bool false)) rfl fun q u lh => ⟨lh.wants1 9 false rfl rfl rfl, true, lh.dep 12 rfl, lh.dep 23 rfl⟩) ?_
              refine .cons (owes_pick (.tmp 19) (.const (.bool true)) (.tmp 34) rfl fun q u lh => ⟨wants_free rfl, false, lh.dep 9 rfl, lh.dep 24 rfl⟩) ?_
              exact .nil _
            intro q u hb hsz hdf hold hfact
            obtain rfl := frame_puts hsz hdf [10, 11, 12, 13, 14, 15, 16, 17, 18, 19, 20, 21, 22, 23, 24, 25, 26, 27, 28, 29, 30, 31, 32, 33, 34, 35] hold [(10, Value.slice (some ⟨b, off, none⟩) n c), (11, Value.slice (some ⟨b, off, none⟩) n c), (12, Value.int .i64 k), (13, Value.pointer (some ⟨b, off + k * 7, none⟩)), (14, Value.pointer (some ⟨b, off + k * 7, none⟩)), (15, Value.int .i64 x0), (16, Value.int .i64 k), (17, Value.int .i64 k), (18, Value.bool false), (19, Value.bool false), (20, Value.int .i64 k), (21, Value.bool true), (22, Value.bool true), (23, Value.slice (some ⟨b, off, none⟩) n c), (24, Value.int .i64 k), (25, Value.int .i64 m), (26, Value.pointer (some ⟨b, off + m * 7, none⟩)), (27, Value.agg #[.int .i64 y0, .int .i64 y1, .int .i64 y2, .int .i64 y3, .int .i64 y4, .int .i64 y5, .int .i64 y6]), (28, Value.slice (some ⟨b, off, none⟩) n c), (29, Value.int .i64 k), (30, Value.pointer (some ⟨b, off + k * 7, none⟩)), (31, Value.agg #[.int .i64 x0, .int .i64 x1, .int .i64 x2, .int .i64 x3, .int .i64 x4, .int .i64 x5, .int .i64 x6]), (32, Value.bool false), (33, Value.bool true), (34, Value.bool true), (35, Value.bool true)] ⟨hfact 0 (by decide), hfact 1 (by decide), hfact 2 (by decide), hfact 3 (by decide), hfact 4 (by decide), hfact 5 (by decide), hfact 6 (by decide), hfact 7 (by decide), hfact 8 (by decide), hfact 9 (by decide), hfact 10 (by decide), hfact 11 (by decide), hfact 12 (by decide), hfact 13 (by decide), hfact 14 (by decide), hfact 15 (by decide), hfact 16 (by decide), hfact 17 (by decide), hfact 18 (by decide), hfact 19 (by decide), hfact 20 (by decide), hfact 21 (by decide), hfact 22 (by decide), hfact 23 (by decide), hfact 24 (by decide), hfact 25 (by decide), trivial⟩ rfl
            clear hsz hdf hold hfact
            simp only [puts, Act.put, List.setIfInBounds_toArray, List.set_cons_zero, List.set_cons_succ]
            have B4 : Hid (Below w.heap.size w u) := HB.out.trans (hb.mono HB.out.size)
            clear hb
            go_wp2
            go_ret
            exact ⟨rt_bool HS.out, B4.out⟩
    · obtain rfl : k = n := by omega
      have HS : Hid (decide ((k : Int) ≤ 40) = qIs L) := qIs_end HN.out HQ.out
      go_wp2
      go_ret
      exact ⟨rt_bool HS.out, HB.out⟩

theorem refIs_any7 (a : Option Addr) (n c : Nat) (L : List P7) (w : World) (h : PGood w a n c L) (hm : n ≤ 9223372036854775807) :
    Calls Try.prog 18 #[.slice a n c] w fun e w' => e = .returned (.bool (qIs L)) ∧ Below w.heap.size w w' := by
  have hl := h.len
  rcases h.pays.2 with h0 | ⟨b, off, rfl, hc⟩
  · subst h0
    have : n = 0 := by simpa using hl
    subst this
    refine (refIs_none a c w).mono ?_
    rintro e w' ⟨rfl, rfl⟩
    exact ⟨rfl, Below.refl _ _⟩
  · exact refIs_row b off n c L w hm h (fun i hi => hc i (by omega))

end Go.Proofs.Ytlackjldopeigaa

/-
  What a payment that is put into a row does to it: where it stands, what the others are (plain lists); and of 65536.
-/
namespace Go.Proofs.Ytlackjldopeigaa
open Go.RowKit
set_option linter.unusedVariables false
set_option linter.unusedSimpArgs false

theorem i64_and65535 (n : Int) : bits .and .i64 n 65535 = n % 65536 := by
  have h127 : (BitVec.ofInt 64 65535).toNat = 2 ^ 16 - 1 := by decide
  have key : (BitVec.ofInt 64 n &&& BitVec.ofInt 64 65535).toNat = (n % ((2 ^ 64 : Nat) : Int)).toNat % 2 ^ 16 := by
    rw [BitVec.toNat_and, BitVec.toNat_ofInt, h127, Nat.and_two_pow_sub_one_eq_mod]
  show IntKind.i64.wrap ((BitVec.ofInt 64 n &&& BitVec.ofInt 64 65535).toNat : Nat) = n % 65536
  rw [key, IntKind.wrap_i64]
  omega
/-- A place among n, out of any number. -/
theorem place_of (x : Int) (n : Nat) (hn : 1 ≤ n) : ∃ (u : Int) (k : Nat), bits .and .i64 x 65535 = u ∧ u % (n : Int) = (k : Int) ∧ k < n ∧ 0 ≤ u ∧ u < 65536 := by
  have h1 := Int.emod_lt_of_pos (x % 65536) (show (0 : Int) < (n : Int) by omega)
  have h2 := Int.emod_nonneg (x % 65536) (show (n : Int) ≠ 0 by omega)
  exact ⟨x % 65536, ((x % 65536) % (n : Int)).toNat, i64_and65535 x, by omega, by omega, by omega, by omega⟩

theorem at_of {L : List P7} (h : L.Pairwise QR) {k : Nat} (hk : k < L.length) : qHas L (L.getD k p70).id = true ∧ qAt L (L.getD k p70).id = k :=
  find_yes hk (fun t ht e => (pw_at h ht hk).2 e) rfl
theorem ins_at {R : List P7} {k : Nat} {p : P7} (hk : k ≤ R.length) (hid : qHas R p.id = false) : qHas (qIns R k p) p.id = true ∧ qAt (qIns R k p) p.id = k ∧ qDrop (qIns R k p) p.id = R ∧ qDropP (qIns R k p) p.id = p := by
  have h1 := find_yes (l := qIns R k p) (x := p.id) (k := k) (by rw [qIns_len hk]; omega) (fun t ht => by rw [qIns_lo hk ht]; exact has_not.1 hid _ (getD_in (by omega))) (by rw [qIns_at hk])
  refine ⟨h1.1, h1.2, ?_, ?_⟩
  · rw [(drop_yes h1.1).1, h1.2, rest_ins hk]
  · rw [(drop_yes h1.1).2.1, h1.2, qIns_at hk]

/-- All that RowOrder asks of a row in which one has been moved. -/
structure Moved (L M : List P7) (p : P7) (kk : Nat) (back : Bool) : Prop where
  que : Que M
  len : M.length = L.length
  has : qHas M p.id = true
  spot : qAt M p.id = kk
  drop : qDrop M p.id = qDrop L p.id
  dropP : qDropP M p.id = p
  lt : kk < L.length
  side : ∀ i, i < L.length → i ≠ kk → (M.getD i p70).fr = p.fr → (M.getD i p70).cl = p.cl → decide (i < kk) = back
theorem dropP_at {L : List P7} (h : L.Pairwise QR) {k : Nat} (hk : k < L.length) : qDropP L (L.getD k p70).id = L.getD k p70 := by
  obtain ⟨h1, h2⟩ := at_of h hk
  rw [(drop_yes h1).2.1, h2]
theorem moved_front {L : List P7} (h : Que L) {k : Nat} (hk : k < L.length) {p : P7} (hp : L.getD k p70 = p) : ∃ kk, Moved L (qFront L p.id) p kk false := by
  have hh := (at_of h.2 hk).1
  rw [hp] at hh
  have hP := dropP_at h.2 hk
  rw [hp] at hP
  have hR : qHas (qDrop L p.id) p.id = false := drop_has h.2
  have hle := qAhd_le (qDrop L p.id) p
  have hf : qFront L p.id = qIns (qDrop L p.id) (qAhd (qDrop L p.id) p) p := by rw [front_yes hh, hP]
  obtain ⟨i1, i2, i3, i4⟩ := ins_at hle hR
  have hdl := drop_len hh
  refine ⟨qAhd (qDrop L p.id) p, ⟨h.front _, front_len _, by rw [hf]; exact i1, by rw [hf]; exact i2, by rw [hf]; exact i3, by rw [hf]; exact i4, by omega, ?_⟩⟩
  intro i hi hne hfr hcl
  rw [decide_eq_false_iff_not]
  intro hlt
  rw [hf, qIns_lo hle hlt] at hfr hcl
  have := ahd_lo hlt
  rw [qLe_not] at this
  omega
theorem moved_back {L : List P7} (h : Que L) {k : Nat} (hk : k < L.length) {p : P7} (hp : L.getD k p70 = p) : ∃ kk, Moved L (qBack L p.id) p kk true := by
  have hh := (at_of h.2 hk).1
  rw [hp] at hh
  have hP := dropP_at h.2 hk
  rw [hp] at hP
  have hR : qHas (qDrop L p.id) p.id = false := drop_has h.2
  have hle := qBeh_le (qDrop L p.id) p
  have hf : qBack L p.id = qIns (qDrop L p.id) (qBeh (qDrop L p.id) p) p := by rw [back_yes hh, hP]
  obtain ⟨i1, i2, i3, i4⟩ := ins_at hle hR
  have hdl := drop_len hh
  refine ⟨qBeh (qDrop L p.id) p, ⟨h.back _, back_len _, by rw [hf]; exact i1, by rw [hf]; exact i2, by rw [hf]; exact i3, by rw [hf]; exact i4, by omega, ?_⟩⟩
  intro i hi hne hfr hcl
  rw [decide_eq_true_eq]
  rcases Nat.lt_or_ge i (qBeh (qDrop L p.id) p) with hlt | hge
  · exact hlt
  · exfalso
    rw [hf, qIns_hi hle (by omega)] at hfr hcl
    have := beh_hi (h.drop p.id).2 (p := p) (t := i - 1) (by omega) (by omega)
    rw [qLe_not] at this
    omega

/-- All that RowClass asks of a row in which one has another class. -/
structure Classed (L M : List P7) (p : P7) (c : Int) (kk : Nat) : Prop where
  que : Que M
  len : M.length = L.length
  has : qHas M p.id = true
  spot : qAt M p.id = kk
  drop : qDrop M p.id = qDrop L p.id
  dropP : qDropP M p.id = setC p c
  lt : kk < L.length
  cl : (M.getD kk p70).cl = c
  rest : qHas (qDrop L p.id) p.id = false
  side : ∀ i, kk < i → i < L.length → (M.getD i p70).fr = p.fr → ¬ (M.getD i p70).cl = c
theorem classed {L : List P7} (h : Que L) {k : Nat} (hk : k < L.length) {p : P7} (hp : L.getD k p70 = p) (c : Int) : ∃ kk, Classed L (qClass L p.id c) p c kk := by
  have hh := (at_of h.2 hk).1
  rw [hp] at hh
  have hP := dropP_at h.2 hk
  rw [hp] at hP
  have hR : qHas (qDrop L p.id) (setC p c).id = false := drop_has h.2
  have hle := qBeh_le (qDrop L p.id) (setC p c)
  have hf : qClass L p.id c = qIns (qDrop L p.id) (qBeh (qDrop L p.id) (setC p c)) (setC p c) := by rw [class_yes hh, hP]
  obtain ⟨i1, i2, i3, i4⟩ := ins_at hle hR
  have hdl := drop_len hh
  refine ⟨qBeh (qDrop L p.id) (setC p c), ⟨h.class _ _, class_len _ _, by rw [hf]; exact i1, by rw [hf]; exact i2, by rw [hf]; exact i3, by rw [hf]; exact i4, by omega, by rw [hf, qIns_at hle]; rfl, hR, ?_⟩⟩
  intro i hlt hi hfr hcl
  rw [hf, qIns_hi hle hlt] at hfr hcl
  have := beh_hi (h.drop p.id).2 (p := setC p c) (t := i - 1) (by omega) (by omega)
  rw [qLe_not] at this
  have e1 : (setC p c).fr = p.fr := rfl
  have e2 : (setC p c).cl = c := rfl
  omega

end Go.Proofs.Ytlackjldopeigaa

/-
  rowed: any payments as a row (the laws of stages 14 to 16, 18 to 22 make it, the same text in each).
-/
namespace Go.Proofs.Ytlackjldopeigaa
open Go.RowKit
set_option linter.unusedVariables false
set_option linter.unusedSimpArgs false

theorem i64_andMask (n : Int) (m : Nat) (hm : m ≤ 16) : bits .and .i64 n ((2 ^ m - 1 : Nat) : Int) = n % ((2 ^ m : Nat) : Int) := by
  have h1 : (BitVec.ofInt 64 ((2 ^ m - 1 : Nat) : Int)).toNat = 2 ^ m - 1 := by
    rw [BitVec.toNat_ofInt]
    have : 2 ^ m ≤ 2 ^ 16 := Nat.pow_le_pow_right (by omega) hm
    omega
  have key : (BitVec.ofInt 64 n &&& BitVec.ofInt 64 ((2 ^ m - 1 : Nat) : Int)).toNat = (n % ((2 ^ 64 : Nat) : Int)).toNat % 2 ^ m := by
    rw [BitVec.toNat_and, BitVec.toNat_ofInt, h1, Nat.and_two_pow_sub_one_eq_mod]
  show IntKind.i64.wrap ((BitVec.ofInt 64 n &&& BitVec.ofInt 64 ((2 ^ m - 1 : Nat) : Int)).toNat : Nat) = n % ((2 ^ m : Nat) : Int)
  rw [key, IntKind.wrap_i64]
  rcases (by omega : m = 0 ∨ m = 1 ∨ m = 2 ∨ m = 3 ∨ m = 4 ∨ m = 5 ∨ m = 6 ∨ m = 7 ∨ m = 8 ∨ m = 9 ∨ m = 10 ∨ m = 11 ∨ m = 12 ∨ m = 13 ∨ m = 14 ∨ m = 15 ∨ m = 16) with rfl | rfl | rfl | rfl | rfl | rfl | rfl | rfl | rfl | rfl | rfl | rfl | rfl | rfl | rfl | rfl | rfl <;> simp <;> omega
theorem and255 (n : Int) : bits .and .i64 n 255 = n % 256 := i64_andMask n 8 (by omega)
theorem and31 (n : Int) : bits .and .i64 n 31 = n % 32 := i64_andMask n 5 (by omega)
theorem and15 (n : Int) : bits .and .i64 n 15 = n % 16 := i64_andMask n 4 (by omega)
theorem and7 (n : Int) : bits .and .i64 n 7 = n % 8 := i64_andMask n 3 (by omega)

/-- The i-th payment as one of a row. -/
def rowTo3 (f t : Int) : Int := if f = t then (f + 1) % 3 else t
def rowP (i : Nat) (p : P7) : P7 := ((i : Int) + 1, p.fr % 256 % 3, rowTo3 (p.fr % 256 % 3) (p.to % 256 % 3), 1 + p.am % 32, 1 + p.cl % 256 % 3, p.st % 8, p.st % 8 + p.ti % 16)
/-- The row of the first k. -/
def rowTo (L : List P7) : Nat → List P7
  | 0 => []
  | k + 1 => qPut (rowTo L k) (rowP k (L.getD k p70))
def rowedL (L : List P7) : List P7 := rowTo L L.length

/-- A row that is answered; it may be one that was there. -/
def PGot (w : World) (L : List P7) (e : Ending) (w' : World) : Prop := ∃ a c, e = .returned (.slice a L.length c) ∧ PGood w' a L.length c L ∧ Below w.heap.size w w'
theorem put_err {l : List P7} {p : P7} (h : ¬ qPutE l p = 0) : qPut l p = l := by
  unfold qPutE at h
  unfold qPut
  split
  · rfl
  · split
    · rfl
    · rename_i h1 h2
      rw [if_neg h1, if_neg h2] at h
      exact absurd rfl h

set_option maxHeartbeats 4000000 in
set_option maxRecDepth 100000 in
theorem rowed_any (a : Option Addr) (n c : Nat) (L : List P7) (w : World) (h : PGood w a n c L) (hm : n ≤ 100000) :
    Calls Try.prog 10 #[.slice a n c] w (PGot w (rowedL L)) := by
  have H : Hid (PGood w a n c L) := h
  have HN : Hid (n = L.length) := h.len
  clear h
  go_enter Try.func10, Try.ntmps10
  go_wp2
  go_loopw [3, 4] (fun tv i wr => ∃ (k z c' : Nat) (a' : Option Addr), k ≤ n ∧ i = .int .i64 k ∧ tv = .slice a' z c' ∧ z ≤ k ∧ Hid (PGood wr a' z c' (rowTo L k)) ∧ Hid (Below w.heap.size w wr)) (fun _ i _ => n - (intOf i).toNat)
  case atStart => exact ⟨0, 0, 0, none, by omega, rfl, rfl, by omega, PGood.nil _, Below.refl _ _⟩
  case round =>
    obtain ⟨k, z, c', a', hk, rfl, rfl, hz, HG, HB⟩ := hrel
    by_cases hlt : k < n
    · obtain ⟨b, off, rfl, HC⟩ := H.out.at hlt
      have i1 : (k : Int) < (n : Int) := by omega
      obtain ⟨x, hx⟩ : ∃ x, L.getD k p70 = x := ⟨_, rfl⟩
      have C0 := (HC k hlt).below HB.out
      rw [hx] at C0
      obtain ⟨x0, x1, x2, x3, x4, x5, x6⟩ := x
      have HX : Hid (L.getD k p70 = (x0, x1, x2, x3, x4, x5, x6)) := hx
      obtain ⟨p0, p1, p2, p3, p4, p5, p6⟩ := C0
      simp only [P7.id, P7.fr, P7.to, P7.am, P7.cl, P7.st, P7.ti] at p0 p1 p2 p3 p4 p5 p6
      obtain ⟨u1, e1⟩ : ∃ u, bits .and .i64 x1 255 = u := ⟨_, rfl⟩
      obtain ⟨f1, d1⟩ : ∃ f, u1 % 3 = f := ⟨_, rfl⟩
      obtain ⟨u2, e2⟩ : ∃ u, bits .and .i64 x2 255 = u := ⟨_, rfl⟩
      obtain ⟨f2, d2⟩ : ∃ f, u2 % 3 = f := ⟨_, rfl⟩
      obtain ⟨u4, e4⟩ : ∃ u, bits .and .i64 x4 255 = u := ⟨_, rfl⟩
      obtain ⟨f4, d4⟩ : ∃ f, u4 % 3 = f := ⟨_, rfl⟩
      obtain ⟨u3, e3⟩ : ∃ u, bits .and .i64 x3 31 = u := ⟨_, rfl⟩
      obtain ⟨u5, e5⟩ : ∃ u, bits .and .i64 x5 7 = u := ⟨_, rfl⟩
      obtain ⟨u6, e6⟩ : ∃ u, bits .and .i64 x6 15 = u := ⟨_, rfl⟩
      obtain ⟨f3, d3⟩ : ∃ f, (f1 + 1) % 3 = f := ⟨_, rfl⟩
      have r1 := (and255 x1).symm.trans e1
      have r2 := (and255 x2).symm.trans e2
      have r4 := (and255 x4).symm.trans e4
      have r3 := (and31 x3).symm.trans e3
      have r5 := (and7 x5).symm.trans e5
      have r6 := (and15 x6).symm.trans e6
      have HP : Hid (rowP k (x0, x1, x2, x3, x4, x5, x6) = ((k : Int) + 1, f1, if f1 = f2 then f3 else f2, 1 + u3, 1 + f4, u5, u5 + u6)) := by
        show _ = _
        unfold rowP rowTo3
        simp only [P7.id, P7.fr, P7.to, P7.am, P7.cl, P7.st, P7.ti]
        rw [r1, r2, r4, r3, r5, r6, d1, d2, d4, d3]
      have b1 : 0 ≤ u1 ∧ u1 ≤ 255 := by omega
      have b2 : 0 ≤ u2 ∧ u2 ≤ 255 := by omega
      have b4 : 0 ≤ u4 ∧ u4 ≤ 255 := by omega
      have b3 : 0 ≤ u3 ∧ u3 ≤ 31 := by omega
      have b5 : 0 ≤ u5 ∧ u5 ≤ 7 := by omega
      have b6 : 0 ≤ u6 ∧ u6 ≤ 15 := by omega
      have c1 : 0 ≤ f1 ∧ f1 ≤ 2 := by omega
      have c4 : 0 ≤ f4 ∧ f4 ≤ 2 := by omega
      obtain ⟨b1, b1'⟩ := b1
      obtain ⟨b2, b2'⟩ := b2
      obtain ⟨b3, b3'⟩ := b3
      obtain ⟨b4, b4'⟩ := b4
      obtain ⟨b5, b5'⟩ := b5
      obtain ⟨b6, b6'⟩ := b6
      obtain ⟨c1, c1'⟩ := c1
      obtain ⟨c4, c4'⟩ := c4
      clear r1 r2 r3 r4 r5 r6 HC hx
      by_cases hf : f1 = f2
      · have HFF : Hid ((if f1 = f2 then f3 else f2) = f3) := by show _ = _; rw [if_pos hf]
        subst hf
        have HP2 : Hid (rowP k (x0, x1, x2, x3, x4, x5, x6) = ((k : Int) + 1, f1, f3, 1 + u3, 1 + f4, u5, u5 + u6)) := by show _ = _; rw [HP.out, HFF.out]
        have S := refPut_any a' z c' (rowTo L k) ((k : Int) + 1, f1, f3, 1 + u3, 1 + f4, u5, u5 + u6) (wr.alloc (.cells #[.int .i64 ((k : Int) + 1), .int .i64 f1, .int .i64 f3, .int .i64 (1 + u3), .int .i64 (1 + f4), .int .i64 u5, .int .i64 (u5 + u6)] 51)) (HG.out.below (box_below _ _)) (by omega)
        unfold RPutEnd at S
        have HT : Hid (rowTo L (k + 1) = qPut (rowTo L k) ((k : Int) + 1, f1, f3, 1 + u3, 1 + f4, u5, u5 + u6)) := by show qPut (rowTo L k) (rowP k (L.getD k p70)) = _; rw [HX.out, HP2.out]
        have hpl := put_len (rowTo L k) ((k : Int) + 1, f1, f3, 1 + u3, 1 + f4, u5, u5 + u6)
        have hzl := HG.out.len
        obtain ⟨E, hE⟩ : ∃ E, qPutE (rowTo L k) ((k : Int) + 1, f1, f3, 1 + u3, 1 + f4, u5, u5 + u6) = E := ⟨_, rfl⟩
        have hst : ¬ E = 0 → qPut (rowTo L k) ((k : Int) + 1, f1, f3, 1 + u3, 1 + f4, u5, u5 + u6) = rowTo L k := fun h => put_err (by rw [hE]; exact h)
        obtain ⟨M, hM⟩ : ∃ M, qPut (rowTo L k) ((k : Int) + 1, f1, f3, 1 + u3, 1 + f4, u5, u5 + u6) = M := ⟨_, rfl⟩
        rw [hE, hM] at S
        rw [hM] at hpl hst
        have HT2 : Hid (rowTo L (k + 1) = M) := by rw [← hM]; exact HT.out
        obtain ⟨ml, hml⟩ : ∃ ml, M.length = ml := ⟨_, rfl⟩
        rw [hml] at S hpl
        have hmk : ml ≤ k + 1 := by omega
        have HB2 : Hid (Below w.heap.size w (wr.alloc (.cells #[.int .i64 ((k : Int) + 1), .int .i64 f1, .int .i64 f3, .int .i64 (1 + u3), .int .i64 (1 + f4), .int .i64 u5, .int .i64 (u5 + u6)] 51))) := HB.out.alloc HB.out.size _
        have HG2 : Hid (PGood (wr.alloc (.cells #[.int .i64 ((k : Int) + 1), .int .i64 f1, .int .i64 f3, .int .i64 (1 + u3), .int .i64 (1 + f4), .int .i64 u5, .int .i64 (u5 + u6)] 51)) a' z c' (rowTo L k)) := HG.out.below (box_below _ _)
        have HST : Hid (¬ E = 0 → M = rowTo L k) := hst
        clear hE hM hpl hzl hml hst HP HFF HB HG HT
        by_cases he : E = 0
        · subst he
          go_wp2_with fail
          go_at_call 28
          refine S.mono ?_
          rintro e w1 ⟨a9, c9, rfl, g4, hb⟩
          have B1 : Hid (Below w.heap.size w w1) := HB2.out.trans (hb.mono HB2.out.size)
          have G1 : Hid (PGood w1 a9 ml c9 (rowTo L (k + 1))) := by rw [HT2.out]; exact g4
          clear g4 hb S p0 p1 p2 p3 p4 p5 p6 e1 e2 e3 e4 e5 e6 d1 d2 d3 d4 b1 b2 b3 b4 b5 b6 b1' b2' b3' b4' b5' b6' c1 c1' c4 c4'
          go_wp2
          go_roundw
          case rel => exact ⟨k + 1, ml, c9, a9, by omega, by go_num, rfl, hmk, G1, B1⟩
          case measure => simp [intOf]; omega
        · have he2 : (E == 0) = false := by rw [beq_eq_false_iff_ne]; exact he
          have HE := HST.out he
          clear he
          go_wp2_with fail
          go_at_call 28
          refine S.mono ?_
          rintro e w1 ⟨a9, c9, rfl, g4, hb⟩
          have B1 : Hid (Below w.heap.size w w1) := HB2.out.trans (hb.mono HB2.out.size)
          have G1 : Hid (PGood w1 a' z c' (rowTo L (k + 1))) := by rw [HT2.out, HE]; exact HG2.out.below hb
          clear g4 hb S HE p0 p1 p2 p3 p4 p5 p6 e1 e2 e3 e4 e5 e6 d1 d2 d3 d4 b1 b2 b3 b4 b5 b6 b1' b2' b3' b4' b5' b6' c1 c1' c4 c4'
          go_wp2
          go_roundw
          case rel => exact ⟨k + 1, z, c', a', by omega, by go_num, rfl, by omega, G1, B1⟩
          case measure => simp [intOf]; omega
      · have HFF : Hid ((if f1 = f2 then f3 else f2) = f2) := by show _ = _; rw [if_neg hf]
        have hf2 : (f1 == f2) = false := by rw [beq_eq_false_iff_ne]; exact hf
        clear hf
        have HP2 : Hid (rowP k (x0, x1, x2, x3, x4, x5, x6) = ((k : Int) + 1, f1, f2, 1 + u3, 1 + f4, u5, u5 + u6)) := by show _ = _; rw [HP.out, HFF.out]
        have S := refPut_any a' z c' (rowTo L k) ((k : Int) + 1, f1, f2, 1 + u3, 1 + f4, u5, u5 + u6) (wr.alloc (.cells #[.int .i64 ((k : Int) + 1), .int .i64 f1, .int .i64 f2, .int .i64 (1 + u3), .int .i64 (1 + f4), .int .i64 u5, .int .i64 (u5 + u6)] 51)) (HG.out.below (box_below _ _)) (by omega)
        unfold RPutEnd at S
        have HT : Hid (rowTo L (k + 1) = qPut (rowTo L k) ((k : Int) + 1, f1, f2, 1 + u3, 1 + f4, u5, u5 + u6)) := by show qPut (rowTo L k) (rowP k (L.getD k p70)) = _; rw [HX.out, HP2.out]
        have hpl := put_len (rowTo L k) ((k : Int) + 1, f1, f2, 1 + u3, 1 + f4, u5, u5 + u6)
        have hzl := HG.out.len
        obtain ⟨E, hE⟩ : ∃ E, qPutE (rowTo L k) ((k : Int) + 1, f1, f2, 1 + u3, 1 + f4, u5, u5 + u6) = E := ⟨_, rfl⟩
        have hst : ¬ E = 0 → qPut (rowTo L k) ((k : Int) + 1, f1, f2, 1 + u3, 1 + f4, u5, u5 + u6) = rowTo L k := fun h => put_err (by rw [hE]; exact h)
        obtain ⟨M, hM⟩ : ∃ M, qPut (rowTo L k) ((k : Int) + 1, f1, f2, 1 + u3, 1 + f4, u5, u5 + u6) = M := ⟨_, rfl⟩
        rw [hE, hM] at S
        rw [hM] at hpl hst
        have HT2 : Hid (rowTo L (k + 1) = M) := by rw [← hM]; exact HT.out
        obtain ⟨ml, hml⟩ : ∃ ml, M.length = ml := ⟨_, rfl⟩
        rw [hml] at S hpl
        have hmk : ml ≤ k + 1 := by omega
        have HB2 : Hid (Below w.heap.size w (wr.alloc (.cells #[.int .i64 ((k : Int) + 1), .int .i64 f1, .int .i64 f2, .int .i64 (1 + u3), .int .i64 (1 + f4), .int .i64 u5, .int .i64 (u5 + u6)] 51))) := HB.out.alloc HB.out.size _
        have HG2 : Hid (PGood (wr.alloc (.cells #[.int .i64 ((k : Int) + 1), .int .i64 f1, .int .i64 f2, .int .i64 (1 + u3), .int .i64 (1 + f4), .int .i64 u5, .int .i64 (u5 + u6)] 51)) a' z c' (rowTo L k)) := HG.out.below (box_below _ _)
        have HST : Hid (¬ E = 0 → M = rowTo L k) := hst
        clear hE hM hpl hzl hml hst HP HFF HB HG HT
        by_cases he : E = 0
        · subst he
          go_wp2_with fail
          go_at_call 28
          refine S.mono ?_
          rintro e w1 ⟨a9, c9, rfl, g4, hb⟩
          have B1 : Hid (Below w.heap.size w w1) := HB2.out.trans (hb.mono HB2.out.size)
          have G1 : Hid (PGood w1 a9 ml c9 (rowTo L (k + 1))) := by rw [HT2.out]; exact g4
          clear g4 hb S p0 p1 p2 p3 p4 p5 p6 e1 e2 e3 e4 e5 e6 d1 d2 d3 d4 b1 b2 b3 b4 b5 b6 b1' b2' b3' b4' b5' b6' c1 c1' c4 c4'
          go_wp2
          go_roundw
          case rel => exact ⟨k + 1, ml, c9, a9, by omega, by go_num, rfl, hmk, G1, B1⟩
          case measure => simp [intOf]; omega
        · have he2 : (E == 0) = false := by rw [beq_eq_false_iff_ne]; exact he
          have HE := HST.out he
          clear he
          go_wp2_with fail
          go_at_call 28
          refine S.mono ?_
          rintro e w1 ⟨a9, c9, rfl, g4, hb⟩
          have B1 : Hid (Below w.heap.size w w1) := HB2.out.trans (hb.mono HB2.out.size)
          have G1 : Hid (PGood w1 a' z c' (rowTo L (k + 1))) := by rw [HT2.out, HE]; exact HG2.out.below hb
          clear g4 hb S HE p0 p1 p2 p3 p4 p5 p6 e1 e2 e3 e4 e5 e6 d1 d2 d3 d4 b1 b2 b3 b4 b5 b6 b1' b2' b3' b4' b5' b6' c1 c1' c4 c4'
          go_wp2
          go_roundw
          case rel => exact ⟨k + 1, z, c', a', by omega, by go_num, rfl, by omega, G1, B1⟩
          case measure => simp [intOf]; omega
    · obtain rfl : k = n := by omega
      have HF : Hid (rowTo L k = rowedL L) := by show _ = _; rw [HN.out]; rfl
      clear H
      go_wp2
      go_ret
      have hg := HG.out
      rw [HF.out] at hg
      have hl := hg.len
      subst hl
      exact ⟨a', c', rfl, hg, HB.out⟩

end Go.Proofs.Ytlackjldopeigaa

/-
  What a row that rowed makes is like (plain lists).
-/
namespace Go.Proofs.Ytlackjldopeigaa
open Go.RowKit
set_option linter.unusedVariables false
set_option linter.unusedSimpArgs false

/-- A payment as rowed leaves it. -/
def RowedP (k : Nat) (p : P7) : Prop := (1 ≤ p.id ∧ p.id ≤ k) ∧ (0 ≤ p.fr ∧ p.fr ≤ 2) ∧ (0 ≤ p.to ∧ p.to ≤ 2) ∧ ¬ p.fr = p.to ∧ (1 ≤ p.am ∧ p.am ≤ 32) ∧ (1 ≤ p.cl ∧ p.cl ≤ 3) ∧ (0 ≤ p.st ∧ p.st ≤ 7) ∧ (p.st ≤ p.ti ∧ p.ti ≤ 22)
theorem rowP_ok (k : Nat) (p : P7) : RowedP (k + 1) (rowP k p) := by
  unfold RowedP rowP rowTo3
  simp only [P7.id, P7.fr, P7.to, P7.am, P7.cl, P7.st, P7.ti]
  refine ⟨by omega, by omega, ?_, ?_, by omega, by omega, by omega, by omega⟩
  · split <;> omega
  · split <;> omega
theorem rowTo_ok (L : List P7) : ∀ k, k ≤ 40 → Que (rowTo L k) ∧ (rowTo L k).length = k ∧ ∀ p ∈ rowTo L k, RowedP k p
  | 0, _ => ⟨Que.nil, rfl, fun p hp => by simp [rowTo] at hp⟩
  | k + 1, hk => by
    obtain ⟨h1, h2, h3⟩ := rowTo_ok L k (by omega)
    have hn : qHas (rowTo L k) (rowP k (L.getD k p70)).id = false := by
      rw [has_not]
      intro p hp e
      have := (h3 p hp).1.2
      rw [e] at this
      simp only [rowP, P7.id] at this
      omega
    have hp := put_ins hn (by omega : (rowTo L k).length < 40)
    refine ⟨h1.put _, ?_, ?_⟩
    · show (qPut _ _).length = _
      rw [hp.1, qIns_len (by have := qBeh_le (rowTo L k) (rowP k (L.getD k p70)); omega)]
      omega
    · intro p hm
      have hm : p ∈ qPut (rowTo L k) (rowP k (L.getD k p70)) := hm
      rw [hp.1] at hm
      have : p = rowP k (L.getD k p70) ∨ p ∈ rowTo L k := by
        simp only [qIns, List.mem_append, List.mem_cons, List.not_mem_nil, or_false] at hm
        rcases hm with hm | hm | hm
        · exact .inr (List.mem_of_mem_take hm)
        · exact .inl hm
        · exact .inr (List.mem_of_mem_drop hm)
      rcases this with rfl | h
      · exact rowP_ok k _
      · obtain ⟨a, b⟩ := h3 p h
        exact ⟨⟨a.1, by have := a.2; omega⟩, b⟩
theorem rowed_ok {L : List P7} (h : L.length ≤ 40) : Que (rowedL L) ∧ (rowedL L).length = L.length ∧ ∀ p ∈ rowedL L, RowedP L.length p := rowTo_ok L _ h

end Go.Proofs.Ytlackjldopeigaa

/-
  giroref11.Same on rows of payments in full; literals of payments.
-/
namespace Go.Proofs.Ytlackjldopeigaa
open Go.RowKit
set_option linter.unusedVariables false
set_option linter.unusedSimpArgs false

theorem same_good (a1 a2 : Option Addr) (n1 n2 c1 c2 : Nat) (L M : List P7) (u : World) (g1 : PGood u a1 n1 c1 L) (g2 : PGood u a2 n2 c2 M) :
    Calls Try.prog 26 #[.slice a1 n1 c1, .slice a2 n2 c2] u fun e w' => e = .returned (.bool (eqP L M)) ∧ Below u.heap.size u w' :=
  (refPaySame_any a1 a2 n1 n2 c1 c2 L M u g1.pays g2.pays (by have := g1.cap; have := g1.max; omega)).mono fun e w' h => drewN_below h
theorem same_true (a1 a2 : Option Addr) (n1 n2 c1 c2 : Nat) (L : List P7) (u : World) (g1 : PGood u a1 n1 c1 L) (g2 : PGood u a2 n2 c2 L) :
    Calls Try.prog 26 #[.slice a1 n1 c1, .slice a2 n2 c2] u fun e w' => e = .returned (.bool true) ∧ Below u.heap.size u w' := by
  have := same_good a1 a2 n1 n2 c1 c2 L L u g1 g2
  rw [eqP_yes rfl] at this
  exact this
theorem PGood.lit2 (w : World) (p r : P7) : PGood (w.alloc (.cells #[.int .i64 p.id, .int .i64 p.fr, .int .i64 p.to, .int .i64 p.am, .int .i64 p.cl, .int .i64 p.st, .int .i64 p.ti, .int .i64 r.id, .int .i64 r.fr, .int .i64 r.to, .int .i64 r.am, .int .i64 r.cl, .int .i64 r.st, .int .i64 r.ti] 51)) (some ⟨w.heap.size, 0, none⟩) 2 2 [p, r] :=
  ⟨⟨rfl, .inr ⟨w.heap.size, 0, rfl, fun i hi => by
    have hi : i < 2 := hi
    rcases (by omega : i = 0 ∨ i = 1) with rfl | rfl
    · exact ⟨by rw [cell_new]; rfl, by rw [cell_new]; rfl, by rw [cell_new]; rfl, by rw [cell_new]; rfl, by rw [cell_new]; rfl, by rw [cell_new]; rfl, by rw [cell_new]; rfl⟩
    · exact ⟨by rw [cell_new]; rfl, by rw [cell_new]; rfl, by rw [cell_new]; rfl, by rw [cell_new]; rfl, by rw [cell_new]; rfl, by rw [cell_new]; rfl, by rw [cell_new]; rfl⟩⟩⟩, Nat.le_refl _, by omega, fun h => by cases h⟩

end Go.Proofs.Ytlackjldopeigaa

/-
  Two payments held against each other, as one operation.
-/
namespace Go.Proofs.Ytlackjldopeigaa
open Go.RowKit
set_option linter.unusedVariables false
set_option linter.unusedSimpArgs false

/-- Are they one payment? -/
def eqB7 (p q : P7) : Bool := p.id == q.id && (p.fr == q.fr && (p.to == q.to && (p.am == q.am && (p.cl == q.cl && (p.st == q.st && p.ti == q.ti)))))
theorem eqB7_iff {p q : P7} : eqB7 p q = true ↔ p = q := by
  obtain ⟨p0, p1, p2, p3, p4, p5, p6⟩ := p
  obtain ⟨q0, q1, q2, q3, q4, q5, q6⟩ := q
  simp [eqB7]
theorem eqB7_id {p q : P7} (h : ¬ p.id = q.id) : eqB7 p q = false := by
  rw [← Bool.not_eq_true, eqB7_iff]
  exact fun e => h (by rw [e])
theorem eqB7_self (p : P7) : eqB7 p p = true := eqB7_iff.2 rfl
theorem pay_eql {x y : Operand} (p0 p1 p2 p3 p4 p5 p6 q0 q1 q2 q3 q4 q5 q6 : Int) : ∀ w, (do eqGuard .eql 51 x y (.agg #[.int .i64 p0, .int .i64 p1, .int .i64 p2, .int .i64 p3, .int .i64 p4, .int .i64 p5, .int .i64 p6]) (.agg #[.int .i64 q0, .int .i64 q1, .int .i64 q2, .int .i64 q3, .int .i64 q4, .int .i64 q5, .int .i64 q6]); binOp .eql 51 (.agg #[.int .i64 p0, .int .i64 p1, .int .i64 p2, .int .i64 p3, .int .i64 p4, .int .i64 p5, .int .i64 p6]) (.agg #[.int .i64 q0, .int .i64 q1, .int .i64 q2, .int .i64 q3, .int .i64 q4, .int .i64 q5, .int .i64 q6]) : Sem Value).run Try.prog w = .ok (.bool (eqB7 (p0, p1, p2, p3, p4, p5, p6) (q0, q1, q2, q3, q4, q5, q6))) w := by
  intro w
  unfold eqB7
  simp only [P7.id, P7.fr, P7.to, P7.am, P7.cl, P7.st, P7.ti]
  cases h0 : (p0 == q0)
  · simp [eqGuard, go_sem, h0]
  · cases h1 : (p1 == q1)
    · simp [eqGuard, go_sem, h0, h1]
    · cases h2 : (p2 == q2)
      · simp [eqGuard, go_sem, h0, h1, h2]
      · cases h3 : (p3 == q3)
        · simp [eqGuard, go_sem, h0, h1, h2, h3]
        · cases h4 : (p4 == q4)
          · simp [eqGuard, go_sem, h0, h1, h2, h3, h4]
          · cases h5 : (p5 == q5)
            · simp [eqGuard, go_sem, h0, h1, h2, h3, h4, h5]
            · cases h6 : (p6 == q6)
              · have : ¬ p6 = q6 := by simpa using h6
                simp [eqGuard, go_sem, h0, h1, h2, h3, h4, h5, this]
              · have : p6 = q6 := by simpa using h6
                simp [eqGuard, go_sem, h0, h1, h2, h3, h4, h5, this]

section
variable {P : Program} {Q : Exit → Act → World → Prop} {L : List Fact} {T : List Nat} {a0 : Act} {w0 : World} {i : Nat} {o : Oper}
/-- A comparison whose answer is known. -/
theorem owes_eqlB (t t2 : TypeId) (x y : Operand) (B : Bool) (ho : o.op = .binOp .eql t x y t2) (hL : L.getD i Fact.any = Fact.is (.bool B))
    (h : ∀ a w, Leans L T a0 w0 o a w → Wants T o a ∧ ∃ v1 v2, a.eval x = v1 ∧ a.eval y = v2 ∧ ∀ w, (do eqGuard .eql t x y v1 v2; binOp .eql t v1 v2 : Sem Value).run P w = .ok (.bool B) w) : OwesT P Q L T a0 w0 i o := by
  refine owes_value fun a w hl => ?_
  obtain ⟨hg, v1, v2, hx, hy, hr⟩ := h a w hl
  refine ⟨hg, .bool B, ?_, by rw [hL]; rfl⟩
  unfold execOp
  rw [ho]
  simp only [hx, hy]
  have := hr w
  simp only [Sem.run_bind, this, Result.andThen]
  rfl
end

end Go.Proofs.Ytlackjldopeigaa
