/-
  slices.Concat and slices.Grow of rows of payments.
-/
import Derived.Test.YtjibnbheegcnkaaPayRows
import Derived.Lib.AppendZeros
namespace Go.Proofs.Ytjibnbheegcnkaa
open Go.RowKit
set_option linter.unusedVariables false
set_option linter.unusedSimpArgs false

set_option maxHeartbeats 1000000 in
theorem growP_some (n : Nat) (w : World) (h0 : 0 < n) (h : n ≤ 1000000) : Calls Try.prog 37 #[.slice none 0 0, .int .i64 n] w fun e w' => ∃ v, e = .returned v ∧ w'.ownsRow w.heap.size 25 7 v 0 (payL []) ∧ Below w.heap.size w w' := by
  obtain ⟨i0, hi, hz0, hz1, hz2⟩ := payInfo
  have hr := fun ty => Lib.run_append_nil_zeros (P := Try.prog) w 23 3 ty 25 i0 _ .i64 .i64 Try.underlying23 Try.underlying3 hi hz0 n h0 (by rw [hz1]; decide) (by omega) (by rw [hz2]; omega)
  obtain ⟨cp, hcp⟩ : ∃ cp, grownCap w n 0 25 = cp := ⟨_, rfl⟩
  have hge : n ≤ cp := by rw [← hcp]; exact grownCap_ge w n 0 _
  have hmx : cp ≤ maxLen := by rw [← hcp]; exact grownCap_le_maxLen w n 0 _ (by unfold maxLen; omega)
  simp only [hcp] at hr
  obtain ⟨zc, hzc⟩ : ∃ zc, (Value.agg #[.int .i64 0, .int .i64 0, .int .i64 0, .int .i64 0, .int .i64 0, .int .i64 0, .int .i64 0]).cells = zc := ⟨_, rfl⟩
  have hz7 : zc.size = 7 := by rw [← hzc]; rfl
  simp only [hzc] at hr
  obtain ⟨w1, hw1⟩ : ∃ w1, w1 = w.drew.alloc (.cells (Builtin.zeroCells zc n ++ Builtin.zeroCells zc (cp - n)) 25) := ⟨_, rfl⟩
  rw [← hw1] at hr
  have HO : Hid (w1.ownsRow w.heap.size 25 7 (.slice (some ⟨w.heap.size, 0, none⟩) 0 cp) 0 (payL [])) := by
    rw [hw1]
    have := World.ownsRow_made (e := 25) (size := 7) (base := w.heap.size) w.drew (Builtin.zeroCells zc n ++ Builtin.zeroCells zc (cp - n)) cp (Nat.le_refl _) hmx (by simp [size_zeroCells, hz7]; omega)
    exact this
  have HB : Hid (Below w.heap.size w w1) := by
    rw [hw1]
    exact ((Below.refl _ _).drew).alloc (Nat.le_refl _) _
  have hmx' : cp ≤ 9223372036854775807 := hmx
  have i1 : (0 : Int) < (n : Int) := by omega
  have i2 : (n : Int) ≤ (cp : Int) := by omega
  clear hw1 hcp hmx hzc hz7 hz0 hz1 hz2 hi
  go_enter Try.func37, Try.ntmps37
  go_wp2_with (at_builtin; refine Lib.wpList_append_run _ rfl _ _ _ _ rfl _ _ rfl rfl _ _ (hr _) ?_)
  go_ret
  exact ⟨_, rfl, HO.out, HB.out⟩

theorem growP_none (w : World) : Calls Try.prog 37 #[.slice none 0 0, .int .i64 0] w fun e w' => e = .returned (.slice none 0 0) ∧ w' = w := by
  go_enter Try.func37, Try.ntmps37
  go_wp2
  go_ret
  exact ⟨rfl, rfl⟩

theorem growP_any (n : Nat) (w : World) (h : n ≤ 1000000) : Calls Try.prog 37 #[.slice none 0 0, .int .i64 n] w fun e w' => ∃ v, e = .returned v ∧ w'.ownsRow w.heap.size 25 7 v 0 (payL []) ∧ Below w.heap.size w w' := by
  rcases Nat.eq_zero_or_pos n with h0 | h0
  · subst h0
    refine (growP_none w).mono ?_
    rintro e w' ⟨rfl, rfl⟩
    exact ⟨_, rfl, World.ownsRow_nil _ _ _ _, Below.refl _ _⟩
  · exact growP_some n w h0 h

/-- Rows of payments that stand at b, one behind the other. -/
def Spine (w : World) (b : Nat) (Ls : List (List P7)) : Prop :=
  ∀ i, i < Ls.length → ∃ a n c, w.cell? ⟨b, i, none⟩ = some (.slice a n c) ∧ PGood w a n c (Ls.getD i [])
theorem Spine.below {w w' : World} {b : Nat} {Ls : List (List P7)} (h : Spine w b Ls) (k : Below w.heap.size w w') : Spine w' b Ls := by
  intro i hi
  obtain ⟨a, n, c, h1, h2⟩ := h i hi
  exact ⟨a, n, c, (k.cell (p := ⟨b, i, none⟩) (block_lt_of_cell h1)).trans h1, h2.below k⟩

theorem flat_snoc (Ls : List (List P7)) (k : Nat) (hk : k < Ls.length) : (Ls.take (k + 1)).flatten = (Ls.take k).flatten ++ Ls.getD k [] := by
  rw [take_snocA Ls [] k hk, List.flatten_append]
  simp
theorem flat_le (Ls : List (List P7)) (k : Nat) : (Ls.take k).flatten.length ≤ Ls.flatten.length := by
  have : (Ls.take k).flatten.length + (Ls.drop k).flatten.length = Ls.flatten.length := by rw [← List.length_append, ← List.flatten_append, List.take_append_drop]
  omega

set_option maxHeartbeats 4000000 in
theorem concatP_any (b m c : Nat) (Ls : List (List P7)) (w : World) (h : Spine w b Ls) (hm : m = Ls.length) (hm2 : m ≤ 1000000) (hr : Ls.flatten.length ≤ 1000000) :
    Calls Try.prog 29 #[.slice (some ⟨b, 0, none⟩) m c] w (PEnd w Ls.flatten) := by
  have HS : Hid (Spine w b Ls) := h
  have HM : Hid (m = Ls.length) := hm
  have HR : Hid (Ls.flatten.length ≤ 1000000) := hr
  have G := growP_any Ls.flatten.length w hr
  obtain ⟨N, hN⟩ : ∃ N, Ls.flatten.length = N := ⟨_, rfl⟩
  rw [hN] at G
  have HNe : Hid (Ls.flatten.length = N) := hN
  clear h hm hr hN
  go_enter Try.func29, Try.ntmps29
  go_wp2
  go_loop [3, 11] (fun t i => ∃ k z : Nat, k ≤ m ∧ i = .int .i64 k ∧ t = .int .i64 z ∧ Hid ((Ls.take k).flatten.length = z)) (fun _ i => m - (intOf i).toNat)
  case atStart => exact ⟨0, 0, by omega, rfl, rfl, by simp [Hid]⟩
  case round =>
    obtain ⟨k, z, hk, rfl, rfl, HZ⟩ := hrel
    by_cases hlt : k < m
    · obtain ⟨a, n, c2, q0, g⟩ := HS.out k (by have := HM.out; omega)
      have HT : Hid ((Ls.take (k + 1)).flatten.length = z + n) := by
        show _ = _
        rw [flat_snoc Ls k (by have := HM.out; omega), List.length_append, HZ.out, g.len]
      have i1 : (k : Int) < (m : Int) := by omega
      have i2 : (z : Int) + (n : Int) ≤ 1000000 := by have := HT.out; have := flat_le Ls (k + 1); have := HR.out; omega
      clear g HS G
      go_wp2
      go_round
      case rel => exact ⟨k + 1, z + n, by omega, by go_num, by go_num, HT⟩
      case measure => simp [intOf]; omega
    · obtain rfl : k = m := by omega
      have hz : z = N := by
        have h1 := HZ.out
        rw [HM.out, List.take_length, HNe.out] at h1
        exact h1.symm
      subst hz
      go_wp2_with fail
      go_at_call 37
      refine G.mono ?_
      rintro e w1 ⟨v1, rfl, ho1, hb1⟩
      have O1 : Hid (w1.ownsRow w.heap.size 25 7 v1 0 (payL [])) := ho1
      have B1 : Hid (Below w.heap.size w w1) := hb1
      clear ho1 hb1 G HZ
      go_wp2
      go_loopw [6, 27] (fun t i wr => ∃ (k2 z2 : Nat) (v : Value), k2 ≤ k ∧ i = .int .i64 k2 ∧ v = t ∧ Hid (wr.ownsRow w.heap.size 25 7 v z2 (payL (Ls.take k2).flatten)) ∧ Hid ((Ls.take k2).flatten.length = z2) ∧ Hid (Below w.heap.size w wr)) (fun _ i _ => k - (intOf i).toNat)
      case atStart => exact ⟨0, 0, v1, by omega, rfl, rfl, O1, by simp [Hid], B1⟩
      case round =>
        obtain ⟨k2, z2, v, hk2, rfl, rfl, HO, HZ2, HB⟩ := hrel
        by_cases hlt2 : k2 < k
        · obtain ⟨a, n, c2, q0, g⟩ := (HS.out.below HB.out) k2 (by have := HM.out; omega)
          have HGd : Hid (PGood wr a n c2 (Ls.getD k2 [])) := g
          have HT : Hid ((Ls.take (k2 + 1)).flatten.length = z2 + n) := by
            show _ = _
            rw [flat_snoc Ls k2 (by have := HM.out; omega), List.length_append, HZ2.out, g.len]
          have HF : Hid ((Ls.take k2).flatten ++ Ls.getD k2 [] = (Ls.take (k2 + 1)).flatten) := (flat_snoc Ls k2 (by have := HM.out; omega)).symm
          have i1 : (k2 : Int) < (k : Int) := by omega
          have i2 : Hid (z2 + n ≤ 1000000) := by have := HT.out; have := flat_le Ls (k2 + 1); have := HR.out; show z2 + n ≤ 1000000; omega
          clear g
          go_wp2_with (refine wpList_append_pays rfl _ _ rfl w.heap.size v z2 _ rfl HO.out a n c2 _ rfl HGd.out i2.out HB.out.size ?_)
          intro v3 w3 ho3 hg3
          have O3 : Hid (w3.ownsRow w.heap.size 25 7 v3 (z2 + n) (payL (Ls.take (k2 + 1)).flatten)) := by rw [← HF.out]; exact ho3
          have B3 : Hid (Below w.heap.size w w3) := HB.out.grown hg3 HB.out.size (fun j hj => (HO.out.lt j hj).1)
          clear ho3 hg3 HGd q0
          go_wp2
          go_roundw
          case rel => exact ⟨k2 + 1, z2 + n, v3, by omega, by go_num, rfl, O3, HT, B3⟩
          case measure => simp [intOf]; omega
        · obtain rfl : k2 = k := by omega
          have hf : (Ls.take k2).flatten = Ls.flatten := by rw [HM.out, List.take_length]
          have HF : Hid ((Ls.take k2).flatten = Ls.flatten) := hf
          clear hf
          go_wp2
          go_ret
          have := HO.out
          rw [HF.out] at this
          obtain ⟨a, c3, hv, g, hnew⟩ := PGood.own this
          subst hv
          exact ⟨a, c3, rfl, g, hnew, HB.out⟩

/-- A row in new memory. -/
theorem copyP_any (a : Option Addr) (n c : Nat) (L : List P7) (w : World) (h : PGood w a n c L) (hr : n ≤ 1000000) : Calls Try.prog 24 #[.slice a n c] w (PEnd w L) := by
  obtain ⟨w1, hw1⟩ : ∃ w1, w1 = w.alloc (.cells #[.slice a n c] 23) := ⟨_, rfl⟩
  have hb : Below w.heap.size w w1 := by rw [hw1]; exact box_below _ _
  have hs : Spine w1 w.heap.size [L] := by
    intro i hi
    obtain rfl : i = 0 := by simp at hi; omega
    exact ⟨a, n, c, by rw [hw1, cell_new]; rfl, h.below hb⟩
  have C := concatP_any w.heap.size 1 1 [L] w1 hs rfl (by omega) (by simp; have := h.len; omega)
  rw [show [L].flatten = L by simp] at C
  rw [hw1] at C
  have HW : Hid (w1 = _) := hw1
  have HB : Hid (Below w.heap.size w w1) := hb
  clear h hw1 hb hs
  go_enter Try.func24, Try.ntmps24
  go_wp2_with fail
  go_at_call 29
  refine C.mono ?_
  rintro e w2 ⟨a2, c2, rfl, g2, hn2, hb2⟩
  have B2 : Hid (Below w.heap.size w w2) := by rw [← HW.out] at hb2; exact HB.out.trans (hb2.mono HB.out.size)
  have G2 : Hid (PGood w2 a2 L.length c2 L) := g2
  obtain ⟨nl, hnl⟩ : ∃ nl, L.length = nl := ⟨_, rfl⟩
  have R : Hid (PEnd w L (.returned (.slice a2 nl c2)) w2) := ⟨a2, c2, by rw [hnl], G2.out, fun x hx => by have := hn2 x hx; rw [← HW.out] at this; have := HB.out.size; omega, B2.out⟩
  rw [hnl]
  clear g2 hb2 C hnl HW G2 B2 hn2
  go_wp2
  go_ret
  exact R.out

end Go.Proofs.Ytjibnbheegcnkaa
