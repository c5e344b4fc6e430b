/-
  knot.manyOf: how many there are of each.
-/
import Derived.Test.YtlackjldopeigaaKnotSpec
import Derived.Test.YtlackjldopeigaaViewAll
import Derived.Test.YtlackjldopeigaaLimSome
namespace Go.Proofs.Ytlackjldopeigaa
open Go.RowKit
set_option linter.unusedVariables false
set_option linter.unusedSimpArgs false

theorem cnts_ext {x y : List Nat} (hl : x.length = y.length) (h : ∀ j, j < x.length → x.getD j 0 = y.getD j 0) : x = y := by
  refine List.ext_getElem hl fun j h1 h2 => ?_
  have := h j h1
  rw [List.getD_eq_getElem?_getD, List.getD_eq_getElem?_getD, List.getElem?_eq_getElem h1, List.getElem?_eq_getElem h2] at this
  exact this
theorem cnts_in {b : Bks} {l : List P7} {p : P7} {i : Nat} (hi : p.fr = i) (hl : i < b.A.length) : cnts b (l ++ [p]) = (cnts b l).set i ((cnts b l).getD i 0 + 1) := by
  refine cnts_ext (by rw [List.length_set, cnts_len, cnts_len]) fun j hj => ?_
  rw [cnts_len] at hj
  rw [cnts_at _ _ hj, cntF_snoc, hi]
  by_cases e : i = j
  · subst e
    rw [if_pos rfl, List.getD_eq_getElem?_getD, List.getElem?_set_self (by rw [cnts_len]; exact hl), cnts_at _ _ hl]
    rfl
  · rw [if_neg (by omega), List.getD_eq_getElem?_getD, List.getElem?_set_ne e, ← List.getD_eq_getElem?_getD, cnts_at _ _ hj, Nat.add_zero]
theorem cnts_out {b : Bks} {l : List P7} {p : P7} (h : p.fr < 0 ∨ (b.A.length : Int) ≤ p.fr) : cnts b (l ++ [p]) = cnts b l := by
  unfold cnts
  refine List.map_congr_left fun i hi => ?_
  have := List.mem_range.1 hi
  rw [cntF_snoc, if_neg (by omega), Nat.add_zero]
theorem cnts_nil (b : Bks) : intsL (cnts b []) = List.replicate b.A.length 0 := by
  unfold cnts intsL
  have : ∀ n : Nat, ((List.range n).map fun i : Nat => cntF [] (i : Int)).map (fun i : Nat => (i : Int)) = List.replicate n 0 := fun n => by
    rw [List.map_map]
    refine List.eq_replicate_iff.2 ⟨by simp, fun x hx => ?_⟩
    obtain ⟨i, _, rfl⟩ := List.mem_map.1 hx
    rfl
  exact this _
theorem intsL_set (l : List Nat) (i x : Nat) : (intsL l).set i (x : Nat) = intsL (l.set i x) := by simp [intsL, List.map_set]
theorem BlkN.ownV {w : World} {B g : Nat} {l : List Nat} (h : BlkN w g (intsL l)) (hB : B ≤ g) (hm : l.length ≤ maxLen) : w.ownsRow B 3 1 (.slice (some ⟨g, 0, none⟩) l.length l.length) l.length (intsV l) :=
  ⟨by simp [intsV, intsL], .inr ⟨g, l.length, _, rfl, hB, h, Nat.le_refl _, hm, by simp [intsL], by rw [Nat.mul_one]; exact List.take_of_length_le (by simp [intsL])⟩⟩

set_option maxHeartbeats 4000000 in
set_option maxRecDepth 100000 in
theorem manyOf_any (a : Option Addr) (n c m : Nat) (L : List P7) (b : Bks) (w : World) (h : PGood w a n c L) (hn : n ≤ 64) (hb : b.A.length = m) (h6 : m ≤ 6) :
    Calls Try.prog 30 #[.slice a n c, .int .i64 m] w fun e w' => ∃ g, e = .returned (.slice (some ⟨g, 0, none⟩) m m) ∧ w'.ownsRow w.heap.size 3 1 (.slice (some ⟨g, 0, none⟩) m m) m (intsV (cnts b L)) ∧ Below w.heap.size w w' := by
  have H : Hid (PGood w a n c L) := h
  have HN : Hid (n = L.length) := h.len
  have HM : Hid (b.A.length = m ∧ m ≤ 6) := ⟨hb, h6⟩
  have m6 : (m : Int) ≤ 6 := by omega
  obtain ⟨w1, hmk, hbk, hb1⟩ := makeInts w m (by omega)
  have N1 : Hid (BlkN w1 w.heap.size (intsL (cnts b []))) := by rw [cnts_nil, hb]; exact hbk
  have B1 : Hid (Below w.heap.size w w1) := hb1
  obtain ⟨g, hg⟩ : ∃ g, w.heap.size = g := ⟨_, rfl⟩
  have HGG : Hid (w.heap.size = g) := hg
  rw [hg] at hmk
  clear h hbk hb1 hb h6 hg
  go_enter Try.func30, Try.ntmps30
  go_wp2
  go_loopw [12] (fun i wr => ∃ k : Nat, k ≤ n ∧ i = .int .i64 k ∧ Hid (BlkN wr g (intsL (cnts b (L.take k)))) ∧ Hid (Below w.heap.size w wr)) (fun i _ => n - (intOf i).toNat)
  case atStart => exact ⟨0, by omega, rfl, by rw [← HGG.out]; exact N1.out, B1.out⟩
  case round =>
    obtain ⟨k, hk, rfl, HI, HB⟩ := hrel
    by_cases hlt : k < n
    · obtain ⟨bb, off, rfl, HC⟩ := H.out.at hlt
      have i1 : (k : Int) < (n : Int) := by omega
      have kw : IntKind.i64.wrap ((k : Int) + 1) = k + 1 := i64_wf (by omega) (by omega)
      have C0 := (HC k hlt).below HB.out
      have HT := take_snoc7 L (k := k) (by have := HN.out; omega)
      obtain ⟨x, hx⟩ : ∃ x, L.getD k p70 = x := ⟨_, rfl⟩
      rw [hx] at C0 HT
      obtain ⟨x0, x1, x2, x3, x4, x5, x6⟩ := x
      have HTK : Hid (L.take (k + 1) = L.take k ++ [(x0, x1, x2, x3, x4, x5, x6)]) := HT
      obtain ⟨p0, p1, p2, p3, p4, p5, p6⟩ := C0
      simp only [P7.id, P7.fr, P7.to, P7.am, P7.cl, P7.st, P7.ti] at p0 p1 p2 p3 p4 p5 p6
      obtain ⟨w4, hw4⟩ : ∃ w4, w4 = wr.alloc (.cells #[.int .i64 x0, .int .i64 x1, .int .i64 x2, .int .i64 x3, .int .i64 x4, .int .i64 x5, .int .i64 x6] 51) := ⟨_, rfl⟩
      obtain ⟨f, hf⟩ : ∃ f, wr.heap.size = f := ⟨_, rfl⟩
      have P4 : PBox w4 f (x0, x1, x2, x3, x4, x5, x6) := by rw [hw4, ← hf]; exact PBox.new wr (x0, x1, x2, x3, x4, x5, x6)
      obtain ⟨-, q1, -, -, -, -, -⟩ := P4.at7
      simp only [P7.id, P7.fr, P7.to, P7.am, P7.cl, P7.st, P7.ti, Nat.zero_add] at q1
      have N4 : Hid (BlkN w4 g (intsL (cnts b (L.take k)))) := by rw [hw4]; exact HI.out.grown (grown_below (box_below _ _) none) (by simp)
      have B4 : Hid (Below w.heap.size w w4) := by rw [hw4]; exact HB.out.alloc HB.out.size _
      clear HC hx H HT N1 B1 HI HB P4
      go_upto_region 5 with fail
      rw [← hw4]
      clear hw4 p0 p1 p2 p3 p4 p5 p6
      try rw [hf]
      clear hf
      by_cases h0 : x1 < 0
      · have HE : Hid (cnts b (L.take (k + 1)) = cnts b (L.take k)) := by show _ = _; rw [HTK.out]; exact cnts_out (.inl h0)
        go_wp2
        go_roundw
        case rel => exact ⟨k + 1, by omega, by go_num, by rw [HE.out]; exact N4.out, B4⟩
        case measure => simp [intOf]; omega
      · have h0' : 0 ≤ x1 := by omega
        clear h0
        by_cases h2 : x1 < (m : Int)
        · obtain ⟨i, rfl⟩ : ∃ i : Nat, x1 = i := ⟨x1.toNat, by omega⟩
          have hi : i < m := by omega
          obtain ⟨z, hz⟩ : ∃ z, (cnts b (L.take k)).getD i 0 = z := ⟨_, rfl⟩
          have hz64 : z ≤ 64 := by
            rw [← hz, cnts_at _ _ (by have := HM.out.1; omega)]
            have h1 := cntF_le (L.take k) (i : Int)
            rw [List.length_take] at h1
            omega
          have HE : Hid (cnts b (L.take (k + 1)) = (cnts b (L.take k)).set i (z + 1)) := by
            show _ = _
            rw [HTK.out, ← hz]
            exact cnts_in rfl (by have := HM.out.1; omega)
          have hc := N4.out.cell (k := i) (by rw [intsL_len, cnts_len]; have := HM.out.1; omega)
          rw [intsL_at (by rw [cnts_len]; have := HM.out.1; omega), hz] at hc
          have hfz := N4.out.free i
          have hzw : IntKind.i64.wrap ((z : Int) + 1) = (z : Int) + 1 := i64_wf (by omega) (by omega)
          have NS : Hid (BlkN (w4.setCell ⟨g, i, none⟩ (.int .i64 ((z : Int) + 1))) g (intsL (cnts b (L.take (k + 1))))) := by
            rw [HE.out, ← intsL_set, show ((z + 1 : Nat) : Int) = (z : Int) + 1 from by omega]
            exact N4.out.set i _
          have BS : Hid (Below w.heap.size w (w4.setCell ⟨g, i, none⟩ (.int .i64 ((z : Int) + 1)))) := B4.out.setCell (p := ⟨g, i, none⟩) (by have := HGG.out; show w.heap.size ≤ g; omega) _
          obtain ⟨w5, hw5⟩ : ∃ w5, w5 = w4.setCell ⟨g, i, none⟩ (.int .i64 ((z : Int) + 1)) := ⟨_, rfl⟩
          rw [← hw5] at NS BS
          clear hz hz64 HE N4 B4
          go_upto_region 7 with fail
          rw [← hw5]
          clear hw5 hc hfz hzw
          go_wp2
          go_roundw
          case rel => exact ⟨k + 1, by omega, by go_num, NS, BS⟩
          case measure => simp [intOf]; omega
        · have HE : Hid (cnts b (L.take (k + 1)) = cnts b (L.take k)) := by show _ = _; rw [HTK.out]; exact cnts_out (.inr (by have := HM.out.1; show ((b.A.length : Nat) : Int) ≤ x1; omega))
          go_wp2
          go_roundw
          case rel => exact ⟨k + 1, by omega, by go_num, by rw [HE.out]; exact N4.out, B4⟩
          case measure => simp [intOf]; omega
    · obtain rfl : k = n := by omega
      have HL : Hid (L.take k = L) := by show _ = _; rw [HN.out, List.take_length]
      clear H
      go_wp2
      go_ret
      have hi := HI.out
      rw [HL.out] at hi
      have ho := hi.ownV (B := w.heap.size) (by have := HGG.out; omega) (by rw [cnts_len]; have := HM.out; unfold maxLen; omega)
      rw [cnts_len, HM.out.1] at ho
      exact ⟨g, rfl, ho, HB.out⟩

end Go.Proofs.Ytlackjldopeigaa
