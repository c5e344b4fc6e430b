/-
  view.othersOf, view.May and the function in it.
-/
import Derived.Test.YtmfmdicdbjghkaaViewReady
import Derived.Test.YtmfmdicdbjghkaaMapI
namespace Go.Proofs.Ytmfmdicdbjghkaa
open Go.RowKit Go.Maps
set_option linter.unusedVariables false
set_option linter.unusedSimpArgs false

set_option maxHeartbeats 4000000 in
theorem othersOf_any (a : Option Addr) (n c : Nat) (L : List P7) (w : World) (h : PGood w a n c L) (hm : n ≤ 100000) (hf : FrOk L) :
    Calls Try.prog 26 #[.slice a n c] w fun e w' => e = .returned (.map (some w.heap.size)) ∧ MapI w' w.heap.size n (fun f => othF L f) ∧ Below w.heap.size w w' := by
  have H : Hid (PGood w a n c L) := h
  have HN : Hid (n = L.length) := h.len
  have HF : Hid (FrOk L) := hf
  have hmm := @run_makeMap Try.prog
  clear h hf
  go_enter Try.func26, Try.ntmps26
  go_wp2
  go_loopw [9] (fun i wr => ∃ k : Nat, k ≤ n ∧ i = .int .i64 k ∧ Hid (MapI wr w.heap.size k (fun f => othF (L.take k) f)) ∧ Hid (Below w.heap.size w wr)) (fun i _ => n - (intOf i).toNat)
  case atStart => exact ⟨0, by omega, rfl, (MapI.new w).congr (fun x => rfl), box_below _ _⟩
  case round =>
    obtain ⟨k, hk, rfl, HM, HB⟩ := hrel
    by_cases hlt : k < n
    · obtain ⟨b, off, rfl, HC⟩ := H.out.at hlt
      have i1 : (k : Int) < (n : Int) := by omega
      have C0 := (HC k hlt).below HB.out
      have W0 := HF.out.at (k := k) (by have := HN.out; omega)
      have HT := take_snoc7 L (k := k) (by have := HN.out; omega)
      have hle : othF (L.take k) (L.getD k p70).fr ≤ k := Nat.le_trans (othF_le _ _) (by simp; omega)
      obtain ⟨x, hx⟩ : ∃ x, L.getD k p70 = x := ⟨_, rfl⟩
      rw [hx] at C0 W0 HT hle
      obtain ⟨x0, x1, x2, x3, x4, x5, x6⟩ := x
      have HTK : Hid (L.take (k + 1) = L.take k ++ [(x0, x1, x2, x3, x4, x5, x6)]) := HT
      obtain ⟨p0, p1, p2, p3, p4, p5, p6⟩ := C0
      simp only [P7.id, P7.fr, P7.to, P7.am, P7.cl, P7.st, P7.ti] at p0 p1 p2 p3 p4 p5 p6 W0 hle
      obtain ⟨q, hq⟩ : ∃ q : Nat, othF (L.take k) x1 = q := ⟨_, rfl⟩
      rw [hq] at hle
      have HQ : Hid (othF (L.take k) x1 = q) := hq
      have HW : Hid (IntKind.i64.wrap x1 = x1) := W0
      have q1 : (q : Int) ≤ 100000 := by omega
      have HQ2 : Hid (IntKind.i64.wrap ((q : Int) + 1) = (q : Int) + 1) := i64_wf (by omega) (by omega)
      clear HC hx H HT W0 hq hle
      cases hr : (x4 == 3) with
      | true =>
        have hx4 : x4 = 3 := by simpa using hr
        have HM2 : Hid (MapI (wr.alloc (.cells #[.int .i64 x0, .int .i64 x1, .int .i64 x2, .int .i64 x3, .int .i64 x4, .int .i64 x5, .int .i64 x6] 34)) w.heap.size (k + 1) (fun f => othF (L.take (k + 1)) f)) :=
          ((HM.out.below (box_below _ _)).mono (Nat.le_succ k)).congr fun f => by
            rw [HTK.out, othF_snoc]
            simp [P7.cl, hx4]
        have HB2 : Hid (Below w.heap.size w (wr.alloc (.cells #[.int .i64 x0, .int .i64 x1, .int .i64 x2, .int .i64 x3, .int .i64 x4, .int .i64 x5, .int .i64 x6] 34))) := HB.out.alloc HB.out.size _
        clear hr
        subst hx4
        go_wp2
        go_roundw
        case rel => exact ⟨k + 1, by omega, by go_num, HM2, HB2⟩
        case measure => simp [intOf]; omega
      | false =>
        have hx4 : ¬ x4 = 3 := by simpa using hr
        have HX4 : Hid (¬ x4 = 3) := hx4
        clear hx4
        go_wp2_with (first
          | (at_lookup; refine wpList_look rfl _ _ rfl w.heap.size k _ rfl (HM.out.below (box_below _ _)) x1 rfl HW.out ?_; rw [HQ.out])
          | (at_mapUpdate; refine wpList_mapPut rfl _ _ _ rfl w.heap.size k _ rfl (HM.out.below (box_below _ _)) (by omega) x1 ((q : Int) + 1) rfl HW.out rfl HQ2.out ?_; intro w2 hm2 hg2)
          | go_in)
        have M2 : Hid (MapI w2 w.heap.size (k + 1) (fun f => othF (L.take (k + 1)) f)) := hm2.congr fun f => by
          rw [HTK.out, othF_snoc]
          unfold upd
          by_cases hf : f = x1
          · subst hf
            have := HX4.out
            simp [HQ.out, P7.fr, P7.cl, this]
          · rw [if_neg hf, if_neg (fun e => hf e.1.symm)]
            simp
        have B2 : Hid (Below w.heap.size w w2) := (HB.out.alloc HB.out.size _).grown hg2 (by rw [size_alloc]; have := HB.out.size; omega) (fun j hj => by cases hj; exact Nat.le_refl _)
        clear hm2 hg2
        go_wp2
        go_roundw
        case rel => exact ⟨k + 1, by omega, by go_num, M2, B2⟩
        case measure => simp [intOf]; omega
    · obtain rfl : k = n := by omega
      have HL : Hid (L.take k = L) := by show _ = _; rw [HN.out, List.take_length]
      clear H
      go_wp2
      go_ret
      have hm2 := HM.out
      rw [HL.out] at hm2
      exact ⟨rfl, hm2, HB.out⟩

end Go.Proofs.Ytmfmdicdbjghkaa
