/-
  girolaw10.LimZero: of any books what all have sent net is 0 together.
-/
import Derived.Test.YtpaieecbedgeaaaKnown10
import Derived.Test.YtpaieecbedgeaaaLimRefIs
import Derived.Test.YtpaieecbedgeaaaBksArg
namespace Go.Proofs.Ytpaieecbedgeaaa
open Go.RowKit
set_option linter.unusedVariables false
set_option linter.unusedSimpArgs false

set_option maxHeartbeats 4000000 in
theorem Walk.limZero (x : BA) (b : Bks) (w : World) (h : Bk w x b) : Calls Try.prog 3 #[x.val] w fun e w' => e = .returned (.bool true) ∧ Below w.heap.size w w' := by
  obtain ⟨aA, nA, cA, aB, nB, cB, aM, nM, cM, aP, nP, cP⟩ := x
  have HLA : Hid (nA = b.A.length) := h.acc.1
  obtain ⟨w2, hw2⟩ : ∃ w2, w2 = w.alloc (.cells #[.slice aA nA cA, .slice aB nB cB, .slice aM nM cM, .slice aP nP cP] 26) := ⟨_, rfl⟩
  have B2 : Hid (Below w.heap.size w w2) := by rw [hw2]; exact box_below _ _
  have X2 : Hid (Box4 w2 w.heap.size ⟨aA, nA, cA, aB, nB, cB, aM, nM, cM, aP, nP, cP⟩) := by rw [hw2]; exact Box4.new w ⟨aA, nA, cA, aB, nB, cB, aM, nM, cM, aP, nP, cP⟩ _ _
  have HX : Hid (Bk w2 ⟨aA, nA, cA, aB, nB, cB, aM, nM, cM, aP, nP, cP⟩ b) := h.below B2.out
  clear h
  have E := refBooksIs_any ⟨aA, nA, cA, aB, nB, cB, aM, nM, cM, aP, nP, cP⟩ b w2 HX.out
  obtain ⟨q, hq⟩ : ∃ q, booksB b = q := ⟨_, rfl⟩
  have HQ : Hid (booksB b = q) := hq
  rw [hq, hw2] at E
  clear hq
  have K := known10
  go_enter Try.func3, Try.ntmps3
  go_wp2_with fail
  go_at_call 6
  refine E.mono ?_
  rintro e w3 ⟨rfl, hb⟩
  rw [← hw2] at hb
  have HB3 : Hid (Below w2.heap.size w2 w3) := hb
  clear hb hw2 E
  cases q
  · go_wp2
    go_ret
    exact ⟨rfl, B2.out.trans (HB3.out.mono B2.out.size)⟩
  have G := booksB_yes.1 HQ.out
  have HG : Hid (Good b) := G
  have h6 : nA ≤ 6 := by have := HLA.out; have := G.n6; omega
  have HSQ : Hid (squareB b.P nA = true) := by rw [HLA.out]; exact squareB_yes.2 ⟨G.pos, G.poss⟩
  have HPB : Hid (∀ i k, i < nA → k < nA → posB (at2 b.P i k) = true) := by rw [HLA.out]; exact G.may
  have HT : Hid (netSum b.P nA nA = 0) := netSum_zero (by rw [HLA.out]; exact G.turn)
  clear G
  go_wp2
  go_loopw [3, 4] (fun s t wr => ∃ i : Nat, i ≤ nA ∧ t = .int .i64 i ∧ s = .int .i64 (netSum b.P nA i) ∧ Below w2.heap.size w2 wr) (fun _ t _ => nA - (intOf t).toNat)
  case atStart => exact ⟨0, by omega, rfl, rfl, HB3.out⟩
  case round =>
    obtain ⟨i, hi, rfl, rfl, hb⟩ := hrel
    have HB : Hid (Below w2.heap.size w2 wr) := hb
    obtain ⟨x0, x1, x2, x3⟩ := X2.out.below hb
    have HXr : Hid (Bk wr ⟨aA, nA, cA, aB, nB, cB, aM, nM, cM, aP, nP, cP⟩ b) := HX.out.below hb
    clear hb
    by_cases hlt : i < nA
    · have i1 : (i : Int) < (nA : Int) := by omega
      have E1 := limNet_any ⟨aA, nA, cA, aB, nB, cB, aM, nM, cM, aP, nP, cP⟩ b i nA wr HXr.out h6 HSQ.out hlt (fun k hk => HPB.out i k hlt hk)
      have bd := netSum_bound h6 HPB.out i hi
      have be := netTo_bound (fun k hk => HPB.out i k hlt hk) nA (Nat.le_refl _)
      have HE : Hid (netSum b.P nA (i + 1) = netSum b.P nA i + netTo b.P i nA) := rfl
      have bd1 : -2594073385365405696 ≤ netSum b.P nA i ∧ netSum b.P nA i ≤ 2594073385365405696 := by omega
      have be1 : -432345564227567616 ≤ netTo b.P i nA ∧ netTo b.P i nA ≤ 432345564227567616 := by omega
      clear bd be
      have E2 : Hid (∀ u, Below wr.heap.size wr u → Calls Try.prog 8 #[BA.val ⟨aA, nA, cA, aB, nB, cB, aM, nM, cM, aP, nP, cP⟩, .int .i64 i] u fun e w' => e = .returned (.int .i64 (netTo b.P i nA)) ∧ Below u.heap.size u w') := fun u hu =>
        refNet_any ⟨aA, nA, cA, aB, nB, cB, aM, nM, cM, aP, nP, cP⟩ b i nA u (HXr.out.below hu) h6 HSQ.out hlt (fun k hk => HPB.out i k hlt hk)
      generalize netTo b.P i nA = v at E1 E2 be1 HE
      generalize netSum b.P nA i = s at bd1 HE ⊢
      obtain ⟨bd0, bd1⟩ := bd1
      obtain ⟨be0, be1⟩ := be1
      go_wp2_with fail
      go_at_call 7
      refine E1.mono ?_
      rintro e w4 ⟨rfl, hb4⟩
      have H4 : Hid (Below wr.heap.size wr w4) := hb4
      have HB4 : Hid (Below w2.heap.size w2 w4) := HB.out.trans (hb4.mono HB.out.size)
      clear hb4 E1 x0 x1 x2 x3
      obtain ⟨x0, x1, x2, x3⟩ := X2.out.below HB4.out
      go_wp2_with fail
      go_at_call 8
      refine (E2.out w4 H4.out).mono ?_
      rintro e w5 ⟨rfl, hb5⟩
      have HB5 : Hid (Below w2.heap.size w2 w5) := HB4.out.trans (hb5.mono HB4.out.size)
      clear hb5 E2 H4 HB4 x0 x1 x2 x3
      go_wp2
      go_roundw
      case rel => exact ⟨i + 1, by omega, by go_num, by rw [HE.out], HB5.out⟩
      case measure => simp [intOf]; omega
    · obtain rfl : i = nA := by omega
      rw [HT.out]
      have HBW : Hid (Below w.heap.size w wr) := B2.out.trans (HB.out.mono B2.out.size)
      go_wp2_with fail
      go_at_call 9
      refine (K _).mono ?_
      rintro e w4 ⟨rfl, hb4⟩
      have HBW4 : Hid (Below w.heap.size w w4) := HBW.out.trans (hb4.mono HBW.out.size)
      clear hb4
      go_wp2
      go_ret
      exact ⟨rfl, HBW4.out⟩

end Go.Proofs.Ytpaieecbedgeaaa
