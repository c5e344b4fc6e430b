/-
  giroref10.Is: are they books, as the document has it.
-/
import Derived.Test.YtpaieecbedgeaaaLimIs
import Derived.Test.YtpaieecbedgeaaaFactsIf
import Derived.Test.YtpaieecbedgeaaaFactK
namespace Go.Proofs.Ytpaieecbedgeaaa
open Go.RowKit
set_option linter.unusedVariables false
set_option linter.unusedSimpArgs false

theorem refLimit_any (v : Int) (w : World) : Calls Try.prog 21 #[.int .i64 v] w fun e w' => e = .returned (.bool (limB v)) ∧ w' = w := by
  rcases Int.lt_or_le v (-1) with h | h
  · go_enter Try.func21, Try.ntmps21
    go_wp2
    go_ret
    exact ⟨rt_bool (limB_low h), rfl⟩
  · go_enter Try.func21, Try.ntmps21
    go_wp2
    go_ret
    exact ⟨rt_bool (limB_rest' h), rfl⟩

theorem squareB_len {R : List (List Int)} {m : Nat} (h : ¬ R.length = m) : false = squareB R m := by simp [squareB, h]
theorem squareB_all {R : List (List Int)} {m : Nat} (h : R.length = m) : squareB R m = R.all fun z => decide (z.length = m) := by simp [squareB, h]

set_option maxHeartbeats 1000000 in
theorem refSquare2_row (b off c m : Nat) (R : List (List Int)) (w : World) (hl : R.length = m) (hm : m ≤ 6)
    (hc : ∀ i, i < R.length → ∃ x c, w.cell? ⟨b, off + i, none⟩ = some (.slice x (R.getD i []).length c) ∧ Sl .i64 w x (R.getD i []).length (R.getD i []) ∧ (x = none → c = 0)) :
    Calls Try.prog 19 #[.slice (some ⟨b, off, none⟩) m c, .int .i64 m] w fun e w' => e = .returned (.bool (squareB R m)) ∧ w' = w := by
  rw [squareB_all hl]
  have HL : Hid (R.length = m) := hl
  clear hl
  go_enter Try.func19, Try.ntmps19
  go_wp2
  go_loop [5] (fun i => ∃ k : Nat, k ≤ m ∧ i = .int .i64 k ∧ ((R.take k).all fun z => decide (z.length = m)) = true) (fun i => m - (intOf i).toNat)
  case atStart => exact ⟨0, by omega, rfl, by simp⟩
  case round =>
    obtain ⟨k, hk, rfl, ha⟩ := hrel
    have HA : Hid (((R.take k).all fun z => decide (z.length = m)) = true) := ha
    clear ha
    by_cases hlt : k < m
    · have HT : Hid (k < R.length) := by show k < R.length; rw [HL.out]; exact hlt
      obtain ⟨x, d, c1, _, _⟩ := hc k HT.out
      obtain ⟨l, hz⟩ : ∃ l, (R.getD k []).length = l := ⟨_, rfl⟩
      rw [hz] at c1
      have i1 : (k : Int) < (m : Int) := by omega
      have HZ : Hid ((R.getD k []).length = l) := hz
      clear hz hc
      by_cases hlm : l = m
      · have h' : ((l : Int) == (m : Int)) = true := by rw [beq_iff_eq]; omega
        have HS : Hid (((R.take (k + 1)).all fun z => decide (z.length = m)) = true) := all_snoc (d := []) HT.out HA.out (by rw [HZ.out]; exact decide_eq_true hlm)
        clear hlm HZ HA
        go_wp2
        go_round
        case rel => exact ⟨k + 1, by omega, by go_num, HS.out⟩
        case measure => simp [intOf]; omega
      · have h' : ((l : Int) == (m : Int)) = false := by rw [beq_eq_false_iff_ne]; omega
        have HS : Hid (false = R.all fun z => decide (z.length = m)) := all_no (d := []) HT.out (by rw [HZ.out]; exact decide_eq_false hlm)
        clear hlm HZ HA
        go_wp2
        go_ret
        exact ⟨rt_bool HS.out, rfl⟩
    · obtain rfl : k = m := by omega
      have HS : Hid (true = R.all fun z => decide (z.length = k)) := all_take (by rw [HL.out]; exact HA.out)
      clear hc HA
      go_wp2
      go_ret
      exact ⟨rt_bool HS.out, rfl⟩

theorem refSquare2_any (a : Option Addr) (n c m : Nat) (R : List (List Int)) (w : World) (h : RowsI w a n R) (hm : m ≤ 6) (hm0 : 0 < m) :
    Calls Try.prog 19 #[.slice a n c, .int .i64 m] w fun e w' => e = .returned (.bool (squareB R m)) ∧ w' = w := by
  have l1 := h.1
  by_cases he : n = m
  · subst he
    rcases h.2.2 with h0 | ⟨b, off, rfl, hc⟩
    · subst h0; simp at l1; omega
    · exact refSquare2_row b off c n R w l1.symm hm hc
  · have h' : ((n : Int) == (m : Int)) = false := by rw [beq_eq_false_iff_ne]; omega
    rw [← squareB_len (R := R) (m := m) (by omega)]
    clear h l1 he
    go_enter Try.func19, Try.ntmps19
    go_wp2
    go_ret
    exact ⟨rfl, rfl⟩

theorem at2_wf {R : List (List Int)} (h : ∀ z ∈ R, W64 z) (i k : Nat) : -9223372036854775808 ≤ at2 R i k ∧ at2 R i k ≤ 9223372036854775807 := by
  unfold at2
  by_cases hk : k < (R.getD i []).length
  · exact wf_i64 (getD_w64 h i _ (getD_mem hk))
  · have : (R.getD i []).getD k 0 = 0 := by simp only [List.getD_eq_getElem?_getD]; rw [List.getElem?_eq_none (by simpa [List.getD_eq_getElem?_getD] using hk)]; rfl
    rw [this]
    omega
theorem turned_no {p q : Int} (h : (p != IntKind.i64.wrap (-q)) = false) (q0 : -9223372036854775808 ≤ q) (q1 : q ≤ 9223372036854775807) (h0 : -72057594037927936 < p) (h1 : p < 72057594037927936) : p = -q := by
  have h : p = IntKind.i64.wrap (-q) := by simpa [bne] using h
  rw [IntKind.wrap_i64] at h
  omega
theorem turned_yes {p q : Int} (h : (p != IntKind.i64.wrap (-q)) = true) (q0 : -9223372036854775808 ≤ q) (h0 : -72057594037927936 < p) (h1 : p < 72057594037927936) (e : p = -q) : False := by
  have h : ¬ p = IntKind.i64.wrap (-q) := by simpa [bne] using h
  rw [IntKind.wrap_i64] at h
  omega
theorem booksB_no {b : Bks} (h : ¬ Good b) : false = booksB b := by
  symm
  rw [Bool.eq_false_iff]
  intro hb
  exact h (booksB_yes.1 hb)
theorem rowB_snoc {b : Bks} {n i : Nat} (ha : acctAt b.A i = true) (hm : limB (b.M.getD i 0) = true) (hk : ∀ k, k < n → cellB b i k = true) : rowB b n i = true := by
  unfold rowB
  rw [ha, hm]
  simp only [Bool.true_and]
  exact range_all.2 hk
theorem cellB_mk {b : Bks} {i k : Nat} (h1 : limB (at2 b.B i k) = true) (h2 : posB (at2 b.P i k) = true) (h3 : at2 b.P i k = -at2 b.P k i) : cellB b i k = true := by
  unfold cellB
  rw [h1, h2, decide_eq_true h3]
  rfl
theorem booksB_mk {b : Bks} {n : Nat} (hn : n = b.A.length) (h1 : 1 ≤ n) (h6 : n ≤ 6) (sB : squareB b.B n = true) (sP : squareB b.P n = true) (hM : b.M.length = n) (hr : ∀ i, i < n → rowB b n i = true) : true = booksB b := by
  subst hn
  unfold booksB
  rw [sB, sP, decide_eq_true (show 1 ≤ b.A.length ∧ b.A.length ≤ 6 from ⟨h1, h6⟩), decide_eq_true hM, range_all.2 hr]
  rfl

set_option maxHeartbeats 20000000 in
set_option maxRecDepth 100000 in
theorem refBooksIs_any (x : BA) (b : Bks) (w : World) (h : Bk w x b) : Calls Try.prog 6 #[x.val] w fun e w' => e = .returned (.bool (booksB b)) ∧ Below w.heap.size w w' := by
  obtain ⟨aA, nA, cA, aB, nB, cB, aM, nM, cM, aP, nP, cP⟩ := x
  have lA : nA = b.A.length := h.acc.1
  have lM : nM = b.M.length := h.mul.1
  obtain ⟨w2, hw2⟩ : ∃ w2, w2 = w.alloc (.cells #[.slice aA nA cA, .slice aB nB cB, .slice aM nM cM, .slice aP nP cP] 26) := ⟨_, rfl⟩
  have B2 : Hid (Below w.heap.size w w2) := by rw [hw2]; exact box_below _ _
  have X2 : Hid (Box4 w2 w.heap.size ⟨aA, nA, cA, aB, nB, cB, aM, nM, cM, aP, nP, cP⟩) := by rw [hw2]; exact Box4.new w ⟨aA, nA, cA, aB, nB, cB, aM, nM, cM, aP, nP, cP⟩ _ _
  have HX : Hid (Bk w2 ⟨aA, nA, cA, aB, nB, cB, aM, nM, cM, aP, nP, cP⟩ b) := h.below B2.out
  have HLA : Hid (nA = b.A.length) := lA
  have HLM : Hid (nM = b.M.length) := lM
  clear h lA lM
  rcases Nat.lt_or_ge nA 1 with h0 | h0
  · obtain rfl : nA = 0 := by omega
    have HN : Hid (false = booksB b) := booksB_no fun g => by have := g.n1; have := HLA.out; omega
    go_enter Try.func6, Try.ntmps6
    go_wp2
    go_ret
    exact ⟨rt_bool HN.out, box_below _ _⟩
  have i0 : 1 ≤ (nA : Int) := by omega
  rcases Nat.lt_or_ge 6 nA with h6 | h6
  · have HN : Hid (false = booksB b) := booksB_no fun g => by have := g.n6; have := HLA.out; omega
    go_enter Try.func6, Try.ntmps6
    go_wp2
    go_ret
    exact ⟨rt_bool HN.out, box_below _ _⟩
  have i6 : (nA : Int) ≤ 6 := by omega
  have EB := refSquare2_any aB nB cB nA b.B w2 HX.out.bil h6 h0
  have EP := refSquare2_any aP nP cP nA b.P w2 HX.out.pos h6 h0
  rw [hw2] at EB EP
  obtain ⟨q1, hq1⟩ : ∃ q, squareB b.B nA = q := ⟨_, rfl⟩
  have HQ1 : Hid (squareB b.B nA = q1) := hq1
  rw [hq1] at EB
  clear hq1
  obtain ⟨q2, hq2⟩ : ∃ q, squareB b.P nA = q := ⟨_, rfl⟩
  have HQ2 : Hid (squareB b.P nA = q2) := hq2
  rw [hq2] at EP
  clear hq2
  go_enter Try.func6, Try.ntmps6
  go_wp2_with fail
  go_at_call 19
  refine EB.mono ?_
  rintro e w3 ⟨rfl, hw⟩
  obtain rfl := hw.symm
  clear EB hw
  cases q1
  · have HN : Hid (false = booksB b) := booksB_no fun g => by
      have := squareB_yes.2 ⟨g.bil, g.bils⟩
      rw [← HLA.out, HQ1.out] at this
      exact Bool.noConfusion this
    go_wp2
    go_ret
    exact ⟨rt_bool HN.out, box_below _ _⟩
  go_wp2_with fail
  go_at_call 19
  refine EP.mono ?_
  rintro e w3 ⟨rfl, hw⟩
  rw [← hw2] at hw
  obtain rfl := hw.symm
  clear EP hw hw2
  obtain ⟨x0, x1, x2, x3⟩ := X2.out
  cases q2
  · have HN : Hid (false = booksB b) := booksB_no fun g => by
      have := squareB_yes.2 ⟨g.pos, g.poss⟩
      rw [← HLA.out, HQ2.out] at this
      exact Bool.noConfusion this
    go_wp2
    go_ret
    exact ⟨rt_bool HN.out, B2.out⟩
  by_cases hmn : nM = nA
  case neg =>
    have h' : ((nM : Int) == (nA : Int)) = false := by rw [beq_eq_false_iff_ne]; omega
    have h'' : ((nM : Int) != (nA : Int)) = true := by rw [bne, h']; rfl
    have HN : Hid (false = booksB b) := booksB_no fun g => by have := g.mul; have := HLA.out; have := HLM.out; omega
    go_wp2
    go_ret
    exact ⟨rt_bool HN.out, B2.out⟩
  subst hmn
  obtain ⟨bB, oB, ha, hn, SB⟩ := RowsI.sq HX.out.bil h0 HQ1.out
  have hn : nB = nM := hn
  have ha : aB = some ⟨bB, oB, none⟩ := ha
  subst hn ha
  obtain ⟨bP, oP, ha, hn, SP⟩ := RowsI.sq HX.out.pos h0 HQ2.out
  have hn : nP = nB := hn
  have ha : aP = some ⟨bP, oP, none⟩ := ha
  subst hn ha
  have HSB : Hid (Sq w2 bB oB nP b.B) := SB
  have HSP : Hid (Sq w2 bP oP nP b.P) := SP
  obtain ⟨bA, oA, ha, CA⟩ : ∃ bA oA, aA = some ⟨bA, oA, none⟩ ∧ ∀ i, i < nP → w2.cell? ⟨bA, oA + i * 3, none⟩ = some (.int .i64 (b.A.getD i a30).1) ∧ w2.cell? ⟨bA, oA + i * 3 + 1, none⟩ = some (.int .i64 (b.A.getD i a30).2.1) ∧ w2.cell? ⟨bA, oA + i * 3 + 2, none⟩ = some (.int .i64 (b.A.getD i a30).2.2) := by
    rcases HX.out.acc.2 with h1 | ⟨b1, o1, h1, h2⟩
    · have := HLA.out
      rw [h1] at this
      simp at this
      omega
    · exact ⟨b1, o1, h1, fun i hi => h2 i (by have := HLA.out; omega)⟩
  obtain ⟨bM, oM, haM, CM⟩ : ∃ bM oM, aM = some ⟨bM, oM, none⟩ ∧ ∀ i, i < nP → w2.cell? ⟨bM, oM + i, none⟩ = some (.int .i64 (b.M.getD i 0)) := by
    rcases HX.out.mul.2.2 with h1 | ⟨b1, o1, h1, h2⟩
    · have := HLM.out
      rw [h1] at this
      simp at this
      omega
    · exact ⟨b1, o1, h1, fun i hi => h2 i (by have := HLM.out; omega)⟩
  have HCA := show Hid (∀ i, i < nP → w2.cell? ⟨bA, oA + i * 3, none⟩ = some (.int .i64 (b.A.getD i a30).1) ∧ w2.cell? ⟨bA, oA + i * 3 + 1, none⟩ = some (.int .i64 (b.A.getD i a30).2.1) ∧ w2.cell? ⟨bA, oA + i * 3 + 2, none⟩ = some (.int .i64 (b.A.getD i a30).2.2)) from CA
  have HCM := show Hid (∀ i, i < nP → w2.cell? ⟨bM, oM + i, none⟩ = some (.int .i64 (b.M.getD i 0))) from CM
  subst ha haM
  clear CA CM SB SP
  go_wp2
  clear x0 x1 x2 x3
  go_loopw [4] (fun t wr => ∃ i : Nat, i ≤ nP ∧ t = .int .i64 i ∧ (∀ a, a < i → rowB b nP a = true) ∧ Below w2.heap.size w2 wr) (fun t _ => nP - (intOf t).toNat)
  case atStart => exact ⟨0, by omega, rfl, fun a ha => by omega, Below.refl _ _⟩
  case round =>
    obtain ⟨i, hi, rfl, ha, hb⟩ := hrel
    have HA : Hid (∀ a, a < i → rowB b nP a = true) := ha
    have HB : Hid (Below w2.heap.size w2 wr) := hb
    have HBW : Hid (Below w.heap.size w wr) := B2.out.trans (hb.mono B2.out.size)
    obtain ⟨x0, x1, x2, x3⟩ := X2.out.below hb
    clear ha hb
    by_cases hlt : i < nP
    · have i1 : (i : Int) < (nP : Int) := by omega
      obtain ⟨p0, p1, p2⟩ := HCA.out i hlt
      have hlb := block_lt_of_cell p0
      replace p0 := (HB.out.cell (p := ⟨bA, oA + i * 3, none⟩) hlb).trans p0
      replace p1 := (HB.out.cell (p := ⟨bA, oA + i * 3 + 1, none⟩) hlb).trans p1
      replace p2 := (HB.out.cell (p := ⟨bA, oA + i * 3 + 2, none⟩) hlb).trans p2
      obtain ⟨y, hy⟩ : ∃ y, b.A.getD i a30 = y := ⟨_, rfl⟩
      rw [hy] at p0 p1 p2
      obtain ⟨y0, y1, y2⟩ := y
      simp only at p0 p1 p2
      have E := refAcctIs_any y0 y1 y2
      obtain ⟨q, hq⟩ : ∃ q, acctB y0 y1 y2 = q := ⟨_, rfl⟩
      rw [hq] at E
      have HQA : Hid (acctAt b.A i = q) := by
        show acctAt b.A i = q
        unfold acctAt
        rw [hy]
        exact hq
      clear hy hq hlb
      go_wp2_with fail
      go_at_call 20
      refine (E _).mono ?_
      rintro e w4 ⟨rfl, hb⟩
      have HB4 : Hid (Below w2.heap.size w2 w4) := HB.out.trans (hb.mono HB.out.size)
      have HBW4 : Hid (Below w.heap.size w w4) := B2.out.trans (HB4.out.mono B2.out.size)
      clear hb E HB HBW x0 x1 x2 x3 p0 p1 p2
      obtain ⟨x0, x1, x2, x3⟩ := X2.out.below HB4.out
      cases q
      · have HN : Hid (false = booksB b) := booksB_no fun g => by
          have := g.acc i (by rw [← HLA.out]; exact hlt)
          rw [HQA.out] at this
          exact Bool.noConfusion this
        go_wp2
        go_ret
        exact ⟨rt_bool HN.out, HBW4.out⟩
      have m0 := HCM.out i hlt
      replace m0 := (HB4.out.cell (p := ⟨bM, oM + i, none⟩) (block_lt_of_cell m0)).trans m0
      obtain ⟨y, hy⟩ : ∃ y, b.M.getD i 0 = y := ⟨_, rfl⟩
      rw [hy] at m0
      have E := refLimit_any y
      obtain ⟨q, hq⟩ : ∃ q, limB y = q := ⟨_, rfl⟩
      rw [hq] at E
      have HQM : Hid (limB (b.M.getD i 0) = q) := by rw [hy]; exact hq
      clear hy hq
      go_wp2_with fail
      go_at_call 21
      refine (E _).mono ?_
      rintro e w5 ⟨rfl, hw⟩
      obtain rfl := hw.symm
      clear hw E m0
      cases q
      · have HN : Hid (false = booksB b) := booksB_no fun g => by
          have := g.muls i (by rw [← HLA.out]; exact hlt)
          rw [HQM.out] at this
          exact Bool.noConfusion this
        go_wp2
        go_ret
        exact ⟨rt_bool HN.out, HBW4.out⟩
      go_wp2
      clear x0 x1 x2 x3
      go_loopw [5] (fun t wr => ∃ k : Nat, k ≤ nP ∧ t = .int .i64 k ∧ (∀ a, a < k → cellB b i a = true) ∧ Below w2.heap.size w2 wr) (fun t _ => nP - (intOf t).toNat)
      case atStart => exact ⟨0, by omega, rfl, fun a ha => by omega, HB4.out⟩
      case round =>
        obtain ⟨k, hk, rfl, ha, hb⟩ := hrel
        have HK : Hid (∀ a, a < k → cellB b i a = true) := ha
        have HBi : Hid (Below w2.heap.size w2 wr) := hb
        have HBWi : Hid (Below w.heap.size w wr) := B2.out.trans (hb.mono B2.out.size)
        obtain ⟨x0, x1, x2, x3⟩ := X2.out.below hb
        clear ha hb
        by_cases hkl : k < nP
        · have k1 : (k : Int) < (nP : Int) := by omega
          obtain ⟨g1, o1, d1, b0, b1⟩ := (HSB.out.below HBi.out) i hlt
          have bc := b1 k hkl
          obtain ⟨g2, o2, d2, r0, r1⟩ := (HSP.out.below HBi.out) i hlt
          have pc := r1 k hkl
          obtain ⟨g3, o3, d3, s0, s1⟩ := (HSP.out.below HBi.out) k hkl
          have qc := s1 i hlt
          have wq := at2_wf HX.out.pos.2.1 k i
          clear b1 r1 s1
          generalize hx : at2 b.B i k = x at bc
          generalize hp : at2 b.P i k = p at pc
          generalize hq : at2 b.P k i = q' at qc wq
          have HXP : Hid (at2 b.B i k = x ∧ at2 b.P i k = p ∧ at2 b.P k i = q' ∧ -9223372036854775808 ≤ q' ∧ q' ≤ 9223372036854775807) := ⟨hx, hp, hq, wq⟩
          clear hx hp hq wq
          obtain ⟨l, hl⟩ : ∃ l, limB x = l := ⟨_, rfl⟩
          have E : Hid (∀ u, Calls Try.prog 21 #[.int .i64 x] u fun e w' => e = .returned (.bool l) ∧ Below u.heap.size u w') := fun u => (refLimit_any x u).mono fun e w' h => ⟨by rw [h.1, hl], by rw [h.2]; exact Below.refl _ _⟩
          obtain ⟨a, ha⟩ : ∃ a, decide (p ≤ -72057594037927936) = a := ⟨_, rfl⟩
          obtain ⟨c, hc⟩ : ∃ c, decide (72057594037927936 ≤ p) = c := ⟨_, rfl⟩
          obtain ⟨n, hn⟩ : ∃ n, (p != IntKind.i64.wrap (-q')) = n := ⟨_, rfl⟩
          obtain ⟨R, hR⟩ : ∃ R, ((((!l) || a) || c) || n) = R := ⟨_, rfl⟩
          have HL1 : Hid (limB x = l) := hl
          have HA1 : Hid (decide (p ≤ -72057594037927936) = a) := ha
          have HC1 : Hid (decide (72057594037927936 ≤ p) = c) := hc
          have HN1 : Hid ((p != IntKind.i64.wrap (-q')) = n) := hn
          have HR : Hid (((((!l) || a) || c) || n) = R) := hR
          have X4 : Hid (Box4 wr w.heap.size ⟨some ⟨bA, oA, none⟩, nP, cA, some ⟨bB, oB, none⟩, nP, cB, some ⟨bM, oM, none⟩, nP, cM, some ⟨bP, oP, none⟩, nP, cP⟩) := X2.out.below HBi.out
          clear hl ha hc hn hR x0 x1 x2 x3
          cases R with
          | true =>
            have HN : Hid (false = booksB b) := booksB_no fun g => by
              have a1 := g.lim i k (by rw [← HLA.out]; exact hlt) (by rw [← HLA.out]; exact hkl)
              have a2 := posB_yes (g.may i k (by rw [← HLA.out]; exact hlt) (by rw [← HLA.out]; exact hkl))
              have a3 := g.turn i k (by rw [← HLA.out]; exact hlt) (by rw [← HLA.out]; exact hkl)
              obtain ⟨e1, e2, e3, e4, e5⟩ := HXP.out
              rw [e1, HL1.out] at a1
              rw [e2] at a2 a3
              rw [e3] at a3
              have hr := HR.out
              have b1 : a = false := by rw [← HA1.out, decide_eq_false_iff_not]; omega
              have b2 : c = false := by rw [← HC1.out, decide_eq_false_iff_not]; omega
              rw [a1, b1, b2] at hr
              have b3 : n = true := by simpa using hr
              rw [b3] at HN1
              exact turned_yes HN1.out e4 a2.1 a2.2 a3
            go_wp2
            refine region_owes (L := [Fact.is (.pointer (some ⟨w.heap.size, 1, none⟩)),
              Fact.is (.slice (some ⟨bB, oB, none⟩) nP cB),
              Fact.is (.int .i64 i),
              Fact.is (.pointer (some ⟨bB, oB + i, none⟩)),
              Fact.is (.slice (some ⟨g1, o1, none⟩) nP d1),
              Fact.is (.int .i64 k),
              Fact.is (.pointer (some ⟨g1, o1 + k, none⟩)),
              Fact.is (.int .i64 x),
              Fact.is (.bool l),
              Fact.is (.bool (!l)),
              Fact.is (.bool (!l)),
              Fact.when ((!l) == false) (.pointer (some ⟨w.heap.size, 3, none⟩)),
              Fact.when ((!l) == false) (.slice (some ⟨bP, oP, none⟩) nP cP),
              Fact.when ((!l) == false) (.int .i64 i),
              Fact.when ((!l) == false) (.pointer (some ⟨bP, oP + i, none⟩)),
              Fact.when ((!l) == false) (.slice (some ⟨g2, o2, none⟩) nP d2),
              Fact.when ((!l) == false) (.int .i64 k),
              Fact.when ((!l) == false) (.pointer (some ⟨g2, o2 + k, none⟩)),
              Fact.when ((!l) == false) (.int .i64 p),
              Fact.when ((!l) == false) (.bool a),
              Fact.is (.bool ((!l) || a)),
              Fact.is (.bool ((!l) || a)),
              Fact.when (((!l) || a) == false) (.pointer (some ⟨w.heap.size, 3, none⟩)),
              Fact.when (((!l) || a) == false) (.slice (some ⟨bP, oP, none⟩) nP cP),
              Fact.when (((!l) || a) == false) (.int .i64 i),
              Fact.when (((!l) || a) == false) (.pointer (some ⟨bP, oP + i, none⟩)),
              Fact.when (((!l) || a) == false) (.slice (some ⟨g2, o2, none⟩) nP d2),
              Fact.when (((!l) || a) == false) (.int .i64 k),
              Fact.when (((!l) || a) == false) (.pointer (some ⟨g2, o2 + k, none⟩)),
              Fact.when (((!l) || a) == false) (.int .i64 p),
              Fact.when (((!l) || a) == false) (.bool c),
              Fact.is (.bool (((!l) || a) || c)),
              Fact.is (.bool (((!l) || a) || c)),
              Fact.when ((((!l) || a) || c) == false) (.pointer (some ⟨w.heap.size, 3, none⟩)),
              Fact.when ((((!l) || a) || c) == false) (.slice (some ⟨bP, oP, none⟩) nP cP),
              Fact.when ((((!l) || a) || c) == false) (.int .i64 i),
              Fact.when ((((!l) || a) || c) == false) (.pointer (some ⟨bP, oP + i, none⟩)),
              Fact.when ((((!l) || a) || c) == false) (.slice (some ⟨g2, o2, none⟩) nP d2),
              Fact.when ((((!l) || a) || c) == false) (.int .i64 k),
              Fact.when ((((!l) || a) || c) == false) (.pointer (some ⟨g2, o2 + k, none⟩)),
              Fact.when ((((!l) || a) || c) == false) (.int .i64 p),
              Fact.when ((((!l) || a) || c) == false) (.pointer (some ⟨w.heap.size, 3, none⟩)),
              Fact.when ((((!l) || a) || c) == false) (.slice (some ⟨bP, oP, none⟩) nP cP),
              Fact.when ((((!l) || a) || c) == false) (.int .i64 k),
              Fact.when ((((!l) || a) || c) == false) (.pointer (some ⟨bP, oP + k, none⟩)),
              Fact.when ((((!l) || a) || c) == false) (.slice (some ⟨g3, o3, none⟩) nP d3),
              Fact.when ((((!l) || a) || c) == false) (.int .i64 i),
              Fact.when ((((!l) || a) || c) == false) (.pointer (some ⟨g3, o3 + i, none⟩)),
              Fact.when ((((!l) || a) || c) == false) (.int .i64 q'),
              Fact.when ((((!l) || a) || c) == false) (.int .i64 (IntKind.i64.wrap (-q'))),
              Fact.when ((((!l) || a) || c) == false) (.bool n),
              Fact.is (.bool true)])
              (T := [62, 63, 64, 65, 66, 67, 68, 69, 70, 71, 72, 73, 74, 75, 76, 77, 78, 79, 80, 81, 82, 83, 84, 85, 86, 87, 88, 89, 90, 91, 92, 93, 94, 95, 96, 97, 98, 99, 100, 101, 102, 103, 104, 105, 106, 107, 108, 109, 110, 111, 112, 113]) (by kernel_rfl) (by kernel_rfl) rfl ?owes ?_
            case owes =>
              refine .cons (owes_value fun q u lh => ⟨wants_free rfl, .pointer (some ⟨w.heap.size, 1, none⟩), by have e1 : q.tmps.getD 1 undef = .pointer (some ⟨w.heap.size, 0, none⟩) := lh.old 1 rfl; simp [execOp, Act.eval, e1, go_sem], rfl⟩) ?_
              refine .cons (owes_value fun q u lh => ⟨wants_free rfl, .slice (some ⟨bB, oB, none⟩) nP cB, by have e62 : q.tmps.getD 62 undef = .pointer (some ⟨w.heap.size, 1, none⟩) := lh.dep 0 rfl; obtain ⟨p0, p1, p2, p3⟩ := X4.out.below lh.below; simp [execOp, Act.eval, e62, p1, go_sem], rfl⟩) ?_
              refine .cons (owes_move (.tmp 4) (.inl rfl) fun q u lh => ⟨wants_free rfl, lh.old 4 rfl⟩) ?_
              refine .cons (owes_value fun q u lh => ⟨wants_free rfl, .pointer (some ⟨bB, oB + i, none⟩), by have e63 : q.tmps.getD 63 undef = .slice (some ⟨bB, oB, none⟩) nP cB := lh.dep 1 rfl; have e64 : q.tmps.getD 64 undef = .int .i64 i := lh.dep 2 rfl; simp [execOp, Act.eval, e63, e64, i1, go_sem], rfl⟩) ?_
              refine .cons (owes_value fun q u lh => ⟨wants_free rfl, .slice (some ⟨g1, o1, none⟩) nP d1, by have e65 : q.tmps.getD 65 undef = .pointer (some ⟨bB, oB + i, none⟩) := lh.dep 3 rfl; have r1 := (lh.below.cell (p := ⟨bB, oB + i, none⟩) (block_lt_of_cell b0)).trans b0; simp [execOp, Act.eval, e65, r1, go_sem], rfl⟩) ?_
              refine .cons (owes_move (.tmp 5) (.inl rfl) fun q u lh => ⟨wants_free rfl, lh.old 5 rfl⟩) ?_
              refine .cons (owes_value fun q u lh => ⟨wants_free rfl, .pointer (some ⟨g1, o1 + k, none⟩), by have e66 : q.tmps.getD 66 undef = .slice (some ⟨g1, o1, none⟩) nP d1 := lh.dep 4 rfl; have e67 : q.tmps.getD 67 undef = .int .i64 k := lh.dep 5 rfl; simp [execOp, Act.eval, e66, e67, k1, go_sem], rfl⟩) ?_
              refine .cons (owes_value fun q u lh => ⟨wants_free rfl, .int .i64 x, by have e68 : q.tmps.getD 68 undef = .pointer (some ⟨g1, o1 + k, none⟩) := lh.dep 6 rfl; have r1 := (lh.below.cell (p := ⟨g1, o1 + k, none⟩) (block_lt_of_cell bc)).trans bc; simp [execOp, Act.eval, e68, r1, go_sem], rfl⟩) ?_
              refine .cons (owes_call 21 Try.func21 (by kernel_rfl) (by kernel_rfl) [.tmp 69] #[2] rfl fun q u lh => ⟨wants_free rfl, by have e69 : q.tmps.getD 69 undef = .int .i64 x := lh.dep 7 rfl; show Calls Try.prog 21 #[q.tmps.getD 69 undef] u _; rw [e69]; exact bool_fact (E.out u)⟩) ?_
              refine .cons (owes_value fun q u lh => ⟨wants_free rfl, .bool (!l), by have e70 : q.tmps.getD 70 undef = .bool l := lh.dep 8 rfl; simp [execOp, Act.eval, e70, go_sem], rfl⟩) ?_
              refine .cons (owes_move (.tmp 71) (.inl rfl) fun q u lh => ⟨wants_free rfl, lh.dep 9 rfl⟩) ?_
              refine .cons (owes_when 10 false (!l) (.pointer (some ⟨w.heap.size, 3, none⟩)) rfl rfl rfl rfl fun hg q u lh => by have e1 : q.tmps.getD 1 undef = .pointer (some ⟨w.heap.size, 0, none⟩) := lh.old 1 rfl; simp [execOp, Act.eval, e1, go_sem]) ?_
              refine .cons (owes_when 10 false (!l) (.slice (some ⟨bP, oP, none⟩) nP cP) rfl rfl rfl rfl fun hg q u lh => by have e73 : q.tmps.getD 73 undef = .pointer (some ⟨w.heap.size, 3, none⟩) := (lh.dep 11 rfl) hg; obtain ⟨p0, p1, p2, p3⟩ := X4.out.below lh.below; simp [execOp, Act.eval, e73, p3, go_sem]) ?_
              refine .cons (owes_when 10 false (!l) (.int .i64 i) rfl rfl rfl rfl fun hg q u lh => by have e4 : q.tmps.getD 4 undef = .int .i64 i := lh.old 4 rfl; simp [execOp, Act.eval, e4, go_sem]) ?_
              refine .cons (owes_when 10 false (!l) (.pointer (some ⟨bP, oP + i, none⟩)) rfl rfl rfl rfl fun hg q u lh => by have e74 : q.tmps.getD 74 undef = .slice (some ⟨bP, oP, none⟩) nP cP := (lh.dep 12 rfl) hg; have e75 : q.tmps.getD 75 undef = .int .i64 i := (lh.dep 13 rfl) hg; simp [execOp, Act.eval, e74, e75, i1, go_sem]) ?_
              refine .cons (owes_when 10 false (!l) (.slice (some ⟨g2, o2, none⟩) nP d2) rfl rfl rfl rfl fun hg q u lh => by have e76 : q.tmps.getD 76 undef = .pointer (some ⟨bP, oP + i, none⟩) := (lh.dep 14 rfl) hg; have r1 := (lh.below.cell (p := ⟨bP, oP + i, none⟩) (block_lt_of_cell r0)).trans r0; simp [execOp, Act.eval, e76, r1, go_sem]) ?_
              refine .cons (owes_when 10 false (!l) (.int .i64 k) rfl rfl rfl rfl fun hg q u lh => by have e5 : q.tmps.getD 5 undef = .int .i64 k := lh.old 5 rfl; simp [execOp, Act.eval, e5, go_sem]) ?_
              refine .cons (owes_when 10 false (!l) (.pointer (some ⟨g2, o2 + k, none⟩)) rfl rfl rfl rfl fun hg q u lh => by have e77 : q.tmps.getD 77 undef = .slice (some ⟨g2, o2, none⟩) nP d2 := (lh.dep 15 rfl) hg; have e78 : q.tmps.getD 78 undef = .int .i64 k := (lh.dep 16 rfl) hg; simp [execOp, Act.eval, e77, e78, k1, go_sem]) ?_
              refine .cons (owes_when 10 false (!l) (.int .i64 p) rfl rfl rfl rfl fun hg q u lh => by have e79 : q.tmps.getD 79 undef = .pointer (some ⟨g2, o2 + k, none⟩) := (lh.dep 17 rfl) hg; have r1 := (lh.below.cell (p := ⟨g2, o2 + k, none⟩) (block_lt_of_cell pc)).trans pc; simp [execOp, Act.eval, e79, r1, go_sem]) ?_
              refine .cons (owes_when 10 false (!l) (.bool a) rfl rfl rfl rfl fun hg q u lh => by have e80 : q.tmps.getD 80 undef = .int .i64 p := (lh.dep 18 rfl) hg; simp [execOp, Act.eval, e80, HA1.out, go_sem]) ?_
              refine .cons (owes_or 72 81 10 19 (!l) a rfl rfl rfl rfl rfl rfl rfl rfl (rfl)) ?_
              refine .cons (owes_move (.tmp 82) (.inl rfl) fun q u lh => ⟨wants_free rfl, lh.dep 20 rfl⟩) ?_
              refine .cons (owes_when 21 false ((!l) || a) (.pointer (some ⟨w.heap.size, 3, none⟩)) rfl rfl rfl rfl fun hg q u lh => by have e1 : q.tmps.getD 1 undef = .pointer (some ⟨w.heap.size, 0, none⟩) := lh.old 1 rfl; simp [execOp, Act.eval, e1, go_sem]) ?_
              refine .cons (owes_when 21 false ((!l) || a) (.slice (some ⟨bP, oP, none⟩) nP cP) rfl rfl rfl rfl fun hg q u lh => by have e84 : q.tmps.getD 84 undef = .pointer (some ⟨w.heap.size, 3, none⟩) := (lh.dep 22 rfl) hg; obtain ⟨p0, p1, p2, p3⟩ := X4.out.below lh.below; simp [execOp, Act.eval, e84, p3, go_sem]) ?_
              refine .cons (owes_when 21 false ((!l) || a) (.int .i64 i) rfl rfl rfl rfl fun hg q u lh => by have e4 : q.tmps.getD 4 undef = .int .i64 i := lh.old 4 rfl; simp [execOp, Act.eval, e4, go_sem]) ?_
              refine .cons (owes_when 21 false ((!l) || a) (.pointer (some ⟨bP, oP + i, none⟩)) rfl rfl rfl rfl fun hg q u lh => by have e85 : q.tmps.getD 85 undef = .slice (some ⟨bP, oP, none⟩) nP cP := (lh.dep 23 rfl) hg; have e86 : q.tmps.getD 86 undef = .int .i64 i := (lh.dep 24 rfl) hg; simp [execOp, Act.eval, e85, e86, i1, go_sem]) ?_
              refine .cons (owes_when 21 false ((!l) || a) (.slice (some ⟨g2, o2, none⟩) nP d2) rfl rfl rfl rfl fun hg q u lh => by have e87 : q.tmps.getD 87 undef = .pointer (some ⟨bP, oP + i, none⟩) := (lh.dep 25 rfl) hg; have r1 := (lh.below.cell (p := ⟨bP, oP + i, none⟩) (block_lt_of_cell r0)).trans r0; simp [execOp, Act.eval, e87, r1, go_sem]) ?_
              refine .cons (owes_when 21 false ((!l) || a) (.int .i64 k) rfl rfl rfl rfl fun hg q u lh => by have e5 : q.tmps.getD 5 undef = .int .i64 k := lh.old 5 rfl; simp [execOp, Act.eval, e5, go_sem]) ?_
              refine .cons (owes_when 21 false ((!l) || a) (.pointer (some ⟨g2, o2 + k, none⟩)) rfl rfl rfl rfl fun hg q u lh => by have e88 : q.tmps.getD 88 undef = .slice (some ⟨g2, o2, none⟩) nP d2 := (lh.dep 26 rfl) hg; have e89 : q.tmps.getD 89 undef = .int .i64 k := (lh.dep 27 rfl) hg; simp [execOp, Act.eval, e88, e89, k1, go_sem]) ?_
              refine .cons (owes_when 21 false ((!l) || a) (.int .i64 p) rfl rfl rfl rfl fun hg q u lh => by have e90 : q.tmps.getD 90 undef = .pointer (some ⟨g2, o2 + k, none⟩) := (lh.dep 28 rfl) hg; have r1 := (lh.below.cell (p := ⟨g2, o2 + k, none⟩) (block_lt_of_cell pc)).trans pc; simp [execOp, Act.eval, e90, r1, go_sem]) ?_
              refine .cons (owes_when 21 false ((!l) || a) (.bool c) rfl rfl rfl rfl fun hg q u lh => by have e91 : q.tmps.getD 91 undef = .int .i64 p := (lh.dep 29 rfl) hg; simp [execOp, Act.eval, e91, HC1.out, go_sem]) ?_
              refine .cons (owes_or 83 92 21 30 ((!l) || a) c rfl rfl rfl rfl rfl rfl rfl rfl (rfl)) ?_
              refine .cons (owes_move (.tmp 93) (.inl rfl) fun q u lh => ⟨wants_free rfl, lh.dep 31 rfl⟩) ?_
              refine .cons (owes_when 32 false (((!l) || a) || c) (.pointer (some ⟨w.heap.size, 3, none⟩)) rfl rfl rfl rfl fun hg q u lh => by have e1 : q.tmps.getD 1 undef = .pointer (some ⟨w.heap.size, 0, none⟩) := lh.old 1 rfl; simp [execOp, Act.eval, e1, go_sem]) ?_
              refine .cons (owes_when 32 false (((!l) || a) || c) (.slice (some ⟨bP, oP, none⟩) nP cP) rfl rfl rfl rfl fun hg q u lh => by have e95 : q.tmps.getD 95 undef = .pointer (some ⟨w.heap.size, 3, none⟩) := (lh.dep 33 rfl) hg; obtain ⟨p0, p1, p2, p3⟩ := X4.out.below lh.below; simp [execOp, Act.eval, e95, p3, go_sem]) ?_
              refine .cons (owes_when 32 false (((!l) || a) || c) (.int .i64 i) rfl rfl rfl rfl fun hg q u lh => by have e4 : q.tmps.getD 4 undef = .int .i64 i := lh.old 4 rfl; simp [execOp, Act.eval, e4, go_sem]) ?_
              refine .cons (owes_when 32 false (((!l) || a) || c) (.pointer (some ⟨bP, oP + i, none⟩)) rfl rfl rfl rfl fun hg q u lh => by have e96 : q.tmps.getD 96 undef = .slice (some ⟨bP, oP, none⟩) nP cP := (lh.dep 34 rfl) hg; have e97 : q.tmps.getD 97 undef = .int .i64 i := (lh.dep 35 rfl) hg; simp [execOp, Act.eval, e96, e97, i1, go_sem]) ?_
              refine .cons (owes_when 32 false (((!l) || a) || c) (.slice (some ⟨g2, o2, none⟩) nP d2) rfl rfl rfl rfl fun hg q u lh => by have e98 : q.tmps.getD 98 undef = .pointer (some ⟨bP, oP + i, none⟩) := (lh.dep 36 rfl) hg; have r1 := (lh.below.cell (p := ⟨bP, oP + i, none⟩) (block_lt_of_cell r0)).trans r0; simp [execOp, Act.eval, e98, r1, go_sem]) ?_
              refine .cons (owes_when 32 false (((!l) || a) || c) (.int .i64 k) rfl rfl rfl rfl fun hg q u lh => by have e5 : q.tmps.getD 5 undef = .int .i64 k := lh.old 5 rfl; simp [execOp, Act.eval, e5, go_sem]) ?_
              refine .cons (owes_when 32 false (((!l) || a) || c) (.pointer (some ⟨g2, o2 + k, none⟩)) rfl rfl rfl rfl fun hg q u lh => by have e99 : q.tmps.getD 99 undef = .slice (some ⟨g2, o2, none⟩) nP d2 := (lh.dep 37 rfl) hg; have e100 : q.tmps.getD 100 undef = .int .i64 k := (lh.dep 38 rfl) hg; simp [execOp, Act.eval, e99, e100, k1, go_sem]) ?_
              refine .cons (owes_when 32 false (((!l) || a) || c) (.int .i64 p) rfl rfl rfl rfl fun hg q u lh => by have e101 : q.tmps.getD 101 undef = .pointer (some ⟨g2, o2 + k, none⟩) := (lh.dep 39 rfl) hg; have r1 := (lh.below.cell (p := ⟨g2, o2 + k, none⟩) (block_lt_of_cell pc)).trans pc; simp [execOp, Act.eval, e101, r1, go_sem]) ?_
              refine .cons (owes_when 32 false (((!l) || a) || c) (.pointer (some ⟨w.heap.size, 3, none⟩)) rfl rfl rfl rfl fun hg q u lh => by have e1 : q.tmps.getD 1 undef = .pointer (some ⟨w.heap.size, 0, none⟩) := lh.old 1 rfl; simp [execOp, Act.eval, e1, go_sem]) ?_
              refine .cons (owes_when 32 false (((!l) || a) || c) (.slice (some ⟨bP, oP, none⟩) nP cP) rfl rfl rfl rfl fun hg q u lh => by have e103 : q.tmps.getD 103 undef = .pointer (some ⟨w.heap.size, 3, none⟩) := (lh.dep 41 rfl) hg; obtain ⟨p0, p1, p2, p3⟩ := X4.out.below lh.below; simp [execOp, Act.eval, e103, p3, go_sem]) ?_
              refine .cons (owes_when 32 false (((!l) || a) || c) (.int .i64 k) rfl rfl rfl rfl fun hg q u lh => by have e5 : q.tmps.getD 5 undef = .int .i64 k := lh.old 5 rfl; simp [execOp, Act.eval, e5, go_sem]) ?_
              refine .cons (owes_when 32 false (((!l) || a) || c) (.pointer (some ⟨bP, oP + k, none⟩)) rfl rfl rfl rfl fun hg q u lh => by have e104 : q.tmps.getD 104 undef = .slice (some ⟨bP, oP, none⟩) nP cP := (lh.dep 42 rfl) hg; have e105 : q.tmps.getD 105 undef = .int .i64 k := (lh.dep 43 rfl) hg; simp [execOp, Act.eval, e104, e105, k1, go_sem]) ?_
              refine .cons (owes_when 32 false (((!l) || a) || c) (.slice (some ⟨g3, o3, none⟩) nP d3) rfl rfl rfl rfl fun hg q u lh => by have e106 : q.tmps.getD 106 undef = .pointer (some ⟨bP, oP + k, none⟩) := (lh.dep 44 rfl) hg; have r1 := (lh.below.cell (p := ⟨bP, oP + k, none⟩) (block_lt_of_cell s0)).trans s0; simp [execOp, Act.eval, e106, r1, go_sem]) ?_
              refine .cons (owes_when 32 false (((!l) || a) || c) (.int .i64 i) rfl rfl rfl rfl fun hg q u lh => by have e4 : q.tmps.getD 4 undef = .int .i64 i := lh.old 4 rfl; simp [execOp, Act.eval, e4, go_sem]) ?_
              refine .cons (owes_when 32 false (((!l) || a) || c) (.pointer (some ⟨g3, o3 + i, none⟩)) rfl rfl rfl rfl fun hg q u lh => by have e107 : q.tmps.getD 107 undef = .slice (some ⟨g3, o3, none⟩) nP d3 := (lh.dep 45 rfl) hg; have e108 : q.tmps.getD 108 undef = .int .i64 i := (lh.dep 46 rfl) hg; simp [execOp, Act.eval, e107, e108, i1, go_sem]) ?_
              refine .cons (owes_when 32 false (((!l) || a) || c) (.int .i64 q') rfl rfl rfl rfl fun hg q u lh => by have e109 : q.tmps.getD 109 undef = .pointer (some ⟨g3, o3 + i, none⟩) := (lh.dep 47 rfl) hg; have r1 := (lh.below.cell (p := ⟨g3, o3 + i, none⟩) (block_lt_of_cell qc)).trans qc; simp [execOp, Act.eval, e109, r1, go_sem]) ?_
              refine .cons (owes_when 32 false (((!l) || a) || c) (.int .i64 (IntKind.i64.wrap (-q'))) rfl rfl rfl rfl fun hg q u lh => by have e110 : q.tmps.getD 110 undef = .int .i64 q' := (lh.dep 48 rfl) hg; simp [execOp, Act.eval, e110, go_sem]) ?_
              refine .cons (owes_when 32 false (((!l) || a) || c) (.bool n) rfl rfl rfl rfl fun hg q u lh => by have e102 : q.tmps.getD 102 undef = .int .i64 p := (lh.dep 40 rfl) hg; have e111 : q.tmps.getD 111 undef = .int .i64 (IntKind.i64.wrap (-q')) := (lh.dep 49 rfl) hg; simp [execOp, Act.eval, e102, e111, HN1.out, go_sem]) ?_
              refine .cons (owes_or 94 112 32 50 (((!l) || a) || c) n rfl rfl rfl rfl rfl rfl rfl rfl (congrArg (fun b => Fact.is (.bool b)) HR.out.symm)) ?_
              exact .nil _
            intro q u hb hsz hdf hold hfact
            obtain ⟨v73, e73⟩ : ∃ v, q.tmps.getD 73 undef = v := ⟨_, rfl⟩
            obtain ⟨v74, e74⟩ : ∃ v, q.tmps.getD 74 undef = v := ⟨_, rfl⟩
            obtain ⟨v75, e75⟩ : ∃ v, q.tmps.getD 75 undef = v := ⟨_, rfl⟩
            obtain ⟨v76, e76⟩ : ∃ v, q.tmps.getD 76 undef = v := ⟨_, rfl⟩
            obtain ⟨v77, e77⟩ : ∃ v, q.tmps.getD 77 undef = v := ⟨_, rfl⟩
            obtain ⟨v78, e78⟩ : ∃ v, q.tmps.getD 78 undef = v := ⟨_, rfl⟩
            obtain ⟨v79, e79⟩ : ∃ v, q.tmps.getD 79 undef = v := ⟨_, rfl⟩
            obtain ⟨v80, e80⟩ : ∃ v, q.tmps.getD 80 undef = v := ⟨_, rfl⟩
            obtain ⟨v81, e81⟩ : ∃ v, q.tmps.getD 81 undef = v := ⟨_, rfl⟩
            obtain ⟨v84, e84⟩ : ∃ v, q.tmps.getD 84 undef = v := ⟨_, rfl⟩
            obtain ⟨v85, e85⟩ : ∃ v, q.tmps.getD 85 undef = v := ⟨_, rfl⟩
            obtain ⟨v86, e86⟩ : ∃ v, q.tmps.getD 86 undef = v := ⟨_, rfl⟩
            obtain ⟨v87, e87⟩ : ∃ v, q.tmps.getD 87 undef = v := ⟨_, rfl⟩
            obtain ⟨v88, e88⟩ : ∃ v, q.tmps.getD 88 undef = v := ⟨_, rfl⟩
            obtain ⟨v89, e89⟩ : ∃ v, q.tmps.getD 89 undef = v := ⟨_, rfl⟩
            obtain ⟨v90, e90⟩ : ∃ v, q.tmps.getD 90 undef = v := ⟨_, rfl⟩
            obtain ⟨v91, e91⟩ : ∃ v, q.tmps.getD 91 undef = v := ⟨_, rfl⟩
            obtain ⟨v92, e92⟩ : ∃ v, q.tmps.getD 92 undef = v := ⟨_, rfl⟩
            obtain ⟨v95, e95⟩ : ∃ v, q.tmps.getD 95 undef = v := ⟨_, rfl⟩
            obtain ⟨v96, e96⟩ : ∃ v, q.tmps.getD 96 undef = v := ⟨_, rfl⟩
            obtain ⟨v97, e97⟩ : ∃ v, q.tmps.getD 97 undef = v := ⟨_, rfl⟩
            obtain ⟨v98, e98⟩ : ∃ v, q.tmps.getD 98 undef = v := ⟨_, rfl⟩
            obtain ⟨v99, e99⟩ : ∃ v, q.tmps.getD 99 undef = v := ⟨_, rfl⟩
            obtain ⟨v100, e100⟩ : ∃ v, q.tmps.getD 100 undef = v := ⟨_, rfl⟩
            obtain ⟨v101, e101⟩ : ∃ v, q.tmps.getD 101 undef = v := ⟨_, rfl⟩
            obtain ⟨v102, e102⟩ : ∃ v, q.tmps.getD 102 undef = v := ⟨_, rfl⟩
            obtain ⟨v103, e103⟩ : ∃ v, q.tmps.getD 103 undef = v := ⟨_, rfl⟩
            obtain ⟨v104, e104⟩ : ∃ v, q.tmps.getD 104 undef = v := ⟨_, rfl⟩
            obtain ⟨v105, e105⟩ : ∃ v, q.tmps.getD 105 undef = v := ⟨_, rfl⟩
            obtain ⟨v106, e106⟩ : ∃ v, q.tmps.getD 106 undef = v := ⟨_, rfl⟩
            obtain ⟨v107, e107⟩ : ∃ v, q.tmps.getD 107 undef = v := ⟨_, rfl⟩
            obtain ⟨v108, e108⟩ : ∃ v, q.tmps.getD 108 undef = v := ⟨_, rfl⟩
            obtain ⟨v109, e109⟩ : ∃ v, q.tmps.getD 109 undef = v := ⟨_, rfl⟩
            obtain ⟨v110, e110⟩ : ∃ v, q.tmps.getD 110 undef = v := ⟨_, rfl⟩
            obtain ⟨v111, e111⟩ : ∃ v, q.tmps.getD 111 undef = v := ⟨_, rfl⟩
            obtain ⟨v112, e112⟩ : ∃ v, q.tmps.getD 112 undef = v := ⟨_, rfl⟩
            obtain rfl := frame_puts hsz hdf [62, 63, 64, 65, 66, 67, 68, 69, 70, 71, 72, 73, 74, 75, 76, 77, 78, 79, 80, 81, 82, 83, 84, 85, 86, 87, 88, 89, 90, 91, 92, 93, 94, 95, 96, 97, 98, 99, 100, 101, 102, 103, 104, 105, 106, 107, 108, 109, 110, 111, 112, 113] hold [(62, Value.pointer (some ⟨w.heap.size, 1, none⟩)), (63, Value.slice (some ⟨bB, oB, none⟩) nP cB), (64, Value.int .i64 i), (65, Value.pointer (some ⟨bB, oB + i, none⟩)), (66, Value.slice (some ⟨g1, o1, none⟩) nP d1), (67, Value.int .i64 k), (68, Value.pointer (some ⟨g1, o1 + k, none⟩)), (69, Value.int .i64 x), (70, Value.bool l), (71, Value.bool (!l)), (72, Value.bool (!l)), (73, v73), (74, v74), (75, v75), (76, v76), (77, v77), (78, v78), (79, v79), (80, v80), (81, v81), (82, Value.bool ((!l) || a)), (83, Value.bool ((!l) || a)), (84, v84), (85, v85), (86, v86), (87, v87), (88, v88), (89, v89), (90, v90), (91, v91), (92, v92), (93, Value.bool (((!l) || a) || c)), (94, Value.bool (((!l) || a) || c)), (95, v95), (96, v96), (97, v97), (98, v98), (99, v99), (100, v100), (101, v101), (102, v102), (103, v103), (104, v104), (105, v105), (106, v106), (107, v107), (108, v108), (109, v109), (110, v110), (111, v111), (112, v112), (113, Value.bool true)] ⟨hfact 0 (by decide), hfact 1 (by decide), hfact 2 (by decide), hfact 3 (by decide), hfact 4 (by decide), hfact 5 (by decide), hfact 6 (by decide), hfact 7 (by decide), hfact 8 (by decide), hfact 9 (by decide), hfact 10 (by decide), e73, e74, e75, e76, e77, e78, e79, e80, e81, hfact 20 (by decide), hfact 21 (by decide), e84, e85, e86, e87, e88, e89, e90, e91, e92, hfact 31 (by decide), hfact 32 (by decide), e95, e96, e97, e98, e99, e100, e101, e102, e103, e104, e105, e106, e107, e108, e109, e110, e111, e112, hfact 51 (by decide), trivial⟩ rfl
            clear hsz hdf hold hfact
            simp only [puts, Act.put, List.setIfInBounds_toArray, List.set_cons_zero, List.set_cons_succ]
            have HBu : Hid (Below w.heap.size w u) := HBWi.out.trans (hb.mono HBWi.out.size)
            clear hb
            go_wp2
            go_ret
            exact ⟨rt_bool HN.out, HBu.out⟩
          | false =>
            have HS : Hid (∀ a, a < k + 1 → cellB b i a = true) := bil_succ HK.out (by
              obtain ⟨e1, e2, e3, e4, e5⟩ := HXP.out
              have hr := HR.out
              simp only [Bool.or_eq_false_iff, Bool.not_eq_false'] at hr
              obtain ⟨⟨⟨h1, h2⟩, h3⟩, h4⟩ := hr
              have b1 := HA1.out
              have b2 := HC1.out
              rw [h2, decide_eq_false_iff_not] at b1
              rw [h3, decide_eq_false_iff_not] at b2
              have b3 := HN1.out
              rw [h4] at b3
              exact cellB_mk (by rw [e1, HL1.out]; exact h1) (by rw [e2]; exact posB_mk (by omega) (by omega)) (by rw [e2, e3]; exact turned_no b3 e4 e5 (by omega) (by omega)))
            go_wp2
            refine region_owes (L := [Fact.is (.pointer (some ⟨w.heap.size, 1, none⟩)),
              Fact.is (.slice (some ⟨bB, oB, none⟩) nP cB),
              Fact.is (.int .i64 i),
              Fact.is (.pointer (some ⟨bB, oB + i, none⟩)),
              Fact.is (.slice (some ⟨g1, o1, none⟩) nP d1),
              Fact.is (.int .i64 k),
              Fact.is (.pointer (some ⟨g1, o1 + k, none⟩)),
              Fact.is (.int .i64 x),
              Fact.is (.bool l),
              Fact.is (.bool (!l)),
              Fact.is (.bool (!l)),
              Fact.when ((!l) == false) (.pointer (some ⟨w.heap.size, 3, none⟩)),
              Fact.when ((!l) == false) (.slice (some ⟨bP, oP, none⟩) nP cP),
              Fact.when ((!l) == false) (.int .i64 i),
              Fact.when ((!l) == false) (.pointer (some ⟨bP, oP + i, none⟩)),
              Fact.when ((!l) == false) (.slice (some ⟨g2, o2, none⟩) nP d2),
              Fact.when ((!l) == false) (.int .i64 k),
              Fact.when ((!l) == false) (.pointer (some ⟨g2, o2 + k, none⟩)),
              Fact.when ((!l) == false) (.int .i64 p),
              Fact.when ((!l) == false) (.bool a),
              Fact.is (.bool ((!l) || a)),
              Fact.is (.bool ((!l) || a)),
              Fact.when (((!l) || a) == false) (.pointer (some ⟨w.heap.size, 3, none⟩)),
              Fact.when (((!l) || a) == false) (.slice (some ⟨bP, oP, none⟩) nP cP),
              Fact.when (((!l) || a) == false) (.int .i64 i),
              Fact.when (((!l) || a) == false) (.pointer (some ⟨bP, oP + i, none⟩)),
              Fact.when (((!l) || a) == false) (.slice (some ⟨g2, o2, none⟩) nP d2),
              Fact.when (((!l) || a) == false) (.int .i64 k),
              Fact.when (((!l) || a) == false) (.pointer (some ⟨g2, o2 + k, none⟩)),
              Fact.when (((!l) || a) == false) (.int .i64 p),
              Fact.when (((!l) || a) == false) (.bool c),
              Fact.is (.bool (((!l) || a) || c)),
              Fact.is (.bool (((!l) || a) || c)),
              Fact.when ((((!l) || a) || c) == false) (.pointer (some ⟨w.heap.size, 3, none⟩)),
              Fact.when ((((!l) || a) || c) == false) (.slice (some ⟨bP, oP, none⟩) nP cP),
              Fact.when ((((!l) || a) || c) == false) (.int .i64 i),
              Fact.when ((((!l) || a) || c) == false) (.pointer (some ⟨bP, oP + i, none⟩)),
              Fact.when ((((!l) || a) || c) == false) (.slice (some ⟨g2, o2, none⟩) nP d2),
              Fact.when ((((!l) || a) || c) == false) (.int .i64 k),
              Fact.when ((((!l) || a) || c) == false) (.pointer (some ⟨g2, o2 + k, none⟩)),
              Fact.when ((((!l) || a) || c) == false) (.int .i64 p),
              Fact.when ((((!l) || a) || c) == false) (.pointer (some ⟨w.heap.size, 3, none⟩)),
              Fact.when ((((!l) || a) || c) == false) (.slice (some ⟨bP, oP, none⟩) nP cP),
              Fact.when ((((!l) || a) || c) == false) (.int .i64 k),
              Fact.when ((((!l) || a) || c) == false) (.pointer (some ⟨bP, oP + k, none⟩)),
              Fact.when ((((!l) || a) || c) == false) (.slice (some ⟨g3, o3, none⟩) nP d3),
              Fact.when ((((!l) || a) || c) == false) (.int .i64 i),
              Fact.when ((((!l) || a) || c) == false) (.pointer (some ⟨g3, o3 + i, none⟩)),
              Fact.when ((((!l) || a) || c) == false) (.int .i64 q'),
              Fact.when ((((!l) || a) || c) == false) (.int .i64 (IntKind.i64.wrap (-q'))),
              Fact.when ((((!l) || a) || c) == false) (.bool n),
              Fact.is (.bool false)])
              (T := [62, 63, 64, 65, 66, 67, 68, 69, 70, 71, 72, 73, 74, 75, 76, 77, 78, 79, 80, 81, 82, 83, 84, 85, 86, 87, 88, 89, 90, 91, 92, 93, 94, 95, 96, 97, 98, 99, 100, 101, 102, 103, 104, 105, 106, 107, 108, 109, 110, 111, 112, 113]) (by kernel_rfl) (by kernel_rfl) rfl ?owes ?_
            case owes =>
              refine .cons (owes_value fun q u lh => ⟨wants_free rfl, .pointer (some ⟨w.heap.size, 1, none⟩), by have e1 : q.tmps.getD 1 undef = .pointer (some ⟨w.heap.size, 0, none⟩) := lh.old 1 rfl; simp [execOp, Act.eval, e1, go_sem], rfl⟩) ?_
              refine .cons (owes_value fun q u lh => ⟨wants_free rfl, .slice (some ⟨bB, oB, none⟩) nP cB, by have e62 : q.tmps.getD 62 undef = .pointer (some ⟨w.heap.size, 1, none⟩) := lh.dep 0 rfl; obtain ⟨p0, p1, p2, p3⟩ := X4.out.below lh.below; simp [execOp, Act.eval, e62, p1, go_sem], rfl⟩) ?_
              refine .cons (owes_move (.tmp 4) (.inl rfl) fun q u lh => ⟨wants_free rfl, lh.old 4 rfl⟩) ?_
              refine .cons (owes_value fun q u lh => ⟨wants_free rfl, .pointer (some ⟨bB, oB + i, none⟩), by have e63 : q.tmps.getD 63 undef = .slice (some ⟨bB, oB, none⟩) nP cB := lh.dep 1 rfl; have e64 : q.tmps.getD 64 undef = .int .i64 i := lh.dep 2 rfl; simp [execOp, Act.eval, e63, e64, i1, go_sem], rfl⟩) ?_
              refine .cons (owes_value fun q u lh => ⟨wants_free rfl, .slice (some ⟨g1, o1, none⟩) nP d1, by have e65 : q.tmps.getD 65 undef = .pointer (some ⟨bB, oB + i, none⟩) := lh.dep 3 rfl; have r1 := (lh.below.cell (p := ⟨bB, oB + i, none⟩) (block_lt_of_cell b0)).trans b0; simp [execOp, Act.eval, e65, r1, go_sem], rfl⟩) ?_
              refine .cons (owes_move (.tmp 5) (.inl rfl) fun q u lh => ⟨wants_free rfl, lh.old 5 rfl⟩) ?_
              refine .cons (owes_value fun q u lh => ⟨wants_free rfl, .pointer (some ⟨g1, o1 + k, none⟩), by have e66 : q.tmps.getD 66 undef = .slice (some ⟨g1, o1, none⟩) nP d1 := lh.dep 4 rfl; have e67 : q.tmps.getD 67 undef = .int .i64 k := lh.dep 5 rfl; simp [execOp, Act.eval, e66, e67, k1, go_sem], rfl⟩) ?_
              refine .cons (owes_value fun q u lh => ⟨wants_free rfl, .int .i64 x, by have e68 : q.tmps.getD 68 undef = .pointer (some ⟨g1, o1 + k, none⟩) := lh.dep 6 rfl; have r1 := (lh.below.cell (p := ⟨g1, o1 + k, none⟩) (block_lt_of_cell bc)).trans bc; simp [execOp, Act.eval, e68, r1, go_sem], rfl⟩) ?_
              refine .cons (owes_call 21 Try.func21 (by kernel_rfl) (by kernel_rfl) [.tmp 69] #[2] rfl fun q u lh => ⟨wants_free rfl, by have e69 : q.tmps.getD 69 undef = .int .i64 x := lh.dep 7 rfl; show Calls Try.prog 21 #[q.tmps.getD 69 undef] u _; rw [e69]; exact bool_fact (E.out u)⟩) ?_
              refine .cons (owes_value fun q u lh => ⟨wants_free rfl, .bool (!l), by have e70 : q.tmps.getD 70 undef = .bool l := lh.dep 8 rfl; simp [execOp, Act.eval, e70, go_sem], rfl⟩) ?_
              refine .cons (owes_move (.tmp 71) (.inl rfl) fun q u lh => ⟨wants_free rfl, lh.dep 9 rfl⟩) ?_
              refine .cons (owes_when 10 false (!l) (.pointer (some ⟨w.heap.size, 3, none⟩)) rfl rfl rfl rfl fun hg q u lh => by have e1 : q.tmps.getD 1 undef = .pointer (some ⟨w.heap.size, 0, none⟩) := lh.old 1 rfl; simp [execOp, Act.eval, e1, go_sem]) ?_
              refine .cons (owes_when 10 false (!l) (.slice (some ⟨bP, oP, none⟩) nP cP) rfl rfl rfl rfl fun hg q u lh => by have e73 : q.tmps.getD 73 undef = .pointer (some ⟨w.heap.size, 3, none⟩) := (lh.dep 11 rfl) hg; obtain ⟨p0, p1, p2, p3⟩ := X4.out.below lh.below; simp [execOp, Act.eval, e73, p3, go_sem]) ?_
              refine .cons (owes_when 10 false (!l) (.int .i64 i) rfl rfl rfl rfl fun hg q u lh => by have e4 : q.tmps.getD 4 undef = .int .i64 i := lh.old 4 rfl; simp [execOp, Act.eval, e4, go_sem]) ?_
              refine .cons (owes_when 10 false (!l) (.pointer (some ⟨bP, oP + i, none⟩)) rfl rfl rfl rfl fun hg q u lh => by have e74 : q.tmps.getD 74 undef = .slice (some ⟨bP, oP, none⟩) nP cP := (lh.dep 12 rfl) hg; have e75 : q.tmps.getD 75 undef = .int .i64 i := (lh.dep 13 rfl) hg; simp [execOp, Act.eval, e74, e75, i1, go_sem]) ?_
              refine .cons (owes_when 10 false (!l) (.slice (some ⟨g2, o2, none⟩) nP d2) rfl rfl rfl rfl fun hg q u lh => by have e76 : q.tmps.getD 76 undef = .pointer (some ⟨bP, oP + i, none⟩) := (lh.dep 14 rfl) hg; have r1 := (lh.below.cell (p := ⟨bP, oP + i, none⟩) (block_lt_of_cell r0)).trans r0; simp [execOp, Act.eval, e76, r1, go_sem]) ?_
              refine .cons (owes_when 10 false (!l) (.int .i64 k) rfl rfl rfl rfl fun hg q u lh => by have e5 : q.tmps.getD 5 undef = .int .i64 k := lh.old 5 rfl; simp [execOp, Act.eval, e5, go_sem]) ?_
              refine .cons (owes_when 10 false (!l) (.pointer (some ⟨g2, o2 + k, none⟩)) rfl rfl rfl rfl fun hg q u lh => by have e77 : q.tmps.getD 77 undef = .slice (some ⟨g2, o2, none⟩) nP d2 := (lh.dep 15 rfl) hg; have e78 : q.tmps.getD 78 undef = .int .i64 k := (lh.dep 16 rfl) hg; simp [execOp, Act.eval, e77, e78, k1, go_sem]) ?_
              refine .cons (owes_when 10 false (!l) (.int .i64 p) rfl rfl rfl rfl fun hg q u lh => by have e79 : q.tmps.getD 79 undef = .pointer (some ⟨g2, o2 + k, none⟩) := (lh.dep 17 rfl) hg; have r1 := (lh.below.cell (p := ⟨g2, o2 + k, none⟩) (block_lt_of_cell pc)).trans pc; simp [execOp, Act.eval, e79, r1, go_sem]) ?_
              refine .cons (owes_when 10 false (!l) (.bool a) rfl rfl rfl rfl fun hg q u lh => by have e80 : q.tmps.getD 80 undef = .int .i64 p := (lh.dep 18 rfl) hg; simp [execOp, Act.eval, e80, HA1.out, go_sem]) ?_
              refine .cons (owes_or 72 81 10 19 (!l) a rfl rfl rfl rfl rfl rfl rfl rfl (rfl)) ?_
              refine .cons (owes_move (.tmp 82) (.inl rfl) fun q u lh => ⟨wants_free rfl, lh.dep 20 rfl⟩) ?_
              refine .cons (owes_when 21 false ((!l) || a) (.pointer (some ⟨w.heap.size, 3, none⟩)) rfl rfl rfl rfl fun hg q u lh => by have e1 : q.tmps.getD 1 undef = .pointer (some ⟨w.heap.size, 0, none⟩) := lh.old 1 rfl; simp [execOp, Act.eval, e1, go_sem]) ?_
              refine .cons (owes_when 21 false ((!l) || a) (.slice (some ⟨bP, oP, none⟩) nP cP) rfl rfl rfl rfl fun hg q u lh => by have e84 : q.tmps.getD 84 undef = .pointer (some ⟨w.heap.size, 3, none⟩) := (lh.dep 22 rfl) hg; obtain ⟨p0, p1, p2, p3⟩ := X4.out.below lh.below; simp [execOp, Act.eval, e84, p3, go_sem]) ?_
              refine .cons (owes_when 21 false ((!l) || a) (.int .i64 i) rfl rfl rfl rfl fun hg q u lh => by have e4 : q.tmps.getD 4 undef = .int .i64 i := lh.old 4 rfl; simp [execOp, Act.eval, e4, go_sem]) ?_
              refine .cons (owes_when 21 false ((!l) || a) (.pointer (some ⟨bP, oP + i, none⟩)) rfl rfl rfl rfl fun hg q u lh => by have e85 : q.tmps.getD 85 undef = .slice (some ⟨bP, oP, none⟩) nP cP := (lh.dep 23 rfl) hg; have e86 : q.tmps.getD 86 undef = .int .i64 i := (lh.dep 24 rfl) hg; simp [execOp, Act.eval, e85, e86, i1, go_sem]) ?_
              refine .cons (owes_when 21 false ((!l) || a) (.slice (some ⟨g2, o2, none⟩) nP d2) rfl rfl rfl rfl fun hg q u lh => by have e87 : q.tmps.getD 87 undef = .pointer (some ⟨bP, oP + i, none⟩) := (lh.dep 25 rfl) hg; have r1 := (lh.below.cell (p := ⟨bP, oP + i, none⟩) (block_lt_of_cell r0)).trans r0; simp [execOp, Act.eval, e87, r1, go_sem]) ?_
              refine .cons (owes_when 21 false ((!l) || a) (.int .i64 k) rfl rfl rfl rfl fun hg q u lh => by have e5 : q.tmps.getD 5 undef = .int .i64 k := lh.old 5 rfl; simp [execOp, Act.eval, e5, go_sem]) ?_
              refine .cons (owes_when 21 false ((!l) || a) (.pointer (some ⟨g2, o2 + k, none⟩)) rfl rfl rfl rfl fun hg q u lh => by have e88 : q.tmps.getD 88 undef = .slice (some ⟨g2, o2, none⟩) nP d2 := (lh.dep 26 rfl) hg; have e89 : q.tmps.getD 89 undef = .int .i64 k := (lh.dep 27 rfl) hg; simp [execOp, Act.eval, e88, e89, k1, go_sem]) ?_
              refine .cons (owes_when 21 false ((!l) || a) (.int .i64 p) rfl rfl rfl rfl fun hg q u lh => by have e90 : q.tmps.getD 90 undef = .pointer (some ⟨g2, o2 + k, none⟩) := (lh.dep 28 rfl) hg; have r1 := (lh.below.cell (p := ⟨g2, o2 + k, none⟩) (block_lt_of_cell pc)).trans pc; simp [execOp, Act.eval, e90, r1, go_sem]) ?_
              refine .cons (owes_when 21 false ((!l) || a) (.bool c) rfl rfl rfl rfl fun hg q u lh => by have e91 : q.tmps.getD 91 undef = .int .i64 p := (lh.dep 29 rfl) hg; simp [execOp, Act.eval, e91, HC1.out, go_sem]) ?_
              refine .cons (owes_or 83 92 21 30 ((!l) || a) c rfl rfl rfl rfl rfl rfl rfl rfl (rfl)) ?_
              refine .cons (owes_move (.tmp 93) (.inl rfl) fun q u lh => ⟨wants_free rfl, lh.dep 31 rfl⟩) ?_
              refine .cons (owes_when 32 false (((!l) || a) || c) (.pointer (some ⟨w.heap.size, 3, none⟩)) rfl rfl rfl rfl fun hg q u lh => by have e1 : q.tmps.getD 1 undef = .pointer (some ⟨w.heap.size, 0, none⟩) := lh.old 1 rfl; simp [execOp, Act.eval, e1, go_sem]) ?_
              refine .cons (owes_when 32 false (((!l) || a) || c) (.slice (some ⟨bP, oP, none⟩) nP cP) rfl rfl rfl rfl fun hg q u lh => by have e95 : q.tmps.getD 95 undef = .pointer (some ⟨w.heap.size, 3, none⟩) := (lh.dep 33 rfl) hg; obtain ⟨p0, p1, p2, p3⟩ := X4.out.below lh.below; simp [execOp, Act.eval, e95, p3, go_sem]) ?_
              refine .cons (owes_when 32 false (((!l) || a) || c) (.int .i64 i) rfl rfl rfl rfl fun hg q u lh => by have e4 : q.tmps.getD 4 undef = .int .i64 i := lh.old 4 rfl; simp [execOp, Act.eval, e4, go_sem]) ?_
              refine .cons (owes_when 32 false (((!l) || a) || c) (.pointer (some ⟨bP, oP + i, none⟩)) rfl rfl rfl rfl fun hg q u lh => by have e96 : q.tmps.getD 96 undef = .slice (some ⟨bP, oP, none⟩) nP cP := (lh.dep 34 rfl) hg; have e97 : q.tmps.getD 97 undef = .int .i64 i := (lh.dep 35 rfl) hg; simp [execOp, Act.eval, e96, e97, i1, go_sem]) ?_
              refine .cons (owes_when 32 false (((!l) || a) || c) (.slice (some ⟨g2, o2, none⟩) nP d2) rfl rfl rfl rfl fun hg q u lh => by have e98 : q.tmps.getD 98 undef = .pointer (some ⟨bP, oP + i, none⟩) := (lh.dep 36 rfl) hg; have r1 := (lh.below.cell (p := ⟨bP, oP + i, none⟩) (block_lt_of_cell r0)).trans r0; simp [execOp, Act.eval, e98, r1, go_sem]) ?_
              refine .cons (owes_when 32 false (((!l) || a) || c) (.int .i64 k) rfl rfl rfl rfl fun hg q u lh => by have e5 : q.tmps.getD 5 undef = .int .i64 k := lh.old 5 rfl; simp [execOp, Act.eval, e5, go_sem]) ?_
              refine .cons (owes_when 32 false (((!l) || a) || c) (.pointer (some ⟨g2, o2 + k, none⟩)) rfl rfl rfl rfl fun hg q u lh => by have e99 : q.tmps.getD 99 undef = .slice (some ⟨g2, o2, none⟩) nP d2 := (lh.dep 37 rfl) hg; have e100 : q.tmps.getD 100 undef = .int .i64 k := (lh.dep 38 rfl) hg; simp [execOp, Act.eval, e99, e100, k1, go_sem]) ?_
              refine .cons (owes_when 32 false (((!l) || a) || c) (.int .i64 p) rfl rfl rfl rfl fun hg q u lh => by have e101 : q.tmps.getD 101 undef = .pointer (some ⟨g2, o2 + k, none⟩) := (lh.dep 39 rfl) hg; have r1 := (lh.below.cell (p := ⟨g2, o2 + k, none⟩) (block_lt_of_cell pc)).trans pc; simp [execOp, Act.eval, e101, r1, go_sem]) ?_
              refine .cons (owes_when 32 false (((!l) || a) || c) (.pointer (some ⟨w.heap.size, 3, none⟩)) rfl rfl rfl rfl fun hg q u lh => by have e1 : q.tmps.getD 1 undef = .pointer (some ⟨w.heap.size, 0, none⟩) := lh.old 1 rfl; simp [execOp, Act.eval, e1, go_sem]) ?_
              refine .cons (owes_when 32 false (((!l) || a) || c) (.slice (some ⟨bP, oP, none⟩) nP cP) rfl rfl rfl rfl fun hg q u lh => by have e103 : q.tmps.getD 103 undef = .pointer (some ⟨w.heap.size, 3, none⟩) := (lh.dep 41 rfl) hg; obtain ⟨p0, p1, p2, p3⟩ := X4.out.below lh.below; simp [execOp, Act.eval, e103, p3, go_sem]) ?_
              refine .cons (owes_when 32 false (((!l) || a) || c) (.int .i64 k) rfl rfl rfl rfl fun hg q u lh => by have e5 : q.tmps.getD 5 undef = .int .i64 k := lh.old 5 rfl; simp [execOp, Act.eval, e5, go_sem]) ?_
              refine .cons (owes_when 32 false (((!l) || a) || c) (.pointer (some ⟨bP, oP + k, none⟩)) rfl rfl rfl rfl fun hg q u lh => by have e104 : q.tmps.getD 104 undef = .slice (some ⟨bP, oP, none⟩) nP cP := (lh.dep 42 rfl) hg; have e105 : q.tmps.getD 105 undef = .int .i64 k := (lh.dep 43 rfl) hg; simp [execOp, Act.eval, e104, e105, k1, go_sem]) ?_
              refine .cons (owes_when 32 false (((!l) || a) || c) (.slice (some ⟨g3, o3, none⟩) nP d3) rfl rfl rfl rfl fun hg q u lh => by have e106 : q.tmps.getD 106 undef = .pointer (some ⟨bP, oP + k, none⟩) := (lh.dep 44 rfl) hg; have r1 := (lh.below.cell (p := ⟨bP, oP + k, none⟩) (block_lt_of_cell s0)).trans s0; simp [execOp, Act.eval, e106, r1, go_sem]) ?_
              refine .cons (owes_when 32 false (((!l) || a) || c) (.int .i64 i) rfl rfl rfl rfl fun hg q u lh => by have e4 : q.tmps.getD 4 undef = .int .i64 i := lh.old 4 rfl; simp [execOp, Act.eval, e4, go_sem]) ?_
              refine .cons (owes_when 32 false (((!l) || a) || c) (.pointer (some ⟨g3, o3 + i, none⟩)) rfl rfl rfl rfl fun hg q u lh => by have e107 : q.tmps.getD 107 undef = .slice (some ⟨g3, o3, none⟩) nP d3 := (lh.dep 45 rfl) hg; have e108 : q.tmps.getD 108 undef = .int .i64 i := (lh.dep 46 rfl) hg; simp [execOp, Act.eval, e107, e108, i1, go_sem]) ?_
              refine .cons (owes_when 32 false (((!l) || a) || c) (.int .i64 q') rfl rfl rfl rfl fun hg q u lh => by have e109 : q.tmps.getD 109 undef = .pointer (some ⟨g3, o3 + i, none⟩) := (lh.dep 47 rfl) hg; have r1 := (lh.below.cell (p := ⟨g3, o3 + i, none⟩) (block_lt_of_cell qc)).trans qc; simp [execOp, Act.eval, e109, r1, go_sem]) ?_
              refine .cons (owes_when 32 false (((!l) || a) || c) (.int .i64 (IntKind.i64.wrap (-q'))) rfl rfl rfl rfl fun hg q u lh => by have e110 : q.tmps.getD 110 undef = .int .i64 q' := (lh.dep 48 rfl) hg; simp [execOp, Act.eval, e110, go_sem]) ?_
              refine .cons (owes_when 32 false (((!l) || a) || c) (.bool n) rfl rfl rfl rfl fun hg q u lh => by have e102 : q.tmps.getD 102 undef = .int .i64 p := (lh.dep 40 rfl) hg; have e111 : q.tmps.getD 111 undef = .int .i64 (IntKind.i64.wrap (-q')) := (lh.dep 49 rfl) hg; simp [execOp, Act.eval, e102, e111, HN1.out, go_sem]) ?_
              refine .cons (owes_or 94 112 32 50 (((!l) || a) || c) n rfl rfl rfl rfl rfl rfl rfl rfl (congrArg (fun b => Fact.is (.bool b)) HR.out.symm)) ?_
              exact .nil _
            intro q u hb hsz hdf hold hfact
            obtain ⟨v73, e73⟩ : ∃ v, q.tmps.getD 73 undef = v := ⟨_, rfl⟩
            obtain ⟨v74, e74⟩ : ∃ v, q.tmps.getD 74 undef = v := ⟨_, rfl⟩
            obtain ⟨v75, e75⟩ : ∃ v, q.tmps.getD 75 undef = v := ⟨_, rfl⟩
            obtain ⟨v76, e76⟩ : ∃ v, q.tmps.getD 76 undef = v := ⟨_, rfl⟩
            obtain ⟨v77, e77⟩ : ∃ v, q.tmps.getD 77 undef = v := ⟨_, rfl⟩
            obtain ⟨v78, e78⟩ : ∃ v, q.tmps.getD 78 undef = v := ⟨_, rfl⟩
            obtain ⟨v79, e79⟩ : ∃ v, q.tmps.getD 79 undef = v := ⟨_, rfl⟩
            obtain ⟨v80, e80⟩ : ∃ v, q.tmps.getD 80 undef = v := ⟨_, rfl⟩
            obtain ⟨v81, e81⟩ : ∃ v, q.tmps.getD 81 undef = v := ⟨_, rfl⟩
            obtain ⟨v84, e84⟩ : ∃ v, q.tmps.getD 84 undef = v := ⟨_, rfl⟩
            obtain ⟨v85, e85⟩ : ∃ v, q.tmps.getD 85 undef = v := ⟨_, rfl⟩
            obtain ⟨v86, e86⟩ : ∃ v, q.tmps.getD 86 undef = v := ⟨_, rfl⟩
            obtain ⟨v87, e87⟩ : ∃ v, q.tmps.getD 87 undef = v := ⟨_, rfl⟩
            obtain ⟨v88, e88⟩ : ∃ v, q.tmps.getD 88 undef = v := ⟨_, rfl⟩
            obtain ⟨v89, e89⟩ : ∃ v, q.tmps.getD 89 undef = v := ⟨_, rfl⟩
            obtain ⟨v90, e90⟩ : ∃ v, q.tmps.getD 90 undef = v := ⟨_, rfl⟩
            obtain ⟨v91, e91⟩ : ∃ v, q.tmps.getD 91 undef = v := ⟨_, rfl⟩
            obtain ⟨v92, e92⟩ : ∃ v, q.tmps.getD 92 undef = v := ⟨_, rfl⟩
            obtain ⟨v95, e95⟩ : ∃ v, q.tmps.getD 95 undef = v := ⟨_, rfl⟩
            obtain ⟨v96, e96⟩ : ∃ v, q.tmps.getD 96 undef = v := ⟨_, rfl⟩
            obtain ⟨v97, e97⟩ : ∃ v, q.tmps.getD 97 undef = v := ⟨_, rfl⟩
            obtain ⟨v98, e98⟩ : ∃ v, q.tmps.getD 98 undef = v := ⟨_, rfl⟩
            obtain ⟨v99, e99⟩ : ∃ v, q.tmps.getD 99 undef = v := ⟨_, rfl⟩
            obtain ⟨v100, e100⟩ : ∃ v, q.tmps.getD 100 undef = v := ⟨_, rfl⟩
            obtain ⟨v101, e101⟩ : ∃ v, q.tmps.getD 101 undef = v := ⟨_, rfl⟩
            obtain ⟨v102, e102⟩ : ∃ v, q.tmps.getD 102 undef = v := ⟨_, rfl⟩
            obtain ⟨v103, e103⟩ : ∃ v, q.tmps.getD 103 undef = v := ⟨_, rfl⟩
            obtain ⟨v104, e104⟩ : ∃ v, q.tmps.getD 104 undef = v := ⟨_, rfl⟩
            obtain ⟨v105, e105⟩ : ∃ v, q.tmps.getD 105 undef = v := ⟨_, rfl⟩
            obtain ⟨v106, e106⟩ : ∃ v, q.tmps.getD 106 undef = v := ⟨_, rfl⟩
            obtain ⟨v107, e107⟩ : ∃ v, q.tmps.getD 107 undef = v := ⟨_, rfl⟩
            obtain ⟨v108, e108⟩ : ∃ v, q.tmps.getD 108 undef = v := ⟨_, rfl⟩
            obtain ⟨v109, e109⟩ : ∃ v, q.tmps.getD 109 undef = v := ⟨_, rfl⟩
            obtain ⟨v110, e110⟩ : ∃ v, q.tmps.getD 110 undef = v := ⟨_, rfl⟩
            obtain ⟨v111, e111⟩ : ∃ v, q.tmps.getD 111 undef = v := ⟨_, rfl⟩
            obtain ⟨v112, e112⟩ : ∃ v, q.tmps.getD 112 undef = v := ⟨_, rfl⟩
            obtain rfl := frame_puts hsz hdf [62, 63, 64, 65, 66, 67, 68, 69, 70, 71, 72, 73, 74, 75, 76, 77, 78, 79, 80, 81, 82, 83, 84, 85, 86, 87, 88, 89, 90, 91, 92, 93, 94, 95, 96, 97, 98, 99, 100, 101, 102, 103, 104, 105, 106, 107, 108, 109, 110, 111, 112, 113] hold [(62, Value.pointer (some ⟨w.heap.size, 1, none⟩)), (63, Value.slice (some ⟨bB, oB, none⟩) nP cB), (64, Value.int .i64 i), (65, Value.pointer (some ⟨bB, oB + i, none⟩)), (66, Value.slice (some ⟨g1, o1, none⟩) nP d1), (67, Value.int .i64 k), (68, Value.pointer (some ⟨g1, o1 + k, none⟩)), (69, Value.int .i64 x), (70, Value.bool l), (71, Value.bool (!l)), (72, Value.bool (!l)), (73, v73), (74, v74), (75, v75), (76, v76), (77, v77), (78, v78), (79, v79), (80, v80), (81, v81), (82, Value.bool ((!l) || a)), (83, Value.bool ((!l) || a)), (84, v84), (85, v85), (86, v86), (87, v87), (88, v88), (89, v89), (90, v90), (91, v91), (92, v92), (93, Value.bool (((!l) || a) || c)), (94, Value.bool (((!l) || a) || c)), (95, v95), (96, v96), (97, v97), (98, v98), (99, v99), (100, v100), (101, v101), (102, v102), (103, v103), (104, v104), (105, v105), (106, v106), (107, v107), (108, v108), (109, v109), (110, v110), (111, v111), (112, v112), (113, Value.bool false)] ⟨hfact 0 (by decide), hfact 1 (by decide), hfact 2 (by decide), hfact 3 (by decide), hfact 4 (by decide), hfact 5 (by decide), hfact 6 (by decide), hfact 7 (by decide), hfact 8 (by decide), hfact 9 (by decide), hfact 10 (by decide), e73, e74, e75, e76, e77, e78, e79, e80, e81, hfact 20 (by decide), hfact 21 (by decide), e84, e85, e86, e87, e88, e89, e90, e91, e92, hfact 31 (by decide), hfact 32 (by decide), e95, e96, e97, e98, e99, e100, e101, e102, e103, e104, e105, e106, e107, e108, e109, e110, e111, e112, hfact 51 (by decide), trivial⟩ rfl
            clear hsz hdf hold hfact
            simp only [puts, Act.put, List.setIfInBounds_toArray, List.set_cons_zero, List.set_cons_succ]
            have HBu : Hid (Below w2.heap.size w2 u) := HBi.out.trans (hb.mono HBi.out.size)
            clear hb
            go_wp2
            go_roundw
            case rel => exact ⟨k + 1, by omega, by go_num, HS.out, HBu.out⟩
            case measure => simp [intOf]; omega
        · obtain rfl : k = nP := by omega
          have HS : Hid (∀ a, a < i + 1 → rowB b k a = true) := bil_succ HA.out (rowB_snoc HQA.out HQM.out HK.out)
          go_wp2
          go_roundw
          case rel => exact ⟨i + 1, by omega, by go_num, HS.out, HBi.out⟩
          case measure => simp [intOf]; omega
    · obtain rfl : i = nP := by omega
      have HN : Hid (true = booksB b) := booksB_mk HLA.out h0 h6 HQ1.out HQ2.out (by rw [← HLM.out]) HA.out
      go_wp2
      go_ret
      exact ⟨rt_bool HN.out, HBW.out⟩

end Go.Proofs.Ytpaieecbedgeaaa
