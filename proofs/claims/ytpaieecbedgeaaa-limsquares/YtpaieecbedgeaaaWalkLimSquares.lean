/-
  girolaw10.LimSquares: so many rows of so many numbers, each by itself.
-/
import Derived.Test.YtpaieecbedgeaaaKnown10
import Derived.Test.YtpaieecbedgeaaaLimPoke
import Derived.Test.YtpaieecbedgeaaaArgs
namespace Go.Proofs.Ytpaieecbedgeaaa
open Go.RowKit
set_option linter.unusedVariables false
set_option linter.unusedSimpArgs false

theorem xor_one_ne (v : Int) (h0 : -9223372036854775808 ≤ v) (h1 : v ≤ 9223372036854775807) : bits .xor .i64 v 1 ≠ v ∧ IntKind.i64.wrap (bits .xor .i64 v 1) = bits .xor .i64 v 1 := by
  have e : bits .xor .i64 v 1 = IntKind.i64.wrap ((BitVec.ofInt 64 v ^^^ BitVec.ofInt 64 1).toNat : Nat) := rfl
  have ne : (BitVec.ofInt 64 v ^^^ BitVec.ofInt 64 1) ≠ BitVec.ofInt 64 v := by
    intro h
    have h2 : BitVec.ofInt 64 v ^^^ (BitVec.ofInt 64 v ^^^ BitVec.ofInt 64 1) = BitVec.ofInt 64 v ^^^ BitVec.ofInt 64 v := by rw [h]
    rw [← BitVec.xor_assoc, BitVec.xor_self, BitVec.zero_xor] at h2
    exact absurd h2 (by decide)
  refine ⟨?_, ?_⟩
  · intro h
    apply ne
    rw [e] at h
    apply BitVec.eq_of_toNat_eq
    generalize hx : (BitVec.ofInt 64 v ^^^ BitVec.ofInt 64 1) = x at h ⊢
    have hl := x.isLt
    rw [BitVec.toNat_ofInt]
    rw [IntKind.wrap_i64] at h
    omega
  · rw [e, IntKind.wrap_i64, IntKind.wrap_i64]
    omega

/-- Rows that a call made, so many. -/
def SqEnd (w : World) (m : Nat) (R : List (List Int)) (e : Ending) (w' : World) : Prop := ∃ a c vs, e = .returned (.slice a m c) ∧ MadeI w' w.heap.size (.slice a m c) vs R ∧ Below w.heap.size w w'
theorem rowsEnd_sq {w w' : World} {m : Nat} {R : List (List Int)} {e : Ending} (hl : R.length = m) (h : RowsEnd w R e w') : SqEnd w m R e w' := by
  obtain ⟨v, vs, rfl, mk, hb⟩ := h
  obtain ⟨a, c, rfl⟩ := own_slice mk.own
  rw [hl] at mk ⊢
  exact ⟨a, c, vs, rfl, mk, hb⟩

/-- A square that a call made, cell by cell. -/
theorem MadeI.grid {w : World} {B n c m : Nat} {a : Option Addr} {vs : List Value} {R : List (List Int)} (h : MadeI w B (.slice a n c) vs R) (hl : R.length = m) (hm : 0 < m) (hs : ∀ i, i < m → (R.getD i []).length = m) :
    ∃ (b : Nat) (g cc : Nat → Nat), a = some ⟨b, 0, none⟩ ∧ n = m ∧ ∀ i, i < m → w.cell? ⟨b, i, none⟩ = some (.slice (some ⟨g i, 0, none⟩) m (cc i)) ∧ (∀ k, w.frozen? ⟨g i, k, none⟩ = false) ∧ (∀ k, k < m → w.cell? ⟨g i, k, none⟩ = some (.int .i64 (at2 R i k))) ∧ b ≠ g i ∧ B ≤ g i ∧ ∀ j, j < m → j ≠ i → g j ≠ g i := by
  have ho := h.own
  rw [hl] at ho
  rcases ho.2 with ⟨_, h0⟩ | ⟨b, c', cur, hv, _⟩
  · omega
  · simp at hv
    obtain ⟨rfl, rfl, rfl⟩ := hv
    have row : ∀ i, i < n → ∃ gi ci, vs.getD i undef = .slice (some ⟨gi, 0, none⟩) n ci ∧ B ≤ gi ∧ (∀ k, w.frozen? ⟨gi, k, none⟩ = false) ∧ ∀ k, k < n → w.cell? ⟨gi, k, none⟩ = some (.int .i64 (at2 R i k)) := fun i hi => by
      have hr := h.row i (by omega)
      rw [hs i hi] at hr
      rcases hr.2 with ⟨_, h0⟩ | ⟨gi, ci, curi, hvi, hbi, hgi, _⟩
      · omega
      · refine ⟨gi, ci, hvi, hbi, fun k => frozen_of_row w gi k _ _ hgi, fun k hk => ?_⟩
        rw [hvi] at hr
        rw [(own_row_block hr).2.2 k (by omega)]
        have hk' : k < (R.getD i []).length := by rw [hs i hi]; exact hk
        unfold at2
        generalize R.getD i [] = zz at hk' ⊢
        simp [List.getD_eq_getElem?_getD, hk']
    refine ⟨b, fun i => ((vs.getD i undef).ownBlock).getD 0, fun i => match vs.getD i undef with | .slice _ _ c => c | _ => 0, rfl, rfl, fun i hi => ?_⟩
    obtain ⟨gi, ci, e, hbi, hfi, hci⟩ := row i hi
    have eg : ((vs.getD i undef).ownBlock).getD 0 = gi := by rw [e]; rfl
    have ec : (match vs.getD i undef with | .slice _ _ c => c | _ => 0) = ci := by rw [e]
    simp only [eg, ec]
    refine ⟨?_, hfi, hci, ?_, hbi, ?_⟩
    · rw [(own_row_block ho).2.2 i (by omega), ← e]
      have : i < vs.length := by have := ho.1; omega
      simp [List.getD_eq_getElem?_getD, this]
    · intro hbg
      rcases h.spine i (by omega) with h1 | h1
      · rw [e] at h1; simp [Value.ownBlock] at h1
      · apply h1
        rw [e]
        simp [Value.ownBlock, hbg]
    · intro j hj hji hgg
      obtain ⟨gj, cj, ej, _⟩ := row j hj
      rw [ej] at hgg
      simp [Value.ownBlock] at hgg
      rcases h.rows j i (by omega) (by omega) hji with h1 | h1
      · rw [ej] at h1; simp [Value.ownBlock] at h1
      · apply h1
        rw [e, ej]
        simp [Value.ownBlock, hgg]
theorem at2_rep {m i k : Nat} {v : Int} (hi : i < m) (hk : k < m) : at2 (List.replicate m (List.replicate m v)) i k = v := by
  unfold at2
  simp [List.getD_eq_getElem?_getD, List.getElem?_replicate, hi, hk]

set_option maxHeartbeats 4000000 in
set_option maxRecDepth 100000 in
theorem Walk.limSquares (n v i k : Int) (w : World) (hn : (Lit.int .i64 n).wf = true) (hv : (Lit.int .i64 v).wf = true) (hi : (Lit.int .i64 i).wf = true) (hk : (Lit.int .i64 k).wf = true) : Calls Try.prog 5 #[.int .i64 n, .int .i64 v, .int .i64 i, .int .i64 k] w fun e w' => e = .returned (.bool true) ∧ Below w.heap.size w w' := by
  simp only [Lit.wf, Bool.and_eq_true, decide_eq_true_eq] at hv
  obtain ⟨hv0, hv1⟩ := hv
  have hv0 : -9223372036854775808 ≤ v := hv0
  have hv1 : v ≤ 9223372036854775807 := hv1
  clear hn hi hk
  rcases Int.lt_or_le n 1 with a1 | a1
  · go_enter Try.func5, Try.ntmps5
    go_wp2
    go_ret
    exact ⟨rfl, Below.refl _ _⟩
  rcases Int.lt_or_le 6 n with a2 | a2
  · go_enter Try.func5, Try.ntmps5
    go_wp2
    go_ret
    exact ⟨rfl, Below.refl _ _⟩
  rcases Int.lt_or_le i 0 with a3 | a3
  · go_enter Try.func5, Try.ntmps5
    go_wp2
    go_ret
    exact ⟨rfl, Below.refl _ _⟩
  rcases Int.lt_or_le i n with a4 | a4
  case inr =>
    go_enter Try.func5, Try.ntmps5
    go_wp2
    go_ret
    exact ⟨rfl, Below.refl _ _⟩
  rcases Int.lt_or_le k 0 with a5 | a5
  · go_enter Try.func5, Try.ntmps5
    go_wp2
    go_ret
    exact ⟨rfl, Below.refl _ _⟩
  rcases Int.lt_or_le k n with a6 | a6
  case inr =>
    go_enter Try.func5, Try.ntmps5
    go_wp2
    go_ret
    exact ⟨rfl, Below.refl _ _⟩
  obtain ⟨m, rfl⟩ := Int.eq_ofNat_of_zero_le (show 0 ≤ n by omega)
  obtain ⟨i, rfl⟩ := Int.eq_ofNat_of_zero_le a3
  obtain ⟨k, rfl⟩ := Int.eq_ofNat_of_zero_le a5
  have hm : m ≤ 6 := by omega
  have hi : i < m := by omega
  have hk : k < m := by omega
  have wfv : IntKind.i64.wrap v = v := i64_wf hv0 hv1
  have S1 := limSquare_any m v wfv
  have S2 := refSquare_any m v wfv
  rw [squareL_yes hm] at S1 S2
  have S3 : Hid (∀ u, Calls Try.prog 15 #[.int .i64 (-1), .int .i64 v] u (RowsEnd u [])) := fun u => by
    have := limSquare_any (-1) v wfv u
    rwa [squareL_no (by decide)] at this
  have S4 : Hid (∀ u, Calls Try.prog 18 #[.int .i64 7, .int .i64 v] u (RowEnd u [])) := fun u => by
    have := limRow_any 7 v wfv u
    rwa [rowL_no (by decide)] at this
  obtain ⟨y, hy⟩ : ∃ y, bits .xor .i64 v 1 = y := ⟨_, rfl⟩
  have HY : Hid (y ≠ v ∧ IntKind.i64.wrap y = y) := by rw [← hy]; exact xor_one_ne v hv0 hv1
  have HV : Hid (IntKind.i64.wrap v = v) := wfv
  obtain ⟨R, hR⟩ : ∃ R, List.replicate m (List.replicate m v) = R := ⟨_, rfl⟩
  rw [hR] at S1 S2
  have HR : Hid (List.replicate m (List.replicate m v) = R) := hR
  have HL : Hid (R.length = m) := by rw [← HR.out]; show (List.replicate _ _).length = m; simp
  have T1 : ∀ u, Calls Try.prog 15 #[.int .i64 m, .int .i64 v] u (SqEnd u m R) := fun u => (S1 u).mono fun e w' h => rowsEnd_sq HL.out h
  have T2 : ∀ u, Calls Try.prog 17 #[.int .i64 m, .int .i64 v] u (SqEnd u m R) := fun u => (S2 u).mono fun e w' h => rowsEnd_sq HL.out h
  have K := known10
  clear hR wfv S1 S2
  go_enter Try.func5, Try.ntmps5
  go_wp2_with fail
  go_at_call 15
  refine (T1 _).mono ?_
  rintro e w1 ⟨sa, sc, vs, rfl, mk, b1⟩
  have B1 : Hid (Below w.heap.size w w1) := b1
  have M1 : Hid (MadeI w1 w.heap.size (.slice sa m sc) vs R) := mk
  clear T1 mk b1
  go_wp2_with fail
  go_at_call 17
  refine (T2 _).mono ?_
  rintro e w2 ⟨ra, rc, vs2, rfl, mk2, b2⟩
  have B12 : Hid (Below w1.heap.size w1 w2) := b2
  have M2 : Hid (MadeI w2 w1.heap.size (.slice ra m rc) vs2 R) := mk2
  clear T2 mk2 b2
  have E1 := refRows_any sa ra m m sc rc R R w2 (M1.out.below B12.out).read M2.out.read (by omega) (short_made M1.out)
  rw [decide_eq_true rfl] at E1
  have HS : Hid (∀ j, j < m → (R.getD j []).length = m) := fun j hj => by rw [← HR.out]; simp [List.getD_eq_getElem?_getD, List.getElem?_replicate, hj]
  obtain ⟨b, g, cc, hsa, hnn, G⟩ := (M1.out.below B12.out).grid HL.out (by omega) HS.out
  clear hnn
  subst hsa
  go_wp2_with fail
  go_at_call 16
  refine E1.mono ?_
  rintro e w3 ⟨rfl, nn, hw3⟩
  have HG : Hid (∀ i, i < m → w3.cell? ⟨b, i, none⟩ = some (.slice (some ⟨g i, 0, none⟩) m (cc i)) ∧ (∀ k, w3.frozen? ⟨g i, k, none⟩ = false) ∧ (∀ k, k < m → w3.cell? ⟨g i, k, none⟩ = some (.int .i64 (at2 R i k))) ∧ b ≠ g i ∧ w.heap.size ≤ g i ∧ ∀ j, j < m → j ≠ i → g j ≠ g i) := by rw [hw3]; exact G
  have B3 : Hid (Below w.heap.size w w3) := by rw [hw3]; exact (B1.out.trans (B12.out.mono B1.out.size)).trans ((below_drewN _ _).mono (B1.out.trans (B12.out.mono B1.out.size)).size)
  clear E1 G hw3 B12 M1 M2 B1
  obtain ⟨p0, p1, p2, p3, p4, p5⟩ := HG.out i hi
  have c1 := p2 k hk
  have f1 := p1 k
  obtain ⟨w4, hw4⟩ : ∃ x, x = w3.setCell ⟨g i, k, none⟩ (.int .i64 y) := ⟨_, rfl⟩
  have C4 : Hid (∀ a, a < m → w4.cell? ⟨b, a, none⟩ = some (.slice (some ⟨g a, 0, none⟩) m (cc a)) ∧ ∀ j, j < m → w4.cell? ⟨g a, j, none⟩ = some (.int .i64 (if a = i ∧ j = k then y else v))) := fun a ha => by
    obtain ⟨q0, q1, q2, q3, q4, q5⟩ := HG.out a ha
    rw [hw4]
    refine ⟨(cell_far (by show b ≠ g i; exact p3)).trans q0, fun j hj => ?_⟩
    by_cases hai : a = i
    · subst hai
      by_cases hjk : j = k
      · subst hjk
        rw [if_pos ⟨rfl, rfl⟩]
        exact World.cell?_setCell_same _ _ _ (q2 j hj)
      · rw [if_neg (fun h => hjk h.2)]
        have ne : (⟨g a, k, none⟩ : Addr) ≠ ⟨g a, j, none⟩ := by intro h; injection h with h1 h2; exact hjk h2.symm
        rw [World.cell?_setCell_other _ _ _ _ ne, q2 j hj, ← HR.out, at2_rep ha hj]
    · rw [if_neg (fun h => hai h.1)]
      rw [cell_far (by show g a ≠ g i; exact p5 a ha hai), q2 j hj, ← HR.out, at2_rep ha hj]
  have B4 : Hid (Below w.heap.size w w4) := by rw [hw4]; exact B3.out.setCell (p := ⟨g i, k, none⟩) p4 _
  have i1 : (i : Int) < (m : Int) := by omega
  have k1 : (k : Int) < (m : Int) := by omega
  clear p1 p2 p3 p4 p5 HG
  go_upto_region 7 with fail
  rw [← hw4]
  clear hw4 c1 f1 p0 hy
  go_wp2
  go_loop [10] (fun t => ∃ a : Nat, a ≤ m ∧ t = .int .i64 a) (fun t => m - (intOf t).toNat)
  case atStart => exact ⟨0, by omega, rfl⟩
  case round =>
    obtain ⟨a, ha, rfl⟩ := hrel
    by_cases hal : a < m
    · have a1 : (a : Int) < (m : Int) := by omega
      go_wp2
      go_loop [11] (fun t => ∃ j : Nat, j ≤ m ∧ t = .int .i64 j) (fun t => m - (intOf t).toNat)
      case atStart => exact ⟨0, by omega, rfl⟩
      case round =>
        obtain ⟨j, hj, rfl⟩ := hrel
        by_cases hjl : j < m
        · have j1 : (j : Int) < (m : Int) := by omega
          obtain ⟨q0, q1⟩ := C4.out a hal
          have qc := q1 j hjl
          clear q1
          by_cases hai : a = i
          · have e1 : ((a : Int) == (i : Int)) = true := by rw [beq_iff_eq]; omega
            by_cases hjk : j = k
            · have e2 : ((j : Int) == (k : Int)) = true := by rw [beq_iff_eq]; omega
              rw [if_pos ⟨hai, hjk⟩] at qc
              have e3 : (y == v) = false := by rw [beq_eq_false_iff_ne]; exact HY.out.1
              clear hai hjk
              go_wp2
              go_round
              case rel => exact ⟨j + 1, by omega, by go_num⟩
              case measure => simp [intOf]; omega
            · have e2 : ((j : Int) == (k : Int)) = false := by rw [beq_eq_false_iff_ne]; omega
              rw [if_neg (fun h => hjk h.2)] at qc
              have e3 : (v == v) = true := by simp
              clear hai hjk
              go_wp2
              go_round
              case rel => exact ⟨j + 1, by omega, by go_num⟩
              case measure => simp [intOf]; omega
          · have e1 : ((a : Int) == (i : Int)) = false := by rw [beq_eq_false_iff_ne]; omega
            rw [if_neg (fun h => hai h.1)] at qc
            clear hai
            go_wp2
            go_round
            case rel => exact ⟨j + 1, by omega, by go_num⟩
            case measure => simp [intOf]; omega
        · obtain rfl : j = m := by omega
          go_wp2
          go_round
          case rel => exact ⟨a + 1, by omega, by go_num⟩
          case measure => simp [intOf]; omega
    · obtain rfl : a = m := by omega
      go_wp2_with fail
      go_at_call 15
      refine (S3.out _).mono ?_
      rintro e w5 ⟨v5, vs5, rfl, mk5, b5⟩
      have B5 : Hid (Below w.heap.size w w5) := B4.out.trans (b5.mono B4.out.size)
      obtain ⟨a5, c5, h5⟩ := own_slice mk5.own
      subst h5
      clear mk5 b5
      go_wp2_with fail
      go_at_call 18
      refine (S4.out _).mono ?_
      rintro e w6 ⟨v6, rfl, o6, _, b6⟩
      have B6 : Hid (Below w.heap.size w w6) := B5.out.trans (b6.mono B5.out.size)
      obtain ⟨a6, c6, h6⟩ := own_slice o6
      subst h6
      clear o6 b6
      go_wp2_with fail
      go_at_call 9
      refine (K _).mono ?_
      rintro e w7 ⟨rfl, b7⟩
      have B7 : Hid (Below w.heap.size w w7) := B6.out.trans (b7.mono B6.out.size)
      clear b7
      go_wp2
      go_ret
      exact ⟨rfl, B7.out⟩

end Go.Proofs.Ytpaieecbedgeaaa
