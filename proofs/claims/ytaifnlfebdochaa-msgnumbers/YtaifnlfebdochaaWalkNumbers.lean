/-
  The walk of MsgNumbers.
-/
import Derived.Test.YtaifnlfebdochaaMsgFacts
namespace Go.Proofs.Ytaifnlfebdochaa
open Go.RowKit
namespace Walk

set_option linter.unusedVariables false in
theorem numbers_out0 (k : Int) (a : Option Addr) (len cap : Nat) (w : World) (h : 12 < (len : Int)) : Calls Try.prog 6 #[.int .i64 k, .slice a len cap] w fun e w' => e = .returned (.bool true) ∧ Below w.heap.size w w' := by
  go_enter Try.func6, Try.ntmps6
  go_wp2
  go_ret
  exact ⟨rfl, Below.refl _ _⟩
set_option linter.unusedVariables false in
theorem numbers_out1 (k : Int) (a : Option Addr) (len cap : Nat) (w : World) (h : (len : Int) ≤ 12) (h1 : k < 0) : Calls Try.prog 6 #[.int .i64 k, .slice a len cap] w fun e w' => e = .returned (.bool true) ∧ Below w.heap.size w w' := by
  go_enter Try.func6, Try.ntmps6
  go_wp2
  go_ret
  exact ⟨rfl, Below.refl _ _⟩
set_option linter.unusedVariables false in
theorem numbers_out2 (k : Int) (a : Option Addr) (len cap : Nat) (w : World) (h : (len : Int) ≤ 12) (h1 : 0 ≤ k) (h2 : 255 < k) : Calls Try.prog 6 #[.int .i64 k, .slice a len cap] w fun e w' => e = .returned (.bool true) ∧ Below w.heap.size w w' := by
  go_enter Try.func6, Try.ntmps6
  go_wp2
  go_ret
  exact ⟨rfl, Below.refl _ _⟩

set_option maxHeartbeats 4000000 in
theorem numbers_in (k : Int) (a : Option Addr) (len cap : Nat) (zs : List Int) (w : World) (h : Sl .i64 w a len zs) (hl : len ≤ 12) (h1 : 0 ≤ k) (h2 : k ≤ 255) :
    Calls Try.prog 6 #[.int .i64 k, .slice a len cap] w fun e w' => e = .returned (.bool true) ∧ Below w.heap.size w w' := by
  obtain ⟨i0, hi, hz0, hz1, hz2⟩ := info_parts infoU8
  have i1 : (len : Int) ≤ 12 := by omega
  have hu : IntKind.u8.wrap k = k := u8_wf h1 h2
  have HZ : Hid (Sl .i64 w a len zs) := h
  clear h
  go_enter Try.func6, Try.ntmps6
  go_wp2_with fail
  go_at_call 26
  refine (refPut_any a len cap zs _ (HZ.out.alloc _) (by omega)).mono ?_
  rintro e w2 ⟨g2, cap2, rfl, ho, hb2⟩
  have O1 : w2.ownsRow w.heap.size 5 1 (.slice (some ⟨w.heap.size, 0, none⟩) 1 1) 1 [.int .u8 k] := own_below (World.ownsRow_lit w #[.int .u8 k] 1 (Nat.le_refl _) (by decide) rfl) hb2
  have hbw : Below w.heap.size w (w.alloc (.cells #[.int .u8 k] 5)) := (Below.refl _ _).alloc (Nat.le_refl _) _
  have B2 : Below w.heap.size w w2 := hbw.trans (hb2.mono hbw.size)
  obtain ⟨a2, c2', hv2, S2, _⟩ := Sl.own ho (encs_wf zs)
  simp only [Value.slice.injEq, true_and] at hv2
  obtain ⟨rfl, rfl⟩ := hv2
  have hN12 : (encs zs).length ≤ 96 := by rw [encs_length, ← HZ.out.1]; omega
  obtain ⟨N, hN⟩ : ∃ N, (encs zs).length = N := ⟨_, rfl⟩
  have HN : Hid ((encs zs).length = N) := hN
  rw [hN] at S2 hN12
  rw [hN]
  clear hN ho hb2 hbw
  go_wp2_with (at_builtin; refine wpList_append_sl rfl _ _ 27 rfl w.heap.size 5 i0 (.int .u8 0) 1 Try.underlying27 hi hz0 hz1 hz2 rfl _ _ _ rfl O1 .u8 (some ⟨g2, 0, none⟩) N cap2 (encs zs) rfl S2 (fun h => by simp at h) ?c3 ?c4 ?c5 ?_)
  case c3 => unfold maxLen; omega
  case c4 => omega
  case c5 => exact B2.size
  intro v3 w3 ho3 hg3 hne
  obtain ⟨g3, c3, rfl⟩ := own_some ho3 (by simpa using hne)
  have B3 : Below w.heap.size w w3 := B2.grown hg3 B2.size (fun k hk => by simp [Value.ownBlock] at hk; omega)
  obtain ⟨lc3, hc3⟩ := own_cap ho3
  obtain ⟨L, hL⟩ : ∃ L, 1 + N = L := ⟨_, rfl⟩
  have hL1 : 1 ≤ L := by omega
  have hL97 : L ≤ 97 := by omega
  have S3 : Hid (Sl .u8 w3 (some ⟨g3, 0, none⟩) L (k :: encs zs)) := by
    have ho4 : w3.ownsRow w.heap.size 5 1 (.slice (some ⟨g3, 0, none⟩) (1 + N) c3) (1 + N) ((k :: encs zs).map (Value.int .u8)) := ho3
    obtain ⟨a4, c4, hv4, S4, _⟩ := Sl.own ho4 (fun z hz => by
      rcases List.mem_cons.mp hz with rfl | hz
      · exact hu
      · exact encs_wf zs z hz)
    simp only [Value.slice.injEq] at hv4
    obtain ⟨rfl, hl4, rfl⟩ := hv4
    show Sl _ _ _ _ _
    rw [← hL, hl4]
    exact S4
  have S3l : Hid (Sl .i64 w3 a len zs) := HZ.out.below B3
  rw [hL] at lc3
  clear ho3 hg3 hne O1 S2 B2 HZ
  simp only [hL]
  clear hL
  have hwz : Hid (∀ n ∈ zs, IntKind.i64.wrap n = n) := S3l.out.2.1
  have hlz : Hid (len = zs.length) := S3l.out.1
  go_wp2_with fail
  go_at_call 16
  refine (read_any (some ⟨g3, 0, none⟩) L c3 (k :: encs zs) _ S3.out lc3 hc3 (by omega)).mono ?_
  rintro e w4 ⟨k4, f0, f1, f2, f3, f4, f5, er, hR, rfl, b4⟩
  rw [readS_put k zs hwz.out, ← hlz.out] at hR
  have al : Below w4.heap.size w4 (w4.alloc (.cells #[.int .i64 k4, .int .i64 f0, .int .i64 f1, .int .i64 f2, .int .i64 f3, .int .i64 f4, .int .i64 f5] 24)) := (Below.refl _ _).alloc (Nat.le_refl _) _
  have B4 := B3.trans (b4.mono B3.size)
  have B4' := B4.trans (al.mono B4.size)
  have S4 : Hid (Sl .u8 (w4.alloc (.cells #[.int .i64 k4, .int .i64 f0, .int .i64 f1, .int .i64 f2, .int .i64 f3, .int .i64 f4, .int .i64 f5] 24)) (some ⟨g3, 0, none⟩) L (k :: encs zs)) := (S3.out.below b4).below al
  have S4l : Hid (Sl .i64 (w4.alloc (.cells #[.int .i64 k4, .int .i64 f0, .int .i64 f1, .int .i64 f2, .int .i64 f3, .int .i64 f4, .int .i64 f5] 24)) a len zs) := (S3l.out.below b4).below al
  have A4 : At (w4.alloc (.cells #[.int .i64 k4, .int .i64 f0, .int .i64 f1, .int .i64 f2, .int .i64 f3, .int .i64 f4, .int .i64 f5] 24)) w4.heap.size [k4, f0, f1, f2, f3, f4, f5] := at_new w4 [k4, f0, f1, f2, f3, f4, f5] 24 (0, 0)
  clear S3 S3l b4 B4 al B3
  have MA := refMany_any k
  have hmr := manyS_range k
  have h6 := isS_six k zs
  have h7 := bytesS_six k zs
  rw [← hlz.out] at h6 h7
  obtain ⟨m, hm'⟩ : ∃ m, manyS k = m := ⟨_, rfl⟩
  rw [hm'] at MA hR hmr h6 h7
  clear hm'
  by_cases hlm : (len : Int) = m
  · have h6 := h6 hlm
    have h7 := h7 hlm
    rw [if_pos hlm] at hR
    simp only [Prod.mk.injEq, List.cons.injEq] at hR
    obtain ⟨⟨rfl, hsix⟩, rfl⟩ := hR
    rw [hsix] at h6 h7
    have BY : ∀ u, Calls Try.prog 9 #[.agg #[.int .i64 k, .int .i64 f0, .int .i64 f1, .int .i64 f2, .int .i64 f3, .int .i64 f4, .int .i64 f5]] u (BytesEnd u (k :: encs zs)) := by
      intro u
      rw [← h7]
      refine bytes_is k f0 f1 f2 f3 f4 f5 u h6 ?_
      rw [← hsix]
      exact six_wf zs hwz.out
    have HLL : Hid ((k :: encs zs).length = L) := S4.out.1.symm
    have hgd : Hid (∀ i, i < zs.length → [f0, f1, f2, f3, f4, f5].getD i 0 = zs.getD i 0) := by
      intro i hi
      rw [← hsix]
      unfold six
      have hl6 : zs.length ≤ 6 := by rw [← hlz.out]; omega
      simp only [List.getD_eq_getElem?_getD]
      rw [List.getElem?_take_of_lt (by omega), List.getElem?_append_left hi]
    have hl6 : len ≤ 6 := by omega
    have i5 : ((len : Int) == m) = true := by simp [hlm]
    obtain ⟨g, hg⟩ : ∃ g, w4.heap.size = g := ⟨_, rfl⟩
    rw [hg] at A4
    have HG : Hid (w4.heap.size = g) := hg
    clear h6 h7 hsix hmr
    go_wp2_with fail
    go_at_call 21
    refine (MA _).mono ?_
    rintro e w5 ⟨rfl, b5⟩
    have A5 : Hid (At w5 g [k, f0, f1, f2, f3, f4, f5]) := A4.below b5
    have S5 : Hid (Sl .u8 w5 (some ⟨g3, 0, none⟩) L (k :: encs zs)) := S4.out.below b5
    have S5l : Hid (Sl .i64 w5 a len zs) := S4l.out.below b5
    have B5 : Hid (Below w.heap.size w w5) := B4'.trans (b5.mono B4'.size)
    clear b5 B4' A4 S4 S4l MA
    go_wp2_with fail
    clear hg hlm
    go_loopw [8] (fun i wr => ∃ (j n : Nat), j ≤ len ∧ i = .int .i64 j ∧ wr = w5.drewN n) (fun i _ => len - (intOf i).toNat)
    case atStart => exact ⟨0, 0, by omega, rfl, rfl⟩
    case round =>
      obtain ⟨j, n, hj, rfl, hwr⟩ := hrel
      by_cases hlt : j < len
      · subst hwr
        have hjz : j < zs.length := by rw [← hlz.out]; exact hlt
        have i6 : (j : Int) < (len : Int) := by omega
        have i7 : (j : Int) < 6 := by omega
        obtain ⟨bz, oz, rfl, hcz⟩ : ∃ bz oz, a = some ⟨bz, oz, none⟩ ∧ ∀ i, i < zs.length → w5.cell? ⟨bz, oz + i, none⟩ = some (.int .i64 (zs.getD i 0)) := by
          rcases S5l.out.2.2 with h0 | h0
          · rw [h0] at hjz; simp at hjz
          · exact h0
        have c1 : w5.cell? ⟨bz, oz + j, none⟩ = some (.int .i64 (zs.getD j 0)) := hcz j hjz
        have c2 : w5.cell? ⟨g, 1 + j, none⟩ = some (.int .i64 (zs.getD j 0)) := by
          rw [← hgd.out j hjz]
          have := A5.out (1 + j) (by simp; omega)
          rw [show ([k, f0, f1, f2, f3, f4, f5] : List Int).getD (1 + j) 0 = [f0, f1, f2, f3, f4, f5].getD j 0 by rw [Nat.add_comm]; rfl] at this
          exact this
        obtain ⟨x, hx⟩ : ∃ x, zs.getD j 0 = x := ⟨_, rfl⟩
        rw [hx] at c1 c2
        clear hx hjz hcz BY
        go_wp2
        go_quiet (fail)
        go_wp2
        go_roundw
        case rel => exact ⟨j + 1, n + nq, by omega, by go_num, rfl⟩
        case measure => simp [intOf]; omega
      · obtain rfl : j = len := by omega
        have A6 : Hid (At wr g [k, f0, f1, f2, f3, f4, f5]) := by rw [hwr]; exact A5
        have S6 : Hid (Sl .u8 wr (some ⟨g3, 0, none⟩) L (k :: encs zs)) := by rw [hwr]; exact S5
        have B6 : Hid (Below w.heap.size w wr) := by rw [hwr]; exact ⟨B5.out.os, B5.out.tape, B5.out.output, B5.out.size, B5.out.block⟩
        clear A5 S5 B5 S5l hwr
        obtain ⟨Z, hZ⟩ : ∃ Z, k :: encs zs = Z := ⟨_, rfl⟩
        rw [hZ] at S6 BY HLL
        clear hZ
        go_wp2
        refine region_owes (L := [Fact.is (.int .i64 0),
          Fact.is (.bool true),
          Fact.is (.bool true),
          Fact.is (.pointer (some ⟨g, 0, none⟩)),
          Fact.is (.int .i64 k),
          Fact.is (.int .i64 k),
          Fact.is (.bool true),
          Fact.is (.bool true),
          Fact.is (.bool true),
          Fact.is (.agg #[.int .i64 k, .int .i64 f0, .int .i64 f1, .int .i64 f2, .int .i64 f3, .int .i64 f4, .int .i64 f5]),
          Fact.sl .u8 L Z,
          Fact.is (.string (strOfNums Z)),
          Fact.is (.slice (some ⟨g3, 0, none⟩) L c3),
          Fact.is (.string (strOfNums Z)),
          Fact.is (.bool true),
          Fact.is (.bool true),
          Fact.is (.bool true),
          Fact.is (.bool true),
          Fact.is (.bool true),
          Fact.is (.bool true)])
          (T := [61, 62, 63, 64, 65, 66, 67, 68, 69, 70, 71, 72, 73, 74, 75, 76, 77, 78, 79, 4]) (by kernel_rfl) (by kernel_rfl) rfl ?owes ?_
        case owes =>
          refine .cons (owes_move (.tmp 7) (.inl rfl) fun q u lh => ⟨wants_free rfl, lh.old 7 rfl⟩) ?_
          refine .cons (owes_eql 32 32 (.tmp 61) (.const (.int .i64 0)) rfl rfl fun q u lh => ⟨wants_free rfl, .int .i64 0, lh.dep 0 rfl, rfl, eq_int⟩) ?_
          refine .cons (owes_move (.tmp 62) (.inl rfl) fun q u lh => ⟨wants_free rfl, lh.dep 1 rfl⟩) ?_
          refine .cons (owes_value fun q u lh => ⟨lh.wants1 2 true rfl rfl rfl, .pointer (some ⟨g, 0, none⟩), by have e6 : q.tmps.getD 6 undef = .pointer (some ⟨g, 0, none⟩) := lh.old 6 rfl; simp [execOp, Act.eval, e6, go_sem], rfl⟩) ?_
          refine .cons (owes_value fun q u lh => ⟨lh.wants1 2 true rfl rfl rfl, .int .i64 k, by have e64 : q.tmps.getD 64 undef = .pointer (some ⟨g, 0, none⟩) := lh.dep 3 rfl; have c := (A6.out.below lh.below).seven.1; simp [execOp, Act.eval, e64, c, go_sem], rfl⟩) ?_
          refine .cons (owes_move (.tmp 0) (.inl rfl) fun q u lh => ⟨lh.wants1 2 true rfl rfl rfl, lh.old 0 rfl⟩) ?_
          refine .cons (owes_eql 3 3 (.tmp 65) (.tmp 66) rfl rfl fun q u lh => ⟨lh.wants1 2 true rfl rfl rfl, .int .i64 k, lh.dep 4 rfl, lh.dep 5 rfl, eq_num⟩) ?_
          refine .cons (owes_pick (.tmp 63) (.tmp 67) (.const (.bool false)) rfl fun q u lh => ⟨wants_free rfl, true, lh.dep 2 rfl, lh.dep 6 rfl⟩) ?_
          refine .cons (owes_move (.tmp 68) (.inl rfl) fun q u lh => ⟨wants_free rfl, lh.dep 7 rfl⟩) ?_
          refine .cons (owes_value fun q u lh => ⟨lh.wants1 8 true rfl rfl rfl, .agg #[.int .i64 k, .int .i64 f0, .int .i64 f1, .int .i64 f2, .int .i64 f3, .int .i64 f4, .int .i64 f5], by have e6 : q.tmps.getD 6 undef = .pointer (some ⟨g, 0, none⟩) := lh.old 6 rfl; obtain ⟨p0, p1, p2, p3, p4, p5, p6⟩ := (A6.out.below lh.below).seven; simp [execOp, Act.eval, e6, p0, p1, p2, p3, p4, p5, p6, go_sem], rfl⟩) ?_
          refine .cons (owes_call 9 Try.func9 (by kernel_rfl) (by kernel_rfl) [.tmp 70] #[24] rfl fun q u lh => ⟨lh.wants1 8 true rfl rfl rfl, by have e70 : q.tmps.getD 70 undef = .agg #[.int .i64 k, .int .i64 f0, .int .i64 f1, .int .i64 f2, .int .i64 f3, .int .i64 f4, .int .i64 f5] := lh.dep 9 rfl; show Calls Try.prog 9 #[q.tmps.getD 70 undef] u _; rw [e70]; exact bytes_fact (BY u) HLL.out⟩) ?_
          refine .cons (owes_text_new 27 9 5 71 10 L Z rfl rfl rfl rfl rfl Try.underlying27 Try.underlying5 Try.underlying9 fun q u lh => lh.wants1 8 true rfl rfl rfl) ?_
          refine .cons (owes_move (.tmp 5) (.inl rfl) fun q u lh => ⟨lh.wants1 8 true rfl rfl rfl, lh.old 5 rfl⟩) ?_
          refine .cons (owes_text 27 9 5 73 12 (some ⟨g3, 0, none⟩) L c3 Z rfl rfl rfl rfl rfl S6.out Try.underlying27 Try.underlying5 Try.underlying9 fun q u lh => lh.wants1 8 true rfl rfl rfl) ?_
          refine .cons (owes_eql 9 9 (.tmp 72) (.tmp 74) rfl rfl fun q u lh => ⟨lh.wants1 8 true rfl rfl rfl, .string (strOfNums Z), lh.dep 11 rfl, lh.dep 13 rfl, eq_str⟩) ?_
          refine .cons (owes_pick (.tmp 69) (.tmp 75) (.const (.bool false)) rfl fun q u lh => ⟨wants_free rfl, true, lh.dep 8 rfl, lh.dep 14 rfl⟩) ?_
          refine .cons (owes_move (.tmp 76) (.inl rfl) fun q u lh => ⟨wants_free rfl, lh.dep 15 rfl⟩) ?_
          refine .cons (owes_call 15 Try.func15 (by kernel_rfl) (by kernel_rfl) [] #[] rfl fun q u lh => ⟨lh.wants1 16 true rfl rfl rfl, by show Calls Try.prog 15 #[] u _; exact known_fact u⟩) ?_
          refine .cons (owes_pick (.tmp 77) (.tmp 78) (.const (.bool false)) rfl fun q u lh => ⟨wants_free rfl, true, lh.dep 16 rfl, lh.dep 17 rfl⟩) ?_
          refine .cons (owes_move (.tmp 79) (.inr rfl) fun q u lh => ⟨wants_free rfl, lh.dep 18 rfl⟩) ?_
          exact .nil _
        intro q u hb hsz hdf hold hfact
        have h4 : q.tmps.getD 4 undef = .bool true := hfact 19 (by decide)
        go_wp2
        refine bodyPost_ret (results_tmp rfl _ _ _) hdf ⟨?_, B6.out.trans (hb.mono B6.out.size)⟩
        rw [h4]
  · rw [if_neg hlm] at hR
    simp only [Prod.mk.injEq, List.cons.injEq] at hR
    obtain ⟨⟨rfl, rfl, rfl, rfl, rfl, rfl, rfl, _⟩, rfl⟩ := hR
    have hne : ((len : Int) == m) = false := by simp [hlm]
    have AE := arr_eq
    clear hlm h6 h7
    go_wp2_with fail
    go_at_call 21
    refine (MA _).mono ?_
    rintro e w5 ⟨rfl, b5⟩
    obtain ⟨p0, p1, p2, p3, p4, p5, p6⟩ := (A4.below b5).seven
    have B5 := B4'.trans (b5.mono B4'.size)
    clear b5 B4' A4
    go_wp2_with fail
    go_at_call 15
    refine (known_any _).mono ?_
    rintro e w6 ⟨rfl, b6⟩
    have B6 := B5.trans (b6.mono B5.size)
    clear b6 B5 p0 p1 p2 p3 p4 p5 p6
    go_wp2
    go_ret
    exact ⟨rfl, B6⟩

theorem msgNumbers (a0 : Int) (a1 : Option Addr) (len1 cap1 : Nat) (z1 : List Int) (w : World) (_ : (Lit.int .i64 a0).wf = true) (w1 : IsRow .i64 w a1 len1 cap1 z1) :
    Calls Try.prog 6 #[.int .i64 a0, .slice a1 len1 cap1] w fun e w' => e = .returned (.bool true) ∧ Below w.heap.size w w' := by
  obtain ⟨hS, _, _⟩ := w1.sl wf_i64'
  by_cases h : 12 < len1
  · exact numbers_out0 a0 a1 len1 cap1 w (by omega)
  by_cases h1 : a0 < 0
  · exact numbers_out1 a0 a1 len1 cap1 w (by omega) h1
  by_cases h2 : 255 < a0
  · exact numbers_out2 a0 a1 len1 cap1 w (by omega) (by omega) h2
  exact numbers_in a0 a1 len1 cap1 _ w hS (by omega) (by omega) (by omega)

end Walk
end Go.Proofs.Ytaifnlfebdochaa
