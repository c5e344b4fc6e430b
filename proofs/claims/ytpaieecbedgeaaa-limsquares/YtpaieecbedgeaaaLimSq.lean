/-
  lim: squares of a number: the program's answers and the document's.
-/
import Derived.Test.YtpaieecbedgeaaaLimRow
namespace Go.Proofs.Ytpaieecbedgeaaa
open Go.RowKit
set_option linter.unusedVariables false
set_option linter.unusedSimpArgs false

theorem rep_len {m : Nat} {z : List Int} : (List.replicate m z).length = m := by simp

set_option maxHeartbeats 2000000 in
theorem limSquare_any (n v : Int) (hv : IntKind.i64.wrap v = v) (w : World) : Calls Try.prog 15 #[.int .i64 n, .int .i64 v] w (RowsEnd w (squareL n v)) := by
  have M := mayHave_any n
  cases hp : partB n with
  | false =>
    rw [hp] at M
    rw [squareL_no hp]
    clear hp
    go_enter Try.func15, Try.ntmps15
    go_wp2_with fail
    go_at_call 31
    refine (M _).mono ?_
    rintro e w1 ⟨rfl, hw⟩
    obtain rfl := hw.symm
    go_wp2
    go_ret
    exact ⟨_, _, rfl, MadeI.start _ _, Below.refl _ _⟩
  | true =>
    obtain ⟨m, rfl, hm⟩ : ∃ m : Nat, n = m ∧ m ≤ 6 := ⟨n.toNat, by simp [partB] at hp; omega, by simp [partB] at hp; omega⟩
    rw [hp] at M
    rw [squareL_yes hm]
    clear hp
    have R0 := limRow_any m v hv
    rw [rowL_yes hm] at R0
    have HV : Hid (IntKind.i64.wrap v = v) := hv
    clear hv
    obtain ⟨z, hz⟩ : ∃ z, List.replicate m v = z := ⟨_, rfl⟩
    rw [hz] at R0
    have HZ : Hid (List.replicate m v = z) := hz
    rw [hz]
    clear hz
    obtain ⟨w2, hmk, K0, B0⟩ := makeRows64 w m (by omega)
    have HK0 : Hid (PartI w2 w.heap.size m [] []) := PartI.start K0
    have HB0 : Hid (Below w.heap.size w w2) := B0
    clear K0 B0
    go_enter Try.func15, Try.ntmps15
    go_wp2_with fail
    go_at_call 31
    refine (M _).mono ?_
    rintro e w1 ⟨rfl, hw⟩
    obtain rfl := hw.symm
    clear M
    go_wp2
    go_loopw [14] (fun i wr => ∃ (k : Nat) (vs : List Value), k ≤ m ∧ i = .int .i64 k ∧ Below w.heap.size w wr ∧ PartI wr w.heap.size m vs (List.replicate k z)) (fun i _ => m - (intOf i).toNat)
    case atStart => exact ⟨0, [], Nat.zero_le _, rfl, HB0.out, HK0.out⟩
    case round =>
      obtain ⟨k, vs, hk, rfl, bel, part⟩ := hrel
      have HB : Hid (Below w.heap.size w wr) := bel
      have HK : Hid (PartI wr w.heap.size m vs (List.replicate k z)) := part
      clear bel part
      by_cases hlt : k < m
      · go_wp2_with fail
        go_at_call 18
        refine (R0 _).mono ?_
        rintro e w3 ⟨vr, rfl, hown, hw64, hb3⟩
        have HK3 : Hid (PartI w3 w.heap.size m vs (List.replicate k z)) := HK.out.below hb3
        have HM : Hid (PartI (w3.setCell ⟨w.heap.size, k, none⟩ vr) w.heap.size m (vs ++ [vr]) (List.replicate (k + 1) z)) := by
          have := HK.out.more (by rw [rep_len]; exact hlt) hb3 hw64 hown
          rw [rep_len, ← List.replicate_succ'] at this
          exact this
        have HB3 : Hid (Below w.heap.size w w3) := HB.out.trans (hb3.mono HB.out.size)
        have c0 := HK3.out.cell (by rw [rep_len]; exact hlt)
        have f0 := HK3.out.free k
        rw [rep_len] at c0
        obtain ⟨va, vc, rfl⟩ := own_form hown
        clear hown hw64 hb3 HK HB
        go_wp2
        go_roundw
        case rel => exact ⟨k + 1, _, by omega, by go_num, HB3.out.setCell (p := ⟨w.heap.size, k, none⟩) (Nat.le_refl _) _, HM.out⟩
        case measure => simp [intOf]; omega
      · obtain rfl : k = m := by omega
        have HM : Hid (MadeI wr w.heap.size (.slice (some ⟨w.heap.size, 0, none⟩) k k) vs (List.replicate k z)) := by
          have := PartI.all (R := List.replicate k z) (by rw [rep_len]; exact HK.out) (Nat.le_refl _) (by rw [rep_len]; unfold maxLen; omega)
          rw [rep_len] at this
          exact this
        go_wp2
        go_ret
        exact ⟨_, _, rfl, HM.out, HB.out⟩

set_option maxHeartbeats 2000000 in
theorem refSquare_any (n v : Int) (hv : IntKind.i64.wrap v = v) (w : World) : Calls Try.prog 17 #[.int .i64 n, .int .i64 v] w (RowsEnd w (squareL n v)) := by
  rcases Int.lt_or_le n 0 with h0 | h0
  · rw [squareL_no (partB_low h0).symm]
    go_enter Try.func17, Try.ntmps17
    go_wp2
    go_ret
    exact ⟨_, _, rfl, MadeI.start _ _, Below.refl _ _⟩
  rcases Int.lt_or_le 6 n with h6 | h6
  · rw [squareL_no (by rw [← partB_rest h0, decide_eq_false_iff_not]; omega)]
    go_enter Try.func17, Try.ntmps17
    go_wp2
    go_ret
    exact ⟨_, _, rfl, MadeI.start _ _, Below.refl _ _⟩
  obtain ⟨m, rfl, hm⟩ : ∃ m : Nat, n = m ∧ m ≤ 6 := ⟨n.toNat, by omega, by omega⟩
  rw [squareL_yes hm]
  have R0 := refRow_any m v hv
  rw [rowL_yes hm] at R0
  have HV : Hid (IntKind.i64.wrap v = v) := hv
  clear hv
  obtain ⟨z, hz⟩ : ∃ z, List.replicate m v = z := ⟨_, rfl⟩
  rw [hz] at R0
  rw [hz]
  clear hz
  obtain ⟨j0, hj, hy0, hy1, hy2⟩ := info_parts infoRow64
  go_enter Try.func17, Try.ntmps17
  go_wp2
  go_loopw [5, 6] (fun l i wr => ∃ (k : Nat) (vs : List Value) (la : Option Addr) (ln lc : Nat), k ≤ m ∧ l = .slice la ln lc ∧ i = .int .i64 k ∧ Below w.heap.size w wr ∧ MadeI wr w.heap.size (.slice la ln lc) vs (List.replicate k z)) (fun _ i _ => m - (intOf i).toNat)
  case atStart => exact ⟨0, [], none, 0, 0, Nat.zero_le _, rfl, rfl, Below.refl _ _, MadeI.start _ _⟩
  case round =>
    obtain ⟨k, vs, la, ln, lc, hk, rfl, rfl, bel, part⟩ := hrel
    have HB : Hid (Below w.heap.size w wr) := bel
    have HK : Hid (MadeI wr w.heap.size (.slice la ln lc) vs (List.replicate k z)) := part
    clear bel part
    by_cases hlt : k < m
    · go_wp2_with fail
      go_at_call 32
      refine (R0 _).mono ?_
      rintro e w3 ⟨vr, rfl, hown, hw64, hb3⟩
      have HB3 : Hid (Below w.heap.size w w3) := HB.out.trans (hb3.mono HB.out.size)
      have HO : Hid (w3.ownsRow wr.heap.size 2 1 vr z.length (z.map (Value.int .i64)) ∧ W64 z ∧ Below wr.heap.size wr w3) := ⟨hown, hw64, hb3⟩
      obtain ⟨va, vc, hvr⟩ := own_form hown
      have own1 : (w3.alloc (.cells #[vr] 24)).ownsRow w.heap.size 24 1 (.slice la ln lc) k vs := by
        have := own_below (HK.out.below hb3).own (box_below w3 (.cells #[vr] 24))
        rwa [rep_len] at this
      subst hvr
      clear hown hw64 hb3
      go_wp2_with (at_builtin; refine wpList_append_own_at _ rfl _ _ 23 rfl w.heap.size 24 j0 _ 1 24 Try.underlying23 hj hy0 hy1 hy2 rfl (by decide) (.slice la ln lc) k vs rfl own1 ⟨w3.heap.size, 0, none⟩ 1 1 [.slice va z.length vc] rfl rfl ?q1 ?q2 ?q3 ?q4 ?q5 ?_)
      case q1 =>
        intro j u hj
        cases j with
        | zero => simp at hj; rw [← hj, Addr.add_flat, Nat.add_zero, cell_new]; rfl
        | succ j => simp at hj
      case q2 => intro u hu; simp at hu; rw [hu]; rfl
      case q3 => unfold maxLen; omega
      case q4 => omega
      case q5 => have := HB3.out.size; simp; omega
      intro v' w5 o5 g5 _ at5
      have gb : (w3.alloc (.cells #[Value.slice va z.length vc] 24)).heap.size = w3.heap.size + 1 := size_alloc _ _
      have HM : Hid (MadeI w5 w.heap.size v' (vs ++ [.slice va z.length vc]) (List.replicate (k + 1) z)) := by
        rw [List.replicate_succ']
        have kb : Below wr.heap.size wr (w3.alloc (.cells #[Value.slice va z.length vc] 24)) := HO.out.2.2.trans ((box_below _ _).mono HO.out.2.2.size)
        refine HK.out.more kb HO.out.2.1 (own_below HO.out.1 (box_below _ _)) HB.out.size g5 (by rw [rep_len]; exact o5) ?_
        rcases at5 with h | h
        · exact .inl h
        · exact .inr ⟨_, h, Nat.le_of_eq gb⟩
      have HB5 : Hid (Below w.heap.size w w5) := by
        refine (HB3.out.alloc HB3.out.size _).grown g5 (by have := HB3.out.size; rw [gb]; omega) ?_
        intro b hb
        exact (HK.out.own.lt b hb).1
      obtain ⟨va', vc', rfl⟩ := own_form o5
      clear o5 g5 at5 gb own1 HO HK HB HB3
      go_wp2
      go_roundw
      case rel => exact ⟨k + 1, _, _, _, _, by omega, rfl, by go_num, HB5.out, HM.out⟩
      case measure => simp [intOf]; omega
    · obtain rfl : k = m := by omega
      go_wp2
      go_ret
      exact ⟨_, _, rfl, HK.out, HB.out⟩

end Go.Proofs.Ytpaieecbedgeaaa
