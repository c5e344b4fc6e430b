/-
  The walk of IdsAll.
-/
import Derived.Test.YtadnohkgbggoiaaKnown12
import Derived.Test.YtadnohkgbggoiaaIdsRef
import Derived.Test.YtadnohkgbggoiaaArgs
namespace Go.Proofs.Ytadnohkgbggoiaa
open Go.RowKit
set_option linter.unusedVariables false
set_option linter.unusedSimpArgs false
namespace Walk

theorem add_is {l : List Int} {x : Int} (h : isB l = true) (hx : 0 < x) : isB (addL l x) = true := by
  obtain ⟨hu, hl⟩ := isB_up h
  cases hq : hasB l x with
  | true => rw [(add_has hq).1]; exact h
  | false =>
    by_cases hf : l.length < 200
    · rw [(add_ins hq hf).1]
      exact isB_yes (ins_up hu hx hq) (by rw [ins_len]; omega)
    · rw [(add_full hq (by omega)).1]; exact h
theorem ins_has (l : List Int) (x : Int) : hasB (ins l x) x = true := has_mem.2 ((ins_mem l x x).2 (.inl rfl))

theorem isB_nil : isB [] = true := by decide
theorem idsAll_out (a : Option Addr) (n c : Nat) (w : World) (h : 250 < n) : Calls Try.prog 4 #[.slice a n c] w fun e w' => e = .returned (.bool true) ∧ Below w.heap.size w w' := by
  have h0 : 250 < (n : Int) := by omega
  go_enter Try.func4, Try.ntmps4
  go_wp2
  go_ret
  exact ⟨rfl, Below.refl _ _⟩

/-- What a round of IdsAll leaves behind Add: the three ways. -/
theorem add_ways {l : List Int} {x : Int} (h : isB l = true) (hx : 0 < x) (m0 : Nat) (hm : m0 = l.length) :
    (hasB l x = true ∧ addE l x = 6 ∧ (addL l x).length = m0) ∨ (hasB l x = false ∧ addE l x = 3 ∧ (addL l x).length = m0 ∧ m0 = 200) ∨ (hasB l x = false ∧ addE l x = 0 ∧ (addL l x).length = m0 + 1 ∧ m0 < 200 ∧ hasB (addL l x) x = true) := by
  obtain ⟨hu, hl⟩ := isB_up h
  subst hm
  cases hq : hasB l x with
  | true => exact .inl ⟨rfl, (add_has hq).2, by rw [(add_has hq).1]⟩
  | false =>
    by_cases hf : l.length < 200
    · refine .inr (.inr ⟨rfl, (add_ins hq hf).2, by rw [(add_ins hq hf).1, ins_len], hf, by rw [(add_ins hq hf).1, ins_has]⟩)
    · have hf' : 200 ≤ l.length := by omega
      exact .inr (.inl ⟨rfl, (add_full hq hf').2, by rw [(add_full hq hf').1], by omega⟩)

set_option maxHeartbeats 8000000 in
set_option maxRecDepth 100000 in
theorem idsAll_in (a : Option Addr) (n c : Nat) (zs : List Int) (w : World) (h : Good w a n c zs) (hn : n ≤ 250) : Calls Try.prog 4 #[.slice a n c] w fun e w' => e = .returned (.bool true) ∧ Below w.heap.size w w' := by
  obtain ⟨i0, hi, hz0, hz1, hz2⟩ := info_parts infoI64
  have h0 : (n : Int) ≤ 250 := by omega
  have HC : Hid (∀ i, i < n → ∃ b off, a = some ⟨b, off, none⟩ ∧ IntKind.i64.wrap (zs.getD i 0) = zs.getD i 0 ∧ w.cell? ⟨b, off + i, none⟩ = some (.int .i64 (zs.getD i 0))) := by
    intro i hi
    have hl := h.sl.1
    rcases h.sl.2.2 with h0 | ⟨b, off, ha, hc⟩
    · rw [h0] at hl; simp at hl; omega
    · exact ⟨b, off, ha, h.sl.2.1 _ (getD_mem (by omega)), hc i (by omega)⟩
  clear h
  go_enter Try.func4, Try.ntmps4
  go_wp2
  go_loopw [3, 4] (fun t i wr => ∃ (k m0 : Nat) (a3 : Option Addr) (c3 : Nat) (l : List Int), k ≤ n ∧ i = .int .i64 k ∧ t = .slice a3 m0 c3 ∧ Hid (Good wr a3 m0 c3 l) ∧ Hid (isB l = true) ∧ Hid (Below w.heap.size w wr)) (fun _ i _ => n - (intOf i).toNat)
  case atStart => exact ⟨0, 0, none, 0, [], by omega, rfl, rfl, Good.nil _, isB_nil, Below.refl _ _⟩
  case round =>
    obtain ⟨k, m0, a3, c3, l, hk, rfl, rfl, G, HI, HB⟩ := hrel
    by_cases hlt : k < n
    · obtain ⟨b, off, rfl, hxw, p0⟩ := HC.out k hlt
      have c0 : wr.cell? ⟨b, off + k, none⟩ = some (.int .i64 (zs.getD k 0)) := by rw [HB.out.cell (p := ⟨b, off + k, none⟩) (block_lt_of_cell p0)]; exact p0
      obtain ⟨x, hx⟩ : ∃ x, zs.getD k 0 = x := ⟨_, rfl⟩
      rw [hx] at c0 hxw
      have HX : Hid (IntKind.i64.wrap x = x) := hxw
      have i1 : (k : Int) < (n : Int) := by omega
      have HBC : Hid (b < w.heap.size) := block_lt_of_cell p0
      clear hx hxw p0 HC
      by_cases hx1 : x < 1
      · go_wp2
        go_roundw
        case rel => exact ⟨k + 1, m0, a3, c3, l, by omega, by go_num, rfl, G, HI, HB⟩
        case measure => simp [intOf]; omega
      · have HM : Hid (m0 ≤ 200) := by have := (isB_up HI.out).2; have := G.out.sl.1; show _ ≤ _; omega
        have A0 := fun u (hb : Below wr.heap.size wr u) => idsAdd_any a3 m0 c3 l x u (G.out.below hb) HX.out (by have := HM.out; omega) (isB_up HI.out).1
        have HL := add_is HI.out (x := x) (by omega)
        have W := add_ways HI.out (x := x) (by omega) m0 G.out.sl.1
        have RH := fun u (hb : Below wr.heap.size wr u) => refHas_any a3 m0 c3 l x u (G.out.below hb).sl (by have := HM.out; omega)
        have G1 : Hid (Good (wr.alloc (.cells #[] 2)) a3 m0 c3 l) := G.out.below (box_below _ _)
        have own0 := World.ownsRow_made (e := 2) (size := 1) (base := wr.heap.size) wr #[] 0 (Nat.le_refl _) (Nat.zero_le _) rfl
        have HLI : Hid (isB (addL l x) = true) := HL
        unfold AddEnd at A0
        have k9 : (m0 : Int) ≤ 200 := by have := HM.out; omega
        clear HL
        rcases W with ⟨w1, w2, w3⟩ | ⟨w1, w2, w3, w4⟩ | ⟨w1, w2, w3, w4, w5⟩
        · simp only [w2, w3] at A0
          rw [w1] at RH
          clear w1 w2 w3
          go_wp2_with (refine wpList_append_sl rfl _ _ 22 rfl wr.heap.size 2 i0 (.int .i64 0) 8 Try.underlying22 hi hz0 hz1 hz2 rfl (.slice (some ⟨wr.heap.size, 0, none⟩) 0 0) 0 [] rfl own0 .i64 a3 m0 c3 l rfl G1.out.sl G1.out.nil0 ?c1 ?c2 ?c3 ?_)
          case c1 => have := HM.out; unfold maxLen; omega
          case c2 => have := HM.out; omega
          intro v1 w1 hown hgrow _
          have BB : Below wr.heap.size wr w1 := ((Below.refl _ wr).alloc (Nat.le_refl _) _).grown hgrow (by simp) (by intro k hk; simp [Value.ownBlock] at hk; omega)
          have hown' : w1.ownsRow wr.heap.size 2 1 v1 m0 (l.map (Value.int .i64)) := by simpa using hown
          obtain ⟨a1, c1, hv1, g1⟩ := Good.own hown' G.out.sl.2.1
          rw [← G.out.sl.1] at hv1 g1
          subst hv1
          have GW : Hid (Good w1 a1 m0 c1 l) := g1
          have B1 : Hid (Below wr.heap.size wr w1) := BB
          have A1 := A0 w1 BB
          have q0 : w1.cell? ⟨b, off + k, none⟩ = some (.int .i64 x) := by rw [BB.cell (p := ⟨b, off + k, none⟩) (block_lt_of_cell c0)]; exact c0
          clear A0 G1 own0 hown hown' hgrow g1 BB c0
          go_wp2_with fail
          go_at_call 9
          refine A1.mono ?_
          rintro e w2 ⟨a2, c2, rfl, g2, hb2⟩
          have G2 : Hid (Good w2 a2 m0 c2 (addL l x)) := g2
          have B2 : Hid (Below wr.heap.size wr w2) := B1.out.trans (hb2.mono B1.out.size)
          have SM := same_any a3 a1 m0 m0 c3 c1 l l w2 (G.out.below B2.out).sl (GW.out.below hb2).sl (by have := HM.out; omega)
          rw [decide_eq_true (rfl : l = l)] at SM
          have r0 : w2.cell? ⟨b, off + k, none⟩ = some (.int .i64 x) := by rw [hb2.cell (p := ⟨b, off + k, none⟩) (block_lt_of_cell q0)]; exact q0
          clear A1 g2 hb2 q0 B1 GW
          go_wp2_with fail
          go_at_call 11
          refine SM.mono ?_
          rintro e w4 ⟨rfl, q4, hw4⟩
          have bb : Below w2.heap.size w2 w4 := by rw [hw4]; exact drawn_below _ _
          have G4 : Hid (Good w4 a2 m0 c2 (addL l x)) := G2.out.below bb
          have B4 : Hid (Below wr.heap.size wr w4) := B2.out.trans (bb.mono B2.out.size)
          have RI := refIs_any a2 m0 c2 (addL l x) w4 G4.out.sl (by have := HM.out; omega)
          rw [HLI.out] at RI
          have s0 : w4.cell? ⟨b, off + k, none⟩ = some (.int .i64 x) := by rw [bb.cell (p := ⟨b, off + k, none⟩) (block_lt_of_cell r0)]; exact r0
          clear SM hw4 bb r0 G2 B2
          go_wp2_with fail
          go_at_call 6
          refine RI.mono ?_
          rintro e w5 ⟨rfl, q5, hw5⟩
          have bb : Below w4.heap.size w4 w5 := by rw [hw5]; exact drawn_below _ _
          have G5 : Hid (Good w5 a2 m0 c2 (addL l x)) := G4.out.below bb
          have B5 : Hid (Below wr.heap.size wr w5) := B4.out.trans (bb.mono B4.out.size)
          have RH5 := RH w5 B5.out
          have t0 : w5.cell? ⟨b, off + k, none⟩ = some (.int .i64 x) := by rw [bb.cell (p := ⟨b, off + k, none⟩) (block_lt_of_cell s0)]; exact s0
          clear RI hw5 bb s0 G4 B4 RH
          go_wp2_with fail
          go_at_call 13
          refine RH5.mono ?_
          rintro e w6 ⟨rfl, rfl⟩
          clear RH5
          go_wp2
          go_roundw
          case rel => exact ⟨k + 1, m0, a2, c2, addL l x, by omega, by go_num, rfl, G5, HLI, HB.out.trans (B5.out.mono HB.out.size)⟩
          case measure => simp [intOf]; omega
        · simp only [w2, w3] at A0
          rw [w1] at RH
          have k8 : (m0 : Int) = 200 := by omega
          clear w4
          clear w1 w2 w3
          go_wp2_with (refine wpList_append_sl rfl _ _ 22 rfl wr.heap.size 2 i0 (.int .i64 0) 8 Try.underlying22 hi hz0 hz1 hz2 rfl (.slice (some ⟨wr.heap.size, 0, none⟩) 0 0) 0 [] rfl own0 .i64 a3 m0 c3 l rfl G1.out.sl G1.out.nil0 ?c1 ?c2 ?c3 ?_)
          case c1 => have := HM.out; unfold maxLen; omega
          case c2 => have := HM.out; omega
          intro v1 w1 hown hgrow _
          have BB : Below wr.heap.size wr w1 := ((Below.refl _ wr).alloc (Nat.le_refl _) _).grown hgrow (by simp) (by intro k hk; simp [Value.ownBlock] at hk; omega)
          have hown' : w1.ownsRow wr.heap.size 2 1 v1 m0 (l.map (Value.int .i64)) := by simpa using hown
          obtain ⟨a1, c1, hv1, g1⟩ := Good.own hown' G.out.sl.2.1
          rw [← G.out.sl.1] at hv1 g1
          subst hv1
          have GW : Hid (Good w1 a1 m0 c1 l) := g1
          have B1 : Hid (Below wr.heap.size wr w1) := BB
          have A1 := A0 w1 BB
          have q0 : w1.cell? ⟨b, off + k, none⟩ = some (.int .i64 x) := by rw [BB.cell (p := ⟨b, off + k, none⟩) (block_lt_of_cell c0)]; exact c0
          clear A0 G1 own0 hown hown' hgrow g1 BB c0
          go_wp2_with fail
          go_at_call 9
          refine A1.mono ?_
          rintro e w2 ⟨a2, c2, rfl, g2, hb2⟩
          have G2 : Hid (Good w2 a2 m0 c2 (addL l x)) := g2
          have B2 : Hid (Below wr.heap.size wr w2) := B1.out.trans (hb2.mono B1.out.size)
          have SM := same_any a3 a1 m0 m0 c3 c1 l l w2 (G.out.below B2.out).sl (GW.out.below hb2).sl (by have := HM.out; omega)
          rw [decide_eq_true (rfl : l = l)] at SM
          have r0 : w2.cell? ⟨b, off + k, none⟩ = some (.int .i64 x) := by rw [hb2.cell (p := ⟨b, off + k, none⟩) (block_lt_of_cell q0)]; exact q0
          clear A1 g2 hb2 q0 B1 GW
          go_wp2_with fail
          go_at_call 11
          refine SM.mono ?_
          rintro e w4 ⟨rfl, q4, hw4⟩
          have bb : Below w2.heap.size w2 w4 := by rw [hw4]; exact drawn_below _ _
          have G4 : Hid (Good w4 a2 m0 c2 (addL l x)) := G2.out.below bb
          have B4 : Hid (Below wr.heap.size wr w4) := B2.out.trans (bb.mono B2.out.size)
          have RI := refIs_any a2 m0 c2 (addL l x) w4 G4.out.sl (by have := HM.out; omega)
          rw [HLI.out] at RI
          have s0 : w4.cell? ⟨b, off + k, none⟩ = some (.int .i64 x) := by rw [bb.cell (p := ⟨b, off + k, none⟩) (block_lt_of_cell r0)]; exact r0
          clear SM hw4 bb r0 G2 B2
          go_wp2_with fail
          go_at_call 6
          refine RI.mono ?_
          rintro e w5 ⟨rfl, q5, hw5⟩
          have bb : Below w4.heap.size w4 w5 := by rw [hw5]; exact drawn_below _ _
          have G5 : Hid (Good w5 a2 m0 c2 (addL l x)) := G4.out.below bb
          have B5 : Hid (Below wr.heap.size wr w5) := B4.out.trans (bb.mono B4.out.size)
          have RH5 := RH w5 B5.out
          have t0 : w5.cell? ⟨b, off + k, none⟩ = some (.int .i64 x) := by rw [bb.cell (p := ⟨b, off + k, none⟩) (block_lt_of_cell s0)]; exact s0
          clear RI hw5 bb s0 G4 B4 RH
          go_wp2_with fail
          go_at_call 13
          refine RH5.mono ?_
          rintro e w6 ⟨rfl, rfl⟩
          clear RH5
          go_wp2
          go_roundw
          case rel => exact ⟨k + 1, m0, a2, c2, addL l x, by omega, by go_num, rfl, G5, HLI, HB.out.trans (B5.out.mono HB.out.size)⟩
          case measure => simp [intOf]; omega
        · simp only [w2, w3] at A0
          rw [w1] at RH
          have k8 : (m0 : Int) < 200 := by omega
          have W5 : Hid (hasB (addL l x) x = true) := w5
          clear w4 w5
          clear w1 w2 w3
          go_wp2_with (refine wpList_append_sl rfl _ _ 22 rfl wr.heap.size 2 i0 (.int .i64 0) 8 Try.underlying22 hi hz0 hz1 hz2 rfl (.slice (some ⟨wr.heap.size, 0, none⟩) 0 0) 0 [] rfl own0 .i64 a3 m0 c3 l rfl G1.out.sl G1.out.nil0 ?c1 ?c2 ?c3 ?_)
          case c1 => have := HM.out; unfold maxLen; omega
          case c2 => have := HM.out; omega
          intro v1 w1 hown hgrow _
          have BB : Below wr.heap.size wr w1 := ((Below.refl _ wr).alloc (Nat.le_refl _) _).grown hgrow (by simp) (by intro k hk; simp [Value.ownBlock] at hk; omega)
          have hown' : w1.ownsRow wr.heap.size 2 1 v1 m0 (l.map (Value.int .i64)) := by simpa using hown
          obtain ⟨a1, c1, hv1, g1⟩ := Good.own hown' G.out.sl.2.1
          rw [← G.out.sl.1] at hv1 g1
          subst hv1
          have GW : Hid (Good w1 a1 m0 c1 l) := g1
          have B1 : Hid (Below wr.heap.size wr w1) := BB
          have A1 := A0 w1 BB
          have q0 : w1.cell? ⟨b, off + k, none⟩ = some (.int .i64 x) := by rw [BB.cell (p := ⟨b, off + k, none⟩) (block_lt_of_cell c0)]; exact c0
          clear A0 G1 own0 hown hown' hgrow g1 BB c0
          go_wp2_with fail
          go_at_call 9
          refine A1.mono ?_
          rintro e w2 ⟨a2, c2, rfl, g2, hb2⟩
          have G2 : Hid (Good w2 a2 (m0 + 1) c2 (addL l x)) := g2
          have B2 : Hid (Below wr.heap.size wr w2) := B1.out.trans (hb2.mono B1.out.size)
          have SM := same_any a3 a1 m0 m0 c3 c1 l l w2 (G.out.below B2.out).sl (GW.out.below hb2).sl (by have := HM.out; omega)
          rw [decide_eq_true (rfl : l = l)] at SM
          have r0 : w2.cell? ⟨b, off + k, none⟩ = some (.int .i64 x) := by rw [hb2.cell (p := ⟨b, off + k, none⟩) (block_lt_of_cell q0)]; exact q0
          clear A1 g2 hb2 q0 B1 GW
          go_wp2_with fail
          go_at_call 11
          refine SM.mono ?_
          rintro e w4 ⟨rfl, q4, hw4⟩
          have bb : Below w2.heap.size w2 w4 := by rw [hw4]; exact drawn_below _ _
          have G4 : Hid (Good w4 a2 (m0 + 1) c2 (addL l x)) := G2.out.below bb
          have B4 : Hid (Below wr.heap.size wr w4) := B2.out.trans (bb.mono B2.out.size)
          have RI := refIs_any a2 (m0 + 1) c2 (addL l x) w4 G4.out.sl (by have := HM.out; omega)
          rw [HLI.out] at RI
          have s0 : w4.cell? ⟨b, off + k, none⟩ = some (.int .i64 x) := by rw [bb.cell (p := ⟨b, off + k, none⟩) (block_lt_of_cell r0)]; exact r0
          clear SM hw4 bb r0 G2 B2
          go_wp2_with fail
          go_at_call 6
          refine RI.mono ?_
          rintro e w5 ⟨rfl, q5, hw5⟩
          have bb : Below w4.heap.size w4 w5 := by rw [hw5]; exact drawn_below _ _
          have G5 : Hid (Good w5 a2 (m0 + 1) c2 (addL l x)) := G4.out.below bb
          have B5 : Hid (Below wr.heap.size wr w5) := B4.out.trans (bb.mono B4.out.size)
          have RH5 := RH w5 B5.out
          have t0 : w5.cell? ⟨b, off + k, none⟩ = some (.int .i64 x) := by rw [bb.cell (p := ⟨b, off + k, none⟩) (block_lt_of_cell s0)]; exact s0
          clear RI hw5 bb s0 G4 B4 RH
          go_wp2_with fail
          go_at_call 13
          refine RH5.mono ?_
          rintro e w6 ⟨rfl, rfl⟩
          clear RH5
          have IH := idsHas_any a2 (m0 + 1) c2 (addL l x) x w6 G5.out.sl (by have := HM.out; omega) (isB_up HLI.out).1
          rw [W5.out] at IH
          go_wp2_with fail
          go_at_call 12
          refine IH.mono ?_
          rintro e w7 ⟨rfl, rfl⟩
          clear IH
          go_wp2
          go_roundw
          case rel => exact ⟨k + 1, (m0 + 1), a2, c2, addL l x, by omega, by go_num, rfl, G5, HLI, HB.out.trans (B5.out.mono HB.out.size)⟩
          case measure => simp [intOf]; omega
    · have i1 : (n : Int) ≤ (k : Int) := by omega
      clear HC
      go_wp2_with fail
      go_at_call 8
      refine (known12 _).mono ?_
      rintro e w9 ⟨rfl, hb9⟩
      have B9 : Hid (Below w.heap.size w w9) := HB.out.trans (hb9.mono HB.out.size)
      clear hb9
      go_wp2
      go_ret
      exact ⟨rfl, B9.out⟩

theorem idsAll (a : Option Addr) (n c : Nat) (z : List Int) (w : World) (h : IsRow .i64 w a n c z) : Calls Try.prog 4 #[.slice a n c] w fun e w' => e = .returned (.bool true) ∧ Below w.heap.size w w' := by
  obtain ⟨h1, h2, h3⟩ := h.sl wf_i64'
  have g : Good w a n c (z.take n) := ⟨h1, h2, h3, h.none⟩
  by_cases hn : 250 < n
  · exact idsAll_out a n c w hn
  · exact idsAll_in a n c _ w g (by omega)

end Walk
end Go.Proofs.Ytadnohkgbggoiaa
