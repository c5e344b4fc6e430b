/-
  girolaw6.LogGens.
-/
import Derived.Test.YtdecdjjknbbolaaKnown6
import Derived.Test.YtdecdjjknbbolaaRefRec
import Derived.Test.YtdecdjjknbbolaaWordRef
namespace Go.Proofs.Ytdecdjjknbbolaa
open Go.RowKit
set_option linter.unusedVariables false
set_option linter.unusedSimpArgs false

theorem held_snap (g c : Int) (hw : IntKind.i64.wrap g = g) : heldS (snapS g [c]) = if g < 1 ∨ 4611686018427387904 < g then none else some (g, [c], []) := by
  have e : scanS (snapS g [c]) = ([enc g ++ [c]], 0) := by
    rw [snapS_eq]
    exact scanS_all _ (fun z hz => by simp at hz; rw [hz, List.length_append, enc_length]; simp)
  have t8 : (enc g ++ [c]).take 8 = enc g := by rw [List.take_append_of_le_length (by rw [enc_length]; omega), List.take_of_length_le (by rw [enc_length]; omega)]
  have d8 : (enc g ++ [c]).drop 8 = [c] := by rw [List.drop_append_of_le_length (by rw [enc_length]; omega), List.drop_of_length_le (by rw [enc_length]; omega), List.nil_append]
  rw [heldS, e]
  simp only
  rw [if_neg (by rw [List.length_append, enc_length]; simp), t8, d8, dec_enc g hw]

/-- The deck with both records. -/
def gensD (a b : Int) : D := ⟨100, snapS a [120], 0, snapS b [121], 0, 2, false, 0, 0, false⟩

theorem gens_0 (a : Int) : (D.new 100).append 0 (snapS a [120]) = (0, ⟨100, snapS a [120], 0, [], 0, 1, false, 0, 0, false⟩) := by
  unfold D.append
  rw [if_neg (by simp [D.new]), if_neg (by simp), if_neg (by rw [snapS_length]; simp [D.new, D.read]), if_neg (by simp [D.crash, D.new])]
  simp [D.more0, D.new]
theorem gens_1 (a b : Int) : (⟨100, snapS a [120], 0, [], 0, 1, false, 0, 0, false⟩ : D).append 1 (snapS b [121]) = (0, gensD a b) := by
  unfold D.append
  rw [if_neg (by simp), if_neg (by simp), if_neg (by rw [snapS_length]; simp [D.read]), if_neg (by simp [D.crash])]
  simp [D.more1, gensD]

theorem gens_look (a b : Int) (ha : IntKind.i64.wrap a = a) (hb : IntKind.i64.wrap b = b) :
    (gensD a b).look = seenS (if a < 1 ∨ 4611686018427387904 < a then none else some (a, [120], [])) (if b < 1 ∨ 4611686018427387904 < b then none else some (b, [121], [])) := by
  rw [D.look]
  show seenS (heldS (snapS a [120])) (heldS (snapS b [121])) = _
  rw [held_snap a 120 ha, held_snap b 121 hb]

set_option maxRecDepth 100000 in
set_option maxHeartbeats 8000000 in
theorem Walk.logGens (a0 : Int) (a1 : Int) (h0 : (Lit.int .i64 a0).wf = true) (h1 : (Lit.int .i64 a1).wf = true) (w : World) :
    Calls Try.prog 5 #[.int .i64 a0, .int .i64 a1] w fun e w' => e = .returned (.bool true) ∧ Below w.heap.size w w' := by
  obtain ⟨i0, hi, hz0, hz1, hz2⟩ := info_parts infoU8
  have W0 : Hid (IntKind.i64.wrap a0 = a0) := Walk.wf_i64' a0 h0
  have W1 : Hid (IntKind.i64.wrap a1 = a1) := Walk.wf_i64' a1 h1
  clear h0 h1
  go_enter Try.func5, Try.ntmps5
  go_wp2_with fail
  go_at_call 8
  refine (our_new 100 w w No (fun j hj => hj.elim) (Below.refl _ _) (by decide) (by decide)).mono ?_
  rintro e w1 ⟨rfl, D1, b1⟩
  obtain ⟨b, hb⟩ : ∃ b, w.heap.size = b := ⟨_, rfl⟩
  have HB : Hid (w.heap.size = b) := hb
  rw [hb] at D1
  rw [hb]
  have HD : Hid (OurD w w1 No b (D.new 100)) := D1
  have hbl : b < w1.heap.size := D1.base.2
  have e8 : (encs [a0]).length = 8 := by rw [encs_one, enc_length]
  have EO : Hid (encs [a0] = enc a0) := encs_one a0
  have P := refPut_any (some ⟨w1.heap.size, 0, none⟩) 1 1 [a0] (w1.alloc (.cells #[.int .i64 a0] 2)) (Sl.new .i64 w1 2 (0, 0) [a0] (by intro x hx; simp at hx; rw [hx]; exact W0.out)) (by decide)
  clear hb b1 D1
  go_wp2_with fail
  go_at_call 27
  refine P.mono ?_
  rintro e w2 ⟨g1, cap1, rfl, o1, b1⟩
  rw [e8] at o1 ⊢
  have B1 : Hid (Below w1.heap.size w1 w2) := ((Below.refl w1.heap.size w1).alloc (Nat.le_refl _) _).trans (b1.mono (by simp))
  have O1 : Hid (w2.ownsRow w1.heap.size 5 1 (.slice (some ⟨g1, 0, none⟩) 8 cap1) 8 ((enc a0).map (Value.int .u8))) := by
    show World.ownsRow _ _ _ _ _ _ _
    rw [← EO.out]
    exact own_base o1 (by simp)
  clear P b1 o1 e8 EO
  go_wp2_with (at_builtin; refine wpList_append_sl rfl _ _ 26 rfl w1.heap.size 5 i0 _ 1 Try.underlying26 hi hz0 hz1 hz2 rfl _ 8 _ rfl (O1.out.alloc _) .u8 (some ⟨w2.heap.size, 0, none⟩) 1 1 [120] rfl (one_byte w2 120 (by decide)) (by simp) (by decide) (by decide) (by have := B1.out.size; simp; omega) ?_)
  intro v2 w3 o2 g2 _
  have B2 : Hid (Below w1.heap.size w1 w3) := (B1.out.alloc B1.out.size _).grown g2 (by have := B1.out.size; simp; omega) (fun k hk => (O1.out.lt k hk).1)
  obtain ⟨x2, c2, rfl⟩ := own_form o2
  have S2 : Hid (SlB w3 w1.heap.size x2 9 c2 (enc a0 ++ [120])) := by
    refine SlB.own ?_ (Bs.append (enc_wf a0) (by intro x hx; simp at hx; rw [hx]; decide))
    rw [List.map_append]
    exact o2
  have R := ref_put x2 9 c2 (enc a0 ++ [120]) w3 S2.out.sl S2.out.nn (by decide)
  clear o2 g2 O1 B1
  go_wp2_with fail
  go_at_call 26
  refine R.mono ?_
  rintro e w4 ⟨v3, rfl, o3, b3⟩
  obtain ⟨x3, c3, rfl⟩ := own_form o3
  have B3 : Hid (Below w1.heap.size w1 w4) := B2.out.trans (b3.mono B2.out.size)
  have S3 : Hid (SlB w4 w1.heap.size x3 11 c3 (snapS a0 [120])) := (SlB.own o3 (snapS_bs (by intro x hx; simp at hx; rw [hx]; decide) (by decide))).base B2.out.size
  clear R o3 b3 S2 B2
  have e8 : (encs [a1]).length = 8 := by rw [encs_one, enc_length]
  have EO : Hid (encs [a1] = enc a1) := encs_one a1
  have P := refPut_any (some ⟨w4.heap.size, 0, none⟩) 1 1 [a1] (w4.alloc (.cells #[.int .i64 a1] 2)) (Sl.new .i64 w4 2 (0, 0) [a1] (by intro x hx; simp at hx; rw [hx]; exact W1.out)) (by decide)
  go_wp2_with fail
  go_at_call 27
  refine P.mono ?_
  rintro e w5 ⟨g4, cap4, rfl, o4, b4⟩
  rw [e8] at o4 ⊢
  have B4 : Hid (Below w4.heap.size w4 w5) := ((Below.refl w4.heap.size w4).alloc (Nat.le_refl _) _).trans (b4.mono (by simp))
  have O4 : Hid (w5.ownsRow w4.heap.size 5 1 (.slice (some ⟨g4, 0, none⟩) 8 cap4) 8 ((enc a1).map (Value.int .u8))) := by
    show World.ownsRow _ _ _ _ _ _ _
    rw [← EO.out]
    exact own_base o4 (by simp)
  clear P b4 o4 e8 EO
  go_wp2_with (at_builtin; refine wpList_append_sl rfl _ _ 26 rfl w4.heap.size 5 i0 _ 1 Try.underlying26 hi hz0 hz1 hz2 rfl _ 8 _ rfl (O4.out.alloc _) .u8 (some ⟨w5.heap.size, 0, none⟩) 1 1 [121] rfl (one_byte w5 121 (by decide)) (by simp) (by decide) (by decide) (by have := B4.out.size; simp; omega) ?_)
  intro v5 w6 o5 g5 _
  have B5 : Hid (Below w4.heap.size w4 w6) := (B4.out.alloc B4.out.size _).grown g5 (by have := B4.out.size; simp; omega) (fun k hk => (O4.out.lt k hk).1)
  obtain ⟨x5, c5, rfl⟩ := own_form o5
  have S5 : Hid (SlB w6 w4.heap.size x5 9 c5 (enc a1 ++ [121])) := by
    refine SlB.own ?_ (Bs.append (enc_wf a1) (by intro x hx; simp at hx; rw [hx]; decide))
    rw [List.map_append]
    exact o5
  have R := ref_put x5 9 c5 (enc a1 ++ [121]) w6 S5.out.sl S5.out.nn (by decide)
  clear o5 g5 O4 B4
  go_wp2_with fail
  go_at_call 26
  refine R.mono ?_
  rintro e w7 ⟨v6, rfl, o6, b6⟩
  obtain ⟨x6, c6, rfl⟩ := own_form o6
  have B6 : Hid (Below w4.heap.size w4 w7) := B5.out.trans (b6.mono B5.out.size)
  have S6 : Hid (SlB w7 w4.heap.size x6 11 c6 (snapS a1 [121])) := (SlB.own o6 (snapS_bs (by intro x hx; simp at hx; rw [hx]; decide) (by decide))).base B5.out.size
  have S7 : Hid (SlB w7 w1.heap.size x3 11 c3 (snapS a0 [120])) := S3.out.below B6.out
  have D7 : Hid (OurD w w7 No b (D.new 100)) := (HD.out.grow B3.out).grow B6.out
  have hw4 : w1.heap.size ≤ w4.heap.size := B3.out.size
  have D8 : Hid (OurD w w7 (fun j => ∃ x, x6 = some x ∧ j = x.block) b (D.new 100)) := by
    refine ((HD.out.grow B3.out).widen B6.out _ ?_)
    rintro j ⟨x, hx, rfl⟩
    exact ⟨.inr (S6.out.at' x hx), slB_lt S6.out.sl (by intro h; have := congrArg List.length h; rw [snapS_length] at this; simp at this) x hx⟩
  clear R o6 b6 S5 B5 S3 HD D7
  have A := our_append D8.out 0 x3 11 c3 (snapS a0 [120]) S7.out.sl S7.out.nn (fun _ x hx => by have := S7.out.at' x hx; omega) (by decide) (by decide)
  rw [gens_0] at A
  go_wp2_with fail
  go_at_call 18
  refine A.mono ?_
  rintro e w8 ⟨rfl, D9, oo⟩
  have S9 : Hid (Sl .u8 w8 x6 11 (snapS a1 [121])) := S6.out.sl.onlyB oo (fun x hx hs => hs.2 ⟨x, hx, rfl⟩)
  have A2 := our_append D9 1 x6 11 c6 (snapS a1 [121]) S9.out S6.out.nn (fun _ x hx => by have := S6.out.at' x hx; omega) (by decide) (by simp)
  rw [gens_1] at A2
  clear A D9 oo S6 S7 D8
  go_wp2_with fail
  go_at_call 18
  refine A2.mono ?_
  rintro e w9 ⟨rfl, D9, oo⟩
  have LK := our_look D9
  rw [gens_look a0 a1 W0.out W1.out] at LK
  have BW : Hid (Below w.heap.size w w9) := D9.blw
  clear A2 D9 oo S9
  by_cases ha : a0 < 1 ∨ 4611686018427387904 < a0
  · by_cases hb : a1 < 1 ∨ 4611686018427387904 < a1
    · rw [if_pos ha, if_pos hb] at LK
      simp only [seenS] at LK
      go_wp2_with fail
      go_at_call 15
      refine LK.mono ?_
      rintro e wa ⟨y1, e1, y2, e2, rfl, s4, r4, b4⟩
      have BA : Hid (Below w.heap.size w wa) := BW.out.trans (b4.mono BW.out.size)
      clear LK s4 r4 b4 W0 W1
      rcases (show ¬ 1 ≤ a0 ∨ (1 ≤ a0 ∧ ¬ a0 ≤ 4611686018427387904) by omega) with ha | ⟨ha, ha'⟩ <;> rcases (show ¬ 1 ≤ a1 ∨ (1 ≤ a1 ∧ ¬ a1 ≤ 4611686018427387904) by omega) with hb | ⟨hb, hb'⟩ <;> (try have qa : decide (a0 ≤ 4611686018427387904) = false := decide_eq_false (by omega)) <;> (try have qb : decide (a1 ≤ 4611686018427387904) = false := decide_eq_false (by omega)) <;> (go_wp2_with fail; go_at_call 13; refine (known_true wa).mono ?_; rintro e wz ⟨rfl, bz⟩; have BZ : Hid (Below w.heap.size w wz) := BA.out.trans (bz.mono BA.out.size); clear bz; go_wp2; go_ret; exact ⟨rfl, BZ.out⟩)
    · rw [if_pos ha, if_neg hb] at LK
      simp only [seenS] at LK
      go_wp2_with fail
      go_at_call 15
      refine LK.mono ?_
      rintro e wa ⟨y1, e1, y2, e2, rfl, s4, r4, b4⟩
      have BA : Hid (Below w.heap.size w wa) := BW.out.trans (b4.mono BW.out.size)
      have T1 : (convert 26 9 (.slice y1 1 e1)).run Try.prog wa = .ok (.string ⟨#[121]⟩) wa := s4.sl.text (P := Try.prog) (cap := e1) 26 9 5 Try.underlying26 Try.underlying5 Try.underlying9
      have hb1 : 1 ≤ a1 := by omega
      have hb2 : a1 ≤ 4611686018427387904 := by omega
      clear LK s4 r4 b4 W0 W1 hb
      rcases (show ¬ 1 ≤ a0 ∨ (1 ≤ a0 ∧ ¬ a0 ≤ 4611686018427387904) by omega) with ha | ⟨ha, ha'⟩ <;> (try have qa : decide (a0 ≤ 4611686018427387904) = false := decide_eq_false (by omega)) <;> (try have qb : decide (a1 ≤ 4611686018427387904) = false := decide_eq_false (by omega)) <;> (go_wp2_with fail; go_at_call 13; refine (known_true wa).mono ?_; rintro e wz ⟨rfl, bz⟩; have BZ : Hid (Below w.heap.size w wz) := BA.out.trans (bz.mono BA.out.size); clear bz; go_wp2; go_ret; exact ⟨rfl, BZ.out⟩)
  · have ha1 : 1 ≤ a0 := by omega
    have ha2 : a0 ≤ 4611686018427387904 := by omega
    by_cases hb : a1 < 1 ∨ 4611686018427387904 < a1
    · rw [if_neg ha, if_pos hb] at LK
      simp only [seenS] at LK
      go_wp2_with fail
      go_at_call 15
      refine LK.mono ?_
      rintro e wa ⟨y1, e1, y2, e2, rfl, s4, r4, b4⟩
      have BA : Hid (Below w.heap.size w wa) := BW.out.trans (b4.mono BW.out.size)
      have T1 : (convert 26 9 (.slice y1 1 e1)).run Try.prog wa = .ok (.string ⟨#[120]⟩) wa := s4.sl.text (P := Try.prog) (cap := e1) 26 9 5 Try.underlying26 Try.underlying5 Try.underlying9
      clear LK s4 r4 b4 W0 W1 ha
      rcases (show ¬ 1 ≤ a1 ∨ (1 ≤ a1 ∧ ¬ a1 ≤ 4611686018427387904) by omega) with hb | ⟨hb, hb'⟩ <;> (try have qa : decide (a0 ≤ 4611686018427387904) = false := decide_eq_false (by omega)) <;> (try have qb : decide (a1 ≤ 4611686018427387904) = false := decide_eq_false (by omega)) <;> (go_wp2_with fail; go_at_call 13; refine (known_true wa).mono ?_; rintro e wz ⟨rfl, bz⟩; have BZ : Hid (Below w.heap.size w wz) := BA.out.trans (bz.mono BA.out.size); clear bz; go_wp2; go_ret; exact ⟨rfl, BZ.out⟩)
    · have hb1 : 1 ≤ a1 := by omega
      have hb2 : a1 ≤ 4611686018427387904 := by omega
      rw [if_neg ha, if_neg hb] at LK
      clear ha hb
      by_cases hab : a0 < a1
      · simp only [seenS, if_pos hab] at LK
        go_wp2_with fail
        go_at_call 15
        refine LK.mono ?_
        rintro e wa ⟨y1, e1, y2, e2, rfl, s4, r4, b4⟩
        have BA : Hid (Below w.heap.size w wa) := BW.out.trans (b4.mono BW.out.size)
        have T1 : (convert 26 9 (.slice y1 1 e1)).run Try.prog wa = .ok (.string ⟨#[121]⟩) wa := s4.sl.text (P := Try.prog) (cap := e1) 26 9 5 Try.underlying26 Try.underlying5 Try.underlying9
        clear LK s4 r4 b4 W0 W1
        go_wp2_with fail
        go_at_call 13
        refine (known_true wa).mono ?_
        rintro e wz ⟨rfl, bz⟩
        have BZ : Hid (Below w.heap.size w wz) := BA.out.trans (bz.mono BA.out.size)
        clear bz
        go_wp2
        go_ret
        exact ⟨rfl, BZ.out⟩
      · simp only [seenS, if_neg hab] at LK
        go_wp2_with fail
        go_at_call 15
        refine LK.mono ?_
        rintro e wa ⟨y1, e1, y2, e2, rfl, s4, r4, b4⟩
        have BA : Hid (Below w.heap.size w wa) := BW.out.trans (b4.mono BW.out.size)
        have T1 : (convert 26 9 (.slice y1 1 e1)).run Try.prog wa = .ok (.string ⟨#[120]⟩) wa := s4.sl.text (P := Try.prog) (cap := e1) 26 9 5 Try.underlying26 Try.underlying5 Try.underlying9
        clear LK s4 r4 b4 W0 W1
        go_wp2_with fail
        go_at_call 13
        refine (known_true wa).mono ?_
        rintro e wz ⟨rfl, bz⟩
        have BZ : Hid (Below w.heap.size w wz) := BA.out.trans (bz.mono BA.out.size)
        clear bz
        go_wp2
        go_ret
        exact ⟨rfl, BZ.out⟩

end Go.Proofs.Ytdecdjjknbbolaa
