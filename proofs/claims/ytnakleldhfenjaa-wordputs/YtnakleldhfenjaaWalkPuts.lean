/-
  The walk of girolaw2.WordPuts: it answers true whatever the arguments, and writes nothing that was there.
-/
import Derived.Test.YtnakleldhfenjaaWalkOwn
import Derived.Test.YtnakleldhfenjaaFacts
namespace Go.Proofs.Ytnakleldhfenjaa
open Go.RowKit
set_option linter.unusedVariables false

theorem put_fact {f : FuncId} {args : Array Value} {w : World} {bs : List Int} {n : Nat} (h : Calls Try.prog f args w (PutEnd w bs)) (hn : bs.length = n) (hwf : ∀ n ∈ bs, IntKind.u8.wrap n = n) :
    Calls Try.prog f args w fun e w' => ∃ v, e = .returned v ∧ Below w.heap.size w w' ∧ (Fact.sl .u8 n bs).1 w' v := by
  refine h.mono ?_
  rintro e w' ⟨g, c, rfl, hown, bel⟩
  obtain ⟨a, c', hv, hS, _⟩ := Sl.own hown hwf
  obtain ⟨h1, h2⟩ := own_cap hown
  rw [hn] at hv hS h1 ⊢
  exact ⟨_, rfl, bel, _, _, rfl, by simp only [Value.slice.injEq, true_and] at hv; rw [hv.1]; exact hS, h1, h2⟩
theorem same_fact {f : FuncId} {args : Array Value} {w : World} {xs : List Int} (h : Calls Try.prog f args w fun e w' => e = .returned (.bool (decide (xs = xs))) ∧ ∃ n, w' = w.drewN n) :
    Calls Try.prog f args w fun e w' => ∃ v, e = .returned v ∧ Below w.heap.size w w' ∧ (Fact.is (.bool true)).1 w' v := by
  refine h.mono ?_
  rintro e w' ⟨rfl, n, rfl⟩
  exact ⟨_, rfl, below_drewN (Below.refl _ _) _, by rw [decide_eq_true rfl]; rfl⟩
theorem known_fact (w : World) : Calls Try.prog 16 #[] w fun e w' => ∃ v, e = .returned v ∧ Below w.heap.size w w' ∧ (Fact.is (.bool true)).1 w' v := by
  refine (known2_any w).mono ?_
  rintro e w' ⟨rfl, bel⟩
  exact ⟨_, rfl, bel, rfl⟩
theorem eq_str {x y : Operand} {s : ByteArray} : ∀ w, (do eqGuard .eql 9 x y (.string s) (.string s); binOp .eql 9 (.string s) (.string s) : Sem Value).run Try.prog w = .ok (.bool true) w := by
  intro w; simp [go_sem, eqGuard]
theorem eq_int {x y : Operand} {n : Int} : ∀ w, (do eqGuard .eql 26 x y (.int .i64 n) (.int .i64 n); binOp .eql 26 (.int .i64 n) (.int .i64 n) : Sem Value).run Try.prog w = .ok (.bool true) w := by
  intro w; simp [go_sem, eqGuard]

namespace Walk

set_option maxHeartbeats 400000 in
theorem puts_out (a : Option Addr) (len cap : Nat) (b : Option Addr) (lb cb : Nat) (w : World) (h : 60 < len ∨ 100 < lb) (hm : len ≤ 9223372036854775807) (hm2 : lb ≤ 9223372036854775807) :
    Calls Try.prog 3 #[.slice a len cap, .slice b lb cb] w fun e w' => e = .returned (.bool true) ∧ Below w.heap.size w w' := by
  by_cases h1 : 60 < len
  · have h1 : (60 : Int) < (len : Int) := by omega
    go_enter Try.func3, Try.ntmps3
    go_wp2
    go_ret
    exact ⟨rfl, Below.refl _ _⟩
  · have h1 : ¬ (60 : Int) < (len : Int) := by omega
    have h2 : (100 : Int) < (lb : Int) := by omega
    go_enter Try.func3, Try.ntmps3
    go_wp2
    go_ret
    exact ⟨rfl, Below.refl _ _⟩

set_option maxHeartbeats 1000000 in
theorem puts_in (a : Option Addr) (len cap : Nat) (zs : List Int) (b : Option Addr) (lb cb : Nat) (ms : List Int) (w : World) (h : Sl .i64 w a len zs) (hcap : len ≤ cap) (hmx : cap ≤ 9223372036854775807) (h60 : len ≤ 60)
    (hb : Sl .u8 w b lb ms) (hcb : lb ≤ cb) (hmb : cb ≤ 9223372036854775807) (h100 : lb ≤ 100) (hbn : b = none → lb = 0 ∧ cb = 0) :
    Calls Try.prog 3 #[.slice a len cap, .slice b lb cb] w fun e w' => e = .returned (.bool true) ∧ Below w.heap.size w w' := by
  obtain ⟨i0, hi, hz0, hz1, hz2⟩ := info_parts infoU8
  have i60 : (len : Int) ≤ 60 := by omega
  have i100 : (lb : Int) ≤ 100 := by omega
  have HL : Hid (len = zs.length) := h.1
  have HLb : Hid (lb = ms.length) := hb.1
  go_enter Try.func3, Try.ntmps3
  go_wp2_with fail
  refine (put_any a len cap zs w h (by omega)).mono ?_
  rintro e w1 ⟨g1, c1, rfl, hown1, bel1⟩
  have hN1 : (encs zs).length = 8 * len := by rw [encs_length, ← HL.out]
  obtain ⟨n1, hn1⟩ : ∃ n, (encs zs).length = n := ⟨_, rfl⟩
  obtain ⟨a1, c1', hv, S1, _⟩ := Sl.own hown1 (encs_wf zs)
  simp only [Value.slice.injEq, true_and] at hv
  obtain ⟨rfl, rfl⟩ := hv
  obtain ⟨p1, p2⟩ := own_cap hown1
  rw [hn1] at hN1 S1 p1 ⊢
  have HN1 : Hid ((encs zs).length = n1) := hn1
  have q1 : n1 ≤ 480 := by omega
  clear hn1 hN1 hown1
  go_wp2_with fail
  refine (row_any a len cap zs w1 (h.below bel1) (by omega)).mono ?_
  rintro e w2 ⟨g2, c2, rfl, hown2, bel2⟩
  have hN2 : (rowS zs).length = 8 + 8 * len := by rw [rowS_length, ← HL.out]
  obtain ⟨n2, hn2⟩ : ∃ n, (rowS zs).length = n := ⟨_, rfl⟩
  obtain ⟨a2, c2', hv, S2, _⟩ := Sl.own hown2 (rowS_wf zs)
  simp only [Value.slice.injEq, true_and] at hv
  obtain ⟨rfl, rfl⟩ := hv
  rw [hn2] at hN2 S2 hown2 ⊢
  have HN2 : Hid ((rowS zs).length = n2) := hn2
  have q2 : n2 ≤ 488 := by omega
  clear hn2 hN2
  have B2 := bel1.trans (bel2.mono bel1.size)
  go_wp2_with fail
  refine (get_any (some ⟨g1, 0, none⟩) n1 c1 _ w2 (S1.below bel2) p1 p2 (by omega)).mono ?_
  rintro e w3 ⟨a3, c3, rfl, S3, bel3⟩
  have B3 := B2.trans (bel3.mono B2.size)
  have HG : getS (encs zs) = (zs, 0) := by
    unfold getS
    rw [if_pos (by rw [encs_length]; omega), show (encs zs).length / 8 = zs.length by rw [encs_length]; omega]
    have := decs_encs zs [] h.2.1
    rw [List.append_nil] at this
    rw [this]
  rw [HG, ← HL.out] at S3
  rw [HG, ← HL.out]
  clear HG
  have S2' := S2.below bel3
  have nn2 : (some (⟨g2, 0, none⟩ : Addr)) = none → c2 = 0 := fun h => by simp at h
  clear hown2
  go_wp2_with (at_builtin; refine wpList_append_sl rfl _ _ 23 rfl w3.heap.size 5 i0 (.int .u8 0) 1 Try.underlying23 hi hz0 hz1 hz2 rfl _ _ _ rfl (World.ownsRow_lit w3 #[] 0 (Nat.le_refl _) (by decide) rfl) .u8 (some ⟨g2, 0, none⟩) n2 c2 (rowS zs) rfl (S2'.alloc _) nn2 ?c3 ?c4 ?c5 ?_)
  case c3 => unfold maxLen; omega
  case c4 => omega
  case c5 => simp
  intro v4 w4 hown4 hg4 hnn4
  have b34 : Below w3.heap.size w3 w4 := ((Below.refl w3.heap.size w3).alloc (Nat.le_refl _) _).grown hg4 (by simp) (fun k hk => by simp [Value.ownBlock] at hk; omega)
  have B4 := B3.trans (b34.mono B3.size)
  have hb4 := hb.below B4
  clear hg4
  go_wp2_with (at_builtin; refine wpList_append_sl rfl _ _ 23 rfl w3.heap.size 5 i0 (.int .u8 0) 1 Try.underlying23 hi hz0 hz1 hz2 rfl _ _ _ rfl hown4 .u8 b lb cb ms rfl hb4 (fun h => (hbn h).2) ?c3 ?c4 ?c5 ?_)
  case c3 => unfold maxLen; omega
  case c4 => omega
  case c5 => exact b34.size
  intro v5 w5 hown5 hg5 hnn5
  have O5 : w5.ownsRow w3.heap.size 5 1 v5 (n2 + lb) ((rowS zs ++ ms).map (Value.int .u8)) := by simpa using hown5
  have b35 : Below w3.heap.size w3 w5 := b34.grown hg5 b34.size (fun k hk => (hown4.lt k hk).1)
  obtain ⟨g5, c5, rfl⟩ := own_some O5 (by first | exact hnn5 | exact hnn5 hnn4)
  obtain ⟨r1, r2⟩ := own_cap O5
  have hw5 : ∀ n ∈ rowS zs ++ ms, IntKind.u8.wrap n = n := by
    intro n hn
    rcases List.mem_append.1 hn with hn | hn
    · exact rowS_wf zs n hn
    · exact hb.2.1 n hn
  have hl5 : (rowS zs ++ ms).length = n2 + lb := by rw [List.length_append, HN2.out, ← HLb.out]
  obtain ⟨a5, c5', hv, S5, _⟩ := Sl.own O5 hw5
  rw [hl5] at hv S5
  simp only [Value.slice.injEq, true_and] at hv
  obtain ⟨rfl, rfl⟩ := hv
  have B5 := B3.trans (b35.mono B3.size)
  obtain ⟨n5, hn5⟩ : ∃ n, n2 + lb = n := ⟨_, rfl⟩
  have q5 : n5 ≤ 600 := by omega
  have N := next_all (some ⟨g5, 0, none⟩) (n2 + lb) c5 _ w5 S5 r1 r2 (by omega)
  unfold NextAll at N
  rw [next_row zs ms h.2.1 (by have := HL.out; omega), ← HL.out, ← HLb.out] at N
  have ez : 0 + n2 + lb = n2 + lb := by omega
  rw [hn5] at N
  clear hown4 hown5 hg5 hnn5 hnn4 O5 hw5 hl5 S5 r1 hb4 b34 B4
  first | rw [ez, hn5] | rw [hn5]
  clear hn5 ez
  go_wp2_with fail
  refine N.mono ?_
  rintro e w6 ⟨a6, d6, b6, f6, rfl, S6, T6, _, _, _, bel6⟩
  clear N
  have b36 := b35.trans (bel6.mono b35.size)
  have B6 := B3.trans (b36.mono B3.size)
  have b26 := bel3.trans (b36.mono bel3.size)
  have b16 := bel2.trans (b26.mono bel2.size)
  have HA : Hid (Sl .i64 w6 a len zs) := h.below B6
  have HM : Hid (Sl .u8 w6 b lb ms) := hb.below B6
  have HU1 : Hid (Sl .u8 w6 (some ⟨g1, 0, none⟩) n1 (encs zs)) := S1.below b16
  have HU2 : Hid (Sl .u8 w6 (some ⟨g2, 0, none⟩) n2 (rowS zs)) := S2.below b26
  have HG : Hid (Sl .i64 w6 a3 len zs) := S3.below b36
  have HX : Hid (Sl .i64 w6 a6 len zs) := S6
  have HT : Hid (Sl .u8 w6 b6 lb ms) := T6.below bel6
  have HB : Hid (Below w.heap.size w w6) := B6
  have H6 : Hid (Below w6.heap.size w6 w6) := Below.refl _ _
  clear h hb bel1 bel2 S1 S2 B2 S3 bel3 B3 S2' b35 B5 S6 T6 bel6 b36 B6 b26 b16 nn2 hbn r2
  go_wp2
  refine region_owes (L := [Fact.is (.slice (some ⟨g1, 0, none⟩) n1 c1),
    Fact.is (.string (strOfNums (encs zs))),
    Fact.is (.slice a len cap),
    Fact.sl .u8 n1 (encs zs),
    Fact.is (.string (strOfNums (encs zs))),
    Fact.is (.bool true),
    Fact.is (.bool true),
    Fact.is (.slice (some ⟨g2, 0, none⟩) n2 c2),
    Fact.is (.string (strOfNums (rowS zs))),
    Fact.is (.slice a len cap),
    Fact.sl .u8 n2 (rowS zs),
    Fact.is (.string (strOfNums (rowS zs))),
    Fact.is (.bool true),
    Fact.is (.bool true),
    Fact.is (.bool true),
    Fact.is (.int .i64 0),
    Fact.is (.bool true),
    Fact.is (.bool true),
    Fact.is (.bool true),
    Fact.is (.slice a3 len c3),
    Fact.is (.slice a len cap),
    Fact.is (.bool true),
    Fact.is (.bool true),
    Fact.is (.bool true),
    Fact.is (.bool true),
    Fact.is (.bool true),
    Fact.is (.bool true),
    Fact.is (.slice a6 len d6),
    Fact.is (.slice a len cap),
    Fact.is (.bool true),
    Fact.is (.bool true),
    Fact.is (.bool true),
    Fact.is (.slice b6 lb f6),
    Fact.is (.string (strOfNums ms)),
    Fact.is (.slice b lb cb),
    Fact.is (.string (strOfNums ms)),
    Fact.is (.bool true),
    Fact.is (.bool true),
    Fact.is (.bool true),
    Fact.is (.bool true),
    Fact.is (.bool true),
    Fact.is (.bool true)])
    (T := [39, 40, 41, 42, 43, 44, 45, 46, 47, 48, 49, 50, 51, 52, 53, 54, 55, 56, 57, 58, 59, 60, 61, 62, 63, 64, 65, 66, 67, 68, 69, 70, 71, 72, 73, 74, 75, 76, 77, 78, 79, 4]) (by kernel_rfl) (by kernel_rfl) rfl ?owes ?_
  case owes =>
    refine .cons (owes_move (.tmp 5) (.inl rfl) fun q u lh => ⟨wants_free rfl, lh.old 5 rfl⟩) ?_
    refine .cons (owes_text 23 9 5 39 0 (some ⟨g1, 0, none⟩) n1 c1 (encs zs) rfl rfl rfl rfl rfl HU1.out Try.underlying23 Try.underlying5 Try.underlying9 fun q u lh => wants_free rfl) ?_
    refine .cons (owes_move (.tmp 0) (.inl rfl) fun q u lh => ⟨wants_free rfl, lh.old 0 rfl⟩) ?_
    refine .cons (owes_call 13 Try.func13 (by kernel_rfl) (by kernel_rfl) [.tmp 41] #[22] rfl fun q u lh => ⟨wants_free rfl, by have e41 : q.tmps.getD 41 undef = .slice a len cap := lh.dep 2 rfl; show Calls Try.prog 13 #[q.tmps.getD 41 undef] u _; rw [e41]; exact put_fact (refPut_any a len cap zs u (HA.out.below lh.below) (by omega)) HN1.out (encs_wf zs)⟩) ?_
    refine .cons (owes_text_new 23 9 5 42 3 n1 (encs zs) rfl rfl rfl rfl rfl Try.underlying23 Try.underlying5 Try.underlying9 fun q u lh => wants_free rfl) ?_
    refine .cons (owes_eql 9 9 (.tmp 40) (.tmp 43) rfl rfl fun q u lh => ⟨wants_free rfl, .string (strOfNums (encs zs)), lh.dep 1 rfl, lh.dep 4 rfl, eq_str⟩) ?_
    refine .cons (owes_move (.tmp 44) (.inl rfl) fun q u lh => ⟨wants_free rfl, lh.dep 5 rfl⟩) ?_
    refine .cons (owes_move (.tmp 6) (.inl rfl) fun q u lh => ⟨lh.wants1 6 true rfl rfl rfl, lh.old 6 rfl⟩) ?_
    refine .cons (owes_text 23 9 5 46 7 (some ⟨g2, 0, none⟩) n2 c2 (rowS zs) rfl rfl rfl rfl rfl HU2.out Try.underlying23 Try.underlying5 Try.underlying9 fun q u lh => lh.wants1 6 true rfl rfl rfl) ?_
    refine .cons (owes_move (.tmp 0) (.inl rfl) fun q u lh => ⟨lh.wants1 6 true rfl rfl rfl, lh.old 0 rfl⟩) ?_
    refine .cons (owes_call 14 Try.func14 (by kernel_rfl) (by kernel_rfl) [.tmp 48] #[22] rfl fun q u lh => ⟨lh.wants1 6 true rfl rfl rfl, by have e48 : q.tmps.getD 48 undef = .slice a len cap := lh.dep 9 rfl; show Calls Try.prog 14 #[q.tmps.getD 48 undef] u _; rw [e48]; exact put_fact (refRow_any a len cap zs u (HA.out.below lh.below) (by omega)) HN2.out (rowS_wf zs)⟩) ?_
    refine .cons (owes_text_new 23 9 5 49 10 n2 (rowS zs) rfl rfl rfl rfl rfl Try.underlying23 Try.underlying5 Try.underlying9 fun q u lh => lh.wants1 6 true rfl rfl rfl) ?_
    refine .cons (owes_eql 9 9 (.tmp 47) (.tmp 50) rfl rfl fun q u lh => ⟨lh.wants1 6 true rfl rfl rfl, .string (strOfNums (rowS zs)), lh.dep 8 rfl, lh.dep 11 rfl, eq_str⟩) ?_
    refine .cons (owes_pick (.tmp 45) (.tmp 51) (.const (.bool false)) rfl fun q u lh => ⟨wants_free rfl, true, lh.dep 6 rfl, lh.dep 12 rfl⟩) ?_
    refine .cons (owes_move (.tmp 52) (.inl rfl) fun q u lh => ⟨wants_free rfl, lh.dep 13 rfl⟩) ?_
    refine .cons (owes_move (.tmp 8) (.inl rfl) fun q u lh => ⟨lh.wants1 14 true rfl rfl rfl, lh.old 8 rfl⟩) ?_
    refine .cons (owes_eql 26 26 (.tmp 54) (.const (.int .i64 0)) rfl rfl fun q u lh => ⟨lh.wants1 14 true rfl rfl rfl, .int .i64 0, lh.dep 15 rfl, rfl, eq_int⟩) ?_
    refine .cons (owes_pick (.tmp 53) (.tmp 55) (.const (.bool false)) rfl fun q u lh => ⟨wants_free rfl, true, lh.dep 14 rfl, lh.dep 16 rfl⟩) ?_
    refine .cons (owes_move (.tmp 56) (.inl rfl) fun q u lh => ⟨wants_free rfl, lh.dep 17 rfl⟩) ?_
    refine .cons (owes_move (.tmp 7) (.inl rfl) fun q u lh => ⟨lh.wants1 18 true rfl rfl rfl, lh.old 7 rfl⟩) ?_
    refine .cons (owes_move (.tmp 0) (.inl rfl) fun q u lh => ⟨lh.wants1 18 true rfl rfl rfl, lh.old 0 rfl⟩) ?_
    refine .cons (owes_call 15 Try.func15 (by kernel_rfl) (by kernel_rfl) [.tmp 58, .tmp 59] #[22, 22] rfl fun q u lh => ⟨lh.wants1 18 true rfl rfl rfl, by have e58 : q.tmps.getD 58 undef = .slice a3 len c3 := lh.dep 19 rfl; have e59 : q.tmps.getD 59 undef = .slice a len cap := lh.dep 20 rfl; show Calls Try.prog 15 #[q.tmps.getD 58 undef, q.tmps.getD 59 undef] u _; rw [e58, e59]; exact same_fact (same_any a3 a len len c3 cap zs zs u (HG.out.below lh.below) (HA.out.below lh.below) (by omega))⟩) ?_
    refine .cons (owes_pick (.tmp 57) (.tmp 60) (.const (.bool false)) rfl fun q u lh => ⟨wants_free rfl, true, lh.dep 18 rfl, lh.dep 21 rfl⟩) ?_
    refine .cons (owes_move (.tmp 61) (.inl rfl) fun q u lh => ⟨wants_free rfl, lh.dep 22 rfl⟩) ?_
    refine .cons (owes_move (.tmp 11) (.inl rfl) fun q u lh => ⟨lh.wants1 23 true rfl rfl rfl, lh.old 11 rfl⟩) ?_
    refine .cons (owes_pick (.tmp 62) (.tmp 63) (.const (.bool false)) rfl fun q u lh => ⟨wants_free rfl, true, lh.dep 23 rfl, lh.dep 24 rfl⟩) ?_
    refine .cons (owes_move (.tmp 64) (.inl rfl) fun q u lh => ⟨wants_free rfl, lh.dep 25 rfl⟩) ?_
    refine .cons (owes_move (.tmp 9) (.inl rfl) fun q u lh => ⟨lh.wants1 26 true rfl rfl rfl, lh.old 9 rfl⟩) ?_
    refine .cons (owes_move (.tmp 0) (.inl rfl) fun q u lh => ⟨lh.wants1 26 true rfl rfl rfl, lh.old 0 rfl⟩) ?_
    refine .cons (owes_call 15 Try.func15 (by kernel_rfl) (by kernel_rfl) [.tmp 66, .tmp 67] #[22, 22] rfl fun q u lh => ⟨lh.wants1 26 true rfl rfl rfl, by have e66 : q.tmps.getD 66 undef = .slice a6 len d6 := lh.dep 27 rfl; have e67 : q.tmps.getD 67 undef = .slice a len cap := lh.dep 28 rfl; show Calls Try.prog 15 #[q.tmps.getD 66 undef, q.tmps.getD 67 undef] u _; rw [e66, e67]; exact same_fact (same_any a6 a len len d6 cap zs zs u (HX.out.below lh.below) (HA.out.below lh.below) (by omega))⟩) ?_
    refine .cons (owes_pick (.tmp 65) (.tmp 68) (.const (.bool false)) rfl fun q u lh => ⟨wants_free rfl, true, lh.dep 26 rfl, lh.dep 29 rfl⟩) ?_
    refine .cons (owes_move (.tmp 69) (.inl rfl) fun q u lh => ⟨wants_free rfl, lh.dep 30 rfl⟩) ?_
    refine .cons (owes_move (.tmp 10) (.inl rfl) fun q u lh => ⟨lh.wants1 31 true rfl rfl rfl, lh.old 10 rfl⟩) ?_
    refine .cons (owes_text 23 9 5 71 32 b6 lb f6 ms rfl rfl rfl rfl rfl HT.out Try.underlying23 Try.underlying5 Try.underlying9 fun q u lh => lh.wants1 31 true rfl rfl rfl) ?_
    refine .cons (owes_move (.tmp 1) (.inl rfl) fun q u lh => ⟨lh.wants1 31 true rfl rfl rfl, lh.old 1 rfl⟩) ?_
    refine .cons (owes_text 23 9 5 73 34 b lb cb ms rfl rfl rfl rfl rfl HM.out Try.underlying23 Try.underlying5 Try.underlying9 fun q u lh => lh.wants1 31 true rfl rfl rfl) ?_
    refine .cons (owes_eql 9 9 (.tmp 72) (.tmp 74) rfl rfl fun q u lh => ⟨lh.wants1 31 true rfl rfl rfl, .string (strOfNums ms), lh.dep 33 rfl, lh.dep 35 rfl, eq_str⟩) ?_
    refine .cons (owes_pick (.tmp 70) (.tmp 75) (.const (.bool false)) rfl fun q u lh => ⟨wants_free rfl, true, lh.dep 31 rfl, lh.dep 36 rfl⟩) ?_
    refine .cons (owes_move (.tmp 76) (.inl rfl) fun q u lh => ⟨wants_free rfl, lh.dep 37 rfl⟩) ?_
    refine .cons (owes_call 16 Try.func16 (by kernel_rfl) (by kernel_rfl) [] #[] rfl fun q u lh => ⟨lh.wants1 38 true rfl rfl rfl, by show Calls Try.prog 16 #[] u _; exact known_fact u⟩) ?_
    refine .cons (owes_pick (.tmp 77) (.tmp 78) (.const (.bool false)) rfl fun q u lh => ⟨wants_free rfl, true, lh.dep 38 rfl, lh.dep 39 rfl⟩) ?_
    refine .cons (owes_move (.tmp 79) (.inr rfl) fun q u lh => ⟨wants_free rfl, lh.dep 40 rfl⟩) ?_
    exact .nil _
  intro q u bel hsz hdf hold hfact
  have h4 : q.tmps.getD 4 undef = .bool true := hfact 41 (by decide)
  clear hfact hold
  go_wp2
  have bb := HB.out.trans (bel.mono HB.out.size)
  refine bodyPost_ret (results_tmp rfl _ _ _) hdf ⟨?_, bb⟩
  rw [h4]

theorem wordPuts (a0 : Option Addr) (len0 cap0 : Nat) (z0 : List Int) (a1 : Option Addr) (len1 cap1 : Nat) (z1 : List Int) (w : World) (w0 : IsRow .i64 w a0 len0 cap0 z0) (w1 : IsRow .u8 w a1 len1 cap1 z1) :
    Calls Try.prog 3 #[.slice a0 len0 cap0, .slice a1 len1 cap1] w fun e w' => e = .returned (.bool true) ∧ Below w.heap.size w w' := by
  obtain ⟨hS, hc, hm⟩ := w0.sl wf_i64'
  obtain ⟨hS1, hc1, hm1⟩ := w1.sl wf_u8'
  have hn : a1 = none → len1 = 0 ∧ cap1 = 0 := by
    intro h
    rcases w1 with ⟨_, h1, h2, _⟩ | ⟨x, h1, _⟩
    · exact ⟨h1, h2⟩
    · rw [h1] at h; simp at h
  by_cases h : 60 < len0 ∨ 100 < len1
  · exact puts_out a0 len0 cap0 a1 len1 cap1 w h (by omega) (by omega)
  · exact puts_in a0 len0 cap0 _ a1 len1 cap1 _ w hS hc hm (by omega) hS1 hc1 hm1 (by omega) hn

end Walk
end Go.Proofs.Ytnakleldhfenjaa
