/-
  The walk of KnotGreatest.
-/
import Derived.Test.YtlackjldopeigaaKnotGreatPure
import Derived.Test.YtlackjldopeigaaKnotRun
import Derived.Test.YtlackjldopeigaaKnotEnds
import Derived.Test.YtlackjldopeigaaKnown20
import Derived.Test.YtlackjldopeigaaFitsRowed
import Derived.Test.YtlackjldopeigaaPostPure
import Derived.Test.YtlackjldopeigaaRowRefs
import Derived.Test.YtlackjldopeigaaRowBase
import Derived.Test.YtlackjldopeigaaViewAll
import Derived.Test.YtlackjldopeigaaFactsNever
namespace Go.Proofs.Ytlackjldopeigaa
open Go.RowKit
set_option linter.unusedVariables false
set_option linter.unusedSimpArgs false

set_option maxHeartbeats 16000000 in
set_option maxRecDepth 100000 in
theorem Walk.knotGreatest (ah : Option Addr) (nh ch : Nat) (zh : List Int) (way : Int) (a : Option Addr) (n c : Nat) (L : List P7) (t : Int) (w : World) (h0 : Walk.IsRow .i64 w ah nh ch zh) (hway : (Lit.int .i64 way).wf = true) (hp : PaysIn w a n c L) (htw : (Lit.int .i64 t).wf = true) :
    Calls Try.prog 5 #[.slice ah nh ch, .int .i64 way, .slice a n c, .int .i64 t] w fun e w' => e = .returned (.bool true) ∧ Below w.heap.size w w' := by
  rcases Nat.lt_or_ge 9 n with h30 | h30
  · have h1 : (9 : Int) < (n : Int) := by omega
    clear h0 hway hp h30 htw
    go_enter Try.func5, Try.ntmps5
    go_wp2
    go_ret
    exact ⟨rfl, Below.refl _ _⟩
  have h1 : (n : Int) ≤ 9 := by omega
  obtain ⟨hsl, hcap, hmax⟩ := h0.sl fun n hn => by
    simp only [Lit.wf, Bool.and_eq_true, decide_eq_true_eq] at hn
    exact i64_wf hn.1 hn.2
  have S := some_any ah nh ch (zh.take nh) way w hsl (by omega)
  have HN30 : Hid (n ≤ 9) := h30
  have HG : Hid (PGood w a n c L) := hp.good
  have HL : Hid (n = L.length) := hp.good.len
  obtain ⟨hq, hlen, hall⟩ := rowed_ok (L := L) (by have := HL.out; omega)
  have HR : Hid ((rowedL L).length = n) := by show _ = _; rw [hlen, HL.out]
  have HQ : Hid (Que (rowedL L)) := hq
  have HP : Hid (∀ p ∈ rowedL L, RowedP L.length p) := hall
  have HAK : Hid (∀ p ∈ rowedL L, 0 ≤ p.am) := fun p hp => (rowed_am hall p hp).1
  obtain ⟨kb, hkb⟩ : ∃ kb, someK (zh.take nh) (bitB way 1) (bitB way 2) (bitB way 4) = kb := ⟨_, rfl⟩
  rw [hkb] at S
  have GB : Hid (Good kb) := by rw [← hkb]; exact good_some _ _ _ _
  have K3 : Hid (kb.A.length = 3) := by rw [← hkb]; rfl
  have AK : Hid (allB kb (rowedL L) = true) := rowed_all K3.out (by have := HR.out; omega) hall
  have RW := fun u (hu : Below w.heap.size w u) => rowed_any a n c L u (HG.out.below hu) (by omega)
  have KN : Hid (∀ u, Calls Try.prog 16 #[] u fun e w' => e = .returned (.bool true) ∧ Below u.heap.size u w') := known20
  clear hkb hsl h0 hlen hp hway htw hall hq h30
  go_enter Try.func5, Try.ntmps5
  go_wp2_with fail
  go_at_call 9
  refine S.mono ?_
  rintro e w1 ⟨yb, rfl, nb, bel⟩
  obtain ⟨aA, nA, cA, aB, nB, cB, aM, nM, cM, aP, nP, cP⟩ := yb
  obtain ⟨w2, hw2⟩ : ∃ w2, w2 = w1.alloc (.cells #[.slice aA nA cA, .slice aB nB cB, .slice aM nM cM, .slice aP nP cP] 27) := ⟨_, rfl⟩
  obtain ⟨z, hz⟩ : ∃ z, w1.heap.size = z := ⟨_, rfl⟩
  have BW2 : Hid (Below w.heap.size w w2) := by rw [hw2]; exact bel.alloc bel.size _
  have X2 : Hid (Box4 w2 z ⟨aA, nA, cA, aB, nB, cB, aM, nM, cM, aP, nP, cP⟩) := by rw [hw2, ← hz]; exact Box4.new w1 ⟨aA, nA, cA, aB, nB, cB, aM, nM, cM, aP, nP, cP⟩ _ _
  have N2 : Hid (Bk w2 ⟨aA, nA, cA, aB, nB, cB, aM, nM, cM, aP, nP, cP⟩ kb) := by rw [hw2]; exact nb.bk.below (box_below _ _)
  have R := RW w2 BW2.out
  clear S nb bel RW
  go_upto_region 4 with fail
  rw [← hw2]
  clear hw2
  try rw [hz]
  clear hz
  go_wp2_with fail
  go_at_call 10
  refine R.mono ?_
  rintro e w3 ⟨ar, cr, rfl, gr, hb⟩
  have BW3 : Hid (Below w.heap.size w w3) := BW2.out.trans (hb.mono BW2.out.size)
  have X3 : Hid (Box4 w3 z ⟨aA, nA, cA, aB, nB, cB, aM, nM, cM, aP, nP, cP⟩) := X2.out.below hb
  have N3 : Hid (Bk w3 ⟨aA, nA, cA, aB, nB, cB, aM, nM, cM, aP, nP, cP⟩ kb) := N2.out.below hb
  have G3 : Hid (PGood w3 ar n cr (rowedL L)) := by rw [← HR.out]; exact gr
  rw [HR.out]
  clear hb R BW2 X2 N2 gr
  obtain ⟨rl, hrl⟩ : ∃ rl, (vReady (rowedL L) t).length = rl := ⟨_, rfl⟩
  have HRL : Hid (rl ≤ 9) := by have := ready_len (rowedL L) t; have := HR.out; have := HN30.out; show rl ≤ 9; omega
  have RY := (refVReady_any ar n cr (rowedL L) t w3 G3.out (by have := HN30.out; omega)).mono fun _ _ h => h.num hrl
  have F1 : Hid (∀ u, Below w3.heap.size w3 u → Calls Try.prog 11 #[.agg #[.slice aA nA cA, .slice aB nB cB, .slice aM nM cM, .slice aP nP cP], .slice ar n cr, .int .i64 t] u (MostEndN u (mostK kb (vReady (rowedL L) t)).1 (mostK kb (vReady (rowedL L) t)).2 3)) := fun u hu => (knotMost_any ⟨aA, nA, cA, aB, nB, cB, aM, nM, cM, aP, nP, cP⟩ kb ar n cr _ t u (N3.out.below hu) GB.out (G3.out.below hu) (ready_all t AK.out) (by have := HN30.out; omega)).mono fun _ _ h => h.num (by rw [mostK_len, K3.out])
  have AR : allB kb (vReady (rowedL L) t) = true := ready_all t AK.out
  have HFIT : Hid (fitsB kb (headsN (vReady (rowedL L) t) (mostK kb (vReady (rowedL L) t)).1) = true) := most_fits AR
  have HLEAST : Hid (∀ i k j : Nat, i ≤ cntF (vReady (rowedL L) t) 0 → k ≤ cntF (vReady (rowedL L) t) 1 → j ≤ cntF (vReady (rowedL L) t) 2 → fitsB kb (headsN (vReady (rowedL L) t) [i, k, j]) = true → i ≤ (mostK kb (vReady (rowedL L) t)).1.getD 0 0 ∧ k ≤ (mostK kb (vReady (rowedL L) t)).1.getD 1 0 ∧ j ≤ (mostK kb (vReady (rowedL L) t)).1.getD 2 0) := fun i k j h0 h1 h2 hf => most_least K3.out AR h0 h1 h2 hf
  have HSW : Hid ((mostK kb (vReady (rowedL L) t)).2 ≤ rl + 1) := by rw [← hrl]; exact (mostK_end (allB_am AR)).2.2.1
  have FI : Hid (∀ (l : List P7) a' c' u, Below w3.heap.size w3 u → PGood u a' l.length c' l → Calls Try.prog 21 #[.agg #[.slice aA nA cA, .slice aB nB cB, .slice aM nM cM, .slice aP nP cP], .slice a' l.length c'] u fun e w' => e = .returned (.bool (fitsB kb l)) ∧ Below u.heap.size u w') := fun l a' c' u hu hg => refFFits_any ⟨aA, nA, cA, aB, nB, cB, aM, nM, cM, aP, nP, cP⟩ kb a' l.length c' l u (N3.out.below hu) GB.out hg
  generalize (mostK kb (vReady (rowedL L) t)).1 = M at F1 HFIT HLEAST
  generalize (mostK kb (vReady (rowedL L) t)).2 = N at F1 HSW
  clear AR
  generalize vReady (rowedL L) t = RR at RY HFIT HLEAST hrl
  have HC : Hid (∀ f : Int, cntF RR f ≤ 9) := fun f => by
    have h1 : cntF RR f ≤ RR.length := sel_len _ _
    have := HRL.out
    omega
  clear hrl HR HG HL HQ N3 G3 GB HP HAK K3 AK HN30
  go_wp2_with fail
  go_at_call 20
  refine RY.mono ?_
  rintro e w4 ⟨a4, c4, rfl, hg, -, hb⟩
  have D4 : Hid (Below w3.heap.size w3 w4) := hb
  have G4 : Hid (PGood w4 a4 rl c4 RR) := hg
  have CC := F1.out w4 hb
  clear hg hb RY F1
  obtain ⟨p0, p1, p2, p3⟩ := X3.out.below D4.out
  replace p0 : w4.cell? ⟨z, 0, none⟩ = some (.slice aA nA cA) := p0
  replace p1 : w4.cell? ⟨z, 1, none⟩ = some (.slice aB nB cB) := p1
  replace p2 : w4.cell? ⟨z, 2, none⟩ = some (.slice aM nM cM) := p2
  replace p3 : w4.cell? ⟨z, 3, none⟩ = some (.slice aP nP cP) := p3
  go_wp2_with fail
  go_at_call 11
  refine CC.mono ?_
  rintro e w5 ⟨g1, c1, rfl, hm, hb⟩
  have D5 : Hid (Below w3.heap.size w3 w5) := D4.out.trans (hb.mono D4.out.size)
  have G5 : Hid (PGood w5 a4 rl c4 RR) := G4.out.below hb
  have M5 : Hid (IGood w5 (some ⟨g1, 0, none⟩) 3 c1 M) := hm
  have X5 : Hid (Box4 w5 z ⟨aA, nA, cA, aB, nB, cB, aM, nM, cM, aP, nP, cP⟩) := X3.out.below D5.out
  have hcap1 := M5.out.cap
  clear hm hb CC D4 G4 X3 p0 p1 p2 p3
  have HDA : Hid (∀ (m : List Nat) am c' u, Below w5.heap.size w5 u → Sl .i64 u am 3 (intsL m) → Calls Try.prog 22 #[.slice a4 rl c4, .slice am 3 c'] u (PEnd u (headsN RR m))) := fun m am c' u hu hs => refVHeads_any a4 am rl c4 3 c' RR (intsL m) u (G5.out.below hu) hs (by have := HRL.out; omega) (by omega)
  have OFA : Hid (∀ f u, Below w5.heap.size w5 u → Calls Try.prog 23 #[.slice a4 rl c4, .int .i64 f] u (PEndN u (vOf RR f) (cntF RR f))) := fun f u hu => (refVOf_any a4 rl c4 RR f u (G5.out.below hu) (by have := HRL.out; omega)).mono fun _ _ h => h.num rfl
  have HS2 : ¬ (rl : Int) + 1 < (N : Int) := by have := HSW.out; omega
  have hrw : IntKind.i64.wrap ((rl : Int) + 1) = (rl : Int) + 1 := i64_wf (by omega) (by have := HRL.out; omega)
  have HHM : Hid (∀ u, Below w5.heap.size w5 u → Calls Try.prog 22 #[.slice a4 rl c4, .slice (some ⟨g1, 0, none⟩) 3 c1] u (PEnd u (headsN RR M))) := fun u hu => HDA.out M _ c1 u hu (M5.out.below hu).sl
  have FIM : Hid (∀ a' c' u, Below w5.heap.size w5 u → PGood u a' (headsN RR M).length c' (headsN RR M) → Calls Try.prog 21 #[.agg #[.slice aA nA cA, .slice aB nB cB, .slice aM nM cM, .slice aP nP cP], .slice a' (headsN RR M).length c'] u fun e w' => e = .returned (.bool true) ∧ Below u.heap.size u w') := fun a' c' u hu hg => by rw [← HFIT.out]; exact FI.out _ a' c' u (D5.out.trans (hu.mono D5.out.size)) hg
  generalize headsN RR M = HM at HHM FIM
  clear HFIT HSW
  go_upto_region 7 with fail
  refine region_owes (L := [Fact.is (.slice (some ⟨g1, 0, none⟩) 3 c1),
    Fact.is (.int .i64 3),
    Fact.is (.bool false),
    Fact.is (.bool false),
    Fact.is (.int .i64 N),
    Fact.is (.slice a4 rl c4),
    Fact.is (.int .i64 rl),
    Fact.is (.int .i64 ((rl : Int) + 1)),
    Fact.is (.bool false),
    Fact.is (.bool false),
    Fact.is (.bool false),
    Fact.is (.agg #[.slice aA nA cA, .slice aB nB cB, .slice aM nM cM, .slice aP nP cP]),
    Fact.is (.slice a4 rl c4),
    Fact.is (.slice (some ⟨g1, 0, none⟩) 3 c1),
    Fact.pnew 0 HM,
    Fact.is (.bool true),
    Fact.is (.bool false),
    Fact.is (.bool false)])
    (T := [36, 37, 38, 39, 40, 41, 42, 43, 44, 45, 46, 47, 48, 49, 50, 51, 52, 53]) (by kernel_rfl) (by kernel_rfl) rfl ?owes ?_
  case owes =>
    refine .cons (owes_move (.tmp 12) (.inl rfl) fun q u lh => ⟨wants_free rfl, lh.old 12 rfl⟩) ?_
    refine .cons (owes_value fun q u lh => ⟨wants_free rfl, .int .i64 3, by have e36 : q.tmps.getD 36 undef = .slice (some ⟨g1, 0, none⟩) 3 c1 := lh.dep 0 rfl; simp [execOp, Act.eval, e36, go_sem], rfl⟩) ?_
    refine .cons (owes_value fun q u lh => ⟨wants_free rfl, .bool false, by have e37 : q.tmps.getD 37 undef = .int .i64 3 := lh.dep 1 rfl; simp [execOp, Act.eval, e37, go_sem], rfl⟩) ?_
    refine .cons (owes_move (.tmp 38) (.inl rfl) fun q u lh => ⟨wants_free rfl, lh.dep 2 rfl⟩) ?_
    refine .cons (owes_move (.tmp 13) (.inl rfl) fun q u lh => ⟨lh.wants1 3 false rfl rfl rfl, lh.old 13 rfl⟩) ?_
    refine .cons (owes_move (.tmp 11) (.inl rfl) fun q u lh => ⟨lh.wants1 3 false rfl rfl rfl, lh.old 11 rfl⟩) ?_
    refine .cons (owes_value fun q u lh => ⟨lh.wants1 3 false rfl rfl rfl, .int .i64 rl, by have e41 : q.tmps.getD 41 undef = .slice a4 rl c4 := lh.dep 5 rfl; simp [execOp, Act.eval, e41, go_sem], rfl⟩) ?_
    refine .cons (owes_value fun q u lh => ⟨lh.wants1 3 false rfl rfl rfl, .int .i64 ((rl : Int) + 1), by have e42 : q.tmps.getD 42 undef = .int .i64 rl := lh.dep 6 rfl; simp [execOp, Act.eval, e42, hrw, go_sem], rfl⟩) ?_
    refine .cons (owes_value fun q u lh => ⟨lh.wants1 3 false rfl rfl rfl, .bool false, by have e40 : q.tmps.getD 40 undef = .int .i64 N := lh.dep 4 rfl; have e43 : q.tmps.getD 43 undef = .int .i64 ((rl : Int) + 1) := lh.dep 7 rfl; simp [execOp, Act.eval, e40, e43, HS2, go_sem], rfl⟩) ?_
    refine .cons (owes_pick (.tmp 39) (.const (.bool true)) (.tmp 44) rfl fun q u lh => ⟨wants_free rfl, false, lh.dep 3 rfl, lh.dep 8 rfl⟩) ?_
    refine .cons (owes_move (.tmp 45) (.inl rfl) fun q u lh => ⟨wants_free rfl, lh.dep 9 rfl⟩) ?_
    refine .cons (owes_value fun q u lh => ⟨lh.wants1 10 false rfl rfl rfl, .agg #[.slice aA nA cA, .slice aB nB cB, .slice aM nM cM, .slice aP nP cP], by have e9 : q.tmps.getD 9 undef = .pointer (some ⟨z, 0, none⟩) := lh.old 9 rfl; obtain ⟨p0, p1, p2, p3⟩ := X5.out.below lh.below; simp [execOp, Act.eval, e9, p0, p1, p2, p3, go_sem], rfl⟩) ?_
    refine .cons (owes_move (.tmp 11) (.inl rfl) fun q u lh => ⟨lh.wants1 10 false rfl rfl rfl, lh.old 11 rfl⟩) ?_
    refine .cons (owes_move (.tmp 12) (.inl rfl) fun q u lh => ⟨lh.wants1 10 false rfl rfl rfl, lh.old 12 rfl⟩) ?_
    refine .cons (owes_call 22 Try.func22 (by kernel_rfl) (by kernel_rfl) [.tmp 48, .tmp 49] #[23, 30] rfl fun q u lh => ⟨lh.wants1 10 false rfl rfl rfl, by have e48 : q.tmps.getD 48 undef = .slice a4 rl c4 := lh.dep 12 rfl; have e49 : q.tmps.getD 49 undef = .slice (some ⟨g1, 0, none⟩) 3 c1 := lh.dep 13 rfl; show Calls Try.prog 22 #[q.tmps.getD 48 undef, q.tmps.getD 49 undef] u _; rw [e48, e49]; exact pend_fact (Nat.zero_le _) (HHM.out u lh.below)⟩) ?_
    refine .cons (owes_call 21 Try.func21 (by kernel_rfl) (by kernel_rfl) [.tmp 47, .tmp 50] #[27, 23] rfl fun q u lh => ⟨lh.wants1 10 false rfl rfl rfl, by have e47 : q.tmps.getD 47 undef = .agg #[.slice aA nA cA, .slice aB nB cB, .slice aM nM cM, .slice aP nP cP] := lh.dep 11 rfl; obtain ⟨aa, cc, e50, g50, -⟩ := lh.dep 14 rfl; have e50 : q.tmps.getD 50 undef = .slice aa HM.length cc := e50; show Calls Try.prog 21 #[q.tmps.getD 47 undef, q.tmps.getD 50 undef] u _; rw [e47, e50]; exact bool_fact (FIM.out aa cc u lh.below g50)⟩) ?_
    refine .cons (owes_value fun q u lh => ⟨lh.wants1 10 false rfl rfl rfl, .bool false, by have e51 : q.tmps.getD 51 undef = .bool true := lh.dep 15 rfl; simp [execOp, Act.eval, e51, go_sem], rfl⟩) ?_
    refine .cons (owes_pick (.tmp 46) (.const (.bool true)) (.tmp 52) rfl fun q u lh => ⟨wants_free rfl, false, lh.dep 10 rfl, lh.dep 16 rfl⟩) ?_
    exact .nil _
  intro q u hb hsz hdf hold hfact
  obtain ⟨a50, c50, e50, -⟩ : (Fact.pnew 0 HM).1 u (q.tmps.getD 50 undef) := hfact 14 (by decide)
  obtain rfl := frame_puts hsz hdf [36, 37, 38, 39, 40, 41, 42, 43, 44, 45, 46, 47, 48, 49, 50, 51, 52, 53] hold [(36, Value.slice (some ⟨g1, 0, none⟩) 3 c1), (37, Value.int .i64 3), (38, Value.bool false), (39, Value.bool false), (40, Value.int .i64 N), (41, Value.slice a4 rl c4), (42, Value.int .i64 rl), (43, Value.int .i64 ((rl : Int) + 1)), (44, Value.bool false), (45, Value.bool false), (46, Value.bool false), (47, Value.agg #[.slice aA nA cA, .slice aB nB cB, .slice aM nM cM, .slice aP nP cP]), (48, Value.slice a4 rl c4), (49, Value.slice (some ⟨g1, 0, none⟩) 3 c1), (50, Value.slice a50 HM.length c50), (51, Value.bool true), (52, Value.bool false), (53, Value.bool false)] ⟨hfact 0 (by decide), hfact 1 (by decide), hfact 2 (by decide), hfact 3 (by decide), hfact 4 (by decide), hfact 5 (by decide), hfact 6 (by decide), hfact 7 (by decide), hfact 8 (by decide), hfact 9 (by decide), hfact 10 (by decide), hfact 11 (by decide), hfact 12 (by decide), hfact 13 (by decide), e50, hfact 15 (by decide), hfact 16 (by decide), hfact 17 (by decide), trivial⟩ rfl
  clear hsz hdf hold hfact
  simp only [puts, Act.put, List.setIfInBounds_toArray, List.set_cons_zero, List.set_cons_succ]
  have D6 : Hid (Below w5.heap.size w5 u) := hb
  clear hb HHM FIM hrw HS2
  obtain ⟨w6, rfl⟩ : ∃ z, z = u := ⟨u, rfl⟩
  have CC := OFA.out 0 w6 D6.out
  go_wp2_with fail
  go_at_call 23
  refine CC.mono ?_
  rintro e w7 ⟨a7, c7, rfl, -, -, hb⟩
  have D7 : Hid (Below w5.heap.size w5 w7) := D6.out.trans (hb.mono D6.out.size)
  have CC := OFA.out 1 w7 D7.out
  clear hb D6
  go_wp2_with fail
  go_at_call 23
  refine CC.mono ?_
  rintro e w8 ⟨a8, c8, rfl, -, -, hb⟩
  have D8 : Hid (Below w5.heap.size w5 w8) := D7.out.trans (hb.mono D7.out.size)
  have CC := OFA.out 2 w8 D8.out
  clear hb D7
  go_wp2_with fail
  go_at_call 23
  refine CC.mono ?_
  rintro e w9 ⟨a9, c9, rfl, -, -, hb⟩
  have D9 : Hid (Below w5.heap.size w5 w9) := D8.out.trans (hb.mono D8.out.size)
  clear hb D8 CC OFA
  obtain ⟨n0, hn0⟩ : ∃ n0, cntF RR 0 = n0 := ⟨_, rfl⟩
  obtain ⟨n1, hn1⟩ : ∃ n1, cntF RR 1 = n1 := ⟨_, rfl⟩
  obtain ⟨n2, hn2⟩ : ∃ n2, cntF RR 2 = n2 := ⟨_, rfl⟩
  have H9 : Hid (n0 ≤ 9 ∧ n1 ≤ 9 ∧ n2 ≤ 9) := ⟨by rw [← hn0]; exact HC.out 0, by rw [← hn1]; exact HC.out 1, by rw [← hn2]; exact HC.out 2⟩
  rw [hn0, hn1, hn2] at HLEAST
  rw [hn0, hn1, hn2]
  clear hn0 hn1 hn2 HC
  obtain ⟨wa, hwa⟩ : ∃ wa, wa = w9.alloc (.cells #[.int .i64 n0, .int .i64 n1, .int .i64 n2] 3) := ⟨_, rfl⟩
  obtain ⟨h, hh⟩ : ∃ h, w9.heap.size = h := ⟨_, rfl⟩
  have b9a : Below w9.heap.size w9 wa := by rw [hwa]; exact box_below _ _
  have Da : Hid (Below w5.heap.size w5 wa) := D9.out.trans (b9a.mono D9.out.size)
  have Ca : Hid (Sl .i64 wa (some ⟨h, 0, none⟩) 3 [(n0 : Int), (n1 : Int), (n2 : Int)]) := by
    rw [hwa, ← hh]
    have := H9.out
    exact Sl.new .i64 w9 3 (0, 0) [(n0 : Int), (n1 : Int), (n2 : Int)] (fun v hv => by
      rcases (by simpa using hv : v = n0 ∨ v = n1 ∨ v = n2) with rfl | rfl | rfl <;> exact i64_wf (by omega) (by omega))
  clear b9a D9
  go_upto_region 10 with fail
  rw [← hwa]
  clear hwa
  try rw [hh]
  clear hh
  have M6 : Hid (∀ u, Below w5.heap.size w5 u → u.cell? ⟨g1, 0, none⟩ = some (.int .i64 (M.getD 0 0 : Nat)) ∧ u.cell? ⟨g1, 1, none⟩ = some (.int .i64 (M.getD 1 0 : Nat)) ∧ u.cell? ⟨g1, 2, none⟩ = some (.int .i64 (M.getD 2 0 : Nat))) := fun u hu => ⟨(M5.out.below hu).cell0 (by omega), (M5.out.below hu).cell0 (by omega), (M5.out.below hu).cell0 (by omega)⟩
  obtain ⟨m0, hm0⟩ : ∃ m0, M.getD 0 0 = m0 := ⟨_, rfl⟩
  obtain ⟨m1, hm1⟩ : ∃ m1, M.getD 1 0 = m1 := ⟨_, rfl⟩
  obtain ⟨m2, hm2⟩ : ∃ m2, M.getD 2 0 = m2 := ⟨_, rfl⟩
  rw [hm0, hm1, hm2] at M6 HLEAST
  clear hm0 hm1 hm2 M5
  have HD5 := HDA
  have BW5 : Hid (Below w.heap.size w w5) := BW3.out.trans (D5.out.mono BW3.out.size)
  have FI5 : Hid (∀ (l : List P7) a' c' u, Below w5.heap.size w5 u → PGood u a' l.length c' l → Calls Try.prog 21 #[.agg #[.slice aA nA cA, .slice aB nB cB, .slice aM nM cM, .slice aP nP cP], .slice a' l.length c'] u fun e w' => e = .returned (.bool (fitsB kb l)) ∧ Below u.heap.size u w') := fun l a' c' u hu hg => FI.out l a' c' u (D5.out.trans (hu.mono D5.out.size)) hg
  clear FI D5 HDA BW3 G5
  go_wp2
  go_loopw [15] (fun v wr => ∃ i : Nat, i ≤ n0 + 1 ∧ v = .int .i64 i ∧ Hid (Below wa.heap.size wa wr)) (fun v _ => n0 + 1 - (intOf v).toNat)
  case atStart => exact ⟨0, by omega, rfl, Below.refl _ _⟩
  case round =>
    obtain ⟨i, hi, rfl, HB⟩ := hrel
    obtain ⟨wp, rfl⟩ : ∃ z, z = wr := ⟨wr, rfl⟩
    have cn0 := (Ca.out.below HB.out).three.1
    by_cases hlt : i ≤ n0
    · have i1 : (i : Int) ≤ n0 := by omega
      have iw : Hid (IntKind.i64.wrap ((i : Int) + 1) = i + 1) := by have := H9.out; exact i64_wf (by omega) (by omega)
      go_wp2
      clear cn0
      go_loopw [16] (fun v wq => ∃ k : Nat, k ≤ n1 + 1 ∧ v = .int .i64 k ∧ Hid (Below wp.heap.size wp wq)) (fun v _ => n1 + 1 - (intOf v).toNat)
      case atStart => exact ⟨0, by omega, rfl, Below.refl _ _⟩
      case round =>
        obtain ⟨k, hk, rfl, HB1⟩ := hrel
        obtain ⟨wq, rfl⟩ : ∃ z, z = wr := ⟨wr, rfl⟩
        have B1 : Hid (Below wa.heap.size wa wq) := HB.out.trans (HB1.out.mono HB.out.size)
        have cn1 := (Ca.out.below B1.out).three.2.1
        by_cases hkt : k ≤ n1
        · have k1 : (k : Int) ≤ n1 := by omega
          have kw : Hid (IntKind.i64.wrap ((k : Int) + 1) = k + 1) := by have := H9.out; exact i64_wf (by omega) (by omega)
          go_wp2
          clear cn1
          go_loopw [17] (fun v wr => ∃ j : Nat, j ≤ n2 + 1 ∧ v = .int .i64 j ∧ Hid (Below wq.heap.size wq wr)) (fun v _ => n2 + 1 - (intOf v).toNat)
          case atStart => exact ⟨0, by omega, rfl, Below.refl _ _⟩
          case round =>
            obtain ⟨j, hj, rfl, HB2⟩ := hrel
            have B2 : Hid (Below wa.heap.size wa wr) := B1.out.trans (HB2.out.mono B1.out.size)
            have cn2 := (Ca.out.below B2.out).three.2.2
            by_cases hjt : j ≤ n2
            · have j1 : (j : Int) ≤ n2 := by omega
              have jw : IntKind.i64.wrap ((j : Int) + 1) = j + 1 := by have := H9.out; exact i64_wf (by omega) (by omega)
              have W3 : Hid (∀ v ∈ [(i : Int), (k : Int), (j : Int)], IntKind.i64.wrap v = v) := fun v hv => by
                have := H9.out
                rcases (by simpa using hv : v = i ∨ v = k ∨ v = j) with rfl | rfl | rfl <;> exact i64_wf (by omega) (by omega)
              have E2 : Hid (Below w5.heap.size w5 wr) := Da.out.trans (B2.out.mono Da.out.size)
              have X6 : Hid (Box4 wr z ⟨aA, nA, cA, aB, nB, cB, aM, nM, cM, aP, nP, cP⟩) := X5.out.below E2.out
              have HD6 : Hid (∀ am u, Below wr.heap.size wr u → Sl .i64 u am 3 [(i : Int), (k : Int), (j : Int)] → Calls Try.prog 22 #[.slice a4 rl c4, .slice am 3 3] u (PEnd u (headsN RR [i, k, j]))) := fun am u hu hs => HD5.out [i, k, j] am 3 u (E2.out.trans (hu.mono E2.out.size)) hs
              have FI6 : Hid (∀ a' c' u, Below wr.heap.size wr u → PGood u a' (headsN RR [i, k, j]).length c' (headsN RR [i, k, j]) → Calls Try.prog 21 #[.agg #[.slice aA nA cA, .slice aB nB cB, .slice aM nM cM, .slice aP nP cP], .slice a' (headsN RR [i, k, j]).length c'] u fun e w' => e = .returned (.bool (fitsB kb (headsN RR [i, k, j]))) ∧ Below u.heap.size u w') := fun a' c' u hu hg => FI5.out _ a' c' u (E2.out.trans (hu.mono E2.out.size)) hg
              have HLE : Hid (fitsB kb (headsN RR [i, k, j]) = true → i ≤ m0 ∧ k ≤ m1 ∧ j ≤ m2) := HLEAST.out i k j hlt hkt hjt
              have MC : Hid (∀ u, Below wr.heap.size wr u → u.cell? ⟨g1, 0, none⟩ = some (.int .i64 m0) ∧ u.cell? ⟨g1, 1, none⟩ = some (.int .i64 m1) ∧ u.cell? ⟨g1, 2, none⟩ = some (.int .i64 m2)) := fun u hu => M6.out u (E2.out.trans (hu.mono E2.out.size))
              generalize headsN RR [i, k, j] = HM at HD6 FI6 HLE
              generalize fitsB kb HM = q at FI6 HLE
              cases q with
              | true =>
                obtain ⟨l0, l1, l2⟩ := HLE.out rfl
                have t0 : ¬ (m0 : Int) < (i : Int) := by omega
                have t1 : ¬ (m1 : Int) < (k : Int) := by omega
                have t2 : ¬ (m2 : Int) < (j : Int) := by omega
                have hlc := hcap1
                go_upto_region 19 with fail
                refine region_owes (L := [Fact.is (.agg #[.slice aA nA cA, .slice aB nB cB, .slice aM nM cM, .slice aP nP cP]),
                  Fact.is (.slice a4 rl c4),
                  Fact.is (.int .i64 i),
                  Fact.is (.int .i64 k),
                  Fact.is (.int .i64 j),
                  Fact.full .i64 3 [(i : Int), (k : Int), (j : Int)],
                  Fact.pnew 0 HM,
                  Fact.is (.bool true),
                  Fact.is (.bool true),
                  Fact.is (.int .i64 i),
                  Fact.is (.slice (some ⟨g1, 0, none⟩) 3 c1),
                  Fact.is (.pointer (some ⟨g1, 0, none⟩)),
                  Fact.is (.int .i64 m0),
                  Fact.is (.bool false),
                  Fact.is (.bool false),
                  Fact.is (.int .i64 k),
                  Fact.is (.slice (some ⟨g1, 0, none⟩) 3 c1),
                  Fact.is (.pointer (some ⟨g1, 1, none⟩)),
                  Fact.is (.int .i64 m1),
                  Fact.is (.bool false),
                  Fact.is (.bool false),
                  Fact.is (.bool false),
                  Fact.is (.int .i64 j),
                  Fact.is (.slice (some ⟨g1, 0, none⟩) 3 c1),
                  Fact.is (.pointer (some ⟨g1, 2, none⟩)),
                  Fact.is (.int .i64 m2),
                  Fact.is (.bool false),
                  Fact.is (.bool false),
                  Fact.is (.bool false)])
                  (T := [85, 86, 87, 88, 89, 90, 91, 92, 93, 94, 95, 96, 97, 98, 99, 100, 101, 102, 103, 104, 105, 106, 107, 108, 109, 110, 111, 112, 113]) (by kernel_rfl) (by kernel_rfl) rfl ?owes ?_
                case owes =>
                  refine .cons (owes_value fun q u lh => ⟨wants_free rfl, .agg #[.slice aA nA cA, .slice aB nB cB, .slice aM nM cM, .slice aP nP cP], by have e9 : q.tmps.getD 9 undef = .pointer (some ⟨z, 0, none⟩) := lh.old 9 rfl; obtain ⟨p0, p1, p2, p3⟩ := X6.out.below lh.below; simp [execOp, Act.eval, e9, p0, p1, p2, p3, go_sem], rfl⟩) ?_
                  refine .cons (owes_move (.tmp 11) (.inl rfl) fun q u lh => ⟨wants_free rfl, lh.old 11 rfl⟩) ?_
                  refine .cons (owes_move (.tmp 15) (.inl rfl) fun q u lh => ⟨wants_free rfl, lh.old 15 rfl⟩) ?_
                  refine .cons (owes_move (.tmp 16) (.inl rfl) fun q u lh => ⟨wants_free rfl, lh.old 16 rfl⟩) ?_
                  refine .cons (owes_move (.tmp 17) (.inl rfl) fun q u lh => ⟨wants_free rfl, lh.old 17 rfl⟩) ?_
                  refine .cons (owes_make fun q u lh => ⟨wants_free rfl, .slice (some ⟨u.heap.size, 0, none⟩) 3 3, u.alloc (.cells #[.int .i64 i, .int .i64 k, .int .i64 j] 3), by have e87 : q.tmps[87]?.getD undef = .int .i64 i := (Array.getD_eq_getD_getElem? ..).symm.trans (lh.dep 2 rfl); have e88 : q.tmps[88]?.getD undef = .int .i64 k := (Array.getD_eq_getD_getElem? ..).symm.trans (lh.dep 3 rfl); have e89 : q.tmps[89]?.getD undef = .int .i64 j := (Array.getD_eq_getD_getElem? ..).symm.trans (lh.dep 4 rfl); simp [execOp, Act.eval, e87, e88, e89, go_sem], box_below _ _, ⟨_, rfl, Sl.new .i64 u 3 (0, 0) [(i : Int), (k : Int), (j : Int)] W3.out⟩⟩) ?_
                  refine .cons (owes_call 22 Try.func22 (by kernel_rfl) (by kernel_rfl) [.tmp 86, .tmp 90] #[23, 30] rfl fun q u lh => ⟨wants_free rfl, by have e86 : q.tmps.getD 86 undef = .slice a4 rl c4 := lh.dep 1 rfl; obtain ⟨g9, e9, s9⟩ := lh.dep 5 rfl; have e9 : q.tmps.getD 90 undef = .slice (some ⟨g9, 0, none⟩) 3 3 := e9; show Calls Try.prog 22 #[q.tmps.getD 86 undef, q.tmps.getD 90 undef] u _; rw [e86, e9]; exact pend_fact (Nat.zero_le _) (HD6.out _ u lh.below s9)⟩) ?_
                  refine .cons (owes_call 21 Try.func21 (by kernel_rfl) (by kernel_rfl) [.tmp 85, .tmp 91] #[27, 23] rfl fun q u lh => ⟨wants_free rfl, by have e85 : q.tmps.getD 85 undef = .agg #[.slice aA nA cA, .slice aB nB cB, .slice aM nM cM, .slice aP nP cP] := lh.dep 0 rfl; obtain ⟨aa, cc, e91, g91, -⟩ := lh.dep 6 rfl; have e91 : q.tmps.getD 91 undef = .slice aa HM.length cc := e91; show Calls Try.prog 21 #[q.tmps.getD 85 undef, q.tmps.getD 91 undef] u _; rw [e85, e91]; exact bool_fact (FI6.out aa cc u lh.below g91)⟩) ?_
                  refine .cons (owes_move (.tmp 92) (.inl rfl) fun q u lh => ⟨wants_free rfl, lh.dep 7 rfl⟩) ?_
                  refine .cons (owes_move (.tmp 15) (.inl rfl) fun q u lh => ⟨lh.wants1 8 true rfl rfl rfl, lh.old 15 rfl⟩) ?_
                  refine .cons (owes_move (.tmp 12) (.inl rfl) fun q u lh => ⟨lh.wants1 8 true rfl rfl rfl, lh.old 12 rfl⟩) ?_
                  refine .cons (owes_value fun q u lh => ⟨lh.wants1 8 true rfl rfl rfl, .pointer (some ⟨g1, 0, none⟩), by have e95 : q.tmps.getD 95 undef = .slice (some ⟨g1, 0, none⟩) 3 c1 := lh.dep 10 rfl; simp [execOp, Act.eval, e95, hcap1, go_sem], rfl⟩) ?_
                  refine .cons (owes_value fun q u lh => ⟨lh.wants1 8 true rfl rfl rfl, .int .i64 m0, by have e96 : q.tmps.getD 96 undef = .pointer (some ⟨g1, 0, none⟩) := lh.dep 11 rfl; obtain ⟨p0, p1, p2⟩ := MC.out u lh.below; simp [execOp, Act.eval, e96, p0, go_sem], rfl⟩) ?_
                  refine .cons (owes_value fun q u lh => ⟨lh.wants1 8 true rfl rfl rfl, .bool false, by have e94 : q.tmps.getD 94 undef = .int .i64 i := lh.dep 9 rfl; have e97 : q.tmps.getD 97 undef = .int .i64 m0 := lh.dep 12 rfl; simp [execOp, Act.eval, e94, e97, t0, go_sem], rfl⟩) ?_
                  refine .cons (owes_move (.tmp 98) (.inl rfl) fun q u lh => ⟨lh.wants1 8 true rfl rfl rfl, lh.dep 13 rfl⟩) ?_
                  refine .cons (owes_move (.tmp 16) (.inl rfl) fun q u lh => ⟨lh.wants1 14 false rfl rfl rfl, lh.old 16 rfl⟩) ?_
                  refine .cons (owes_move (.tmp 12) (.inl rfl) fun q u lh => ⟨lh.wants1 14 false rfl rfl rfl, lh.old 12 rfl⟩) ?_
                  refine .cons (owes_value fun q u lh => ⟨lh.wants1 14 false rfl rfl rfl, .pointer (some ⟨g1, 1, none⟩), by have e101 : q.tmps.getD 101 undef = .slice (some ⟨g1, 0, none⟩) 3 c1 := lh.dep 16 rfl; simp [execOp, Act.eval, e101, hcap1, go_sem], rfl⟩) ?_
                  refine .cons (owes_value fun q u lh => ⟨lh.wants1 14 false rfl rfl rfl, .int .i64 m1, by have e102 : q.tmps.getD 102 undef = .pointer (some ⟨g1, 1, none⟩) := lh.dep 17 rfl; obtain ⟨p0, p1, p2⟩ := MC.out u lh.below; simp [execOp, Act.eval, e102, p1, go_sem], rfl⟩) ?_
                  refine .cons (owes_value fun q u lh => ⟨lh.wants1 14 false rfl rfl rfl, .bool false, by have e100 : q.tmps.getD 100 undef = .int .i64 k := lh.dep 15 rfl; have e103 : q.tmps.getD 103 undef = .int .i64 m1 := lh.dep 18 rfl; simp [execOp, Act.eval, e100, e103, t1, go_sem], rfl⟩) ?_
                  refine .cons (owes_pick (.tmp 99) (.const (.bool true)) (.tmp 104) rfl fun q u lh => ⟨lh.wants1 8 true rfl rfl rfl, false, lh.dep 14 rfl, lh.dep 19 rfl⟩) ?_
                  refine .cons (owes_move (.tmp 105) (.inl rfl) fun q u lh => ⟨lh.wants1 8 true rfl rfl rfl, lh.dep 20 rfl⟩) ?_
                  refine .cons (owes_move (.tmp 17) (.inl rfl) fun q u lh => ⟨lh.wants1 21 false rfl rfl rfl, lh.old 17 rfl⟩) ?_
                  refine .cons (owes_move (.tmp 12) (.inl rfl) fun q u lh => ⟨lh.wants1 21 false rfl rfl rfl, lh.old 12 rfl⟩) ?_
                  refine .cons (owes_value fun q u lh => ⟨lh.wants1 21 false rfl rfl rfl, .pointer (some ⟨g1, 2, none⟩), by have e108 : q.tmps.getD 108 undef = .slice (some ⟨g1, 0, none⟩) 3 c1 := lh.dep 23 rfl; simp [execOp, Act.eval, e108, hcap1, go_sem], rfl⟩) ?_
                  refine .cons (owes_value fun q u lh => ⟨lh.wants1 21 false rfl rfl rfl, .int .i64 m2, by have e109 : q.tmps.getD 109 undef = .pointer (some ⟨g1, 2, none⟩) := lh.dep 24 rfl; obtain ⟨p0, p1, p2⟩ := MC.out u lh.below; simp [execOp, Act.eval, e109, p2, go_sem], rfl⟩) ?_
                  refine .cons (owes_value fun q u lh => ⟨lh.wants1 21 false rfl rfl rfl, .bool false, by have e107 : q.tmps.getD 107 undef = .int .i64 j := lh.dep 22 rfl; have e110 : q.tmps.getD 110 undef = .int .i64 m2 := lh.dep 25 rfl; simp [execOp, Act.eval, e107, e110, t2, go_sem], rfl⟩) ?_
                  refine .cons (owes_pick (.tmp 106) (.const (.bool true)) (.tmp 111) rfl fun q u lh => ⟨lh.wants1 8 true rfl rfl rfl, false, lh.dep 21 rfl, lh.dep 26 rfl⟩) ?_
                  refine .cons (owes_pick (.tmp 93) (.tmp 112) (.const (.bool false)) rfl fun q u lh => ⟨wants_free rfl, true, lh.dep 8 rfl, lh.dep 27 rfl⟩) ?_
                  exact .nil _
                intro q u hb hsz hdf hold hfact
                obtain ⟨a90, e90, f90⟩ : (Fact.full .i64 3 [(i : Int), (k : Int), (j : Int)]).1 u (q.tmps.getD 90 undef) := hfact 5 (by decide)
                obtain ⟨a91, c91, e91, -⟩ : (Fact.pnew 0 HM).1 u (q.tmps.getD 91 undef) := hfact 6 (by decide)
                obtain rfl := frame_puts hsz hdf [85, 86, 87, 88, 89, 90, 91, 92, 93, 94, 95, 96, 97, 98, 99, 100, 101, 102, 103, 104, 105, 106, 107, 108, 109, 110, 111, 112, 113] hold [(85, Value.agg #[.slice aA nA cA, .slice aB nB cB, .slice aM nM cM, .slice aP nP cP]), (86, Value.slice a4 rl c4), (87, Value.int .i64 i), (88, Value.int .i64 k), (89, Value.int .i64 j), (90, Value.slice (some ⟨a90, 0, none⟩) 3 3), (91, Value.slice a91 HM.length c91), (92, Value.bool true), (93, Value.bool true), (94, Value.int .i64 i), (95, Value.slice (some ⟨g1, 0, none⟩) 3 c1), (96, Value.pointer (some ⟨g1, 0, none⟩)), (97, Value.int .i64 m0), (98, Value.bool false), (99, Value.bool false), (100, Value.int .i64 k), (101, Value.slice (some ⟨g1, 0, none⟩) 3 c1), (102, Value.pointer (some ⟨g1, 1, none⟩)), (103, Value.int .i64 m1), (104, Value.bool false), (105, Value.bool false), (106, Value.bool false), (107, Value.int .i64 j), (108, Value.slice (some ⟨g1, 0, none⟩) 3 c1), (109, Value.pointer (some ⟨g1, 2, none⟩)), (110, Value.int .i64 m2), (111, Value.bool false), (112, Value.bool false), (113, Value.bool false)] ⟨hfact 0 (by decide), hfact 1 (by decide), hfact 2 (by decide), hfact 3 (by decide), hfact 4 (by decide), e90, e91, hfact 7 (by decide), hfact 8 (by decide), hfact 9 (by decide), hfact 10 (by decide), hfact 11 (by decide), hfact 12 (by decide), hfact 13 (by decide), hfact 14 (by decide), hfact 15 (by decide), hfact 16 (by decide), hfact 17 (by decide), hfact 18 (by decide), hfact 19 (by decide), hfact 20 (by decide), hfact 21 (by decide), hfact 22 (by decide), hfact 23 (by decide), hfact 24 (by decide), hfact 25 (by decide), hfact 26 (by decide), hfact 27 (by decide), hfact 28 (by decide), trivial⟩ rfl
                clear hsz hdf hold hfact
                simp only [puts, Act.put, List.setIfInBounds_toArray, List.set_cons_zero, List.set_cons_succ]
                have BN : Hid (Below wq.heap.size wq u) := HB2.out.trans (hb.mono HB2.out.size)
                clear hb X6 HD6 FI6 HLE MC E2 W3 t0 t1 t2 l0 l1 l2 cn2 f90
                go_wp2
                go_roundw
                case rel => exact ⟨j + 1, by omega, by go_num, BN.out⟩
                case measure => simp [intOf]; omega
              | false =>
                go_upto_region 19 with fail
                refine region_owes (L := [Fact.is (.agg #[.slice aA nA cA, .slice aB nB cB, .slice aM nM cM, .slice aP nP cP]),
                  Fact.is (.slice a4 rl c4),
                  Fact.is (.int .i64 i),
                  Fact.is (.int .i64 k),
                  Fact.is (.int .i64 j),
                  Fact.full .i64 3 [(i : Int), (k : Int), (j : Int)],
                  Fact.pnew 0 HM,
                  Fact.is (.bool false),
                  Fact.is (.bool false),
                  Fact.is (undef),
                  Fact.is (undef),
                  Fact.is (undef),
                  Fact.is (undef),
                  Fact.is (undef),
                  Fact.is (undef),
                  Fact.is (undef),
                  Fact.is (undef),
                  Fact.is (undef),
                  Fact.is (undef),
                  Fact.is (undef),
                  Fact.is (undef),
                  Fact.is (undef),
                  Fact.is (undef),
                  Fact.is (undef),
                  Fact.is (undef),
                  Fact.is (undef),
                  Fact.is (undef),
                  Fact.is (undef),
                  Fact.is (.bool false)])
                  (T := [85, 86, 87, 88, 89, 90, 91, 92, 93, 94, 95, 96, 97, 98, 99, 100, 101, 102, 103, 104, 105, 106, 107, 108, 109, 110, 111, 112, 113]) (by kernel_rfl) (by kernel_rfl) rfl ?owes ?_
                case owes =>
                  refine .cons (owes_value fun q u lh => ⟨wants_free rfl, .agg #[.slice aA nA cA, .slice aB nB cB, .slice aM nM cM, .slice aP nP cP], by have e9 : q.tmps.getD 9 undef = .pointer (some ⟨z, 0, none⟩) := lh.old 9 rfl; obtain ⟨p0, p1, p2, p3⟩ := X6.out.below lh.below; simp [execOp, Act.eval, e9, p0, p1, p2, p3, go_sem], rfl⟩) ?_
                  refine .cons (owes_move (.tmp 11) (.inl rfl) fun q u lh => ⟨wants_free rfl, lh.old 11 rfl⟩) ?_
                  refine .cons (owes_move (.tmp 15) (.inl rfl) fun q u lh => ⟨wants_free rfl, lh.old 15 rfl⟩) ?_
                  refine .cons (owes_move (.tmp 16) (.inl rfl) fun q u lh => ⟨wants_free rfl, lh.old 16 rfl⟩) ?_
                  refine .cons (owes_move (.tmp 17) (.inl rfl) fun q u lh => ⟨wants_free rfl, lh.old 17 rfl⟩) ?_
                  refine .cons (owes_make fun q u lh => ⟨wants_free rfl, .slice (some ⟨u.heap.size, 0, none⟩) 3 3, u.alloc (.cells #[.int .i64 i, .int .i64 k, .int .i64 j] 3), by have e87 : q.tmps[87]?.getD undef = .int .i64 i := (Array.getD_eq_getD_getElem? ..).symm.trans (lh.dep 2 rfl); have e88 : q.tmps[88]?.getD undef = .int .i64 k := (Array.getD_eq_getD_getElem? ..).symm.trans (lh.dep 3 rfl); have e89 : q.tmps[89]?.getD undef = .int .i64 j := (Array.getD_eq_getD_getElem? ..).symm.trans (lh.dep 4 rfl); simp [execOp, Act.eval, e87, e88, e89, go_sem], box_below _ _, ⟨_, rfl, Sl.new .i64 u 3 (0, 0) [(i : Int), (k : Int), (j : Int)] W3.out⟩⟩) ?_
                  refine .cons (owes_call 22 Try.func22 (by kernel_rfl) (by kernel_rfl) [.tmp 86, .tmp 90] #[23, 30] rfl fun q u lh => ⟨wants_free rfl, by have e86 : q.tmps.getD 86 undef = .slice a4 rl c4 := lh.dep 1 rfl; obtain ⟨g9, e9, s9⟩ := lh.dep 5 rfl; have e9 : q.tmps.getD 90 undef = .slice (some ⟨g9, 0, none⟩) 3 3 := e9; show Calls Try.prog 22 #[q.tmps.getD 86 undef, q.tmps.getD 90 undef] u _; rw [e86, e9]; exact pend_fact (Nat.zero_le _) (HD6.out _ u lh.below s9)⟩) ?_
                  refine .cons (owes_call 21 Try.func21 (by kernel_rfl) (by kernel_rfl) [.tmp 85, .tmp 91] #[27, 23] rfl fun q u lh => ⟨wants_free rfl, by have e85 : q.tmps.getD 85 undef = .agg #[.slice aA nA cA, .slice aB nB cB, .slice aM nM cM, .slice aP nP cP] := lh.dep 0 rfl; obtain ⟨aa, cc, e91, g91, -⟩ := lh.dep 6 rfl; have e91 : q.tmps.getD 91 undef = .slice aa HM.length cc := e91; show Calls Try.prog 21 #[q.tmps.getD 85 undef, q.tmps.getD 91 undef] u _; rw [e85, e91]; exact bool_fact (FI6.out aa cc u lh.below g91)⟩) ?_
                  refine .cons (owes_move (.tmp 92) (.inl rfl) fun q u lh => ⟨wants_free rfl, lh.dep 7 rfl⟩) ?_
                  refine .cons (owes_never 8 true (.bool false) rfl rfl rfl rfl rfl) ?_
                  refine .cons (owes_never 8 true (.bool false) rfl rfl rfl rfl rfl) ?_
                  refine .cons (owes_never 8 true (.bool false) rfl rfl rfl rfl rfl) ?_
                  refine .cons (owes_never 8 true (.bool false) rfl rfl rfl rfl rfl) ?_
                  refine .cons (owes_never 8 true (.bool false) rfl rfl rfl rfl rfl) ?_
                  refine .cons (owes_never 8 true (.bool false) rfl rfl rfl rfl rfl) ?_
                  refine .cons (owes_never 14 false undef rfl rfl rfl rfl rfl) ?_
                  refine .cons (owes_never 14 false undef rfl rfl rfl rfl rfl) ?_
                  refine .cons (owes_never 14 false undef rfl rfl rfl rfl rfl) ?_
                  refine .cons (owes_never 14 false undef rfl rfl rfl rfl rfl) ?_
                  refine .cons (owes_never 14 false undef rfl rfl rfl rfl rfl) ?_
                  refine .cons (owes_never 8 true (.bool false) rfl rfl rfl rfl rfl) ?_
                  refine .cons (owes_never 8 true (.bool false) rfl rfl rfl rfl rfl) ?_
                  refine .cons (owes_never 21 false undef rfl rfl rfl rfl rfl) ?_
                  refine .cons (owes_never 21 false undef rfl rfl rfl rfl rfl) ?_
                  refine .cons (owes_never 21 false undef rfl rfl rfl rfl rfl) ?_
                  refine .cons (owes_never 21 false undef rfl rfl rfl rfl rfl) ?_
                  refine .cons (owes_never 21 false undef rfl rfl rfl rfl rfl) ?_
                  refine .cons (owes_never 8 true (.bool false) rfl rfl rfl rfl rfl) ?_
                  refine .cons (owes_pick (.tmp 93) (.tmp 112) (.const (.bool false)) rfl fun q u lh => ⟨wants_free rfl, false, lh.dep 8 rfl, rfl⟩) ?_
                  exact .nil _
                intro q u hb hsz hdf hold hfact
                obtain ⟨a90, e90, f90⟩ : (Fact.full .i64 3 [(i : Int), (k : Int), (j : Int)]).1 u (q.tmps.getD 90 undef) := hfact 5 (by decide)
                obtain ⟨a91, c91, e91, -⟩ : (Fact.pnew 0 HM).1 u (q.tmps.getD 91 undef) := hfact 6 (by decide)
                obtain rfl := frame_puts hsz hdf [85, 86, 87, 88, 89, 90, 91, 92, 93, 94, 95, 96, 97, 98, 99, 100, 101, 102, 103, 104, 105, 106, 107, 108, 109, 110, 111, 112, 113] hold [(85, Value.agg #[.slice aA nA cA, .slice aB nB cB, .slice aM nM cM, .slice aP nP cP]), (86, Value.slice a4 rl c4), (87, Value.int .i64 i), (88, Value.int .i64 k), (89, Value.int .i64 j), (90, Value.slice (some ⟨a90, 0, none⟩) 3 3), (91, Value.slice a91 HM.length c91), (92, Value.bool false), (93, Value.bool false), (94, undef), (95, undef), (96, undef), (97, undef), (98, undef), (99, undef), (100, undef), (101, undef), (102, undef), (103, undef), (104, undef), (105, undef), (106, undef), (107, undef), (108, undef), (109, undef), (110, undef), (111, undef), (112, undef), (113, Value.bool false)] ⟨hfact 0 (by decide), hfact 1 (by decide), hfact 2 (by decide), hfact 3 (by decide), hfact 4 (by decide), e90, e91, hfact 7 (by decide), hfact 8 (by decide), hfact 9 (by decide), hfact 10 (by decide), hfact 11 (by decide), hfact 12 (by decide), hfact 13 (by decide), hfact 14 (by decide), hfact 15 (by decide), hfact 16 (by decide), hfact 17 (by decide), hfact 18 (by decide), hfact 19 (by decide), hfact 20 (by decide), hfact 21 (by decide), hfact 22 (by decide), hfact 23 (by decide), hfact 24 (by decide), hfact 25 (by decide), hfact 26 (by decide), hfact 27 (by decide), hfact 28 (by decide), trivial⟩ rfl
                clear hsz hdf hold hfact
                simp only [puts, Act.put, List.setIfInBounds_toArray, List.set_cons_zero, List.set_cons_succ]
                have BN : Hid (Below wq.heap.size wq u) := HB2.out.trans (hb.mono HB2.out.size)
                clear hb X6 HD6 FI6 HLE MC E2 W3 cn2 f90
                go_wp2
                go_roundw
                case rel => exact ⟨j + 1, by omega, by go_num, BN.out⟩
                case measure => simp [intOf]; omega
            · have j2 : ¬ (j : Int) ≤ n2 := by omega
              have j3 : (n2 : Int) < j := by omega
              have kw := kw.out
              have BN : Hid (Below wp.heap.size wp wr) := HB1.out.trans (HB2.out.mono HB1.out.size)
              go_wp2
              go_roundw
              case rel => exact ⟨k + 1, by omega, by go_num, BN.out⟩
              case measure => simp [intOf]; omega
        · have k2 : ¬ (k : Int) ≤ n1 := by omega
          have k3 : (n1 : Int) < k := by omega
          have iw := iw.out
          go_wp2
          go_roundw
          case rel => exact ⟨i + 1, by omega, by go_num, B1.out⟩
          case measure => simp [intOf]; omega
    · have i2 : ¬ (i : Int) ≤ n0 := by omega
      have i3 : (n0 : Int) < i := by omega
      have BZ : Hid (Below w.heap.size w wp) := BW5.out.trans ((Da.out.trans (HB.out.mono Da.out.size)).mono BW5.out.size)
      have KK := KN.out wp
      go_wp2_with fail
      go_at_call 16
      refine KK.mono ?_
      rintro e wz ⟨rfl, hb⟩
      have Bz : Hid (Below w.heap.size w wz) := BZ.out.trans (hb.mono BZ.out.size)
      clear KK hb
      go_wp2
      go_ret
      exact ⟨rfl, Bz.out⟩

end Go.Proofs.Ytlackjldopeigaa
