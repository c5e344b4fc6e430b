/-
  knot.Most.
-/
import Derived.Test.YtlackjldopeigaaKnotRef
import Derived.Test.YtlackjldopeigaaKnotMany
import Derived.Test.YtlackjldopeigaaViewAll
namespace Go.Proofs.Ytlackjldopeigaa
open Go.RowKit
set_option linter.unusedVariables false
set_option linter.unusedSimpArgs false

set_option maxHeartbeats 16000000 in
set_option maxRecDepth 100000 in
theorem knotMost_any (x : BA) (b : Bks) (a : Option Addr) (n c : Nat) (L : List P7) (t : Int) (w : World) (hk : Bk w x b) (gd : Good b) (h : PGood w a n c L) (hA : allB b (vReady L t) = true) (h64 : n ≤ 64) :
    Calls Try.prog 11 #[x.val, .slice a n c, .int .i64 t] w (MostEnd w (mostK b (vReady L t)).1 (mostK b (vReady L t)).2) := by
  have RY := fun u (hu : Below w.heap.size w u) => viewReady_any a n c L t u (h.below hu) (by omega)
  have hrl : (vReady L t).length ≤ 64 := by have := sel_len (readyK t) L; have := h.len; show (sel (readyK t) L).length ≤ 64; omega
  unfold PEnd at RY
  have HA : Hid (allB b (vReady L t) = true) := hA
  generalize vReady L t = R at RY hrl HA ⊢
  have HK : Hid (Bk w x b) := hk
  have GD : Hid (Good b) := gd
  have hx : x.nA = b.A.length := hk.acc.1
  have n6 := gd.n6
  have n1 := gd.n1
  have HR64 : Hid (R.length ≤ 64) := hrl
  obtain ⟨rl, hrr⟩ : ∃ rl, R.length = rl := ⟨_, rfl⟩
  rw [hrr] at RY hrl
  have HRL : Hid (R.length = rl) := hrr
  have SH : Hid (∀ (m : List Nat) (a' : Option Addr) (n' c' : Nat) u, Below w.heap.size w u → PGood u a' n' c' (headsN R m) → Calls Try.prog 31 #[x.val, .slice a' n' c'] u (IEndN u (shortL b (headsN R m)))) := fun m a' n' c' u hu hg => by
    have := fitsShort_new x b a' n' c' (headsN R m) u (HK.out.below hu) GD.out hg
    rw [headsN_all m HA.out] at this
    exact this
  obtain ⟨aA, nA, cA, aB, nB, cB, aM, nM, cM, aP, nP, cP⟩ := x
  replace hx : nA = b.A.length := hx
  have HX : Hid (nA = b.A.length ∧ nA ≤ 6 ∧ 1 ≤ nA) := ⟨hx, by omega, by omega⟩
  have nA6 : (nA : Int) ≤ 6 := by omega
  have HCL : Hid ((cnts b R).length = nA ∧ (cnts b R).sum ≤ 64) := ⟨by rw [cnts_len, hx], Nat.le_trans (cnts_sum b R) HR64.out⟩
  have HRES : Hid (mostK b R = sweepA b R ((cnts b R).sum + 1) (cnts b R) 1) := rfl
  have MO : Hid (∀ a' c' u, PGood u a' rl c' R → Calls Try.prog 30 #[.slice a' rl c', .int .i64 nA] u fun e w' => ∃ g, e = .returned (.slice (some ⟨g, 0, none⟩) nA nA) ∧ w'.ownsRow u.heap.size 3 1 (.slice (some ⟨g, 0, none⟩) nA nA) nA (intsV (cnts b R)) ∧ Below u.heap.size u w') := fun a' c' u hg => manyOf_any a' rl c' nA R b u hg hrl hx.symm (by omega)
  have HD : Hid (∀ (m : List Nat) a' c' am nm cm u, PGood u a' rl c' R → IGood u am nm cm m → nm ≤ 6 → Calls Try.prog 32 #[.slice a' rl c', .slice am nm cm] u (PEnd u (headsN R m))) := fun m a' c' am nm cm u hg hm hn => viewHeads_any a' am rl c' nm cm R (intsL m) u hg hm.sl (by omega) (by omega)
  have SHT : Hid (∀ (m : List Nat) (a' : Option Addr) (n' c' : Nat) u, Below w.heap.size w u → PGood u a' n' c' (headsN R m) → Calls Try.prog 31 #[.agg #[.slice aA nA cA, .slice aB nB cB, .slice aM nM cM, .slice aP nP cP], .slice a' n' c'] u (IEndN u (shortL b (headsN R m)))) := SH.out
  generalize mostK b R = MK at HRES ⊢
  obtain ⟨w2, hw2⟩ : ∃ w2, w2 = w.alloc (.cells #[.slice aA nA cA, .slice aB nB cB, .slice aM nM cM, .slice aP nP cP] 27) := ⟨_, rfl⟩
  have B2 : Hid (Below w.heap.size w w2) := by rw [hw2]; exact box_below _ _
  have X2 : Hid (Box4 w2 w.heap.size ⟨aA, nA, cA, aB, nB, cB, aM, nM, cM, aP, nP, cP⟩) := by rw [hw2]; exact Box4.new w ⟨aA, nA, cA, aB, nB, cB, aM, nM, cM, aP, nP, cP⟩ _ _
  have RY := RY w2 B2.out
  clear hk gd h hA h64 hrl hrr hx n6 n1 HK SH
  go_enter Try.func11, Try.ntmps11
  go_upto_region 1 with fail
  rw [← hw2]
  clear hw2
  go_wp2_with fail
  go_at_call 29
  refine RY.mono ?_
  rintro e w3 ⟨ar, cr, rfl, hg, _, hb⟩
  have B3 : Hid (Below w.heap.size w w3) := B2.out.trans (hb.mono B2.out.size)
  have X3 : Hid (Box4 w3 w.heap.size ⟨aA, nA, cA, aB, nB, cB, aM, nM, cM, aP, nP, cP⟩) := X2.out.below hb
  have G3 : Hid (PGood w3 ar rl cr R) := hg
  clear RY hg hb X2 B2
  have OO := MO.out ar cr w3 G3.out
  obtain ⟨p0, p1, p2, p3⟩ := X3.out
  replace p0 : w3.cell? ⟨w.heap.size, 0, none⟩ = some (.slice aA nA cA) := p0
  replace p1 : w3.cell? ⟨w.heap.size, 1, none⟩ = some (.slice aB nB cB) := p1
  replace p2 : w3.cell? ⟨w.heap.size, 2, none⟩ = some (.slice aM nM cM) := p2
  replace p3 : w3.cell? ⟨w.heap.size, 3, none⟩ = some (.slice aP nP cP) := p3
  clear MO
  go_wp2_with fail
  go_at_call 30
  refine OO.mono ?_
  rintro e wo ⟨g, rfl, ho, hb⟩
  have HO3 : Hid (wo.ownsRow w3.heap.size 3 1 (.slice (some ⟨g, 0, none⟩) nA nA) nA (intsV (cnts b R))) := ho
  have BO : Hid (Below w3.heap.size w3 wo) := hb
  clear OO ho hb p0 p1 p2 p3
  go_wp2
  go_loopw [6, 7] (fun s i wr => ∃ (m : List Nat) (n f : Nat), s = .slice (some ⟨g, 0, none⟩) nA nA ∧ i = .int .i64 n ∧ n + m.sum ≤ 65 ∧ m.length = nA ∧ Hid (wr.ownsRow w3.heap.size 3 1 (.slice (some ⟨g, 0, none⟩) nA nA) nA (intsV m)) ∧ Hid (Below w3.heap.size w3 wr) ∧ Hid (MK = sweepA b R f m n ∧ m.sum < f)) (fun _ i _ => 66 - (intOf i).toNat)
  case atStart => exact ⟨cnts b R, 1, _, rfl, rfl, by have := HCL.out.2; omega, HCL.out.1, HO3, BO, HRES.out, by omega⟩
  case round =>
    obtain ⟨m, n, f, rfl, rfl, hsum, hml, HO, HB, HS⟩ := hrel
    have n65 : (n : Int) ≤ 65 := by omega
    have X4 : Hid (Box4 wr w.heap.size ⟨aA, nA, cA, aB, nB, cB, aM, nM, cM, aP, nP, cP⟩) := X3.out.below HB.out
    have GM : Hid (IGood wr (some ⟨g, 0, none⟩) nA nA m) := by
      obtain ⟨a', c', hv, hg⟩ := IGood.own HO.out (fun i hi => Nat.le_trans (sum_ge (show m.sum ≤ 65 by omega) i hi) (by omega))
      rw [hml] at hv hg
      simp at hv
      rw [← hv.1, ← hv.2] at hg
      exact hg
    have HGE : Hid (w3.heap.size ≤ g ∧ g < wr.heap.size) := by
      have h1 := HO.out.lt g rfl
      exact ⟨h1.1, h1.2⟩
    have BWR : Hid (Below w.heap.size w wr) := B3.out.trans (HB.out.mono B3.out.size)
    have SHM := fun (a' : Option Addr) (n' c' : Nat) u (hu : Below wr.heap.size wr u) hg => SHT.out m a' n' c' u (BWR.out.trans (hu.mono BWR.out.size)) hg
    have HDM := fun u (hu : Below wr.heap.size wr u) => HD.out m ar cr (some ⟨g, 0, none⟩) nA nA u ((G3.out.below HB.out).below hu) (GM.out.below hu) (by have := HX.out.2.1; omega)
    unfold PEnd at HDM
    have HSL : Hid ((shortL b (headsN R m)).Nodup ∧ ∀ i ∈ shortL b (headsN R m), i < nA ∧ 1 ≤ m.getD i 0) := ⟨short_nodup _ _, fun i hi => by have := short_one hi; rw [hml] at this; exact this⟩
    have HEND : Hid (shortL b (headsN R m) = [] → MK = (m, n)) := fun he => by
      obtain ⟨h1, h2⟩ := HS.out
      obtain ⟨f', rfl⟩ : ∃ f', f = f' + 1 := ⟨f - 1, by omega⟩
      rw [h1]
      unfold sweepA
      rw [if_pos he]
    have HGO : Hid (¬ shortL b (headsN R m) = [] → ∃ f', MK = sweepA b R f' (lessAll m (shortL b (headsN R m))) (n + 1) ∧ (lessAll m (shortL b (headsN R m))).sum < f' ∧ (n + 1) + (lessAll m (shortL b (headsN R m))).sum ≤ 65) := fun he => by
      obtain ⟨h1, h2⟩ := HS.out
      obtain ⟨f', rfl⟩ : ∃ f', f = f' + 1 := ⟨f - 1, by omega⟩
      have h3 := sweep_less he
      refine ⟨f', ?_, by omega, by omega⟩
      rw [h1, sweepA, if_neg he]
    generalize shortL b (headsN R m) = SL at SHM HSL HEND HGO
    generalize headsN R m = HM at SHM HDM
    have SHH : Hid (∀ (a' : Option Addr) (n' c' : Nat) u, Below wr.heap.size wr u → PGood u a' n' c' HM → Calls Try.prog 31 #[.agg #[.slice aA nA cA, .slice aB nB cB, .slice aM nM cM, .slice aP nP cP], .slice a' n' c'] u (IEndN u SL)) := SHM
    have HDH : Hid (∀ u, Below wr.heap.size wr u → Calls Try.prog 32 #[.slice ar rl cr, .slice (some ⟨g, 0, none⟩) nA nA] u (PEnd u HM)) := HDM
    clear SHM HDM HS
    obtain ⟨ns, hns⟩ : ∃ ns, SL.length = ns := ⟨_, rfl⟩
    have HNS : Hid (SL.length = ns) := hns
    clear hns
    go_upto_region 5 with fail
    refine region_owes (L := [Fact.is (.agg #[.slice aA nA cA, .slice aB nB cB, .slice aM nM cM, .slice aP nP cP]),
      Fact.is (.slice ar rl cr),
      Fact.is (.slice (some ⟨g, 0, none⟩) nA nA),
      Fact.pnew 0 HM,
      Fact.intsN wr.heap.size SL,
      Fact.intsN wr.heap.size SL])
      (T := [22, 23, 24, 25, 26, 9]) (by kernel_rfl) (by kernel_rfl) rfl ?owes ?_
    case owes =>
      refine .cons (owes_value fun q u lh => ⟨wants_free rfl, .agg #[.slice aA nA cA, .slice aB nB cB, .slice aM nM cM, .slice aP nP cP], by have e3 : q.tmps.getD 3 undef = .pointer (some ⟨w.heap.size, 0, none⟩) := lh.old 3 rfl; obtain ⟨p0, p1, p2, p3⟩ := X4.out.below lh.below; simp [execOp, Act.eval, e3, p0, p1, p2, p3, go_sem], rfl⟩) ?_
      refine .cons (owes_move (.tmp 8) (.inl rfl) fun q u lh => ⟨wants_free rfl, lh.old 8 rfl⟩) ?_
      refine .cons (owes_move (.tmp 6) (.inl rfl) fun q u lh => ⟨wants_free rfl, lh.old 6 rfl⟩) ?_
      refine .cons (owes_call 32 Try.func32 (by kernel_rfl) (by kernel_rfl) [.tmp 23, .tmp 24] #[23, 30] rfl fun q u lh => ⟨wants_free rfl, by have e23 : q.tmps.getD 23 undef = .slice ar rl cr := lh.dep 1 rfl; have e24 : q.tmps.getD 24 undef = .slice (some ⟨g, 0, none⟩) nA nA := lh.dep 2 rfl; show Calls Try.prog 32 #[q.tmps.getD 23 undef, q.tmps.getD 24 undef] u _; rw [e23, e24]; exact pend_fact (Nat.zero_le _) (HDH.out u lh.below)⟩) ?_
      refine .cons (owes_call 31 Try.func31 (by kernel_rfl) (by kernel_rfl) [.tmp 22, .tmp 25] #[27, 23] rfl fun q u lh => ⟨wants_free rfl, by have e22 : q.tmps.getD 22 undef = .agg #[.slice aA nA cA, .slice aB nB cB, .slice aM nM cM, .slice aP nP cP] := lh.dep 0 rfl; obtain ⟨aa, cc, e25, g25, -⟩ := lh.dep 3 rfl; have e25 : q.tmps.getD 25 undef = .slice aa HM.length cc := e25; show Calls Try.prog 31 #[q.tmps.getD 22 undef, q.tmps.getD 25 undef] u _; rw [e22, e25]; exact intsN_fact lh.below.size (SHH.out aa _ cc u lh.below g25)⟩) ?_
      refine .cons (owes_move (.tmp 26) (.inr rfl) fun q u lh => ⟨wants_free rfl, lh.dep 4 rfl⟩) ?_
      exact .nil _
    intro q u hb hsz hdf hold hfact
    obtain ⟨a25, c25, e25, -⟩ : (Fact.pnew 0 HM).1 u (q.tmps.getD 25 undef) := hfact 3 (by decide)
    obtain ⟨a26, c26, e26, -⟩ : (Fact.intsN wr.heap.size SL).1 u (q.tmps.getD 26 undef) := hfact 4 (by decide)
    obtain ⟨a12, c12, e12, g12, n12⟩ : (Fact.intsN wr.heap.size SL).1 u (q.tmps.getD 9 undef) := hfact 5 (by decide)
    have GS : Hid (IGood u a12 ns c12 SL ∧ ∀ x, a12 = some x → wr.heap.size ≤ x.block) := ⟨by rw [← HNS.out]; exact g12, n12⟩
    have B6 : Hid (Below w3.heap.size w3 u) := HB.out.trans (hb.mono HB.out.size)
    have O6 : Hid (u.ownsRow w3.heap.size 3 1 (.slice (some ⟨g, 0, none⟩) nA nA) nA (intsV m)) := own_below HO.out hb
    have GM6 : Hid (IGood u (some ⟨g, 0, none⟩) nA nA m) := GM.out.below hb
    obtain rfl := frame_puts hsz hdf [22, 23, 24, 25, 26, 9] hold [(22, Value.agg #[.slice aA nA cA, .slice aB nB cB, .slice aM nM cM, .slice aP nP cP]), (23, Value.slice ar rl cr), (24, Value.slice (some ⟨g, 0, none⟩) nA nA), (25, Value.slice a25 HM.length c25), (26, Value.slice a26 SL.length c26), (9, Value.slice a12 SL.length c12)] ⟨hfact 0 (by decide), hfact 1 (by decide), hfact 2 (by decide), e25, e26, e12, trivial⟩ rfl
    clear hsz hdf hold hfact
    clear hb g12 n12 GM HO HB X4 SHH HDH BWR
    have hns := HNS.out
    simp only [puts, Act.put, List.setIfInBounds_toArray, List.set_cons_zero, List.set_cons_succ, hns]
    clear hns
    obtain ⟨w6, rfl⟩ : ∃ z, z = u := ⟨u, rfl⟩
    rcases Nat.eq_zero_or_pos ns with h0 | h0
    · subst h0
      have HE : Hid (MK = (m, n)) := HEND.out (List.length_eq_zero_iff.1 HNS.out)
      have BW : Hid (Below w.heap.size w w6) := B3.out.trans (B6.out.mono B3.out.size)
      clear HEND HGO HSL
      go_wp2
      go_ret2
      rw [HE.out]
      exact ⟨g, nA, by rw [hml]; rfl, by rw [hml]; exact GM6.out, Nat.le_trans B3.out.size HGE.out.1, BW.out⟩
    · obtain ⟨f', hf1, hf2, hf3⟩ := HGO.out (fun e => by have := HNS.out; rw [e] at this; simp at this; omega)
      have HF : Hid (MK = sweepA b R f' (lessAll m SL) (n + 1) ∧ (lessAll m SL).sum < f') := ⟨hf1, hf2⟩
      have HF3 : Hid ((n + 1) + (lessAll m SL).sum ≤ 65) := hf3
      have ns0 : ((ns : Int) == 0) = false := by simp; omega
      have nw : IntKind.i64.wrap ((n : Int) + 1) = (n + 1 : Nat) := i64_wf (by omega) (by omega)
      have HN6 : Hid (ns ≤ 6) := by
        have h1 := (HSL.out.1).length_le_of_subset (l₂ := List.range nA) (fun i hi => List.mem_range.2 (HSL.out.2 i hi).1)
        rw [List.length_range, HNS.out] at h1
        have := HX.out.2.1
        show ns ≤ 6
        omega
      clear hf1 hf2 hf3 HEND HGO GM6 h0
      go_wp2
      go_loopw [34] (fun i ws => ∃ j : Nat, j ≤ ns ∧ i = .int .i64 j ∧ Hid (ws.ownsRow w3.heap.size 3 1 (.slice (some ⟨g, 0, none⟩) nA nA) nA (intsV (lessAll m (SL.take j)))) ∧ Hid (∀ i, ¬ i = g → ws.heap[i]? = w6.heap[i]?) ∧ Hid (Below w3.heap.size w3 ws)) (fun i _ => ns - (intOf i).toNat)
      case atStart => exact ⟨0, by omega, rfl, O6, fun _ _ => rfl, B6⟩
      case round =>
        obtain ⟨j, hj, rfl, HO, HKP, HB⟩ := hrel
        have ns6 : (ns : Int) ≤ 6 := by have := HN6.out; omega
        by_cases hlt : j < ns
        · have k1 : (j : Int) < (ns : Int) := by omega
          have GSr : IGood wr a12 ns c12 SL := GS.out.1.turn fun x hx => HKP.out _ (by have := GS.out.2 x hx; have := HGE.out.2; omega)
          obtain ⟨bs, os, hbs, hcs⟩ := GSr.sl.cells_at hlt
          subst hbs
          have hsc := hcs j hlt
          rw [intsL_getD] at hsc
          have hcap := GSr.cap
          have hjl : j < SL.length := by have := HNS.out; omega
          have hmem : SL.getD j 0 ∈ SL := by
            rw [List.getD_eq_getElem?_getD, List.getElem?_eq_getElem hjl]
            exact List.getElem_mem _
          have HTK : Hid (lessAll m (SL.take (j + 1)) = lessAt (lessAll m (SL.take j)) (SL.getD j 0)) := by
            show _ = _
            rw [take_snocA SL 0 j hjl, lessAll_snoc]
          have hnot : SL.getD j 0 ∉ SL.take j := fun hin => by
            have h1 := take_snocA SL 0 j hjl
            have h2 : (SL.take (j + 1)).Nodup := (HSL.out.1).sublist (List.take_sublist _ _)
            rw [h1, List.nodup_append] at h2
            exact h2.2.2 _ hin _ (by simp) rfl
          have hq := lessAll_other (m := m) hnot
          obtain ⟨hik, hi1⟩ := HSL.out.2 _ hmem
          have hmll : (lessAll m (SL.take j)).length = nA := by rw [lessAll_len, hml]
          have hm65 : m.getD (SL.getD j 0) 0 ≤ 65 := by
            have h1 : SL.getD j 0 < m.length := by omega
            have h2 := sum_ge (show m.sum ≤ 65 by omega) (m.getD (SL.getD j 0) 0) (by rw [List.getD_eq_getElem?_getD, List.getElem?_eq_getElem h1]; exact List.getElem_mem _)
            exact h2
          generalize SL.getD j 0 = i at hsc hmem HTK hnot hq hik hi1 hm65
          generalize lessAll m (SL.take j) = mj at HO HTK hq hmll
          obtain ⟨q', hq'⟩ : ∃ q', mj.getD i 0 = q' + 1 := ⟨mj.getD i 0 - 1, by omega⟩
          obtain ⟨-, hfz, hcl⟩ := own_row_block HO.out
          have hmc : wr.cell? ⟨g, i, none⟩ = some (.int .i64 ((q' + 1 : Nat) : Int)) := by
            rw [hcl i (by omega), intsV_at (by omega), hq']
          have hfi := hfz i
          obtain ⟨q1, hq1⟩ : ∃ q1 : Int, ((q' + 1 : Nat) : Int) = q1 := ⟨_, rfl⟩
          rw [hq1] at hmc
          have hqw : IntKind.i64.wrap (q1 - 1) = (q' : Nat) := by rw [← hq1, show ((q' + 1 : Nat) : Int) - 1 = (q' : Nat) from by omega]; exact i64_wf (by omega) (by omega)
          have OW := own_set HO.out (i := i) (by omega) (.int .i64 (q' : Nat))
          rw [intsV_set, show mj.set i q' = lessAt mj i by unfold lessAt; rw [hq']; rfl, ← HTK.out] at OW
          have BW2 : Hid (Below w3.heap.size w3 (wr.setCell ⟨g, i, none⟩ (.int .i64 (q' : Nat)))) := HB.out.setCell (p := ⟨g, i, none⟩) HGE.out.1 _
          have KP2 : Hid (∀ i', ¬ i' = g → (wr.setCell ⟨g, i, none⟩ (.int .i64 (q' : Nat))).heap[i']? = w6.heap[i']?) := fun i' h' => (heap_setCell_other wr ⟨g, i, none⟩ i' _ h').trans (HKP.out i' h')
          have OW2 : Hid ((wr.setCell ⟨g, i, none⟩ (.int .i64 (q' : Nat))).ownsRow w3.heap.size 3 1 (.slice (some ⟨g, 0, none⟩) nA nA) nA (intsV (lessAll m (SL.take (j + 1))))) := OW
          have ik : (i : Int) < (nA : Int) := by omega
          have jw : IntKind.i64.wrap ((j : Int) + 1) = j + 1 := i64_wf (by omega) (by omega)
          obtain ⟨w7, hw7⟩ : ∃ w7, w7 = wr.setCell ⟨g, i, none⟩ (.int .i64 (q' : Nat)) := ⟨_, rfl⟩
          rw [← hw7] at BW2 KP2 OW2
          clear OW hq1 hq' hmll hq hnot hmem hi1 hm65 HTK hcl hfz GSr hcs hjl HO HKP HB hik
          go_upto_region 12 with fail
          rw [← hw7]
          clear hw7 hmc hfi hsc hqw
          go_wp2
          go_roundw
          case rel => exact ⟨j + 1, by omega, by go_num, OW2, KP2, BW2⟩
          case measure => simp [intOf]; omega
        · obtain rfl : j = ns := by omega
          have HO2 : Hid (wr.ownsRow w3.heap.size 3 1 (.slice (some ⟨g, 0, none⟩) nA nA) nA (intsV (lessAll m SL))) := by
            have := HO.out
            rwa [List.take_of_length_le (by have := HNS.out; omega)] at this
          clear HO HKP
          go_wp2
          go_roundw
          case rel => exact ⟨lessAll m SL, n + 1, f', rfl, by go_num, HF3.out, by rw [lessAll_len, hml], HO2, HB, HF⟩
          case measure => simp [intOf]; omega

end Go.Proofs.Ytlackjldopeigaa
