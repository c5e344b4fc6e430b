/-
  The walk of FitsOrder.
-/
import Derived.Test.YtdikimddkhahdaaFitsRowed
import Derived.Test.YtdikimddkhahdaaRowBase
namespace Go.Proofs.Ytdikimddkhahdaa
open Go.RowKit
set_option linter.unusedVariables false
set_option linter.unusedSimpArgs false

theorem turn_get {L : List P7} {t i : Nat} (hi : i < L.length) : (turnL L t).take (i + 1) = (turnL L t).take i ++ [L.getD ((i + t) % L.length) p70] := by
  have hl : (turnL L t).length = L.length := by simp [turnL]
  rw [take_snocA (turnL L t) p70 i (by rw [hl]; exact hi)]
  congr 2
  simp [turnL, hi]
theorem perm_all {b : Bks} {l m : List P7} (h : l.Perm m) (ha : allB b m = true) : allB b l = true := by
  unfold allB at ha ⊢
  rw [Bool.and_eq_true, decide_eq_true_eq, List.all_eq_true] at ha ⊢
  exact ⟨fun p hp => ha.1 p (h.mem_iff.1 hp), by rw [h.length_eq]; exact ha.2⟩
theorem and63_o (x : Int) : 0 ≤ bits .and .i64 x 63 ∧ bits .and .i64 x 63 ≤ 63 := and63_rng x

set_option maxHeartbeats 8000000 in
set_option maxRecDepth 100000 in
theorem Walk.fitsOrder (ah : Option Addr) (nh ch : Nat) (zh : List Int) (way : Int) (a : Option Addr) (n c : Nat) (L : List P7) (turn : Int) (w : World) (h0 : Walk.IsRow .i64 w ah nh ch zh) (hway : (Lit.int .i64 way).wf = true) (hp : PaysIn w a n c L) (hturn : (Lit.int .i64 turn).wf = true) :
    Calls Try.prog 5 #[.slice ah nh ch, .int .i64 way, .slice a n c, .int .i64 turn] w fun e w' => e = .returned (.bool true) ∧ Below w.heap.size w w' := by
  rcases Nat.lt_or_ge 30 n with h30 | h30
  · have h1 : (30 : Int) < (n : Int) := by omega
    have h2 : decide ((n : Int) < 1) = false := decide_eq_false (by omega)
    clear h0 hway hp h30 hturn
    go_enter Try.func5, Try.ntmps5
    go_wp2
    go_ret
    exact ⟨rfl, Below.refl _ _⟩
  rcases Nat.lt_or_ge n 1 with hn0 | hn0
  · have h1 : (n : Int) < 1 := by omega
    clear h0 hway hp h30 hturn hn0
    go_enter Try.func5, Try.ntmps5
    go_wp2
    go_ret
    exact ⟨rfl, Below.refl _ _⟩
  have h1 : (n : Int) ≤ 30 := by omega
  have h2 : (1 : Int) ≤ (n : Int) := by omega
  obtain ⟨hsl, hcap, hmax⟩ := h0.sl fun n hn => by
    simp only [Lit.wf, Bool.and_eq_true, decide_eq_true_eq] at hn
    exact i64_wf hn.1 hn.2
  have S := some_any ah nh ch (zh.take nh) way w hsl (by omega)
  obtain ⟨kb, hkb⟩ : ∃ kb, someK (zh.take nh) (bitB way 1) (bitB way 2) (bitB way 4) = kb := ⟨_, rfl⟩
  rw [hkb] at S
  have GB : Hid (Good kb) := by rw [← hkb]; exact good_some _ _ _ _
  have H3 : Hid (kb.A.length = 3) := by rw [← hkb]; rfl
  have HG : Hid (PGood w a n c L) := hp.good
  have HL : Hid (n = L.length) := hp.good.len
  obtain ⟨hq, hlen, hall⟩ := rowed_ok (L := L) (by have := HL.out; omega)
  have HR : Hid ((rowedL L).length = n) := by show _ = _; rw [hlen, HL.out]
  have HAL : Hid (allB kb (rowedL L) = true) := rowed_all H3.out (by rw [hlen]; have := HL.out; omega) hall
  have RW := fun u (hu : Below w.heap.size w u) => rowed_any a n c L u (HG.out.below hu) (by omega)
  have K := known15
  clear hkb hsl h0 hlen hp
  go_enter Try.func5, Try.ntmps5
  go_wp2_with fail
  go_at_call 19
  refine S.mono ?_
  rintro e w1 ⟨yb, rfl, nb, bel⟩
  have B1 : Hid (Below w.heap.size w w1) := bel
  have N1 : Hid (Bk w1 yb kb) := nb.bk
  have R := RW w1 bel
  clear S nb bel RW
  go_wp2_with fail
  go_at_call 20
  refine R.mono ?_
  rintro e w2 ⟨ar, cr, rfl, gr, hb⟩
  have BW2 : Hid (Below w.heap.size w w2) := B1.out.trans (hb.mono B1.out.size)
  have N2 : Hid (Bk w2 yb kb) := N1.out.below hb
  have G2 : Hid (PGood w2 ar n cr (rowedL L)) := by rw [← HR.out]; exact gr
  rw [HR.out]
  clear hb R N1 B1 gr
  obtain ⟨aA, nA, cA, aB, nB, cB, aM, nM, cM, aP, nP, cP⟩ := yb
  obtain ⟨w3, hw3⟩ : ∃ w3, w3 = w2.alloc (.cells #[.slice aA nA cA, .slice aB nB cB, .slice aM nM cM, .slice aP nP cP] 26) := ⟨_, rfl⟩
  have BW3 : Hid (Below w.heap.size w w3) := by rw [hw3]; exact BW2.out.alloc BW2.out.size _
  have X3 : Hid (Box4 w3 w2.heap.size ⟨aA, nA, cA, aB, nB, cB, aM, nM, cM, aP, nP, cP⟩) := by rw [hw3]; exact Box4.new w2 ⟨aA, nA, cA, aB, nB, cB, aM, nM, cM, aP, nP, cP⟩ _ _
  have N3 : Hid (Bk w3 ⟨aA, nA, cA, aB, nB, cB, aM, nM, cM, aP, nP, cP⟩ kb) := by rw [hw3]; exact N2.out.below (box_below _ _)
  have G3 : Hid (PGood w3 ar n cr (rowedL L)) := by rw [hw3]; exact G2.out.below (box_below _ _)
  clear N2 G2
  obtain ⟨R0, hR0⟩ : ∃ R0, rowedL L = R0 := ⟨_, rfl⟩
  rw [hR0] at HR HAL G3
  obtain ⟨tz, htz⟩ : ∃ tz, bits .and .i64 turn 63 = tz := ⟨_, rfl⟩
  have tr := and63_rng turn
  rw [htz] at tr
  obtain ⟨t, ht⟩ : ∃ t : Nat, tz = t := ⟨tz.toNat, by omega⟩
  subst ht
  have htr : (t : Int) ≤ 63 := by omega
  have HPM : Hid ((turnL R0 t).Perm R0) := turnL_perm R0 t
  have HTL : Hid ((turnL R0 t).length = n) := by show _ = _; rw [HPM.out.length_eq, HR.out]
  have F1 : Hid (∀ u, Below w3.heap.size w3 u → Calls Try.prog 16 #[.agg #[.slice aA nA cA, .slice aB nB cB, .slice aM nM cM, .slice aP nP cP], .slice ar n cr] u (IEnd u (shortL kb R0))) := fun u hu => short_good ⟨aA, nA, cA, aB, nB, cB, aM, nM, cM, aP, nP, cP⟩ kb ar n cr _ u (N3.out.below hu) GB.out (G3.out.below hu) HAL.out
  have F2 : Hid (∀ (am : Option Addr) (cm : Nat) u, Below w3.heap.size w3 u → PGood u am n cm (turnL R0 t) → Calls Try.prog 16 #[.agg #[.slice aA nA cA, .slice aB nB cB, .slice aM nM cM, .slice aP nP cP], .slice am n cm] u (IEnd u (shortL kb R0))) := fun am cm u hu hg => by
    rw [← shortL_perm kb HPM.out]
    exact short_good ⟨aA, nA, cA, aB, nB, cB, aM, nM, cM, aP, nP, cP⟩ kb am n cm _ u (N3.out.below hu) GB.out hg (perm_all HPM.out HAL.out)
  generalize shortL kb R0 = sh at F1 F2
  clear hq hall HAL HG HL H3 N3 hR0 tr
  go_upto_region 5 with fail
  rw [← hw3]
  clear hw3
  go_wp2
  go_loopw [11, 12] (fun mv i wr => ∃ (k z : Nat) (v : Value), k ≤ n ∧ i = .int .i64 k ∧ v = mv ∧ z = k ∧ Hid (wr.ownsRow w3.heap.size 31 7 v z (payL ((turnL R0 t).take k))) ∧ Hid (Below w3.heap.size w3 wr)) (fun _ i _ => n - (intOf i).toNat)
  case atStart => exact ⟨0, 0, _, by omega, rfl, rfl, rfl, World.ownsRow_nil _ _ _ _, Below.refl _ _⟩
  case round =>
    obtain ⟨k, z, v, hk, rfl, rfl, hz, HO, HB⟩ := hrel
    by_cases hlt : k < n
    · have k1 : (k : Int) < (n : Int) := by omega
      have n0 : ¬ (n : Int) = 0 := by omega
      obtain ⟨b0, off, rfl, HC⟩ := G3.out.at hlt
      obtain ⟨j, hj⟩ : ∃ j, (k + t) % n = j := ⟨_, rfl⟩
      have hjn : j < n := by rw [← hj]; exact Nat.mod_lt _ (by omega)
      have C0 := (HC j hjn).below HB.out
      have HT : Hid ((turnL R0 t).take (k + 1) = (turnL R0 t).take k ++ [R0.getD j p70]) := by
        show _ = _
        rw [turn_get (by rw [HR.out]; exact hlt), HR.out, hj]
      obtain ⟨u0, hu0⟩ : ∃ u0 : Nat, k + t = u0 := ⟨_, rfl⟩
      have HS : Hid (IntKind.i64.wrap ((k : Int) + (t : Int)) = (u0 : Int)) := by show _ = _; rw [← hu0]; rw [show (k : Int) + (t : Int) = ((k + t : Nat) : Int) by omega]; exact i64_wf (by omega) (by omega)
      have HMD : Hid (Int.tmod (u0 : Int) (n : Int) = (j : Int)) := by show _ = _; rw [← hu0] ; rw [← hj]; rfl
      have j1 : (j : Int) < (n : Int) := by omega
      generalize R0.getD j p70 = y at C0 HT
      obtain ⟨x0, x1, x2, x3, x4, x5, x6⟩ := y
      obtain ⟨p0, p1, p2, p3, p4, p5, p6⟩ := C0
      simp only [P7.id, P7.fr, P7.to, P7.am, P7.cl, P7.st, P7.ti] at p0 p1 p2 p3 p4 p5 p6
      have HZ : Hid (z = k) := hz
      have z30 : z ≤ 30 := by omega
      have e1 := HS.out
      have e2 := HMD.out
      clear HC hj hz hu0
      go_wp2_with (at_builtin; refine wpList_append_pays rfl _ _ rfl w3.heap.size v z _ rfl (own_below HO.out (box_below _ _)) (some ⟨wr.heap.size, 0, none⟩) 1 1 [(x0, x1, x2, x3, x4, x5, x6)] rfl (PGood.lit1 wr (x0, x1, x2, x3, x4, x5, x6)) (by omega) (by rw [size_alloc]; have := HB.out.size; omega) ?_)
      intro v8 w8 h8 g8
      have O8 : Hid (w8.ownsRow w3.heap.size 31 7 v8 (z + 1) (payL ((turnL R0 t).take (k + 1)))) := by rw [HT.out]; exact h8
      have B8 : Hid (Below w3.heap.size w3 w8) := (HB.out.alloc HB.out.size _).grown g8 (by rw [size_alloc]; have := HB.out.size; omega) (fun j hj => (HO.out.lt j hj).1)
      clear h8 g8 e1 e2
      go_wp2
      go_roundw
      case rel => exact ⟨k + 1, z + 1, v8, by omega, by go_num, rfl, by rw [HZ.out], O8, B8⟩
      case measure => simp [intOf]; omega
    · obtain rfl : k = n := by omega
      have BW : Hid (Below w.heap.size w wr) := BW3.out.trans (HB.out.mono BW3.out.size)
      have HT : Hid ((turnL R0 t).take k = turnL R0 t) := List.take_of_length_le (by rw [HTL.out]; exact Nat.le_refl _)
      rw [HT.out] at HO
      obtain ⟨am, cm, rfl, hg⟩ := PGood.own HO.out
      rw [HTL.out] at hg
      have G8 : Hid (PGood wr am k cm (turnL R0 t)) := hg.1
      rw [HTL.out]
      have X8 : Hid (Box4 wr w2.heap.size ⟨aA, nA, cA, aB, nB, cB, aM, nM, cM, aP, nP, cP⟩) := X3.out.below HB.out
      clear hg HO hz
      go_wp2_with fail
      refine region_owes (L := [Fact.is (.agg #[.slice aA nA cA, .slice aB nB cB, .slice aM nM cM, .slice aP nP cP]),
        Fact.is (.slice ar k cr),
        Fact.ints sh,
        Fact.is (.agg #[.slice aA nA cA, .slice aB nB cB, .slice aM nM cM, .slice aP nP cP]),
        Fact.is (.slice am k cm),
        Fact.ints sh,
        Fact.is (.bool true),
        Fact.is (.bool true),
        Fact.is (.bool true),
        Fact.is (.bool true),
        Fact.is (.bool true)])
        (T := [45, 46, 47, 48, 49, 50, 51, 52, 53, 54, 8]) (by kernel_rfl) (by kernel_rfl) rfl ?owes ?_
      case owes =>
        refine .cons (owes_value fun q u lh => ⟨wants_free rfl, .agg #[.slice aA nA cA, .slice aB nB cB, .slice aM nM cM, .slice aP nP cP], by have e9 : q.tmps.getD 9 undef = .pointer (some ⟨w2.heap.size, 0, none⟩) := lh.old 9 rfl; obtain ⟨p0, p1, p2, p3⟩ := X8.out.below lh.below; simp [execOp, Act.eval, e9, p0, p1, p2, p3, go_sem], rfl⟩) ?_
        refine .cons (owes_move (.tmp 10) (.inl rfl) fun q u lh => ⟨wants_free rfl, lh.old 10 rfl⟩) ?_
        refine .cons (owes_call 16 Try.func16 (by kernel_rfl) (by kernel_rfl) [.tmp 45, .tmp 46] #[26, 27] rfl fun q u lh => ⟨wants_free rfl, by have e45 : q.tmps.getD 45 undef = .agg #[.slice aA nA cA, .slice aB nB cB, .slice aM nM cM, .slice aP nP cP] := lh.dep 0 rfl; have e46 : q.tmps.getD 46 undef = .slice ar k cr := lh.dep 1 rfl; show Calls Try.prog 16 #[q.tmps.getD 45 undef, q.tmps.getD 46 undef] u _; rw [e45, e46]; exact ints_fact (F1.out u (HB.out.trans (lh.below.mono HB.out.size)))⟩) ?_
        refine .cons (owes_value fun q u lh => ⟨wants_free rfl, .agg #[.slice aA nA cA, .slice aB nB cB, .slice aM nM cM, .slice aP nP cP], by have e9 : q.tmps.getD 9 undef = .pointer (some ⟨w2.heap.size, 0, none⟩) := lh.old 9 rfl; obtain ⟨p0, p1, p2, p3⟩ := X8.out.below lh.below; simp [execOp, Act.eval, e9, p0, p1, p2, p3, go_sem], rfl⟩) ?_
        refine .cons (owes_move (.tmp 11) (.inl rfl) fun q u lh => ⟨wants_free rfl, lh.old 11 rfl⟩) ?_
        refine .cons (owes_call 16 Try.func16 (by kernel_rfl) (by kernel_rfl) [.tmp 48, .tmp 49] #[26, 27] rfl fun q u lh => ⟨wants_free rfl, by have e48 : q.tmps.getD 48 undef = .agg #[.slice aA nA cA, .slice aB nB cB, .slice aM nM cM, .slice aP nP cP] := lh.dep 3 rfl; have e49 : q.tmps.getD 49 undef = .slice am k cm := lh.dep 4 rfl; show Calls Try.prog 16 #[q.tmps.getD 48 undef, q.tmps.getD 49 undef] u _; rw [e48, e49]; exact ints_fact (F2.out am cm u (HB.out.trans (lh.below.mono HB.out.size)) (G8.out.below lh.below))⟩) ?_
        refine .cons (owes_call 15 Try.func15 (by kernel_rfl) (by kernel_rfl) [.tmp 47, .tmp 50] #[35, 35] rfl fun q u lh => ⟨wants_free rfl, by obtain ⟨aa, ca, ea, ga⟩ := lh.dep 2 rfl; obtain ⟨ab, cb, eb, gb⟩ := lh.dep 5 rfl; have ea : q.tmps.getD 47 undef = .slice aa sh.length ca := ea; have eb : q.tmps.getD 50 undef = .slice ab sh.length cb := eb; show Calls Try.prog 15 #[q.tmps.getD 47 undef, q.tmps.getD 50 undef] u _; rw [ea, eb]; exact ints_one ga gb⟩) ?_
        refine .cons (owes_move (.tmp 51) (.inl rfl) fun q u lh => ⟨wants_free rfl, lh.dep 6 rfl⟩) ?_
        refine .cons (owes_call 18 Try.func18 (by kernel_rfl) (by kernel_rfl) [] #[] rfl fun q u lh => ⟨lh.wants1 7 true rfl rfl rfl, by show Calls Try.prog 18 #[] u _; exact bool_fact (K u)⟩) ?_
        refine .cons (owes_pick (.tmp 52) (.tmp 53) (.const (.bool false)) rfl fun q u lh => ⟨wants_free rfl, true, lh.dep 7 rfl, lh.dep 8 rfl⟩) ?_
        refine .cons (owes_move (.tmp 54) (.inr rfl) fun q u lh => ⟨wants_free rfl, lh.dep 9 rfl⟩) ?_
        exact .nil _
      intro q u hb hsz hdf hold hfact
      obtain ⟨v47, e47⟩ : ∃ v, q.tmps.getD 47 undef = v := ⟨_, rfl⟩
      have f47 : (Fact.ints sh).1 u v47 := by rw [← e47]; exact hfact 2 (by decide)
      obtain ⟨v50, e50⟩ : ∃ v, q.tmps.getD 50 undef = v := ⟨_, rfl⟩
      have f50 : (Fact.ints sh).1 u v50 := by rw [← e50]; exact hfact 5 (by decide)
      have B9 : Hid (Below w.heap.size w u) := BW.out.trans (hb.mono BW.out.size)
      obtain rfl := frame_puts hsz hdf [45, 46, 47, 48, 49, 50, 51, 52, 53, 54, 8] hold [(45, Value.agg #[.slice aA nA cA, .slice aB nB cB, .slice aM nM cM, .slice aP nP cP]), (46, Value.slice ar k cr), (47, v47), (48, Value.agg #[.slice aA nA cA, .slice aB nB cB, .slice aM nM cM, .slice aP nP cP]), (49, Value.slice am k cm), (50, v50), (51, Value.bool true), (52, Value.bool true), (53, Value.bool true), (54, Value.bool true), (8, Value.bool true)] ⟨hfact 0 (by decide), hfact 1 (by decide), e47, hfact 3 (by decide), hfact 4 (by decide), e50, hfact 6 (by decide), hfact 7 (by decide), hfact 8 (by decide), hfact 9 (by decide), hfact 10 (by decide), trivial⟩ rfl
      clear hsz hdf hold hfact
      clear hb
      simp only [puts, Act.put, List.setIfInBounds_toArray, List.set_cons_zero, List.set_cons_succ]
      go_wp2
      go_ret
      exact ⟨rfl, B9.out⟩

end Go.Proofs.Ytdikimddkhahdaa
