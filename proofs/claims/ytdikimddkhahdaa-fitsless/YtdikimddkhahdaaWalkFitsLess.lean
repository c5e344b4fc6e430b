/-
  The walk of FitsLess.
-/
import Derived.Test.YtdikimddkhahdaaFitsRowed
import Derived.Test.YtdikimddkhahdaaRowRefs
import Derived.Test.YtdikimddkhahdaaRowBase
namespace Go.Proofs.Ytdikimddkhahdaa
open Go.RowKit
set_option linter.unusedVariables false
set_option linter.unusedSimpArgs false

theorem fewer_drop {l : List P7} {i : Int} {j : Nat} (hq : Que l) (hj : j < l.length) (hf : ¬ (l.getD j p70).fr = i) (h0 : ∀ p ∈ l, 0 ≤ p.am) : Fewer l (qDrop l (l.getD j p70).id) i := by
  obtain ⟨h1, h2⟩ := at_of hq.2 hj
  unfold qDrop
  rw [h1, h2]
  exact fewer_rest hj hf (h0 _ (getD_in hj))
theorem drop_sub {l : List P7} {x : Int} : ∀ p ∈ qDrop l x, p ∈ l := by
  intro p hp
  unfold qDrop at hp
  split at hp
  · unfold qRest at hp
    rcases List.mem_append.1 hp with h | h
    · exact List.mem_of_mem_take h
    · exact List.mem_of_mem_drop h
  · exact hp
/-- Who falls short stays so. -/
theorem less_who {b : Bks} {l m : List P7} {who : Int} (h : Fewer l m who) (h0 : 0 ≤ who) (hs : (shortL b l).any (fun i => (i : Int) == who) = true) : (shortL b m).any (fun i => (i : Int) == who) = true := by
  rw [List.any_eq_true] at hs ⊢
  obtain ⟨i, hi, he⟩ := hs
  have he' : (i : Int) = who := by simpa using he
  unfold shortL at hi ⊢
  rw [List.mem_filter] at hi
  subst he'
  exact ⟨i, List.mem_filter.2 ⟨hi.1, h.short hi.2⟩, he⟩
theorem any_take {l : List Nat} {k : Nat} {who : Int} (h : k < l.length) : ((l.take (k + 1)).any fun i => (i : Int) == who) = (((l.take k).any fun i => (i : Int) == who) || (((l.getD k 0 : Nat) : Int) == who)) := by
  rw [take_snocA l 0 k h, List.any_append]
  simp
theorem IGood.cell {w : World} {a : Option Addr} {n c : Nat} {l : List Nat} (h : IGood w a n c l) {k : Nat} (hk : k < n) : ∃ b o, a = some ⟨b, o, none⟩ ∧ w.cell? ⟨b, o + k, none⟩ = some (.int .i64 (l.getD k 0 : Nat)) := by
  have hl := h.len
  rcases h.sl.2.2 with h0 | ⟨b1, o1, ha, hc⟩
  · have : l.length = 0 := by rw [← intsL_len, h0]; rfl
    omega
  · have hk2 := hc k (by rw [intsL_len]; omega)
    rw [intsL_at (by omega)] at hk2
    exact ⟨b1, o1, ha, hk2⟩
theorem and65535_o (x : Int) : True := trivial

namespace Walk
theorem fitsLess_out (ah ad : Option Addr) (nh ch nd cd : Nat) (way : Int) (a : Option Addr) (n c : Nat) (who : Int) (w : World) (h : 30 < n ∨ who < 0 ∨ 2 < who ∨ 30 < nd) :
    Calls Try.prog 6 #[.slice ah nh ch, .int .i64 way, .slice a n c, .int .i64 who, .slice ad nd cd] w fun e w' => e = .returned (.bool true) ∧ Below w.heap.size w w' := by
  by_cases h1 : 30 < n
  · have h2 : (30 : Int) < (n : Int) := by omega
    clear h h1
    go_enter Try.func6, Try.ntmps6
    go_wp2
    go_ret
    exact ⟨rfl, Below.refl _ _⟩
  have h2 : decide ((30 : Int) < (n : Int)) = false := decide_eq_false (by omega)
  have h2' : (n : Int) ≤ 30 := by omega
  rcases Int.lt_or_le who 0 with h3 | h3
  · clear h h1
    go_enter Try.func6, Try.ntmps6
    go_wp2
    go_ret
    exact ⟨rfl, Below.refl _ _⟩
  have h4 : decide (who < 0) = false := decide_eq_false (by omega)
  rcases Int.lt_or_le 2 who with h5 | h5
  · clear h h1
    go_enter Try.func6, Try.ntmps6
    go_wp2
    go_ret
    exact ⟨rfl, Below.refl _ _⟩
  have h6 : decide (2 < who) = false := decide_eq_false (by omega)
  have h7 : (30 : Int) < (nd : Int) := by omega
  clear h h1
  go_enter Try.func6, Try.ntmps6
  go_wp2
  go_ret
  exact ⟨rfl, Below.refl _ _⟩

set_option maxHeartbeats 8000000 in
set_option maxRecDepth 100000 in
theorem fitsLess (ah : Option Addr) (nh ch : Nat) (zh : List Int) (way : Int) (a : Option Addr) (n c : Nat) (L : List P7) (who : Int) (ad : Option Addr) (nd cd : Nat) (zd : List Int) (w : World) (h0 : Walk.IsRow .i64 w ah nh ch zh) (hway : (Lit.int .i64 way).wf = true) (hp : PaysIn w a n c L) (hwho : (Lit.int .i64 who).wf = true) (hdr : Walk.IsRow .i64 w ad nd cd zd) :
    Calls Try.prog 6 #[.slice ah nh ch, .int .i64 way, .slice a n c, .int .i64 who, .slice ad nd cd] w fun e w' => e = .returned (.bool true) ∧ Below w.heap.size w w' := by
  by_cases hout : 30 < n ∨ who < 0 ∨ 2 < who ∨ 30 < nd
  · exact fitsLess_out ah ad nh ch nd cd way a n c who w hout
  have h1 : (n : Int) ≤ 30 := by omega
  have h2 : 0 ≤ who := by omega
  have h3 : who ≤ 2 := by omega
  have h4 : (nd : Int) ≤ 30 := by omega
  have h1' : decide ((30 : Int) < (n : Int)) = false := decide_eq_false (by omega)
  have h2' : decide (who < 0) = false := decide_eq_false (by omega)
  have h3' : decide (2 < who) = false := decide_eq_false (by omega)
  have h4' : decide ((30 : Int) < (nd : Int)) = false := decide_eq_false (by omega)
  obtain ⟨hsd, hcd, hmd⟩ := hdr.sl fun n hn => by
    simp only [Lit.wf, Bool.and_eq_true, decide_eq_true_eq] at hn
    exact i64_wf hn.1 hn.2
  have HD : Hid (Sl .i64 w ad nd (zd.take nd)) := hsd
  have h30 : n ≤ 30 := by omega
  clear hsd hcd hmd hdr hout
  obtain ⟨hsl, hcap, hmax⟩ := h0.sl fun n hn => by
    simp only [Lit.wf, Bool.and_eq_true, decide_eq_true_eq] at hn
    exact i64_wf hn.1 hn.2
  have S := some_any ah nh ch (zh.take nh) way w hsl (by omega)
  obtain ⟨kb, hkb⟩ : ∃ kb, someK (zh.take nh) (bitB way 1) (bitB way 2) (bitB way 4) = kb := ⟨_, rfl⟩
  rw [hkb] at S
  have GB : Hid (Good kb) := by rw [← hkb]; exact good_some _ _ _ _
  have H3 : Hid (kb.A.length = 3) := by rw [← hkb]; rfl
  have HG : Hid (PGood w a n c L) := hp.good
  have HL : Hid (n = L.length) := hp.good.len
  obtain ⟨hq, hlen, hall⟩ := rowed_ok (L := L) (by have := HL.out; omega)
  have HR : Hid ((rowedL L).length = n) := by show _ = _; rw [hlen, HL.out]
  have HAL : Hid (allB kb (rowedL L) = true) := rowed_all H3.out (by rw [hlen]; have := HL.out; omega) hall
  have RW := fun u (hu : Below w.heap.size w u) => rowed_any a n c L u (HG.out.below hu) (by omega)
  have K := known15
  clear hkb hsl h0 hlen hp
  go_enter Try.func6, Try.ntmps6
  go_wp2_with fail
  go_at_call 19
  refine S.mono ?_
  rintro e w1 ⟨yb, rfl, nb, bel⟩
  have B1 : Hid (Below w.heap.size w w1) := bel
  have N1 : Hid (Bk w1 yb kb) := nb.bk
  have R := RW w1 bel
  clear S nb bel RW
  go_wp2_with fail
  go_at_call 20
  refine R.mono ?_
  rintro e w2 ⟨ar, cr, rfl, gr, hb⟩
  have BW2 : Hid (Below w.heap.size w w2) := B1.out.trans (hb.mono B1.out.size)
  have N2 : Hid (Bk w2 yb kb) := N1.out.below hb
  have G2 : Hid (PGood w2 ar n cr (rowedL L)) := by rw [← HR.out]; exact gr
  rw [HR.out]
  clear hb R N1 B1 gr
  obtain ⟨aA, nA, cA, aB, nB, cB, aM, nM, cM, aP, nP, cP⟩ := yb
  obtain ⟨w3, hw3⟩ : ∃ w3, w3 = w2.alloc (.cells #[.slice aA nA cA, .slice aB nB cB, .slice aM nM cM, .slice aP nP cP] 26) := ⟨_, rfl⟩
  have BW3 : Hid (Below w.heap.size w w3) := by rw [hw3]; exact BW2.out.alloc BW2.out.size _
  have X3 : Hid (Box4 w3 w2.heap.size ⟨aA, nA, cA, aB, nB, cB, aM, nM, cM, aP, nP, cP⟩) := by rw [hw3]; exact Box4.new w2 ⟨aA, nA, cA, aB, nB, cB, aM, nM, cM, aP, nP, cP⟩ _ _
  have N3 : Hid (Bk w3 ⟨aA, nA, cA, aB, nB, cB, aM, nM, cM, aP, nP, cP⟩ kb) := by rw [hw3]; exact N2.out.below (box_below _ _)
  have G3 : Hid (PGood w3 ar n cr (rowedL L)) := by rw [hw3]; exact G2.out.below (box_below _ _)
  clear N2 G2
  obtain ⟨R0, hR0⟩ : ∃ R0, rowedL L = R0 := ⟨_, rfl⟩
  rw [hR0] at HR HAL G3 hq hall
  have HQ : Hid (Que R0) := hq
  have HRP : Hid (∀ p ∈ R0, RowedP n p) := fun p hp => by have := hall p hp; rwa [← HL.out] at this
  have F1 : Hid (∀ u, Below w3.heap.size w3 u → Calls Try.prog 16 #[.agg #[.slice aA nA cA, .slice aB nB cB, .slice aM nM cM, .slice aP nP cP], .slice ar n cr] u (IEnd u (shortL kb R0))) := fun u hu => short_good ⟨aA, nA, cA, aB, nB, cB, aM, nM, cM, aP, nP, cP⟩ kb ar n cr _ u (N3.out.below hu) GB.out (G3.out.below hu) HAL.out
  have F2 : Hid (∀ (am : Option Addr) (nm cm : Nat) (M : List P7) u, Below w3.heap.size w3 u → PGood u am nm cm M → (∀ p ∈ M, RowedP n p) → nm ≤ 40 → Calls Try.prog 16 #[.agg #[.slice aA nA cA, .slice aB nB cB, .slice aM nM cM, .slice aP nP cP], .slice am nm cm] u (IEnd u (shortL kb M))) := fun am nm cm M u hu hg hm hl => short_good ⟨aA, nA, cA, aB, nB, cB, aM, nM, cM, aP, nP, cP⟩ kb am nm cm _ u (N3.out.below hu) GB.out hg (rowed_all H3.out (by have := hg.len; omega) hm)
  clear hq hall HAL HG HL H3 N3 hR0
  go_upto_region 4 with fail
  rw [← hw3]
  clear hw3
  go_wp2
  go_loopw [13, 14, 15] (fun mv i _ wr => ∃ (k nm cm : Nat) (am : Option Addr) (M : List P7), k ≤ nd ∧ i = .int .i64 k ∧ mv = .slice am nm cm ∧ nm ≤ 40 ∧ Hid (PGood wr am nm cm M) ∧ Hid (Que M) ∧ Hid (∀ p ∈ M, RowedP n p) ∧ Hid (Fewer R0 M who) ∧ Hid (Below w3.heap.size w3 wr)) (fun _ i _ _ => nd - (intOf i).toNat)
  case atStart => exact ⟨0, n, cr, ar, R0, by omega, rfl, rfl, by omega, G3.out, HQ.out, HRP.out, Fewer.refl _ _, Below.refl _ _⟩
  case round =>
    obtain ⟨k, nm, cm, am, M, hk, rfl, rfl, hnm, GM, QM, RM, FM, HB⟩ := hrel
    have BWr : Hid (Below w.heap.size w wr) := BW3.out.trans (HB.out.mono BW3.out.size)
    have NM : Hid (nm = M.length) := GM.out.len
    by_cases hlt : k < nd
    · have k1 : (k : Int) < (nd : Int) := by omega
      by_cases hm0 : nm = 0
      · have m0 : decide ((0 : Int) < (nm : Int)) = false := decide_eq_false (by omega)
        have m2 : (nm : Int) ≤ 0 := by omega
        have BX : Hid (True) := trivial
        have HLW : Hid ((shortL kb R0).any (fun i => (i : Int) == who) = true → (shortL kb M).any (fun i => (i : Int) == who) = true) := fun h => less_who FM.out h2 h
        have F3 : Hid (∀ u, Below wr.heap.size wr u → Calls Try.prog 16 #[.agg #[.slice aA nA cA, .slice aB nB cB, .slice aM nM cM, .slice aP nP cP], .slice ar n cr] u (IEnd u (shortL kb R0))) := fun u hu => F1.out u (HB.out.trans (hu.mono HB.out.size))
        have F4 : Hid (∀ u, Below wr.heap.size wr u → Calls Try.prog 16 #[.agg #[.slice aA nA cA, .slice aB nB cB, .slice aM nM cM, .slice aP nP cP], .slice am nm cm] u (IEnd u (shortL kb M))) := fun u hu => F2.out am nm cm M u (HB.out.trans (hu.mono HB.out.size)) (GM.out.below hu) RM.out hnm
        have X5 : Hid (Box4 wr w2.heap.size ⟨aA, nA, cA, aB, nB, cB, aM, nM, cM, aP, nP, cP⟩) := X3.out.below HB.out
        have HSL : Hid ((shortL kb R0).length ≤ 6) := by show _ ≤ _; have := List.length_filter_le (shortB kb R0 kb.A.length) (List.range kb.A.length); have h6 := GB.out.n6; unfold shortL; simp at this ⊢; omega
        have HTL : Hid ((shortL kb M).length ≤ 6) := by show _ ≤ _; have := List.length_filter_le (shortB kb M kb.A.length) (List.range kb.A.length); have h6 := GB.out.n6; unfold shortL; simp at this ⊢; omega
        generalize shortL kb R0 = sh at F3 HLW HSL
        generalize shortL kb M = th at F4 HLW HTL
        clear F1 F2 FM
        go_wp2_with fail
        refine region_owes (L := [Fact.is (.agg #[.slice aA nA cA, .slice aB nB cB, .slice aM nM cM, .slice aP nP cP]),
          Fact.is (.slice ar n cr),
          Fact.ints sh,
          Fact.is (.agg #[.slice aA nA cA, .slice aB nB cB, .slice aM nM cM, .slice aP nP cP]),
          Fact.is (.slice am nm cm),
          Fact.ints th,
          Fact.ints sh,
          Fact.ints th])
          (T := [78, 79, 80, 81, 82, 83, 18, 19]) (by kernel_rfl) (by kernel_rfl) rfl ?owes ?_
        case owes =>
          refine .cons (owes_value fun q u lh => ⟨wants_free rfl, .agg #[.slice aA nA cA, .slice aB nB cB, .slice aM nM cM, .slice aP nP cP], by have e11 : q.tmps.getD 11 undef = .pointer (some ⟨w2.heap.size, 0, none⟩) := lh.old 11 rfl; obtain ⟨p0, p1, p2, p3⟩ := X5.out.below lh.below; simp [execOp, Act.eval, e11, p0, p1, p2, p3, go_sem], rfl⟩) ?_
          refine .cons (owes_move (.tmp 12) (.inl rfl) fun q u lh => ⟨wants_free rfl, lh.old 12 rfl⟩) ?_
          refine .cons (owes_call 16 Try.func16 (by kernel_rfl) (by kernel_rfl) [.tmp 78, .tmp 79] #[26, 27] rfl fun q u lh => ⟨wants_free rfl, by have e78 : q.tmps.getD 78 undef = .agg #[.slice aA nA cA, .slice aB nB cB, .slice aM nM cM, .slice aP nP cP] := lh.dep 0 rfl; have e79 : q.tmps.getD 79 undef = .slice ar n cr := lh.dep 1 rfl; show Calls Try.prog 16 #[q.tmps.getD 78 undef, q.tmps.getD 79 undef] u _; rw [e78, e79]; exact ints_fact (F3.out u lh.below)⟩) ?_
          refine .cons (owes_value fun q u lh => ⟨wants_free rfl, .agg #[.slice aA nA cA, .slice aB nB cB, .slice aM nM cM, .slice aP nP cP], by have e11 : q.tmps.getD 11 undef = .pointer (some ⟨w2.heap.size, 0, none⟩) := lh.old 11 rfl; obtain ⟨p0, p1, p2, p3⟩ := X5.out.below lh.below; simp [execOp, Act.eval, e11, p0, p1, p2, p3, go_sem], rfl⟩) ?_
          refine .cons (owes_move (.tmp 13) (.inl rfl) fun q u lh => ⟨wants_free rfl, lh.old 13 rfl⟩) ?_
          refine .cons (owes_call 16 Try.func16 (by kernel_rfl) (by kernel_rfl) [.tmp 81, .tmp 82] #[26, 27] rfl fun q u lh => ⟨wants_free rfl, by have e81 : q.tmps.getD 81 undef = .agg #[.slice aA nA cA, .slice aB nB cB, .slice aM nM cM, .slice aP nP cP] := lh.dep 3 rfl; have e82 : q.tmps.getD 82 undef = .slice am nm cm := lh.dep 4 rfl; show Calls Try.prog 16 #[q.tmps.getD 81 undef, q.tmps.getD 82 undef] u _; rw [e81, e82]; exact ints_fact (F4.out u lh.below)⟩) ?_
          refine .cons (owes_move (.tmp 80) (.inr rfl) fun q u lh => ⟨wants_free rfl, lh.dep 2 rfl⟩) ?_
          refine .cons (owes_move (.tmp 83) (.inr rfl) fun q u lh => ⟨wants_free rfl, lh.dep 5 rfl⟩) ?_
          exact .nil _
        intro q u hb hsz hdf hold hfact
        obtain ⟨a80, c80, e80, g80⟩ : (Fact.ints sh).1 u (q.tmps.getD 80 undef) := hfact 2 (by decide)
        obtain ⟨a83, c83, e83, g83⟩ : (Fact.ints th).1 u (q.tmps.getD 83 undef) := hfact 5 (by decide)
        obtain ⟨a18, c18, e18, g18⟩ : (Fact.ints sh).1 u (q.tmps.getD 18 undef) := hfact 6 (by decide)
        obtain ⟨a19, c19, e19, g19⟩ : (Fact.ints th).1 u (q.tmps.getD 19 undef) := hfact 7 (by decide)
        have B6 : Hid (Below w.heap.size w u) := BWr.out.trans (hb.mono BWr.out.size)
        have S6 : Hid (IGood u a18 sh.length c18 sh) := g18
        have T6 : Hid (IGood u a19 th.length c19 th) := g19
        obtain ⟨u6, rfl⟩ : ∃ z, z = u := ⟨u, rfl⟩
        obtain rfl := frame_puts hsz hdf [78, 79, 80, 81, 82, 83, 18, 19] hold [(78, Value.agg #[.slice aA nA cA, .slice aB nB cB, .slice aM nM cM, .slice aP nP cP]), (79, Value.slice ar n cr), (80, Value.slice a80 sh.length c80), (81, Value.agg #[.slice aA nA cA, .slice aB nB cB, .slice aM nM cM, .slice aP nP cP]), (82, Value.slice am nm cm), (83, Value.slice a83 th.length c83), (18, Value.slice a18 sh.length c18), (19, Value.slice a19 th.length c19)] ⟨hfact 0 (by decide), hfact 1 (by decide), e80, hfact 3 (by decide), hfact 4 (by decide), e83, e18, e19, trivial⟩ rfl
        clear hsz hdf hold hfact
        clear hb g80 g83 g18 g19 F3 F4 X5
        obtain ⟨sn, hsn⟩ : ∃ sn, sh.length = sn := ⟨_, rfl⟩
        obtain ⟨tn, htn⟩ : ∃ tn, th.length = tn := ⟨_, rfl⟩
        have hs6 := HSL.out
        have ht6 := HTL.out
        rw [hsn] at S6 hs6 ⊢
        rw [htn] at T6 ht6 ⊢
        have hs7 : (sn : Int) ≤ 6 := by omega
        have ht7 : (tn : Int) ≤ 6 := by omega
        clear hsn htn HSL HTL hs6 ht6
        simp only [puts, Act.put, List.setIfInBounds_toArray, List.set_cons_zero, List.set_cons_succ]
        go_wp2
        go_loop [16, 20] (fun bv i => ∃ k : Nat, k ≤ sn ∧ i = .int .i64 k ∧ bv = .bool ((sh.take k).any fun i => (i : Int) == who)) (fun _ i => sn - (intOf i).toNat)
        case atStart => exact ⟨0, by omega, rfl, rfl⟩
        case round =>
          obtain ⟨r, hr, rfl, rfl⟩ := hrel
          by_cases hrl : r < sn
          · have r1 : (r : Int) < (sn : Int) := by omega
            obtain ⟨b9, o9, rfl, c9⟩ := S6.out.cell hrl
            have HA : Hid (((sh.take (r + 1)).any fun i => (i : Int) == who) = (((sh.take r).any fun i => (i : Int) == who) || (((sh.getD r 0 : Nat) : Int) == who))) := any_take (by have := S6.out.len; omega)
            generalize sh.getD r 0 = sv at c9 HA
            generalize ((sh.take r).any fun i => (i : Int) == who) = bq at HA ⊢
            cases bq with
            | true =>
              go_wp2
              go_round
              case rel => exact ⟨r + 1, by omega, by go_num, by rw [HA.out]; rfl⟩
              case measure => simp [intOf]; omega
            | false =>
              go_wp2
              go_round
              case rel => exact ⟨r + 1, by omega, by go_num, by rw [HA.out]; simp⟩
              case measure => simp [intOf]; omega
          · obtain rfl : r = sn := by omega
            have HSE : Hid (sh.take r = sh) := List.take_of_length_le (by have := S6.out.len; omega)
            rw [HSE.out]
            generalize sh.any (fun i => (i : Int) == who) = was at HLW ⊢
            go_wp2
            go_loop [17, 21] (fun bv i => ∃ k : Nat, k ≤ tn ∧ i = .int .i64 k ∧ bv = .bool ((th.take k).any fun i => (i : Int) == who)) (fun _ i => tn - (intOf i).toNat)
            case atStart => exact ⟨0, by omega, rfl, rfl⟩
            case round =>
              obtain ⟨v, hv, rfl, rfl⟩ := hrel
              by_cases hvl : v < tn
              · have v1 : (v : Int) < (tn : Int) := by omega
                obtain ⟨b9, o9, rfl, c9⟩ := T6.out.cell hvl
                have HA : Hid (((th.take (v + 1)).any fun i => (i : Int) == who) = (((th.take v).any fun i => (i : Int) == who) || (((th.getD v 0 : Nat) : Int) == who))) := any_take (by have := T6.out.len; omega)
                generalize th.getD v 0 = sv at c9 HA
                generalize ((th.take v).any fun i => (i : Int) == who) = bq at HA ⊢
                cases bq with
                | true =>
                  go_wp2
                  go_round
                  case rel => exact ⟨v + 1, by omega, by go_num, by rw [HA.out]; rfl⟩
                  case measure => simp [intOf]; omega
                | false =>
                  go_wp2
                  go_round
                  case rel => exact ⟨v + 1, by omega, by go_num, by rw [HA.out]; simp⟩
                  case measure => simp [intOf]; omega
              · obtain rfl : v = tn := by omega
                have HTE : Hid (th.take v = th) := List.take_of_length_le (by have := T6.out.len; omega)
                rw [HTE.out]
                generalize th.any (fun i => (i : Int) == who) = is at HLW ⊢
                have KK := K u6
                cases was with
                | false =>
                  go_wp2_with fail
                  go_at_call 18
                  refine KK.mono ?_
                  rintro e w9 ⟨rfl, hb⟩
                  have B9 : Hid (Below w.heap.size w w9) := B6.out.trans (hb.mono B6.out.size)
                  clear hb KK
                  go_wp2
                  go_ret
                  exact ⟨rfl, B9.out⟩
                | true =>
                  obtain rfl : is = true := HLW.out rfl
                  go_wp2_with fail
                  go_at_call 18
                  refine KK.mono ?_
                  rintro e w9 ⟨rfl, hb⟩
                  have B9 : Hid (Below w.heap.size w w9) := B6.out.trans (hb.mono B6.out.size)
                  clear hb KK
                  go_wp2
                  go_ret
                  exact ⟨rfl, B9.out⟩
      · have m1 : (0 : Int) < (nm : Int) := by omega
        have m0 : ¬ (nm : Int) = 0 := by omega
        obtain ⟨bd, od, rfl, CD⟩ : ∃ b o, ad = some ⟨b, o, none⟩ ∧ wr.cell? ⟨b, o + k, none⟩ = some (.int .i64 ((zd.take nd).getD k 0)) := by
          have hl := HD.out.1
          rcases HD.out.2.2 with h0 | ⟨b1, o1, ha, hc⟩
          · rw [h0] at hl; simp at hl; omega
          · have hk := hc k (by omega)
            exact ⟨b1, o1, ha, (BWr.out.cell (p := ⟨b1, o1 + k, none⟩) (block_lt_of_cell hk)).trans hk⟩
        obtain ⟨u0, j, hu, huj, hjn, u1, u2⟩ := place_of ((zd.take nd).getD k 0) nm (by omega)
        generalize (zd.take nd).getD k 0 = xd at CD hu
        obtain ⟨bm, om, rfl, HC⟩ := GM.out.at hjn
        have C0 := HC j hjn
        have j1 : (j : Int) < (nm : Int) := by omega
        have HFD : Hid (¬ (M.getD j p70).fr = who → Fewer M (qDrop M (M.getD j p70).id) who) := fun hf => fewer_drop QM.out (by have := NM.out; omega) hf (fun p hp => by have := (RM.out p hp).2.2.2.2.1; omega)
        have HDL : Hid ((qDrop M (M.getD j p70).id).length + 1 = nm) := by
          show _ = _
          obtain ⟨h1, h2⟩ := at_of QM.out.2 (k := j) (by have := NM.out; omega)
          unfold qDrop
          rw [h1, if_pos rfl, h2, qRest_len (by have := NM.out; omega)]
          have := NM.out
          omega
        have HDR := fun (x : Int) (u : World) (hu : Below wr.heap.size wr u) => refDrop_any (some ⟨bm, om, none⟩) nm cm M x u (GM.out.below hu) (by omega)
        generalize M.getD j p70 = y at C0 HFD HDL
        obtain ⟨x0, x1, x2, x3, x4, x5, x6⟩ := y
        obtain ⟨p0, p1, p2, p3, p4, p5, p6⟩ := C0
        simp only [P7.id, P7.fr, P7.to, P7.am, P7.cl, P7.st, P7.ti] at p0 p1 p2 p3 p4 p5 p6 HFD HDL
        obtain ⟨w4, hw4⟩ : ∃ w4, w4 = wr.alloc (.cells #[.int .i64 x0, .int .i64 x1, .int .i64 x2, .int .i64 x3, .int .i64 x4, .int .i64 x5, .int .i64 x6] 31) := ⟨_, rfl⟩
        have B4 : Hid (Below w3.heap.size w3 w4) := by rw [hw4]; exact HB.out.alloc HB.out.size _
        have B4r : Hid (Below wr.heap.size wr w4) := by rw [hw4]; exact box_below _ _
        have C4 : Hid (At7 w4 wr.heap.size 0 (x0, x1, x2, x3, x4, x5, x6)) := by rw [hw4]; exact At7.new _ (x0, x1, x2, x3, x4, x5, x6) _ _
        clear HC hm0
        go_upto_region 9 with fail
        rw [← hw4]
        clear hw4 p0 p1 p2 p3 p4 p5 p6 CD hu huj
        obtain ⟨p0, p1, _, _, _, _, _⟩ := C4.out
        replace p0 : w4.cell? ⟨wr.heap.size, 0, none⟩ = some (.int .i64 x0) := p0
        replace p1 : w4.cell? ⟨wr.heap.size, 1, none⟩ = some (.int .i64 x1) := p1
        by_cases hf : x1 = who
        · subst hf
          go_wp2
          go_roundw
          case rel => exact ⟨k + 1, nm, cm, some ⟨bm, om, none⟩, M, by omega, by go_num, rfl, hnm, GM.out.below B4r.out, QM.out, RM.out, FM.out, B4.out⟩
          case measure => simp [intOf]; omega
        · have hf' : (x1 == who) = false := by simpa using hf
          have FD : Hid (Fewer R0 (qDrop M x0) who) := FM.out.trans (HFD.out hf)
          have D := HDR x0 w4 B4r.out
          go_wp2_with fail
          go_at_call 21
          refine D.mono ?_
          rintro e w5 ⟨a5, c5, rfl, g5, hb⟩
          have B5 : Hid (Below w3.heap.size w3 w5) := B4.out.trans (hb.mono B4.out.size)
          obtain ⟨n5, hn5⟩ : ∃ n5, (qDrop M x0).length = n5 := ⟨_, rfl⟩
          have hl5 := HDL.out
          rw [hn5] at g5 hl5
          rw [hn5]
          have G5 : Hid (PGood w5 a5 n5 c5 (qDrop M x0)) := g5
          have HN5 : Hid (n5 ≤ 40) := by show n5 ≤ 40; omega
          clear hb D g5 hn5 hl5 p0 p1 HDR
          go_wp2
          go_roundw
          case rel => exact ⟨k + 1, n5, c5, a5, qDrop M x0, by omega, by go_num, rfl, HN5.out, G5.out, QM.out.drop _, fun p hp => RM.out p (drop_sub p hp), FD.out, B5.out⟩
          case measure => simp [intOf]; omega
    · obtain rfl : k = nd := by omega
      have BX : Hid (True) := trivial
      have HLW : Hid ((shortL kb R0).any (fun i => (i : Int) == who) = true → (shortL kb M).any (fun i => (i : Int) == who) = true) := fun h => less_who FM.out h2 h
      have F3 : Hid (∀ u, Below wr.heap.size wr u → Calls Try.prog 16 #[.agg #[.slice aA nA cA, .slice aB nB cB, .slice aM nM cM, .slice aP nP cP], .slice ar n cr] u (IEnd u (shortL kb R0))) := fun u hu => F1.out u (HB.out.trans (hu.mono HB.out.size))
      have F4 : Hid (∀ u, Below wr.heap.size wr u → Calls Try.prog 16 #[.agg #[.slice aA nA cA, .slice aB nB cB, .slice aM nM cM, .slice aP nP cP], .slice am nm cm] u (IEnd u (shortL kb M))) := fun u hu => F2.out am nm cm M u (HB.out.trans (hu.mono HB.out.size)) (GM.out.below hu) RM.out hnm
      have X5 : Hid (Box4 wr w2.heap.size ⟨aA, nA, cA, aB, nB, cB, aM, nM, cM, aP, nP, cP⟩) := X3.out.below HB.out
      have HSL : Hid ((shortL kb R0).length ≤ 6) := by show _ ≤ _; have := List.length_filter_le (shortB kb R0 kb.A.length) (List.range kb.A.length); have h6 := GB.out.n6; unfold shortL; simp at this ⊢; omega
      have HTL : Hid ((shortL kb M).length ≤ 6) := by show _ ≤ _; have := List.length_filter_le (shortB kb M kb.A.length) (List.range kb.A.length); have h6 := GB.out.n6; unfold shortL; simp at this ⊢; omega
      generalize shortL kb R0 = sh at F3 HLW HSL
      generalize shortL kb M = th at F4 HLW HTL
      clear F1 F2 FM
      go_wp2_with fail
      refine region_owes (L := [Fact.is (.agg #[.slice aA nA cA, .slice aB nB cB, .slice aM nM cM, .slice aP nP cP]),
        Fact.is (.slice ar n cr),
        Fact.ints sh,
        Fact.is (.agg #[.slice aA nA cA, .slice aB nB cB, .slice aM nM cM, .slice aP nP cP]),
        Fact.is (.slice am nm cm),
        Fact.ints th,
        Fact.ints sh,
        Fact.ints th])
        (T := [78, 79, 80, 81, 82, 83, 18, 19]) (by kernel_rfl) (by kernel_rfl) rfl ?owes ?_
      case owes =>
        refine .cons (owes_value fun q u lh => ⟨wants_free rfl, .agg #[.slice aA nA cA, .slice aB nB cB, .slice aM nM cM, .slice aP nP cP], by have e11 : q.tmps.getD 11 undef = .pointer (some ⟨w2.heap.size, 0, none⟩) := lh.old 11 rfl; obtain ⟨p0, p1, p2, p3⟩ := X5.out.below lh.below; simp [execOp, Act.eval, e11, p0, p1, p2, p3, go_sem], rfl⟩) ?_
        refine .cons (owes_move (.tmp 12) (.inl rfl) fun q u lh => ⟨wants_free rfl, lh.old 12 rfl⟩) ?_
        refine .cons (owes_call 16 Try.func16 (by kernel_rfl) (by kernel_rfl) [.tmp 78, .tmp 79] #[26, 27] rfl fun q u lh => ⟨wants_free rfl, by have e78 : q.tmps.getD 78 undef = .agg #[.slice aA nA cA, .slice aB nB cB, .slice aM nM cM, .slice aP nP cP] := lh.dep 0 rfl; have e79 : q.tmps.getD 79 undef = .slice ar n cr := lh.dep 1 rfl; show Calls Try.prog 16 #[q.tmps.getD 78 undef, q.tmps.getD 79 undef] u _; rw [e78, e79]; exact ints_fact (F3.out u lh.below)⟩) ?_
        refine .cons (owes_value fun q u lh => ⟨wants_free rfl, .agg #[.slice aA nA cA, .slice aB nB cB, .slice aM nM cM, .slice aP nP cP], by have e11 : q.tmps.getD 11 undef = .pointer (some ⟨w2.heap.size, 0, none⟩) := lh.old 11 rfl; obtain ⟨p0, p1, p2, p3⟩ := X5.out.below lh.below; simp [execOp, Act.eval, e11, p0, p1, p2, p3, go_sem], rfl⟩) ?_
        refine .cons (owes_move (.tmp 13) (.inl rfl) fun q u lh => ⟨wants_free rfl, lh.old 13 rfl⟩) ?_
        refine .cons (owes_call 16 Try.func16 (by kernel_rfl) (by kernel_rfl) [.tmp 81, .tmp 82] #[26, 27] rfl fun q u lh => ⟨wants_free rfl, by have e81 : q.tmps.getD 81 undef = .agg #[.slice aA nA cA, .slice aB nB cB, .slice aM nM cM, .slice aP nP cP] := lh.dep 3 rfl; have e82 : q.tmps.getD 82 undef = .slice am nm cm := lh.dep 4 rfl; show Calls Try.prog 16 #[q.tmps.getD 81 undef, q.tmps.getD 82 undef] u _; rw [e81, e82]; exact ints_fact (F4.out u lh.below)⟩) ?_
        refine .cons (owes_move (.tmp 80) (.inr rfl) fun q u lh => ⟨wants_free rfl, lh.dep 2 rfl⟩) ?_
        refine .cons (owes_move (.tmp 83) (.inr rfl) fun q u lh => ⟨wants_free rfl, lh.dep 5 rfl⟩) ?_
        exact .nil _
      intro q u hb hsz hdf hold hfact
      obtain ⟨a80, c80, e80, g80⟩ : (Fact.ints sh).1 u (q.tmps.getD 80 undef) := hfact 2 (by decide)
      obtain ⟨a83, c83, e83, g83⟩ : (Fact.ints th).1 u (q.tmps.getD 83 undef) := hfact 5 (by decide)
      obtain ⟨a18, c18, e18, g18⟩ : (Fact.ints sh).1 u (q.tmps.getD 18 undef) := hfact 6 (by decide)
      obtain ⟨a19, c19, e19, g19⟩ : (Fact.ints th).1 u (q.tmps.getD 19 undef) := hfact 7 (by decide)
      have B6 : Hid (Below w.heap.size w u) := BWr.out.trans (hb.mono BWr.out.size)
      have S6 : Hid (IGood u a18 sh.length c18 sh) := g18
      have T6 : Hid (IGood u a19 th.length c19 th) := g19
      obtain ⟨u6, rfl⟩ : ∃ z, z = u := ⟨u, rfl⟩
      obtain rfl := frame_puts hsz hdf [78, 79, 80, 81, 82, 83, 18, 19] hold [(78, Value.agg #[.slice aA nA cA, .slice aB nB cB, .slice aM nM cM, .slice aP nP cP]), (79, Value.slice ar n cr), (80, Value.slice a80 sh.length c80), (81, Value.agg #[.slice aA nA cA, .slice aB nB cB, .slice aM nM cM, .slice aP nP cP]), (82, Value.slice am nm cm), (83, Value.slice a83 th.length c83), (18, Value.slice a18 sh.length c18), (19, Value.slice a19 th.length c19)] ⟨hfact 0 (by decide), hfact 1 (by decide), e80, hfact 3 (by decide), hfact 4 (by decide), e83, e18, e19, trivial⟩ rfl
      clear hsz hdf hold hfact
      clear hb g80 g83 g18 g19 F3 F4 X5
      obtain ⟨sn, hsn⟩ : ∃ sn, sh.length = sn := ⟨_, rfl⟩
      obtain ⟨tn, htn⟩ : ∃ tn, th.length = tn := ⟨_, rfl⟩
      have hs6 := HSL.out
      have ht6 := HTL.out
      rw [hsn] at S6 hs6 ⊢
      rw [htn] at T6 ht6 ⊢
      have hs7 : (sn : Int) ≤ 6 := by omega
      have ht7 : (tn : Int) ≤ 6 := by omega
      clear hsn htn HSL HTL hs6 ht6
      simp only [puts, Act.put, List.setIfInBounds_toArray, List.set_cons_zero, List.set_cons_succ]
      go_wp2
      go_loop [16, 20] (fun bv i => ∃ k : Nat, k ≤ sn ∧ i = .int .i64 k ∧ bv = .bool ((sh.take k).any fun i => (i : Int) == who)) (fun _ i => sn - (intOf i).toNat)
      case atStart => exact ⟨0, by omega, rfl, rfl⟩
      case round =>
        obtain ⟨r, hr, rfl, rfl⟩ := hrel
        by_cases hrl : r < sn
        · have r1 : (r : Int) < (sn : Int) := by omega
          obtain ⟨b9, o9, rfl, c9⟩ := S6.out.cell hrl
          have HA : Hid (((sh.take (r + 1)).any fun i => (i : Int) == who) = (((sh.take r).any fun i => (i : Int) == who) || (((sh.getD r 0 : Nat) : Int) == who))) := any_take (by have := S6.out.len; omega)
          generalize sh.getD r 0 = sv at c9 HA
          generalize ((sh.take r).any fun i => (i : Int) == who) = bq at HA ⊢
          cases bq with
          | true =>
            go_wp2
            go_round
            case rel => exact ⟨r + 1, by omega, by go_num, by rw [HA.out]; rfl⟩
            case measure => simp [intOf]; omega
          | false =>
            go_wp2
            go_round
            case rel => exact ⟨r + 1, by omega, by go_num, by rw [HA.out]; simp⟩
            case measure => simp [intOf]; omega
        · obtain rfl : r = sn := by omega
          have HSE : Hid (sh.take r = sh) := List.take_of_length_le (by have := S6.out.len; omega)
          rw [HSE.out]
          generalize sh.any (fun i => (i : Int) == who) = was at HLW ⊢
          go_wp2
          go_loop [17, 21] (fun bv i => ∃ k : Nat, k ≤ tn ∧ i = .int .i64 k ∧ bv = .bool ((th.take k).any fun i => (i : Int) == who)) (fun _ i => tn - (intOf i).toNat)
          case atStart => exact ⟨0, by omega, rfl, rfl⟩
          case round =>
            obtain ⟨v, hv, rfl, rfl⟩ := hrel
            by_cases hvl : v < tn
            · have v1 : (v : Int) < (tn : Int) := by omega
              obtain ⟨b9, o9, rfl, c9⟩ := T6.out.cell hvl
              have HA : Hid (((th.take (v + 1)).any fun i => (i : Int) == who) = (((th.take v).any fun i => (i : Int) == who) || (((th.getD v 0 : Nat) : Int) == who))) := any_take (by have := T6.out.len; omega)
              generalize th.getD v 0 = sv at c9 HA
              generalize ((th.take v).any fun i => (i : Int) == who) = bq at HA ⊢
              cases bq with
              | true =>
                go_wp2
                go_round
                case rel => exact ⟨v + 1, by omega, by go_num, by rw [HA.out]; rfl⟩
                case measure => simp [intOf]; omega
              | false =>
                go_wp2
                go_round
                case rel => exact ⟨v + 1, by omega, by go_num, by rw [HA.out]; simp⟩
                case measure => simp [intOf]; omega
            · obtain rfl : v = tn := by omega
              have HTE : Hid (th.take v = th) := List.take_of_length_le (by have := T6.out.len; omega)
              rw [HTE.out]
              generalize th.any (fun i => (i : Int) == who) = is at HLW ⊢
              have KK := K u6
              cases was with
              | false =>
                go_wp2_with fail
                go_at_call 18
                refine KK.mono ?_
                rintro e w9 ⟨rfl, hb⟩
                have B9 : Hid (Below w.heap.size w w9) := B6.out.trans (hb.mono B6.out.size)
                clear hb KK
                go_wp2
                go_ret
                exact ⟨rfl, B9.out⟩
              | true =>
                obtain rfl : is = true := HLW.out rfl
                go_wp2_with fail
                go_at_call 18
                refine KK.mono ?_
                rintro e w9 ⟨rfl, hb⟩
                have B9 : Hid (Below w.heap.size w w9) := B6.out.trans (hb.mono B6.out.size)
                clear hb KK
                go_wp2
                go_ret
                exact ⟨rfl, B9.out⟩

end Walk
end Go.Proofs.Ytdikimddkhahdaa
