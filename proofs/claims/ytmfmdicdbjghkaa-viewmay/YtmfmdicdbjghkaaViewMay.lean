/-
  view.May and the function in it.
-/
import Derived.Test.YtmfmdicdbjghkaaViewOthers
namespace Go.Proofs.Ytmfmdicdbjghkaa
open Go.RowKit Go.Maps
set_option linter.unusedVariables false
set_option linter.unusedSimpArgs false

set_option maxHeartbeats 4000000 in
theorem viewMayF_any (p : P7) (g1 g2 bA bO nA nO q u : Nat) (fA fO : Int → Int) (w : World) (h1 : w.cell? ⟨g1, 0, none⟩ = some (.map (some bA))) (h2 : w.cell? ⟨g2, 0, none⟩ = some (.map (some bO))) (hA : MapI w bA nA fA) (hO : MapI w bO nO fO) (hne : bO ≠ bA)
    (hw : IntKind.i64.wrap p.fr = p.fr) (hn : nA ≤ 1000000) (hq : fA p.fr = q) (hq1 : q ≤ 100000) (hu : fO p.fr = u) :
    Calls Try.prog 27 #[p.val, .pointer (some ⟨g1, 0, none⟩), .pointer (some ⟨g2, 0, none⟩)] w fun e w' => e = .returned (.bool (decide (q = 0) || decide (u = 0))) ∧ MapI w' bA (nA + 1) (upd fA p.fr ((q : Int) + 1)) ∧ w.grownBy w' (some bA) := by
  obtain ⟨x0, x1, x2, x3, x4, x5, x6⟩ := p
  simp only [P7.fr] at hw hq hu
  have ne1 := hA.ne h1
  have ne2 := hA.ne h2
  have hAlt := hA.lt
  have hb := box_below w (.cells #[.int .i64 x0, .int .i64 x1, .int .i64 x2, .int .i64 x3, .int .i64 x4, .int .i64 x5, .int .i64 x6] 34)
  have HA1 : Hid (MapI (w.alloc (.cells #[.int .i64 x0, .int .i64 x1, .int .i64 x2, .int .i64 x3, .int .i64 x4, .int .i64 x5, .int .i64 x6] 34)) bA nA fA) := hA.below hb
  have HO1 : Hid (MapI (w.alloc (.cells #[.int .i64 x0, .int .i64 x1, .int .i64 x2, .int .i64 x3, .int .i64 x4, .int .i64 x5, .int .i64 x6] 34)) bO nO fO) := hO.below hb
  have c1 := (hb.cell (p := ⟨g1, 0, none⟩) (block_lt_of_cell h1)).trans h1
  have c2 := (hb.cell (p := ⟨g2, 0, none⟩) (block_lt_of_cell h2)).trans h2
  have X1 : Hid (At7 (w.alloc (.cells #[.int .i64 x0, .int .i64 x1, .int .i64 x2, .int .i64 x3, .int .i64 x4, .int .i64 x5, .int .i64 x6] 34)) w.heap.size 0 (x0, x1, x2, x3, x4, x5, x6)) := At7.new w (x0, x1, x2, x3, x4, x5, x6) _ _
  have HG1 : Hid (w.grownBy (w.alloc (.cells #[.int .i64 x0, .int .i64 x1, .int .i64 x2, .int .i64 x3, .int .i64 x4, .int .i64 x5, .int .i64 x6] 34)) (some bA)) := World.grownBy_alloc _ _ _
  have HW : Hid (IntKind.i64.wrap x1 = x1) := hw
  have HQ : Hid (fA x1 = q) := hq
  have HU : Hid (fO x1 = u) := hu
  have HC : Hid ((w.alloc (.cells #[.int .i64 x0, .int .i64 x1, .int .i64 x2, .int .i64 x3, .int .i64 x4, .int .i64 x5, .int .i64 x6] 34)).cell? ⟨g1, 0, none⟩ = some (.map (some bA)) ∧ (w.alloc (.cells #[.int .i64 x0, .int .i64 x1, .int .i64 x2, .int .i64 x3, .int .i64 x4, .int .i64 x5, .int .i64 x6] 34)).cell? ⟨g2, 0, none⟩ = some (.map (some bO)) ∧ g1 ≠ bA ∧ g2 ≠ bA ∧ bO ≠ bA ∧ w.heap.size ≠ bA) := ⟨c1, c2, ne1, ne2, hne, by omega⟩
  have q1 : (q : Int) ≤ 100000 := by omega
  have HQ2 : Hid (IntKind.i64.wrap ((q : Int) + 1) = (q : Int) + 1) := i64_wf (by omega) (by omega)
  have HN : Hid (nA ≤ 1000000) := hn
  clear h1 h2 hA hO hne hw hq hu ne1 ne2 hAlt hb hn
  go_enter Try.func27, Try.ntmps27
  go_wp2_with (first
    | (at_lookup; refine wpList_look rfl _ _ rfl bA nA _ rfl HA1.out x1 rfl HW.out ?_; rw [HQ.out])
    | (at_mapUpdate; refine wpList_mapPut rfl _ _ _ rfl bA nA _ rfl HA1.out HN.out x1 ((q : Int) + 1) rfl HW.out rfl HQ2.out ?_)
    | go_in)
  intro w2 hm2 hg2
  obtain ⟨c1', c2', n1, n2, n3, n4⟩ := HC.out
  have d1 := hg2.cell c1' (by simpa using n1)
  have d2 := hg2.cell c2' (by simpa using n2)
  obtain ⟨z0, z1, z2, z3, z4, z5, z6⟩ := X1.out.grown hg2 (by simpa using n4)
  have M2 : Hid (MapI w2 bA (nA + 1) (upd fA x1 ((q : Int) + 1))) := hm2
  have O2 : Hid (MapI w2 bO nO fO) := HO1.out.grown hg2 (by simpa using n3)
  have G2 : Hid (w.grownBy w2 (some bA)) := HG1.out.trans hg2
  have HV : Hid (upd fA x1 ((q : Int) + 1) x1 = (q : Int) + 1) := by show _ = _; unfold upd; rw [if_pos rfl]
  simp only [P7.id, P7.fr, P7.to, P7.am, P7.cl, P7.st, P7.ti] at z0 z1 z2 z3 z4 z5 z6
  clear c1 c2 c1' c2' n1 n2 n3 n4 hm2 hg2 X1 HA1 HO1 HG1 HC
  have l1 := M2.out.look HW.out HV.out
  have l2 := O2.out.look HW.out HU.out
  by_cases hz : q = 0
  · subst hz
    go_wp2_with (at_lookup; refine wpList_look rfl _ _ rfl bA (nA + 1) _ rfl M2.out x1 rfl HW.out ?_; rw [HV.out])
    go_ret
    exact ⟨rfl, M2.out, G2.out⟩
  · have hz2 : (((q : Int) + 1) == 1) = false := by rw [beq_eq_false_iff_ne]; omega
    have HR : Hid (((u : Int) == 0) = (decide (q = 0) || decide (u = 0))) := by
      show _ = _
      rw [decide_eq_false hz, Bool.false_or, Bool.eq_iff_iff]
      simp
    clear hz
    go_wp2
    go_ret
    exact ⟨rt_bool HR.out, M2.out, G2.out⟩

/-- What stands while such goes on. -/
def MayI (g1 g2 bA bO nr : Nat) (R A : List P7) (u : World) : Prop :=
  u.cell? ⟨g1, 0, none⟩ = some (.map (some bA)) ∧ u.cell? ⟨g2, 0, none⟩ = some (.map (some bO)) ∧ MapI u bA A.length (fun f => cntF A f) ∧ MapI u bO nr (fun f => othF R f)

theorem mayI_grown {g1 g2 bA bO nr : Nat} {R A : List P7} {u u' : World} {r : Option Nat} {B : Nat} (h : MayI g1 g2 bA bO nr R A u) (hB : g1 < B ∧ g2 < B ∧ bA < B ∧ bO < B) (hr : ∀ x, r = some x → B ≤ x) (hg : u.grownBy u' r) : MayI g1 g2 bA bO nr R A u' := by
  obtain ⟨h1, h2, h3, h4⟩ := h
  obtain ⟨b1, b2, b3, b4⟩ := hB
  exact ⟨hg.cell h1 (fun e => by have := hr _ e.symm; simp at this; omega), hg.cell h2 (fun e => by have := hr _ e.symm; simp at this; omega), h3.grown hg (fun e => by have := hr _ e.symm; omega), h4.grown hg (fun e => by have := hr _ e.symm; omega)⟩

theorem mayI_step {g1 g2 bA bO nr k : Nat} {R : List P7} {u : World} (hk : k < R.length) (hm : R.length ≤ 100000) (hf : FrOk R) (hne : bO ≠ bA) (h : MayI g1 g2 bA bO nr R (R.take k) u) :
    Calls Try.prog 27 #[(R.getD k p70).val, .pointer (some ⟨g1, 0, none⟩), .pointer (some ⟨g2, 0, none⟩)] u fun e u' => e = .returned (.bool (mayK R (R.take k) (R.getD k p70))) ∧ MayI g1 g2 bA bO nr R (R.take (k + 1)) u' ∧ u.grownBy u' (some bA) := by
  obtain ⟨h1, h2, h3, h4⟩ := h
  have hl : (R.take k).length = k := by simp; omega
  rw [hl] at h3
  have hc := cntF_le (R.take k) (R.getD k p70).fr
  refine (viewMayF_any (R.getD k p70) g1 g2 bA bO k nr (cntF (R.take k) (R.getD k p70).fr) (othF R (R.getD k p70).fr) _ _ u h1 h2 h3 h4 hne (hf.at hk) (by omega) rfl (by omega) rfl).mono ?_
  rintro e u' ⟨rfl, m, hg⟩
  refine ⟨rfl, ⟨hg.cell h1 (by simpa using h3.ne h1), hg.cell h2 (by simpa using h3.ne h2), ?_, h4.grown hg (by simpa using hne)⟩, hg⟩
  rw [show (R.take (k + 1)).length = k + 1 by simp; omega]
  refine m.congr fun f => ?_
  rw [take_snoc7 R hk, cntF_snoc]
  unfold upd
  by_cases hf : f = (R.getD k p70).fr
  · rw [if_pos hf, if_pos hf.symm, hf]; simp
  · rw [if_neg hf, if_neg (fun e => hf e.symm)]; simp

set_option maxHeartbeats 4000000 in
theorem viewMay_made (a : Option Addr) (n c : Nat) (L : List P7) (t : Int) (w : World) (h : PGood w a n c L) (hm : n ≤ 100000) (hf : FrOk L) :
    Calls Try.prog 13 #[.slice a n c, .int .i64 t] w (PMade w (vMay L t)) := by
  have V := viewReady_any a n c L t w h hm
  have hlen : (vReady L t).length ≤ n := by have := sel_len (readyK t) L; have := h.len; show (sel (readyK t) L).length ≤ n; omega
  have hfr : FrOk (vReady L t) := hf.sel _
  unfold PEnd at V
  unfold vMay
  obtain ⟨R, hR⟩ : ∃ R, vReady L t = R := ⟨_, rfl⟩
  rw [hR] at V hlen hfr ⊢
  obtain ⟨nr, hnr⟩ : ∃ nr, R.length = nr := ⟨_, rfl⟩
  rw [hnr] at V hlen
  have T := fun u a1 c1 (g : PGood u a1 nr c1 R) => othersOf_any a1 nr c1 R u g (by omega) hfr
  have HF : Hid (FrOk R) := hfr
  have HN : Hid (R.length = nr) := hnr
  have hnm : nr ≤ 100000 := by omega
  have hmm := @run_makeMap Try.prog
  clear h hm hf hfr hR hnr hlen
  go_enter Try.func13, Try.ntmps13
  go_wp2_with fail
  go_at_call 9
  refine V.mono ?_
  rintro e w1 ⟨a1, c1, rfl, g1, n1, hb⟩
  have B1 : Hid (Below w.heap.size w w1) := hb
  have G1 : Hid (PGood w1 a1 nr c1 R) := g1
  have T1 := T w1 a1 c1 g1
  clear V T n1 g1 hb
  go_wp2_with fail
  go_at_call 26
  refine T1.mono ?_
  rintro e w2 ⟨rfl, m2, hb⟩
  obtain ⟨w5, hw5⟩ : ∃ w5, w5 = ((w2.alloc (.cells #[.map (some w1.heap.size)] 43)).alloc (.map #[] 0)).alloc (.cells #[.map (some (w2.heap.size + 1))] 43) := ⟨_, rfl⟩
  have hlt := m2.lt
  have B5' : Below w2.heap.size w2 w5 := by rw [hw5]; exact ((box_below _ _).alloc (box_below _ _).size _).alloc ((box_below _ _).alloc (box_below _ _).size _).size _
  have hs5 : w5.heap.size = w2.heap.size + 3 := by rw [hw5]; simp
  have I5 : MayI (w2.heap.size + 2) w2.heap.size (w2.heap.size + 1) w1.heap.size nr R [] w5 := by
    rw [hw5]
    refine ⟨?_, ?_, ?_, ?_⟩
    · have := cell_new ((w2.alloc (.cells #[.map (some w1.heap.size)] 43)).alloc (.map #[] 0)) (#[.map (some (w2.heap.size + 1))]) 43 (0, 0) 0
      rw [size_alloc, size_alloc] at this
      rw [this]
      rfl
    · have := cell_new w2 (#[.map (some w1.heap.size)]) 43 (0, 0) 0
      have b := ((Below.refl (w2.heap.size + 1) (w2.alloc (.cells #[.map (some w1.heap.size)] 43))).alloc (by simp) (.map #[] 0)).alloc (by simp) (.cells #[.map (some (w2.heap.size + 1))] 43)
      rw [b.cell (p := ⟨w2.heap.size, 0, none⟩) (by simp), this]
      rfl
    · have := (MapI.new (w2.alloc (.cells #[.map (some w1.heap.size)] 43))).below (box_below _ (.cells #[.map (some (w2.heap.size + 1))] 43))
      rw [size_alloc] at this
      exact this.congr fun x => by simp [cntF_nil]
    · have := m2.below B5'
      rw [hw5] at this
      exact this
  have S := suchMay (w2.heap.size + 2) w2.heap.size (some (w2.heap.size + 1)) (mayK R) (MayI (w2.heap.size + 2) w2.heap.size (w2.heap.size + 1) w1.heap.size nr R) a1 nr c1 R w5 ((G1.out.below hb).below B5') hnm
    (fun x hx => by cases hx; omega)
    (fun h0 x hx => by
      obtain ⟨bb, off, hab, hcc⟩ := G1.out.at h0
      rw [hx] at hab
      cases hab
      have hbb : bb < w1.heap.size := block_lt_of_cell (hcc 0 h0).1
      have := hb.size
      simp
      omega)
    (fun A u u' r hr hi hg => mayI_grown hi ⟨by omega, by omega, by omega, by omega⟩ hr hg) I5
    (fun k u hk _ hi => mayI_step (by have := HN.out; omega) (by have := HN.out; omega) HF.out (by omega) hi)
  have B5 : Hid (Below w.heap.size w w5) := B1.out.trans ((hb.trans (B5'.mono hb.size)).mono B1.out.size)
  have HW : Hid (w5 = _) := hw5
  have hz : w1.heap.size ≤ w2.heap.size := hb.size
  have HZ : Hid (w.heap.size ≤ w2.heap.size ∧ w5.heap.size = w2.heap.size + 3) := ⟨by have := B1.out.size; omega, hs5⟩
  rw [hw5] at S
  clear m2 hb hlt B5' hs5 I5 G1 hw5 T1 HF hz B1
  go_wp2_with fail
  go_at_call 22
  refine S.mono ?_
  rintro e w6 ⟨⟨v6, rfl, o6, hg⟩, -⟩
  rw [← HW.out] at o6 hg
  have hzz := HZ.out
  have R6 : Hid (PMade w (sel (mayK R) R) (.returned v6) w6) := ⟨v6, rfl, own_base o6 (by omega), B5.out.trans ⟨hg.os, hg.tape, hg.output, hg.size, fun i hi => hg.block i (by omega) (by simp; omega)⟩⟩
  clear o6 hg S hzz HZ HW B5
  go_wp2
  go_ret
  exact R6.out
theorem viewMay_any (a : Option Addr) (n c : Nat) (L : List P7) (t : Int) (w : World) (h : PGood w a n c L) (hm : n ≤ 100000) (hf : FrOk L) :
    Calls Try.prog 13 #[.slice a n c, .int .i64 t] w (PEnd w (vMay L t)) := (viewMay_made a n c L t w h hm hf).mono fun _ _ h => h.end

end Go.Proofs.Ytmfmdicdbjghkaa
