/-
  girolaw6.LogBytes.
-/
import Derived.Test.YtdecdjjknbbolaaLogPair
import Derived.Test.YtdecdjjknbbolaaKnown6
import Derived.Test.YtdecdjjknbbolaaArgs
namespace Go.Proofs.Ytdecdjjknbbolaa
open Go.RowKit
set_option linter.unusedVariables false
set_option linter.unusedSimpArgs false

set_option maxRecDepth 100000 in
set_option maxHeartbeats 16000000 in
theorem bytes_main (a0 : Option Addr) (n0 c0 : Nat) (za : List Int) (a1 : Option Addr) (n1 c1 : Nat) (zb : List Int) (a2 : Option Addr) (n2 c2 : Nat) (fresh : List Int) (w : World)
    (hA : Sl .u8 w a0 n0 za) (mA : a0 = none → c0 = 0) (hB : Sl .u8 w a1 n1 zb) (mB : a1 = none → c1 = 0) (hF : Sl .u8 w a2 n2 fresh) (mF : a2 = none → c2 = 0) (l0 : n0 ≤ 300) (l1 : n1 ≤ 300) (l2 : n2 ≤ 100) :
    Calls Try.prog 4 #[.slice a0 n0 c0, .slice a1 n1 c1, .slice a2 n2 c2] w fun e w' => e = .returned (.bool true) ∧ Below w.heap.size w w' := by
  have HA : Hid ((Sl .u8 w a0 n0 za ∧ (a0 = none → c0 = 0)) ∧ (Sl .u8 w a1 n1 zb ∧ (a1 = none → c1 = 0)) ∧ (Sl .u8 w a2 n2 fresh ∧ (a2 = none → c2 = 0))) := ⟨⟨hA, mA⟩, ⟨hB, mB⟩, ⟨hF, mF⟩⟩
  clear hA mA hB mB hF mF
  have i0 : (n0 : Int) ≤ 300 := by omega
  have i1 : (n1 : Int) ≤ 300 := by omega
  have i2 : (n2 : Int) ≤ 100 := by omega
  go_enter Try.func4, Try.ntmps4
  go_wp2_with fail
  go_at_call 8
  refine (new_well 1000 w (by decide) (by decide)).mono ?_
  rintro e w1 ⟨rfl, d1, k1⟩
  have hb1 := (deck_lt d1).1
  go_wp2_with fail
  go_at_call 17
  refine (rnew_well 1000 w1 (by decide) (by decide)).mono ?_
  rintro e w2 ⟨rfl, d2, k2⟩
  have hb2 := (rdeck_lt d2).1
  have H2 : Hid (Half w w2 w.heap.size w1.heap.size (D.new 1000) (D.new 1000)) :=
    ⟨(· = w.heap.size), (· = w1.heap.size), d1.below k2, d2, fun j hj => by subst hj; omega, fun j hj => by subst hj; omega, fun j hj hs => by omega, k1.trans (k2.mono (by omega))⟩
  obtain ⟨b1, hB1⟩ : ∃ b, w.heap.size = b := ⟨_, rfl⟩
  obtain ⟨b2, hB2⟩ : ∃ b, w1.heap.size = b := ⟨_, rfl⟩
  rw [hB1, hB2] at H2
  rw [hB1, hB2]
  clear hB1 hB2 d1 d2 k1 k2 hb1 hb2
  obtain ⟨da, hda⟩ : ∃ x, ((D.new 1000).append 0 za).2 = x := ⟨_, rfl⟩
  obtain ⟨db, hdb⟩ : ∃ x, (da.append 1 zb).2 = x := ⟨_, rfl⟩
  obtain ⟨d, hd⟩ : ∃ x, db.sync.2 = x := ⟨_, rfl⟩
  have oa : da.ops ≤ 1 := by have := append_ops (D.new 1000) 0 za; rw [hda] at this; simpa [D.new] using this
  have ob : db.ops ≤ 2 := by have := append_ops da 1 zb; rw [hdb] at this; omega
  have od : d.ops ≤ 3 := by have := sync_ops db; rw [hd] at this; omega
  have HD : Hid (((D.new 1000).append 0 za).2 = da ∧ (da.append 1 zb).2 = db ∧ db.sync.2 = d) := ⟨hda, hdb, hd⟩
  clear hda hdb hd
  have A := half_append H2.out 0 a0 n0 c0 za HA.out.1.1 HA.out.1.2 (by omega) (by simp [D.new])
  rw [HD.out.1] at A
  go_wp2_with fail
  go_at_call 18
  refine A.mono ?_
  rintro e w3 ⟨rfl, h3⟩
  clear A H2
  have A := half_append h3 1 a1 n1 c1 zb HA.out.2.1.1 HA.out.2.1.2 (by omega) (by omega)
  rw [HD.out.2.1] at A
  go_wp2_with fail
  go_at_call 18
  refine A.mono ?_
  rintro e w4 ⟨rfl, h4⟩
  clear A h3
  have A := half_sync h4 (by omega)
  rw [HD.out.2.2] at A
  go_wp2_with fail
  go_at_call 19
  refine A.mono ?_
  rintro e w5 ⟨rfl, h5⟩
  clear A h4
  have A := half_rappend h5 0 a0 n0 c0 za HA.out.1.1 HA.out.1.2 (by omega) (by simp [D.new])
  rw [HD.out.1] at A
  go_wp2_with fail
  go_at_call 20
  refine A.mono ?_
  rintro e w6 ⟨rfl, h6⟩
  clear A h5
  have A := half_rappend h6 1 a1 n1 c1 zb HA.out.2.1.1 HA.out.2.1.2 (by omega) (by omega)
  rw [HD.out.2.1] at A
  go_wp2_with fail
  go_at_call 20
  refine A.mono ?_
  rintro e w7 ⟨rfl, h7⟩
  clear A h6
  have A := half_rsync h7 (by omega)
  rw [HD.out.2.2] at A
  go_wp2_with fail
  go_at_call 21
  refine A.mono ?_
  rintro e w8 ⟨rfl, h8⟩
  clear A h7
  have LK := looks_half h8
  have H8 : Hid (Half w w8 b1 b2 d d) := h8
  clear h8
  go_wp2_with fail
  go_at_call 22
  refine LK.mono ?_
  rintro e w9 ⟨rfl, k9⟩
  have H9 : Hid (Half w w9 b1 b2 d d) := H8.out.grow k9
  clear LK H8 k9 HD oa ob
  obtain ⟨r, hr⟩ : ∃ r, d.opened fresh = r := ⟨_, rfl⟩
  obtain ⟨q, d', og, snap, rows⟩ := r
  have hops : d'.ops ≤ 6 := by have := opened_ops d fresh; rw [hr] at this; simp only at this; omega
  cases og with
  | none =>
    have HR : Hid (d.opened fresh = (q, d', none, snap, rows)) := hr
    have A := half_open_none H9.out a2 n2 c2 fresh HA.out.2.2.1 HA.out.2.2.2 (by omega) (by omega) q d' snap rows hr
    clear hr
    go_wp2_with fail
    go_at_call 9
    refine A.mono ?_
    rintro e wa ⟨rfl, ha⟩
    have B := halfM_open_none ha a2 n2 c2 fresh HA.out.2.2.1 HA.out.2.2.2 (by omega) (by omega) q d' snap rows HR.out
    clear A ha
    go_wp2_with fail
    go_at_call 23
    refine B.mono ?_
    rintro e wb ⟨rfl, hb⟩
    have T1 : (convert 26 9 (.slice none 0 0)).run Try.prog wb = .ok (.string (strOfNums [])) wb := (Sl.nil .u8 wb none).text (P := Try.prog) (cap := 0) 26 9 5 Try.underlying26 Try.underlying5 Try.underlying9
    have SM := ref_same none 0 0 [] none 0 0 [] wb ⟨rfl, fun z hz => by simp at hz, .inl rfl⟩ ⟨rfl, fun z hz => by simp at hz, .inl rfl⟩ (by omega) (by omega)
    rw [decide_eq_true rfl] at SM
    have HB : Hid (Half w wb b1 b2 d' d') := hb
    clear B hb
    go_wp2_with fail
    go_at_call 16
    refine SM.mono ?_
    rintro e wc ⟨rfl, kc⟩
    have LK := looks_half (HB.out.grow kc)
    have BC : Hid (Below w.heap.size w wc) := (HB.out.grow kc).below
    clear SM kc T1 HB
    go_wp2_with fail
    go_at_call 22
    refine LK.mono ?_
    rintro e wd ⟨rfl, kd⟩
    have BD : Hid (Below w.heap.size w wd) := BC.out.trans (kd.mono BC.out.size)
    clear LK kd
    go_wp2_with fail
    go_at_call 13
    refine (known_true wd).mono ?_
    rintro e wz ⟨rfl, bz⟩
    have BZ : Hid (Below w.heap.size w wz) := BD.out.trans (bz.mono BD.out.size)
    clear bz
    go_wp2
    go_ret
    exact ⟨rfl, BZ.out⟩
  | some g =>
    have HR : Hid (d.opened fresh = (q, d', some g, snap, rows)) := hr
    have hbd := opened_bounds H9.out.ok1 fresh hr
    have HG : Hid (0 ≤ g.gen ∧ g.gen ≤ 4611686018427387904 ∧ (g.side = 0 ∨ g.side = 1) ∧ g.n ≤ 200000) := ⟨hbd.2.1, hbd.2.2.1, hbd.2.2.2.1, hbd.2.2.2.2.1⟩
    have hrows : rows.length ≤ 200000 := hbd.2.2.2.2.2
    have A := half_open_some H9.out a2 n2 c2 fresh HA.out.2.2.1 HA.out.2.2.2 (by omega) (by omega) q d' g snap rows hr
    clear hr hbd
    go_wp2_with fail
    go_at_call 9
    refine A.mono ?_
    rintro e wa ⟨p1, x1, e1, x2, e2, rfl, ha, sa, ra⟩
    have B := halfL_open_some ha a2 n2 c2 fresh HA.out.2.2.1 HA.out.2.2.2 (by omega) (by omega) q d' g snap rows HR.out
    have HSA : Hid (SlB wa w9.heap.size x1 snap.length e1 snap ∧ RowsB wa w9.heap.size x2 rows.length e2 rows) := ⟨sa, ra⟩
    clear A ha sa ra
    go_wp2_with fail
    go_at_call 23
    refine B.mono ?_
    rintro e wb ⟨p2, y1, f1, y2, f2, rfl, hb, sb, rb, ob⟩
    have SA2 := HSA.out.1.only ob (fun j hj => hj)
    have RA2 := HSA.out.2.only ob (fun j hj => hj)
    have T1 : (convert 26 9 (.slice x1 snap.length e1)).run Try.prog wb = .ok (.string (strOfNums snap)) wb := SA2.sl.text (P := Try.prog) (cap := e1) 26 9 5 Try.underlying26 Try.underlying5 Try.underlying9
    have T2 : (convert 26 9 (.slice y1 snap.length f1)).run Try.prog wb = .ok (.string (strOfNums snap)) wb := sb.sl.text (P := Try.prog) (cap := f1) 26 9 5 Try.underlying26 Try.underlying5 Try.underlying9
    have SM := ref_same x2 rows.length e2 rows y2 rows.length f2 rows wb RA2.rowsIn rb.rowsIn (by omega) (by omega)
    rw [decide_eq_true rfl] at SM
    have HB : Hid (PairL w wb b1 p1 d' g b2 p2 d' g) := hb
    clear B hb sb rb ob SA2 RA2 HSA
    go_wp2_with fail
    go_at_call 16
    refine SM.mono ?_
    rintro e wc ⟨rfl, kc⟩
    have HC : Hid (PairL w wc b1 p1 d' g b2 p2 d' g) := HB.out.grow kc
    clear SM kc T1 T2 HB
    have ak := add_keeps d' g fresh
    obtain ⟨r1, hr1⟩ : ∃ r, d'.add g fresh = r := ⟨_, rfl⟩
    rw [hr1] at ak
    obtain ⟨qa, dd, gg⟩ := r1
    have HAD : Hid (d'.add g fresh = (qa, dd, gg) ∧ gg.gen = g.gen ∧ gg.side = g.side) := ⟨hr1, ak.1, ak.2.1⟩
    have hops2 : dd.ops ≤ 8 := by have := ak.2.2; simp only at this; omega
    have P := pair_add HC.out a2 n2 c2 fresh HA.out.2.2.1 HA.out.2.2.2 (by omega) (by omega) (by have := HG.out.2.2.2; omega)
    rw [HAD.out.1] at P
    clear hr1 ak
    go_wp2_with fail
    go_at_call 10
    refine P.mono ?_
    rintro e wd ⟨rfl, hd⟩
    have P2 := pair_radd hd a2 n2 c2 fresh HA.out.2.2.1 HA.out.2.2.2 (by omega) (by omega) (by have := HG.out.2.2.2; omega)
    rw [HAD.out.1] at P2
    clear P hd HC
    go_wp2_with fail
    go_at_call 24
    refine P2.mono ?_
    rintro e we ⟨rfl, he⟩
    have HE : Hid (PairL w we b1 p1 dd gg b2 p2 dd gg) := he
    clear P2 he
    have P := pair_save HE.out a2 n2 c2 fresh HA.out.2.2.1 HA.out.2.2.2 (by omega) (by omega) (by rw [HAD.out.2.1]; exact HG.out.1) (by rw [HAD.out.2.1]; exact HG.out.2.1) (by rw [HAD.out.2.2]; exact HG.out.2.2.1)
    obtain ⟨r2, hr2⟩ : ∃ r, dd.resave gg fresh = r := ⟨_, rfl⟩
    obtain ⟨qs, ds, gs⟩ := r2
    rw [hr2] at P
    have HRS : Hid (dd.resave gg fresh = (qs, ds, gs)) := hr2
    clear hr2
    go_wp2_with fail
    go_at_call 11
    refine P.mono ?_
    rintro e wf ⟨rfl, hf⟩
    have P2 := pair_rsave hf a2 n2 c2 fresh HA.out.2.2.1 HA.out.2.2.2 (by omega) (by omega) (by rw [HAD.out.2.1]; exact HG.out.1) (by rw [HAD.out.2.1]; exact HG.out.2.1) (by rw [HAD.out.2.2]; exact HG.out.2.2.1)
    rw [HRS.out] at P2
    clear P hf HE
    go_wp2_with fail
    go_at_call 25
    refine P2.mono ?_
    rintro e wg ⟨rfl, hg⟩
    have LK := looks_half hg.half
    have BG : Hid (Below w.heap.size w wg) := hg.blw
    clear P2 hg
    go_wp2_with fail
    go_at_call 22
    refine LK.mono ?_
    rintro e wh ⟨rfl, kh⟩
    have BH : Hid (Below w.heap.size w wh) := BG.out.trans (kh.mono BG.out.size)
    clear LK kh
    go_wp2_with fail
    go_at_call 13
    refine (known_true wh).mono ?_
    rintro e wz ⟨rfl, bz⟩
    have BZ : Hid (Below w.heap.size w wz) := BH.out.trans (bz.mono BH.out.size)
    clear bz
    go_wp2
    go_ret
    exact ⟨rfl, BZ.out⟩

set_option maxRecDepth 100000 in
set_option maxHeartbeats 4000000 in
theorem Walk.logBytes (a0 : Option Addr) (len0 cap0 : Nat) (z0 : List Int) (a1 : Option Addr) (len1 cap1 : Nat) (z1 : List Int) (a2 : Option Addr) (len2 cap2 : Nat) (z2 : List Int) (w : World)
    (w0 : Walk.IsRow .u8 w a0 len0 cap0 z0) (w1 : Walk.IsRow .u8 w a1 len1 cap1 z1) (w2 : Walk.IsRow .u8 w a2 len2 cap2 z2) :
    Calls Try.prog 4 #[.slice a0 len0 cap0, .slice a1 len1 cap1, .slice a2 len2 cap2] w fun e w' => e = .returned (.bool true) ∧ Below w.heap.size w w' := by
  obtain ⟨hA, hc0, hm0⟩ := w0.sl Walk.wf_u8'
  obtain ⟨hB, hc1, hm1⟩ := w1.sl Walk.wf_u8'
  obtain ⟨hC, hc2, hm2⟩ := w2.sl Walk.wf_u8'
  by_cases h1 : (300 : Int) < len0
  · go_enter Try.func4, Try.ntmps4
    go_wp2
    go_ret
    exact ⟨rfl, Below.refl _ _⟩
  by_cases h2 : (300 : Int) < len1
  · go_enter Try.func4, Try.ntmps4
    go_wp2
    go_ret
    exact ⟨rfl, Below.refl _ _⟩
  by_cases h3 : (100 : Int) < len2
  · go_enter Try.func4, Try.ntmps4
    go_wp2
    go_ret
    exact ⟨rfl, Below.refl _ _⟩
  exact bytes_main a0 len0 cap0 _ a1 len1 cap1 _ a2 len2 cap2 _ w hA w0.none hB w1.none hC w2.none (by omega) (by omega) (by omega)

end Go.Proofs.Ytdecdjjknbbolaa
