/-
  girolaw6.LogFull.
-/
import Derived.Test.YtdecdjjknbbolaaKnown6
import Derived.Test.YtdecdjjknbbolaaLogSpine
import Derived.Test.YtdecdjjknbbolaaRecMany
import Derived.Test.YtdecdjjknbbolaaRefRec
import Derived.Test.YtdecdjjknbbolaaRefScan
namespace Go.Proofs.Ytdecdjjknbbolaa
open Go.RowKit
set_option linter.unusedVariables false
set_option linter.unusedSimpArgs false

/-- What is kept behind some rows. -/
structure Fulls (w wr : World) (b l : Nat) (room : Int) (snap : List Int) (v : Value) (vs : List Value) (R : List (List Int)) (d : D) (left : Int) (k : Nat) : Prop where
  our : Our w wr (SpX v) b l d ⟨1, 0, R.length, false⟩
  held : Held d 1 0 snap R []
  spn : Spn w wr v vs R
  dn : d.dn = false
  rm : d.room = room
  ar : d.ar = false
  ops : d.ops ≤ 2 * k + 3
  len : R.length ≤ k
  lft : left = room - snap.length - 10 - (encR R).length

theorem encR_snoc_len (R : List (List Int)) (z : List Int) : (encR (R ++ [z])).length = (encR R).length + z.length + 2 := by rw [encR_one, List.length_append, recS_length]; omega

set_option maxRecDepth 100000 in
set_option maxHeartbeats 16000000 in
theorem full_main (room : Int) (a1 : Option Addr) (n1 c1 : Nat) (snap : List Int) (a2 : Option Addr) (n2 c2 : Nat) (A : Nat → Option Addr) (L C : Nat → Nat) (Z : Nat → List Int) (a3 : Option Addr) (n3 c3 : Nat) (big : List Int) (w : World)
    (hS1 : Sl .u8 w a1 n1 snap) (m1 : a1 = none → c1 = 0) (hR : RowsAt w a2 n2 A L C Z) (hS3 : Sl .u8 w a3 n3 big) (m3 : a3 = none → c3 = 0) (r0 : 0 ≤ room) (r1 : room ≤ 300) (l1 : n1 ≤ 100) (l2 : n2 ≤ 20) (l3 : n3 ≤ 400) (hfit : (n1 : Int) + 10 ≤ room) :
    Calls Try.prog 6 #[.int .i64 room, .slice a1 n1 c1, .slice a2 n2 c2, .slice a3 n3 c3] w fun e w' => e = .returned (.bool true) ∧ Below w.heap.size w w' := by
  obtain ⟨j0, hj, hy0, hy1, hy2⟩ := info_parts infoRow
  have hn1 := hS1.1
  have hn3 := hS3.1
  obtain ⟨d1, o1, h1, dn1, rm1, ar1, op1⟩ := held_new room snap (by omega) (by omega)
  have HP : Hid ((D.new room).opened snap = (0, d1, some ⟨1, 0, 0, false⟩, snap, []) ∧ Held d1 1 0 snap [] [] ∧ d1.dn = false ∧ d1.room = room ∧ d1.ar = false ∧ d1.ops = 3) := ⟨o1, h1, dn1, rm1, ar1, op1⟩
  have HA : Hid (Sl .u8 w a1 n1 snap ∧ (a1 = none → c1 = 0) ∧ RowsAt w a2 n2 A L C Z ∧ Sl .u8 w a3 n3 big ∧ (a3 = none → c3 = 0) ∧ n1 = snap.length ∧ n3 = big.length) := ⟨hS1, m1, hR, hS3, m3, hn1, hn3⟩
  clear o1 h1 dn1 rm1 ar1 op1 hS1 m1 hR hS3 m3 hn1 hn3
  have i0 : ¬ room < 0 := by omega
  have i1 : (n1 : Int) ≤ 100 := by omega
  have i2 : (n2 : Int) ≤ 20 := by omega
  have i3 : (n3 : Int) ≤ 400 := by omega
  have k1 : IntKind.i64.wrap ((n1 : Int) + 10) = (n1 : Int) + 10 := i64_wf (by omega) (by omega)
  have k2 : IntKind.i64.wrap (room - (n1 : Int)) = room - (n1 : Int) := i64_wf (by omega) (by omega)
  have k3 : IntKind.i64.wrap (room - (n1 : Int) - 10) = room - (n1 : Int) - 10 := i64_wf (by omega) (by omega)
  go_enter Try.func6, Try.ntmps6
  go_wp2_with fail
  go_at_call 8
  refine (our_new room w w No (fun j hj => hj.elim) (Below.refl _ _) r0 (by omega)).mono ?_
  rintro e w1 ⟨rfl, D1, b1⟩
  obtain ⟨b, hb⟩ : ∃ b, w.heap.size = b := ⟨_, rfl⟩
  have HB : Hid (w.heap.size = b) := hb
  rw [hb] at D1
  rw [hb]
  have D2 : Hid (OurD w w1 No b (D.new room)) := D1
  have S1 : Hid (Sl .u8 w1 a1 n1 snap) := HA.out.1.below D1.blw
  have BW1 : Hid (∀ x, snap ≠ [] → a1 = some x → x.block < w.heap.size) := fun x h0 hx => slB_lt HA.out.1 h0 x hx
  clear hb b1 D1
  go_wp2_with fail
  go_at_call 9
  refine (our_open D2.out a1 n1 c1 snap S1.out HA.out.2.1 (fun h0 x hx => .inl (BW1.out x h0 hx)) (by omega) (by simp [D.new]) d1 ⟨1, 0, 0, false⟩ snap [] HP.out.1).mono ?_
  rintro e w2 ⟨l, y1, e1, y2, e2, rfl, O2, oo2, s2, r2⟩
  have HO : Hid (Fulls w w2 b l room snap (.slice none 0 0) [] [] d1 (room - n1 - 10) 0) := by
    refine ⟨O2.less (fun j hj => by simp [SpX, Value.ownBlock] at hj), HP.out.2.1, Spn.none _ _, HP.out.2.2.1, HP.out.2.2.2.1, HP.out.2.2.2.2.1, by have := HP.out.2.2.2.2.2; omega, by simp, ?_⟩
    rw [HA.out.2.2.2.2.2.1]
    simp [encR_nil]
  clear D2 O2 oo2 s2 r2 S1 BW1 HP
  go_wp2
  go_loopw [14, 15, 16] (fun rv lv i wr => ∃ (k : Nat) (la : Option Addr) (ln lc : Nat) (vs : List Value) (R : List (List Int)) (d : D) (left : Int), rv = .slice la ln lc ∧ lv = .int .i64 left ∧ i = .int .i64 k ∧ k ≤ n2 ∧ Fulls w wr b l room snap (.slice la ln lc) vs R d left k) (fun _ _ i _ => ((n2 : Int) - intOf i).toNat)
  case atStart => exact ⟨0, none, 0, 0, [], [], d1, _, rfl, rfl, rfl, by omega, HO.out⟩
  case round =>
    obtain ⟨k, la, ln, lc, vs, R, d, left, rfl, rfl, rfl, hk, hF⟩ := hrel
    have HF : Hid (Fulls w wr b l room snap (.slice la ln lc) vs R d left k) := hF
    have hleft : -10000 ≤ left ∧ left ≤ 300 := by
      have h1 := hF.lft
      have h2 := hF.held.len
      have h3 := hF.our.deck
      obtain ⟨S, hd, _⟩ := h3
      have h4 := hd.ok.l0
      have h5 := hF.rm
      rw [D.read_zero] at h2
      simp at h2
      omega
    have hRl : R.length ≤ 20 := by have := hF.len; omega
    obtain ⟨la', lc', he⟩ := own_form hF.spn.own
    simp at he
    have hln : Hid (ln = R.length) := he.2.1
    clear hF HO he
    by_cases hkn : k < n2
    · have ki : (k : Int) < n2 := by omega
      have kj : IntKind.i64.wrap ((k : Int) + 1) = (k : Int) + 1 := i64_wf (by omega) (by omega)
      obtain ⟨bb, off, ha, hbb, hrow⟩ := HA.out.2.2.1.resolve_left (by omega)
      obtain ⟨q1, q2, q3, q4, q5⟩ := hrow k hkn
      have hz := q2.1
      obtain ⟨Ak, hak⟩ : ∃ x, A k = x := ⟨_, rfl⟩
      obtain ⟨Lk, hlk⟩ : ∃ x, L k = x := ⟨_, rfl⟩
      obtain ⟨Ck, hck⟩ : ∃ x, C k = x := ⟨_, rfl⟩
      obtain ⟨Zk, hzk⟩ : ∃ x, Z k = x := ⟨_, rfl⟩
      rw [hak, hlk, hck] at q1
      rw [hak, hlk, hzk] at q2
      rw [hlk, hzk] at hz
      rw [hak, hck] at q5
      have QK : Hid (Sl .u8 w Ak Lk Zk ∧ (Ak = none → Ck = 0) ∧ Lk = Zk.length ∧ bb < w.heap.size) := ⟨q2, q5, hz, hbb⟩
      have p1 : wr.cell? ⟨bb, off + k, none⟩ = some (.slice Ak Lk Ck) := (HF.out.our.blw.cell (p := ⟨bb, off + k, none⟩) hbb).trans q1
      clear hrow q1 q2 q3 q4 q5 hz hak hlk hck hzk hbb
      subst ha
      by_cases hl : (100 : Int) < Lk
      · go_wp2
        go_ret
        exact ⟨rfl, HF.out.our.blw⟩
      have hLk : Lk ≤ 100 := by omega
      have u1 : IntKind.i64.wrap ((Lk : Int) + 2) = (Lk : Int) + 2 := i64_wf (by omega) (by omega)
      have A1 := our_add HF.out.our Ak Lk Ck Zk (QK.out.1.below HF.out.our.blw) QK.out.2.1 (by omega) (by have := HF.out.ops; omega) (by simp; omega)
      by_cases hfl : (Lk : Int) + 2 ≤ left
      · obtain ⟨d2, e2', h2, dn2, rm2, ar2, op2⟩ := held_add_ok HF.out.held HF.out.dn HF.out.ar R.length Zk (by have := QK.out.2.2.1; omega) (by have h1 := HF.out.lft; have h2 := HF.out.rm; have h3 := QK.out.2.2.1; omega)
        rw [e2'] at A1
        have u2 : IntKind.i64.wrap (left - (Lk : Int)) = left - (Lk : Int) := i64_wf (by omega) (by omega)
        have u3 : IntKind.i64.wrap (left - (Lk : Int) - 2) = left - (Lk : Int) - 2 := i64_wf (by omega) (by omega)
        have HD : Hid (Held d2 1 0 snap (R ++ [Zk]) [] ∧ d2.dn = false ∧ d2.room = room ∧ d2.ar = false ∧ d2.ops ≤ 2 * (k + 1) + 3) := ⟨h2, dn2, rm2.trans HF.out.rm, ar2, by have := HF.out.ops; omega⟩
        clear e2' h2 dn2 rm2 ar2 op2
        go_wp2_with fail
        go_at_call 10
        refine A1.mono ?_
        rintro e w3 ⟨rfl, O3, oo3⟩
        have SP : Hid (Spn w w3 (.slice la ln lc) vs R) := HF.out.spn.only oo3 (fun j hj hs => hs.2 hj)
        have p3 : w3.cell? ⟨bb, off + k, none⟩ = some (.slice Ak Lk Ck) := (O3.blw.cell (p := ⟨bb, off + k, none⟩) QK.out.2.2.2).trans ((HF.out.our.blw.cell (p := ⟨bb, off + k, none⟩) QK.out.2.2.2).symm.trans p1)
        have HO3 : Hid (Our w w3 (SpX (.slice la ln lc)) b l d2 ⟨1, 0, R.length + 1, false⟩) := O3
        clear A1 O3 oo3 p1
        have ba : Below w3.heap.size w3 (w3.alloc (.cells #[.slice Ak Lk Ck] 26)) := (Below.refl _ _).alloc (Nat.le_refl _) _
        have SQ : Hid (Spn w (w3.alloc (.cells #[.slice Ak Lk Ck] 26)) (.slice la ln lc) vs R) := SP.out.below ba
        have hw3 : w.heap.size ≤ w3.heap.size := HO3.out.blw.size
        have BA : Hid (Below w3.heap.size w3 (w3.alloc (.cells #[.slice Ak Lk Ck] 26))) := ba
        clear ba
        go_wp2_with (at_builtin; refine wpList_append_own_at _ rfl _ _ 27 rfl w.heap.size 26 j0 _ 1 24 Try.underlying27 hj hy0 hy1 hy2 rfl (by decide) (.slice la ln lc) R.length vs rfl SQ.out.own ⟨w3.heap.size, 0, none⟩ 1 1 [.slice Ak Lk Ck] rfl rfl (cell_one_new _ _ _) ?one (by unfold maxLen; omega) (by omega) (by simp; omega) ?_)
        case one =>
          intro u hu
          simp at hu
          rw [hu]
          rfl
        intro v6 w6 o6 g6 _ at6
        obtain ⟨la6, lc6, rfl⟩ := own_form o6
        have M6 : Hid (Spn w w6 (.slice la6 (R.length + 1) lc6) (vs ++ [.slice Ak Lk Ck]) (R ++ [Zk])) := SQ.out.more (by rw [QK.out.2.2.1]) (by rw [← QK.out.2.2.1]; exact QK.out.1) o6
        have HO6 : Hid (Our w w6 (SpX (.slice la6 (R.length + 1) lc6)) b l d2 ⟨1, 0, R.length + 1, false⟩) := HO3.out.spine (fun j hj => hj) BA.out g6 (by simpa using at6) (fun j hj => (M6.out.lt j hj).2) (fun j hj => (SP.out.lt j hj).1) _ (fun j hj => .inr hj)
        have p6 : w6.cell? ⟨bb, off + k, none⟩ = some (.slice Ak Lk Ck) := (HO6.out.blw.cell (p := ⟨bb, off + k, none⟩) QK.out.2.2.2).trans ((HO3.out.blw.cell (p := ⟨bb, off + k, none⟩) QK.out.2.2.2).symm.trans p3)
        have F6 : Hid (Fulls w w6 b l room snap (.slice la6 (R.length + 1) lc6) (vs ++ [.slice Ak Lk Ck]) (R ++ [Zk]) d2 (left - Lk - 2) (k + 1)) := by
          refine ⟨by simpa using HO6.out, HD.out.1, M6.out, HD.out.2.1, HD.out.2.2.1, HD.out.2.2.2.1, HD.out.2.2.2.2, by have := HF.out.len; simp; omega, ?_⟩
          rw [encR_snoc_len, HF.out.lft, QK.out.2.2.1]
          omega
        clear o6 g6 at6 M6 HO6 SQ SP HO3 BA p3 HF HD
        go_wp2
        go_roundw
        case rel => exact ⟨k + 1, la6, _, lc6, _, _, d2, _, rfl, rfl, by simp, by omega, F6.out⟩
        case measure => simp [intOf]; omega
      · have e2' := held_add_no HF.out.held HF.out.dn HF.out.ar R.length Zk (by have := QK.out.2.2.1; omega) (by have h1 := HF.out.lft; have h2 := HF.out.rm; have h3 := QK.out.2.2.1; omega)
        rw [e2'] at A1
        clear e2'
        go_wp2_with fail
        go_at_call 10
        refine A1.mono ?_
        rintro e w3 ⟨rfl, O3, oo3⟩
        have F3 : Hid (Fulls w w3 b l room snap (.slice la ln lc) vs R d left (k + 1)) :=
          ⟨O3, HF.out.held, HF.out.spn.only oo3 (fun j hj hs => hs.2 hj), HF.out.dn, HF.out.rm, HF.out.ar, by have := HF.out.ops; omega, by have := HF.out.len; omega, HF.out.lft⟩
        have p3 : w3.cell? ⟨bb, off + k, none⟩ = some (.slice Ak Lk Ck) := (O3.blw.cell (p := ⟨bb, off + k, none⟩) QK.out.2.2.2).trans ((HF.out.our.blw.cell (p := ⟨bb, off + k, none⟩) QK.out.2.2.2).symm.trans p1)
        clear A1 O3 oo3 p1 HF
        go_wp2
        go_roundw
        case rel => exact ⟨k + 1, la, ln, lc, vs, R, d, left, rfl, rfl, by simp, by omega, F3.out⟩
        case measure => simp [intOf]; omega
    · have ki : ¬ (k : Int) < n2 := by omega
      have k4 : IntKind.i64.wrap ((n3 : Int) + 10) = (n3 : Int) + 10 := i64_wf (by omega) (by omega)
      have SV := our_save HF.out.our a3 n3 c3 big (HA.out.2.2.2.1.below HF.out.our.blw) HA.out.2.2.2.2.1 (by omega) (by have := HF.out.ops; omega) (by simp) (by simp) (by simp)
      have LKF := HF.out.held.look
      have HLK : Hid (d.look = ⟨1, 0, snap, R, true⟩) := LKF
      clear LKF
      by_cases hbg : room < (n3 : Int) + 10
      · rw [resave_full d _ big (by have h1 := HF.out.rm; have h2 := HA.out.2.2.2.2.2.2; omega)] at SV
        go_wp2_with fail
        go_at_call 11
        refine SV.mono ?_
        rintro e w3 ⟨rfl, O3, oo3⟩
        have SP : Hid (Spn w w3 (.slice la ln lc) vs R) := HF.out.spn.only oo3 (fun j hj hs => hs.2 hj)
        have LK := our_look O3.deck
        rw [HLK.out] at LK
        have HO3 : Hid (Our w w3 (SpX (.slice la ln lc)) b l d ⟨1, 0, R.length, false⟩) := O3
        clear SV O3 oo3 HF
        go_wp2_with fail
        go_at_call 15
        refine LK.mono ?_
        rintro e w4 ⟨x1, f1, x2, f2, rfl, s4, r4, b4⟩
        have O4 := HO3.out.grow b4
        have T1 : (convert 26 9 (.slice x1 snap.length f1)).run Try.prog w4 = .ok (.string (strOfNums snap)) w4 := s4.sl.text (P := Try.prog) (cap := f1) 26 9 5 Try.underlying26 Try.underlying5 Try.underlying9
        have T2 : (convert 26 9 (.slice a1 n1 c1)).run Try.prog w4 = .ok (.string (strOfNums snap)) w4 := (HA.out.1.below O4.blw).text (P := Try.prog) (cap := c1) 26 9 5 Try.underlying26 Try.underlying5 Try.underlying9
        have SM := ref_same x2 R.length f2 R la ln lc R w4 r4.rowsIn ((SP.out.below b4).rowsIn O4.blw) (by omega) (by have := hln.out; omega)
        rw [decide_eq_true rfl] at SM
        have HO4 : Hid (Our w w4 (SpX (.slice la ln lc)) b l d ⟨1, 0, R.length, false⟩) := O4
        clear LK s4 r4 b4 O4 SP HO3
        simp only
        go_wp2_with fail
        go_at_call 16
        refine SM.mono ?_
        rintro e w5 ⟨rfl, b5⟩
        have O5 := HO4.out.grow b5
        have RW := our_rows O5
        have B5 : Hid (Below w.heap.size w w5) := O5.blw
        have hln' : (R.length : Int) = (ln : Int) := by have := hln.out; omega
        rw [hln'] at RW
        clear SM b5 HO4 O5 T1 T2 hln'
        go_wp2_with fail
        go_at_call 28
        refine RW.mono ?_
        rintro e w6 ⟨rfl, hw⟩
        obtain rfl := hw.symm
        go_wp2_with fail
        go_at_call 13
        refine (known_true w5).mono ?_
        rintro e wz ⟨rfl, bz⟩
        have BZ : Hid (Below w.heap.size w wz) := B5.out.trans (bz.mono B5.out.size)
        clear bz
        go_wp2
        go_ret
        exact ⟨rfl, BZ.out⟩
      · clear SV
        have LK := our_look HF.out.our.deck
        rw [HLK.out] at LK
        go_wp2_with fail
        go_at_call 15
        refine LK.mono ?_
        rintro e w4 ⟨x1, f1, x2, f2, rfl, s4, r4, b4⟩
        have O4 := HF.out.our.grow b4
        have T1 : (convert 26 9 (.slice x1 snap.length f1)).run Try.prog w4 = .ok (.string (strOfNums snap)) w4 := s4.sl.text (P := Try.prog) (cap := f1) 26 9 5 Try.underlying26 Try.underlying5 Try.underlying9
        have T2 : (convert 26 9 (.slice a1 n1 c1)).run Try.prog w4 = .ok (.string (strOfNums snap)) w4 := (HA.out.1.below O4.blw).text (P := Try.prog) (cap := c1) 26 9 5 Try.underlying26 Try.underlying5 Try.underlying9
        have SM := ref_same x2 R.length f2 R la ln lc R w4 r4.rowsIn ((HF.out.spn.below b4).rowsIn O4.blw) (by omega) (by have := hln.out; omega)
        rw [decide_eq_true rfl] at SM
        have HO4 : Hid (Our w w4 (SpX (.slice la ln lc)) b l d ⟨1, 0, R.length, false⟩) := O4
        obtain ⟨d2, e2', h2, _⟩ := held_save_ok HF.out.held HF.out.dn HF.out.ar R.length false big (by have h2 := HA.out.2.2.2.2.2.2; omega) (by have h1 := HF.out.rm; have h2 := HA.out.2.2.2.2.2.2; omega) (by decide)
        have HD : Hid (d.resave ⟨1, 0, R.length, false⟩ big = (0, d2, ⟨1 + 1, 1 - 0, 0, false⟩) ∧ d.ops ≤ 43) := ⟨e2', by have := HF.out.ops; omega⟩
        clear LK s4 r4 b4 O4 HF e2' h2
        simp only
        go_wp2_with fail
        go_at_call 16
        refine SM.mono ?_
        rintro e w5 ⟨rfl, b5⟩
        have O5 := HO4.out.grow b5
        have SV := our_save O5 a3 n3 c3 big (HA.out.2.2.2.1.below O5.blw) HA.out.2.2.2.2.1 (by omega) (by have := HD.out.2; omega) (by simp) (by simp) (by simp)
        rw [HD.out.1] at SV
        clear SM b5 HO4 O5 T1 T2
        go_wp2_with fail
        go_at_call 11
        refine SV.mono ?_
        rintro e w6 ⟨rfl, O6, oo6⟩
        have RW := our_rows O6
        have B6 : Hid (Below w.heap.size w w6) := O6.blw
        clear SV O6 oo6
        go_wp2_with fail
        go_at_call 28
        refine RW.mono ?_
        rintro e w7 ⟨rfl, hw⟩
        obtain rfl := hw.symm
        go_wp2_with fail
        go_at_call 13
        refine (known_true w6).mono ?_
        rintro e wz ⟨rfl, bz⟩
        have BZ : Hid (Below w.heap.size w wz) := B6.out.trans (bz.mono B6.out.size)
        clear bz
        go_wp2
        go_ret
        exact ⟨rfl, BZ.out⟩

theorem new_full (room : Int) (snap : List Int) (h : room < ((snap.length + 10 : Nat) : Int)) : (D.new room).opened snap = (10, D.new room, none, [], []) := by
  have hn : heldS [] = none := held_none scanS_nil
  have hk : (D.new room).look.ok = false := by
    have e : (D.new room).look = seenS (heldS []) (heldS []) := rfl
    rw [e, hn]
    rfl
  unfold D.opened
  rw [hk, save_full (D.new room) 1 0 snap h]
  simp

set_option maxRecDepth 100000 in
set_option maxHeartbeats 4000000 in
theorem full_no (room : Int) (a1 : Option Addr) (n1 c1 : Nat) (snap : List Int) (a2 : Option Addr) (n2 c2 : Nat) (a3 : Option Addr) (n3 c3 : Nat) (w : World)
    (hS1 : Sl .u8 w a1 n1 snap) (m1 : a1 = none → c1 = 0) (r0 : 0 ≤ room) (r1 : room ≤ 300) (l1 : n1 ≤ 100) (l2 : n2 ≤ 20) (l3 : n3 ≤ 400) (hfit : room < (n1 : Int) + 10) :
    Calls Try.prog 6 #[.int .i64 room, .slice a1 n1 c1, .slice a2 n2 c2, .slice a3 n3 c3] w fun e w' => e = .returned (.bool true) ∧ Below w.heap.size w w' := by
  have hn1 := hS1.1
  have HP : Hid ((D.new room).opened snap = (10, D.new room, none, [], [])) := new_full room snap (by omega)
  have HA : Hid (Sl .u8 w a1 n1 snap ∧ (a1 = none → c1 = 0)) := ⟨hS1, m1⟩
  clear hS1 m1 hn1
  have i0 : ¬ room < 0 := by omega
  have i1 : (n1 : Int) ≤ 100 := by omega
  have i2 : (n2 : Int) ≤ 20 := by omega
  have i3 : (n3 : Int) ≤ 400 := by omega
  have k1 : IntKind.i64.wrap ((n1 : Int) + 10) = (n1 : Int) + 10 := i64_wf (by omega) (by omega)
  go_enter Try.func6, Try.ntmps6
  go_wp2_with fail
  go_at_call 8
  refine (our_new room w w No (fun j hj => hj.elim) (Below.refl _ _) r0 (by omega)).mono ?_
  rintro e w1 ⟨rfl, D1, b1⟩
  obtain ⟨b, hb⟩ : ∃ b, w.heap.size = b := ⟨_, rfl⟩
  have HB : Hid (w.heap.size = b) := hb
  rw [hb] at D1
  rw [hb]
  have D2 : Hid (OurD w w1 No b (D.new room)) := D1
  have S1 : Hid (Sl .u8 w1 a1 n1 snap) := HA.out.1.below D1.blw
  have BW1 : Hid (∀ x, snap ≠ [] → a1 = some x → x.block < w.heap.size) := fun x h0 hx => slB_lt HA.out.1 h0 x hx
  clear hb b1 D1
  go_wp2_with fail
  go_at_call 9
  refine (our_open_no D2.out a1 n1 c1 snap S1.out HA.out.2 (fun h0 x hx => .inl (BW1.out x h0 hx)) (by omega) (by simp [D.new]) 10 (D.new room) [] [] HP.out).mono ?_
  rintro e w2 ⟨rfl, O2, oo2⟩
  have B2 : Hid (Below w.heap.size w w2) := O2.blw
  clear D2 O2 oo2 S1 BW1 HP
  go_wp2_with fail
  go_at_call 13
  refine (known_true w2).mono ?_
  rintro e wz ⟨rfl, bz⟩
  have BZ : Hid (Below w.heap.size w wz) := B2.out.trans (bz.mono B2.out.size)
  clear bz
  go_wp2
  go_ret
  exact ⟨rfl, BZ.out⟩

set_option maxRecDepth 100000 in
set_option maxHeartbeats 4000000 in
theorem Walk.logFull (a0 : Int) (a1 : Option Addr) (len1 cap1 : Nat) (z1 : List Int) (a2 : Option Addr) (len2 cap2 : Nat) (A2 : Nat → Option Addr) (L2 C2 : Nat → Nat) (Z2 : Nat → List Int) (a3 : Option Addr) (len3 cap3 : Nat) (z3 : List Int) (w : World)
    (w0 : (Lit.int .i64 a0).wf = true) (w1 : Walk.IsRow .u8 w a1 len1 cap1 z1) (w2 : Walk.IsRows .u8 w a2 len2 cap2 A2 L2 C2 Z2) (w3 : Walk.IsRow .u8 w a3 len3 cap3 z3) :
    Calls Try.prog 6 #[.int .i64 a0, .slice a1 len1 cap1, .slice a2 len2 cap2, .slice a3 len3 cap3] w fun e w' => e = .returned (.bool true) ∧ Below w.heap.size w w' := by
  obtain ⟨hA, hc1, hm1⟩ := w1.sl Walk.wf_u8'
  obtain ⟨hC, hc3, hm3⟩ := w3.sl Walk.wf_u8'
  obtain ⟨hR, hc2, hm2, _⟩ := w2.rows
  by_cases h1 : a0 < 0
  · go_enter Try.func6, Try.ntmps6
    go_wp2
    go_ret
    exact ⟨rfl, Below.refl _ _⟩
  by_cases h2 : 300 < a0
  · go_enter Try.func6, Try.ntmps6
    go_wp2
    go_ret
    exact ⟨rfl, Below.refl _ _⟩
  by_cases h3 : (100 : Int) < len1
  · go_enter Try.func6, Try.ntmps6
    go_wp2
    go_ret
    exact ⟨rfl, Below.refl _ _⟩
  by_cases h4 : (20 : Int) < len2
  · go_enter Try.func6, Try.ntmps6
    go_wp2
    go_ret
    exact ⟨rfl, Below.refl _ _⟩
  by_cases h5 : (400 : Int) < len3
  · go_enter Try.func6, Try.ntmps6
    go_wp2
    go_ret
    exact ⟨rfl, Below.refl _ _⟩
  by_cases hf : (len1 : Int) + 10 ≤ a0
  · exact full_main a0 a1 len1 cap1 _ a2 len2 cap2 A2 L2 C2 Z2 a3 len3 cap3 _ w hA w1.none hR hC w3.none (by omega) (by omega) (by omega) (by omega) (by omega) hf
  · exact full_no a0 a1 len1 cap1 _ a2 len2 cap2 a3 len3 cap3 w hA w1.none (by omega) (by omega) (by omega) (by omega) (by omega) (by omega)

end Go.Proofs.Ytdecdjjknbbolaa
