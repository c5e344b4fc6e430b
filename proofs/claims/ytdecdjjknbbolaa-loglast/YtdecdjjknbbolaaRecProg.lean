/-
  rec: Put, first and Scan.
-/
import Derived.Test.YtdecdjjknbbolaaRefScan
namespace Go.Proofs.Ytdecdjjknbbolaa
open Go.RowKit
set_option linter.unusedVariables false
set_option linter.unusedSimpArgs false

set_option maxHeartbeats 1000000 in
theorem rec_put (a : Option Addr) (n c : Nat) (z : List Int) (w : World) (hS : Sl .u8 w a n z) (hn : a = none → c = 0) (hl : n ≤ 60000) :
    Calls Try.prog 31 #[.slice a n c] w (fun e w' => ∃ v, e = .returned (.tuple #[v, .bool true]) ∧ w'.ownsRow w.heap.size 5 1 v (n + 2) ((recS z).map (Value.int .u8)) ∧ Below w.heap.size w w') := by
  obtain ⟨i0, hi, hz0, hz1, hz2⟩ := info_parts infoU8
  have HS : Hid (Sl .u8 w a n z ∧ (a = none → c = 0)) := ⟨hS, hn⟩
  have i1 : (n : Int) ≤ 60000 := by omega
  clear hS hn
  go_enter Try.func31, Try.ntmps31
  go_wp2_with (at_make; refine wpList_make_own _ rfl _ _ 26 rfl w.heap.size 5 i0 (.int .u8 0) 1 Try.underlying26 hi hz0 hz1 _ _ _ (2 + n) rfl rfl (by omega) ?bytes ?maxl ?base ?_)
  case bytes => rw [hz2]; omega
  case maxl => unfold maxLen; omega
  case base => omega
  intro w1 o1 g1
  have B1 : Hid (Below w.heap.size w w1) := (Below.refl _ _).grown g1 (Nat.le_refl _) (fun k hk => by simp at hk)
  have O1 : Hid (w1.ownsRow w.heap.size 5 1 (.slice (some ⟨w.heap.size, 0, none⟩) 0 (2 + n)) 0 []) := o1
  have L2 : Hid (Sl .u8 (w1.alloc (.cells #[.int .u8 ((n : Int) / 256), .int .u8 ((n : Int) % 256)] 5)) (some ⟨w1.heap.size, 0, none⟩) 2 [(n : Int) / 256, (n : Int) % 256]) :=
    Sl.new .u8 w1 5 (0, 0) [(n : Int) / 256, (n : Int) % 256] (by intro x hx; simp at hx; rcases hx with rfl | rfl <;> exact u8_wf (by omega) (by omega))
  clear o1 g1
  go_wp2_with (at_builtin; refine wpList_append_sl rfl _ _ 26 rfl w.heap.size 5 i0 _ 1 Try.underlying26 hi hz0 hz1 hz2 rfl _ 0 [] rfl (O1.out.alloc _) .u8 (some ⟨w1.heap.size, 0, none⟩) 2 2 [(n : Int) / 256, (n : Int) % 256] rfl L2.out (by simp) (by unfold maxLen; omega) (by omega) (by have := B1.out.size; simp; omega) ?_)
  intro v w2 o2 g2 _
  have B2 : Hid (Below w.heap.size w w2) := (B1.out.alloc B1.out.size _).grown g2 (by have := B1.out.size; simp; omega) (fun k hk => by simp [Value.ownBlock] at hk; omega)
  obtain ⟨xa, xc, rfl⟩ := own_form o2
  have O2 : Hid (w2.ownsRow w.heap.size 5 1 (.slice xa 2 xc) 2 [.int .u8 ((n : Int) / 256), .int .u8 ((n : Int) % 256)]) := o2
  clear o2 g2 O1 L2
  go_wp2_with (at_builtin; refine wpList_append_sl rfl _ _ 26 rfl w.heap.size 5 i0 _ 1 Try.underlying26 hi hz0 hz1 hz2 rfl _ 2 [.int .u8 ((n : Int) / 256), .int .u8 ((n : Int) % 256)] rfl O2.out .u8 a n c z rfl (HS.out.1.below B2.out) HS.out.2 (by unfold maxLen; omega) (by omega) B2.out.size ?_)
  intro v w' h1 h2 h3
  have HB : Below w.heap.size w w' := B2.out.grown h2 B2.out.size (fun k hk => (O2.out.lt k hk).1)
  have h4 : Hid (w'.ownsRow w.heap.size 5 1 v (n + 2) ((recS z).map (Value.int .u8))) := by
    show w'.ownsRow _ _ _ _ _ _
    have e : (recS z).map (Value.int .u8) = [Value.int .u8 ((n : Int) / 256), Value.int .u8 ((n : Int) % 256)] ++ z.map (Value.int .u8) := by
      have := HS.out.1.1
      subst this
      simp [recS]
    rw [e, Nat.add_comm]
    exact h1
  clear h1 h2 h3
  go_wp2
  exact bodyPost_ret (results_tmp2 rfl _ _ _) rfl ⟨v, rfl, h4.out, HB⟩

theorem rec_put_no (a : Option Addr) (n c : Nat) (w : World) (hl : 60000 < n) (hm : n ≤ 9223372036854775807) :
    Calls Try.prog 31 #[.slice a n c] w (fun e w' => e = .returned (.tuple #[.slice none 0 0, .bool false]) ∧ w' = w) := by
  have i1 : (60000 : Int) < (n : Int) := by omega
  go_enter Try.func31, Try.ntmps31
  go_wp2
  exact bodyPost_ret (results_tmp2 rfl _ _ _) rfl ⟨rfl, rfl⟩

/-- Where the first record ends, if there is a whole one. -/
def FirstEnd (w : World) (n : Nat) (bs : List Int) (e : Ending) (w' : World) : Prop :=
  Below w.heap.size w w' ∧ ((e = .returned (.tuple #[.int .i64 0, .bool false]) ∧ scanS bs = ([], n)) ∨
    ∃ N : Nat, N ≤ 60000 ∧ 2 + N ≤ n ∧ e = .returned (.tuple #[.int .i64 ((2 + N : Nat) : Int), .bool true]) ∧ scanS bs = ((bs.drop 2).take N :: (scanS (bs.drop (2 + N))).1, (scanS (bs.drop (2 + N))).2))

set_option maxHeartbeats 1000000 in
theorem rec_first (a : Option Addr) (n c : Nat) (bs : List Int) (w : World) (hs : Sl .u8 w a n bs) (hc : n ≤ c) (hk : c ≤ 9223372036854775807) :
    Calls Try.prog 53 #[.slice a n c] w (FirstEnd w n bs) := by
  have HL : Hid (n = bs.length ∧ Bs bs) := ⟨hs.1, hs.2.1⟩
  by_cases h2 : n < 2
  · have h2I : (n : Int) < 2 := by omega
    have e : Hid (scanS bs = ([], n)) := by
      show _ = _
      rw [scanS_short bs (by have := HL.out.1; omega), HL.out.1]
    clear hs
    go_enter Try.func53, Try.ntmps53
    go_wp2
    exact bodyPost_ret (results_tmp2 rfl _ _ _) rfl ⟨Below.refl _ _, .inl ⟨rfl, e.out⟩⟩
  · have h2I : ¬ (n : Int) < 2 := by omega
    obtain ⟨h, l, t, hbs⟩ : ∃ h l t, bs = h :: l :: t := by
      have := HL.out.1
      match bs, this with
      | [], e => simp at e; omega
      | [_], e => simp at e; omega
      | h :: l :: t, _ => exact ⟨h, l, t, rfl⟩
    obtain ⟨b, off, ha, hcell⟩ := hs.2.2.resolve_left (by rw [hbs]; simp)
    have q0 : w.cell? ⟨b, off, none⟩ = some (.int .u8 h) := by simpa [hbs] using hcell 0 (by rw [hbs]; simp)
    have q1 : w.cell? ⟨b, off + 1, none⟩ = some (.int .u8 l) := by simpa [hbs] using hcell 1 (by rw [hbs]; simp)
    have bh := wf_u8 (HL.out.2 h (by rw [hbs]; simp))
    have bl' := wf_u8 (HL.out.2 l (by rw [hbs]; simp))
    have hnt : n = t.length + 2 := by have := HL.out.1; rw [hbs] at this; simpa using this
    obtain ⟨N, hN⟩ : ∃ N : Nat, h * 256 + l = (N : Int) := ⟨(h * 256 + l).toNat, by omega⟩
    have HN : Hid ((h * 256 + l).toNat = N ∧ n = t.length + 2) := ⟨by omega, hnt⟩
    have hN2 : N ≤ 65535 := by omega
    have i0' : (0 : Int) < (n : Int) := by omega
    have i1' : (1 : Int) < (n : Int) := by omega
    have eO : bits .or .i64 (h * 256) l = (N : Int) := by
      rw [← hN]
      exact bits_join .i64 63 (by decide) Ar.wraps_i64 8 _ _ (by omega) (by omega) (by omega) (by omega) (by omega) (by omega)
    have HB : Hid (bs = h :: l :: t) := hbs
    clear hbs hcell hs hnt
    subst ha
    have j1 : IntKind.i64.wrap (h * 256) = h * 256 := i64_wf (by omega) (by omega)
    have j2 : IntKind.i64.wrap ((n : Int) - 2) = (n : Int) - 2 := i64_wf (by omega) (by omega)
    go_enter Try.func53, Try.ntmps53
    go_wp2
    go_quiet (fail)
    have BQ : Hid (Below w.heap.size w (w.drewN nq)) := ⟨rfl, rfl, rfl, Nat.le_refl _, fun _ _ => rfl⟩
    obtain ⟨wq, hwq⟩ : ∃ x, w.drewN nq = x := ⟨_, rfl⟩
    rw [hwq] at BQ
    rw [hwq]
    clear hwq q0 q1 hN j1 eO
    by_cases s1 : (60000 : Int) < N
    · have e : Hid (scanS bs = ([], n)) := by
        show _ = _
        rw [HB.out, scanS_stop h l t (by have := HN.out.1; omega), HN.out.2]
      go_wp2
      exact bodyPost_ret (results_tmp2 rfl _ _ _) rfl ⟨BQ.out, .inl ⟨rfl, e.out⟩⟩
    by_cases s2 : (n : Int) - 2 < N
    · have e : Hid (scanS bs = ([], n)) := by
        show _ = _
        rw [HB.out, scanS_stop h l t (by have := HN.out; omega), HN.out.2]
      go_wp2
      exact bodyPost_ret (results_tmp2 rfl _ _ _) rfl ⟨BQ.out, .inl ⟨rfl, e.out⟩⟩
    have e : Hid (scanS bs = ((bs.drop 2).take N :: (scanS (bs.drop (2 + N))).1, (scanS (bs.drop (2 + N))).2)) := by
      show _ = _
      rw [HB.out, scanS_next h l t (by have := HN.out; omega), HN.out.1, show (h :: l :: t).drop (2 + N) = t.drop N by rw [Nat.add_comm]; rfl]
      rfl
    have j3 : IntKind.i64.wrap ((2 : Int) + N) = (2 : Int) + N := i64_wf (by omega) (by omega)
    go_wp2
    refine bodyPost_ret (results_tmp2 rfl _ _ _) rfl ⟨BQ.out, .inr ⟨N, by omega, by omega, by simp, e.out⟩⟩

set_option maxHeartbeats 2000000 in
theorem rec_scan (a0 : Option Addr) (n0 k0 : Nat) (z : List Int) (w : World) (hS : Sl .u8 w a0 n0 z) (hc : n0 ≤ k0) (hk : k0 ≤ 9223372036854775807) (hn : a0 = none → k0 = 0) (hr : n0 ≤ 1000000) :
    Calls Try.prog 46 #[.slice a0 n0 k0] w (ScanEnd w (scanS z)) := by
  obtain ⟨i0, hi, hz0, hz1, hz2⟩ := info_parts infoU8
  obtain ⟨j0, hj, hy0, hy1, hy2⟩ := info_parts infoRow
  have HS : Hid (Sl .u8 w a0 n0 z) := hS
  clear hS
  go_enter Try.func46, Try.ntmps46
  go_wp2
  go_loopw [0, 2] (fun s l wr => ∃ (a : Option Addr) (n c : Nat) (bs : List Int) (vs : List Value) (R : List (List Int)) (la : Option Addr) (ln lc : Nat), s = .slice a n c ∧ l = .slice la ln lc ∧ Sl .u8 w a n bs ∧ n ≤ c ∧ c ≤ 9223372036854775807 ∧ (a = none → c = 0) ∧ n ≤ 1000000 ∧
    Made wr w.heap.size (.slice la ln lc) vs R ∧ Below w.heap.size w wr ∧ scanS z = (R ++ (scanS bs).1, (scanS bs).2) ∧ R.length + n ≤ 1000000) (fun s _ _ => match s with | .slice _ n _ => n | _ => 0)
  case atStart => exact ⟨a0, n0, k0, z, [], [], none, 0, 0, rfl, rfl, HS.out, hc, hk, hn, hr, Made.none _ _, Below.refl _ _, by simp, by simpa using hr⟩
  case round =>
    obtain ⟨a, n, c, bs, vs, R, la, ln, lc, rfl, rfl, hs, hc1, hc2, hc3, hc4, hm, bl, hsc, hRn⟩ := hrel
    have HSW : Hid (Sl .u8 w a n bs) := hs
    replace hs := hs.below bl
    have HM : Hid (Made wr w.heap.size (.slice la ln lc) vs R ∧ Below w.heap.size w wr ∧ scanS z = (R ++ (scanS bs).1, (scanS bs).2)) := ⟨hm, bl, hsc⟩
    have A := rec_first a n c bs wr hs hc1 hc2
    have HC : Hid (a = none → c = 0) := hc3
    clear hm bl hsc hc3 hs
    go_wp2_with fail
    go_at_call 53
    refine A.mono ?_
    rintro e wq ⟨bf, h⟩
    have BQ : Hid (Below w.heap.size w wq) := HM.out.2.1.trans (bf.mono HM.out.2.1.size)
    have MQ : Hid (Made wq w.heap.size (.slice la ln lc) vs R) := HM.out.1.below bf
    have HZ : Hid (scanS z = (R ++ (scanS bs).1, (scanS bs).2)) := HM.out.2.2
    clear HM bf A
    rcases h with ⟨rfl, hsc⟩ | ⟨N, hN, hNn, rfl, hsc⟩
    · have e : Hid (scanS z = (R, n)) := by
        show _ = _
        rw [HZ.out, hsc]
        simp
      clear hsc
      go_wp2
      refine bodyPost_ret (results_tmp2 rfl _ _ _) rfl ?_
      exact scan_end e.out MQ.out BQ.out
    · have HE0 : Hid (scanS bs = ((bs.drop 2).take N :: (scanS (bs.drop (2 + N))).1, (scanS (bs.drop (2 + N))).2)) := hsc
      clear hsc
      obtain ⟨b, off, ha⟩ : ∃ b off, a = some ⟨b, off, none⟩ := by
        rcases HSW.out.2.2 with h0 | ⟨b, off, h, _⟩
        · have := HSW.out.1; rw [h0] at this; simp at this; omega
        · exact ⟨b, off, h⟩
      subst ha
      have i3 : ((2 + N : Nat) : Int) ≤ c := by omega
      have i4 : (2 : Int) ≤ ((2 + N : Nat) : Int) := by omega
      have j4 : (((2 + N : Nat) : Int)).toNat = 2 + N := by omega
      obtain ⟨X, hX⟩ : ∃ X, (if c = 2 then some (⟨b, off, none⟩ : Addr) else some ⟨b, off + 2, none⟩) = X := ⟨_, rfl⟩
      obtain ⟨Y, hY⟩ : ∃ Y, (if c = 2 + N then some (⟨b, off, none⟩ : Addr) else some ⟨b, off + (2 + N), none⟩) = Y := ⟨_, rfl⟩
      have SX : Hid (Sl .u8 wq X N ((bs.drop 2).take N)) := by
        have := (HSW.out.below BQ.out).cut hc1 2 (2 + N) c (by omega) (by omega) (by omega)
        rw [← hX]
        show Sl _ _ _ _ _
        simpa [Addr.add_flat, Nat.add_comm, List.drop_take] using this
      have SY : Hid (Sl .u8 w Y (n - (2 + N)) (bs.drop (2 + N))) := by
        have := HSW.out.cutI hc1 (2 + N) (by omega)
        rw [← hY]
        show Sl _ _ _ _ _
        simpa [Addr.add_flat] using this
      have hX0 : X ≠ none := by rw [← hX]; split <;> simp
      have hY0 : Y ≠ none := by rw [← hY]; split <;> simp
      obtain ⟨K, hK⟩ : ∃ K : Nat, K = 2 + N := ⟨_, rfl⟩
      obtain ⟨T, hT⟩ : ∃ T, (bs.drop 2).take N = T := ⟨_, rfl⟩
      have HT : Hid (T.length = N ∧ Bs T) := by
        refine ⟨?_, ?_⟩
        · rw [← hT]; have := HSW.out.1; simp; omega
        · rw [← hT]; exact Bs.take (Bs.drop HSW.out.2.1 2) N
      rw [hT] at SX HE0
      have hKN : K - 2 = N := by omega
      rw [← hK] at SY HE0 hY i3 i4 j4 hNn ⊢
      have HK : Hid (K = 2 + N) := hK
      clear hT hK
      go_wp2_with (at_builtin; refine wpList_append_sl rfl _ _ 26 rfl wq.heap.size 5 i0 _ 1 Try.underlying26 hi hz0 hz1 hz2 rfl _ 0 [] rfl (World.ownsRow_nil _ _ _ _) .u8 X N (c - 2) T rfl SX.out (fun hx => absurd hx hX0) (by unfold maxLen; omega) (by omega) (by simp) ?_)
      intro vr w5 o5 g5
      have B5 : Below wq.heap.size wq w5 := (Below.refl wq.heap.size wq).grown g5 (by simp) (fun k hk => by simp [Value.ownBlock] at hk)
      obtain ⟨xa, xc, rfl⟩ := own_form o5
      have B6 : Below wq.heap.size wq (w5.alloc (.cells #[.slice xa N xc] 26)) := B5.alloc B5.size _
      have O5 : Hid ((w5.alloc (.cells #[.slice xa N xc] 26)).ownsRow wq.heap.size 5 1 (.slice xa N xc) T.length (T.map (Value.int .u8))) := by
        show World.ownsRow _ _ _ _ _ _ _
        rw [HT.out.1]
        exact own_below o5 ((Below.refl _ _).alloc (Nat.le_refl _) _)
      have hRl : R.length ≤ 1000000 := by omega
      have MO : Hid (Made (w5.alloc (.cells #[.slice xa N xc] 26)) w.heap.size (.slice la ln lc) vs R) := MQ.out.below B6
      have hbw : w.heap.size ≤ wq.heap.size := BQ.out.size
      clear o5 g5
      go_wp2_with (at_builtin; refine wpList_append_own_at _ rfl _ _ 27 rfl w.heap.size 26 j0 _ 1 24 Try.underlying27 hj hy0 hy1 hy2 rfl (by decide) (.slice la ln lc) R.length vs rfl MO.out.own ⟨w5.heap.size, 0, none⟩ 1 1 [.slice xa N xc] rfl rfl ?cells ?one (by unfold maxLen; omega) (by omega) (by have := B6.size; omega) ?_)
      case cells =>
        intro j u hj
        rw [Addr.add_flat, Nat.zero_add, cell_of_row _ w5.heap.size j _ _ _ (heap_alloc_new w5 _)]
        simpa using hj
      case one =>
        intro u hu
        simp at hu
        rw [hu]
        rfl
      intro v6 w6 o6 g6 _ at6
      obtain ⟨la', lc', rfl⟩ := own_form o6
      have M6 : Hid (Made w6 w.heap.size (.slice la' (R.length + 1) lc') (vs ++ [.slice xa N xc]) (R ++ [T])) := by
        refine MQ.out.more B6 HT.out.2 O5.out hbw g6 o6 ?_
        rcases at6 with h | h
        · exact .inl h
        · exact .inr ⟨_, h, by simp⟩
      have B7 : Hid (Below w.heap.size w w6) := (BQ.out.trans (B6.mono hbw)).grown g6 (by have := B6.size; omega) (fun k hk => (MO.out.own.lt k hk).1)
      have HE : Hid (scanS z = ((R ++ [T]) ++ (scanS (bs.drop K)).1, (scanS (bs.drop K)).2)) := by
        show _ = _
        rw [HZ.out, HE0.out]
        simp
      clear o6 g6 at6 O5 MO B6 B5
      go_wp2
      have hK := HK.out
      go_roundw
      case rel => exact ⟨Y, _, _, bs.drop K, _, _, _, _, _, rfl, rfl, SY.out, by omega, by omega, fun hy => absurd hy hY0, by omega, M6.out, B7.out, HE.out, by simp; omega⟩
      case measure => show n - K < n; omega

end Go.Proofs.Ytdecdjjknbbolaa
