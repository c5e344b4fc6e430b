/-
  giroref5: Scan.
-/
import Derived.Test.YtdecdjjknbbolaaRefRec
namespace Go.Proofs.Ytdecdjjknbbolaa
open Go.RowKit
set_option linter.unusedVariables false
set_option linter.unusedSimpArgs false

theorem infoRow : (Try.prog.info? 26).map (fun i => (i.zero, i.size, i.bytes)) = some (some (.slice none 0 0), 1, 24) := by kernel_rfl

def ScanEnd (w : World) (r : List (List Int) × Nat) (e : Ending) (w' : World) : Prop :=
  ∃ v vs, e = .returned (.tuple #[v, .int .i64 r.2]) ∧ Made w' w.heap.size v vs r.1 ∧ Below w.heap.size w w'

theorem scan_end {w w' : World} {z : List Int} {R : List (List Int)} {n : Nat} {v : Value} {vs : List Value} (h : scanS z = (R, n)) (hm : Made w' w.heap.size v vs R) (bl : Below w.heap.size w w') : ScanEnd w (scanS z) (.returned (.tuple #[v, .int .i64 n])) w' := by
  rw [h]
  exact ⟨v, vs, rfl, hm, bl⟩

set_option maxHeartbeats 2000000 in
theorem ref_scan (a0 : Option Addr) (n0 k0 : Nat) (z : List Int) (w : World) (hS : Sl .u8 w a0 n0 z) (hc : n0 ≤ k0) (hk : k0 ≤ 9223372036854775807) (hn : a0 = none → k0 = 0) (hr : n0 ≤ 1000000) :
    Calls Try.prog 55 #[.slice a0 n0 k0] w (ScanEnd w (scanS z)) := by
  obtain ⟨i0, hi, hz0, hz1, hz2⟩ := info_parts infoU8
  obtain ⟨j0, hj, hy0, hy1, hy2⟩ := info_parts infoRow
  have HS : Hid (Sl .u8 w a0 n0 z) := hS
  clear hS
  go_enter Try.func55, Try.ntmps55
  go_wp2
  go_loopw [0, 4] (fun s l wr => ∃ (a : Option Addr) (n c : Nat) (bs : List Int) (vs : List Value) (R : List (List Int)) (la : Option Addr) (ln lc : Nat), s = .slice a n c ∧ l = .slice la ln lc ∧ Sl .u8 w a n bs ∧ n ≤ c ∧ c ≤ 9223372036854775807 ∧ (a = none → c = 0) ∧ n ≤ 1000000 ∧
    Made wr w.heap.size (.slice la ln lc) vs R ∧ Below w.heap.size w wr ∧ scanS z = (R ++ (scanS bs).1, (scanS bs).2) ∧ R.length + n ≤ 1000000) (fun s _ _ => match s with | .slice _ n _ => n | _ => 0)
  case atStart => exact ⟨a0, n0, k0, z, [], [], none, 0, 0, rfl, rfl, HS.out, hc, hk, hn, hr, Made.none _ _, Below.refl _ _, by simp, by simpa using hr⟩
  case round =>
    obtain ⟨a, n, c, bs, vs, R, la, ln, lc, rfl, rfl, hs, hc1, hc2, hc3, hc4, hm, bl, hsc, hRn⟩ := hrel
    have HSW : Hid (Sl .u8 w a n bs) := hs
    replace hs := hs.below bl
    have HM : Hid (Made wr w.heap.size (.slice la ln lc) vs R ∧ Below w.heap.size w wr ∧ scanS z = (R ++ (scanS bs).1, (scanS bs).2)) := ⟨hm, bl, hsc⟩
    have HL : Hid (n = bs.length ∧ Bs bs) := ⟨hs.1, hs.2.1⟩
    have HC : Hid (a = none → c = 0) := hc3
    clear hm bl hsc hc3
    by_cases h2 : n < 2
    · have h2I : ¬ (2 : Int) ≤ (n : Int) := by omega
      have e : Hid (scanS z = (R, n)) := by
        show _ = _
        rw [HM.out.2.2, scanS_short bs (by have := HL.out.1; omega), HL.out.1]
        simp
      go_wp2
      refine bodyPost_ret (results_tmp2 rfl _ _ _) rfl ?_
      exact scan_end e.out HM.out.1 HM.out.2.1
    · have h2I : (2 : Int) ≤ (n : Int) := by omega
      obtain ⟨h, l, t, hbs⟩ : ∃ h l t, bs = h :: l :: t := by
        have := HL.out.1
        match bs, this with
        | [], e => simp at e; omega
        | [_], e => simp at e; omega
        | h :: l :: t, _ => exact ⟨h, l, t, rfl⟩
      obtain ⟨b, off, ha, hcell⟩ := hs.2.2.resolve_left (by rw [hbs]; simp)
      have q0 : wr.cell? ⟨b, off, none⟩ = some (.int .u8 h) := by simpa [hbs] using hcell 0 (by rw [hbs]; simp)
      have q1 : wr.cell? ⟨b, off + 1, none⟩ = some (.int .u8 l) := by simpa [hbs] using hcell 1 (by rw [hbs]; simp)
      have bh := wf_u8 (HL.out.2 h (by rw [hbs]; simp))
      have bl' := wf_u8 (HL.out.2 l (by rw [hbs]; simp))
      have hnt : n = t.length + 2 := by have := HL.out.1; rw [hbs] at this; simpa using this
      have HSB : Hid (Sl .u8 wr a n (h :: l :: t)) := by rw [← hbs]; exact hs
      have HSO : Hid (Sl .u8 w a n (h :: l :: t)) := by rw [← hbs]; exact HSW.out
      obtain ⟨N, hN⟩ : ∃ N : Nat, h * 256 + l = (N : Int) := ⟨(h * 256 + l).toNat, by omega⟩
      have HN : Hid ((h * 256 + l).toNat = N ∧ n = t.length + 2) := ⟨by omega, hnt⟩
      have hN2 : N ≤ 65535 := by omega
      have HB : Hid (bs = h :: l :: t) := hbs
      have i0' : (0 : Int) < (n : Int) := by omega
      have i1' : (1 : Int) < (n : Int) := by omega
      clear hbs hcell hs hnt
      subst ha
      have j1 : IntKind.i64.wrap (h * 256) = h * 256 := i64_wf (by omega) (by omega)
      have j2 : IntKind.i64.wrap ((n : Int) - 2) = (n : Int) - 2 := i64_wf (by omega) (by omega)
      go_wp2
      go_quiet (fail)
      have BQ : Hid (Below w.heap.size w (wr.drewN nq)) := ⟨HM.out.2.1.os, HM.out.2.1.tape, HM.out.2.1.output, HM.out.2.1.size, HM.out.2.1.block⟩
      have MQ : Hid (Made (wr.drewN nq) w.heap.size (.slice la ln lc) vs R) := HM.out.1.below ⟨rfl, rfl, rfl, Nat.le_refl _, fun _ _ => rfl⟩
      have SQ : Hid (Sl .u8 (wr.drewN nq) (some ⟨b, off, none⟩) n (h :: l :: t)) := HSB.out.drew nq
      have HZ : Hid (scanS z = (R ++ (scanS (h :: l :: t)).1, (scanS (h :: l :: t)).2)) := by rw [← HB.out]; exact HM.out.2.2
      obtain ⟨wq, hwq⟩ : ∃ x, wr.drewN nq = x := ⟨_, rfl⟩
      rw [hwq] at BQ MQ SQ
      rw [hwq]
      clear hwq HM HL q0 q1 HB HSB hN j1
      by_cases s1 : (60000 : Int) < N
      · have e : Hid (scanS z = (R, n)) := by
          show _ = _
          rw [HZ.out, scanS_stop h l t (by have := HN.out.1; omega), HN.out.2]
          simp
        go_wp2
        refine bodyPost_ret (results_tmp2 rfl _ _ _) rfl ?_
        exact scan_end e.out MQ.out BQ.out
      by_cases s2 : (n : Int) - 2 < N
      · have e : Hid (scanS z = (R, n)) := by
          show _ = _
          rw [HZ.out, scanS_stop h l t (by have := HN.out; omega), HN.out.2]
          simp
        go_wp2
        refine bodyPost_ret (results_tmp2 rfl _ _ _) rfl ?_
        exact scan_end e.out MQ.out BQ.out
      have i3 : (2 : Int) + N ≤ c := by omega
      have j3 : IntKind.i64.wrap ((2 : Int) + N) = (2 : Int) + N := i64_wf (by omega) (by omega)
      have j4 : ((2 : Int) + N).toNat = 2 + N := by omega
      have hNt : N ≤ t.length := by have := HN.out.2; omega
      obtain ⟨X, hX⟩ : ∃ X, (if c = 2 then some (⟨b, off, none⟩ : Addr) else some ⟨b, off + 2, none⟩) = X := ⟨_, rfl⟩
      obtain ⟨Y, hY⟩ : ∃ Y, (if c = 2 + N then some (⟨b, off, none⟩ : Addr) else some ⟨b, off + (2 + N), none⟩) = Y := ⟨_, rfl⟩
      have SX : Hid (Sl .u8 wq X N (t.take N)) := by
        have := SQ.out.cut hc1 2 (2 + N) c (by omega) (by omega) (by omega)
        rw [← hX]
        show Sl _ _ _ _ _
        simpa [Addr.add_flat, Nat.add_comm] using this
      have SY : Hid (Sl .u8 w Y (n - (2 + N)) (t.drop N)) := by
        have := HSO.out.cutI hc1 (2 + N) (by omega)
        rw [← hY]
        show Sl _ _ _ _ _
        rw [show (h :: l :: t).drop (2 + N) = t.drop N by rw [Nat.add_comm]; rfl] at this
        simpa [Addr.add_flat] using this
      have hX0 : X ≠ none := by rw [← hX]; split <;> simp
      have hY0 : Y ≠ none := by rw [← hY]; split <;> simp
      go_wp2_with (at_builtin; refine wpList_append_sl rfl _ _ 26 rfl wq.heap.size 5 i0 _ 1 Try.underlying26 hi hz0 hz1 hz2 rfl _ 0 [] rfl (World.ownsRow_lit wq #[] 0 (Nat.le_refl _) (Nat.zero_le _) rfl) .u8 X N (c - 2) (t.take N) rfl (SX.out.alloc _) (fun hx => absurd hx hX0) (by unfold maxLen; omega) (by omega) (by simp) ?_)
      intro vr w5 o5 g5 _
      have B5 : Below wq.heap.size wq w5 := ((Below.refl wq.heap.size wq).alloc (Nat.le_refl _) _).grown g5 (by simp) (fun k hk => by simp [Value.ownBlock] at hk; omega)
      obtain ⟨xa, xc, rfl⟩ := own_form o5
      have B6 : Below wq.heap.size wq (w5.alloc (.cells #[.slice xa N xc] 26)) := B5.alloc B5.size _
      have O5 : Hid ((w5.alloc (.cells #[.slice xa N xc] 26)).ownsRow wq.heap.size 5 1 (.slice xa N xc) (t.take N).length ((t.take N).map (Value.int .u8))) := by
        have e : (t.take N).length = N := by simp; omega
        show World.ownsRow _ _ _ _ _ _ _
        rw [e, List.map_take]
        exact own_below o5 ((Below.refl _ _).alloc (Nat.le_refl _) _)
      have BT : Hid (Bs (t.take N)) := Bs.take (fun x hx => SQ.out.2.1 x (by simp [hx])) N
      have hRl : R.length ≤ 1000000 := by omega
      have MO : Hid (Made (w5.alloc (.cells #[.slice xa N xc] 26)) w.heap.size (.slice la ln lc) vs R) := MQ.out.below B6
      have hbw : w.heap.size ≤ wq.heap.size := BQ.out.size
      clear o5 g5
      go_wp2_with (at_builtin; refine wpList_append_own_at _ rfl _ _ 27 rfl w.heap.size 26 j0 _ 1 24 Try.underlying27 hj hy0 hy1 hy2 rfl (by decide) (.slice la ln lc) R.length vs rfl MO.out.own ⟨w5.heap.size, 0, none⟩ 1 1 [.slice xa N xc] rfl rfl ?cells ?one (by unfold maxLen; omega) (by omega) (by have := B6.size; omega) ?_)
      case cells =>
        intro j u hj
        rw [Addr.add_flat, Nat.zero_add, cell_of_row _ w5.heap.size j _ _ _ (heap_alloc_new w5 _)]
        simpa using hj
      case one =>
        intro u hu
        simp at hu
        rw [hu]
        rfl
      intro v6 w6 o6 g6 _ at6
      obtain ⟨la', lc', rfl⟩ := own_form o6
      have M6 : Hid (Made w6 w.heap.size (.slice la' (R.length + 1) lc') (vs ++ [.slice xa N xc]) (R ++ [t.take N])) := by
        refine MQ.out.more B6 BT.out O5.out hbw g6 o6 ?_
        rcases at6 with h | h
        · exact .inl h
        · exact .inr ⟨_, h, by simp⟩
      have B7 : Hid (Below w.heap.size w w6) := (BQ.out.trans (B6.mono hbw)).grown g6 (by have := B6.size; omega) (fun k hk => (MO.out.own.lt k hk).1)
      have HE : Hid (scanS z = ((R ++ [t.take N]) ++ (scanS (t.drop N)).1, (scanS (t.drop N)).2)) := by
        show _ = _
        rw [HZ.out, scanS_next h l t (by have := HN.out.1; omega), HN.out.1]
        simp
      clear o6 g6 at6 O5 MO B6 B5
      go_wp2
      go_roundw
      case rel => exact ⟨Y, _, _, t.drop N, _, _, _, _, _, rfl, rfl, SY.out, by omega, by omega, fun hy => absurd hy hY0, by omega, M6.out, B7.out, HE.out, by simp; omega⟩
      case measure => show n - (2 + N) < n; omega

end Go.Proofs.Ytdecdjjknbbolaa
