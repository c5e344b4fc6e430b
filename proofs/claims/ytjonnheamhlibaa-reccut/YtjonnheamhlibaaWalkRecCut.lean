/-
  girolaw5.RecCut.
-/
import Derived.Test.YtjonnheamhlibaaWalkRecBack
import Derived.Test.YtjonnheamhlibaaSlAt
namespace Go.Proofs.Ytjonnheamhlibaa
open Go.RowKit
set_option linter.unusedVariables false
set_option linter.unusedSimpArgs false

theorem infoInt : (Try.prog.info? 3).map (fun i => (i.zero, i.size, i.bytes)) = some (some (.int .i64 0), 1, 8) := by kernel_rfl

/-- Where the first k records end. -/
def endsR (Z : Nat → List Int) (k : Nat) : List Int := (List.range k).map fun r => ((endR Z (r + 1) : Nat) : Int)
theorem endsR_succ (Z : Nat → List Int) (k : Nat) : endsR Z (k + 1) = endsR Z k ++ [((endR Z (k + 1) : Nat) : Int)] := by simp [endsR, List.range_succ]

/-- The ends of the first k records, that the call made, apart from their bytes. -/
def Ends (w wr : World) (Z : Nat → List Int) (k : Nat) (x : Option Addr) (m c : Nat) (y : Option Addr) (cy : Nat) : Prop :=
  wr.ownsRow w.heap.size 3 1 (.slice y k cy) k ((endsR Z k).map (Value.int .i64)) ∧ ((Value.slice x m c).ownBlock = none ∨ (Value.slice x m c).ownBlock ≠ (Value.slice y k cy).ownBlock)

theorem ends_at {w wr : World} {Z : Nat → List Int} {k : Nat} {x : Option Addr} {m c : Nat} {y : Option Addr} {cy : Nat} (h : Ends w wr Z k x m c y cy) (j : Nat) (hj : j < k) : ∃ g, y = some ⟨g, 0, none⟩ ∧ wr.cell? ⟨g, j, none⟩ = some (.int .i64 ((endR Z (j + 1) : Nat) : Int)) := by
  obtain ⟨g, hg, _, hc, _⟩ := own_at h.1 (by omega)
  refine ⟨g, hg, ?_⟩
  rw [hc j hj]
  simp [endsR, hj]

theorem cut_main (a0 : Option Addr) (n cap0 : Nat) (A : Nat → Option Addr) (L C : Nat → Nat) (Z : Nat → List Int) (cut : Int) (w : World) (hR : RowsAt w a0 n A L C Z) (h1 : n ≤ 12) (hcap : n ≤ cap0) (hcm : cap0 ≤ 9223372036854775807) :
    Calls Try.prog 4 #[.slice a0 n cap0, .int .i64 cut] w fun e w' => e = .returned (.bool true) ∧ Below w.heap.size w w' := by
  obtain ⟨i0, hi, hz0, hz1, hz2⟩ := info_parts infoU8
  obtain ⟨j0, hj, hy0, hy1, hy2⟩ := info_parts infoInt
  have HR : Hid (RowsAt w a0 n A L C Z) := hR
  have n12 : (n : Int) ≤ 12 := by omega
  clear hR
  go_enter Try.func4, Try.ntmps4
  go_wp2
  go_loopw [5, 6, 7] (fun b es i wr => ∃ (k : Nat) (x : Option Addr) (m c : Nat) (y : Option Addr) (cy : Nat), b = .slice x m c ∧ es = .slice y k cy ∧ i = .int .i64 k ∧ k ≤ n ∧ (∀ r, r < k → Bs (Z r) ∧ (Z r).length ≤ 300) ∧ Enc w wr Z k x m c ∧ Ends w wr Z k x m c y cy) (fun _ _ i _ => match i with | .int _ k => n - k.toNat | _ => 0)
  case atStart => exact ⟨0, none, 0, 0, none, 0, rfl, rfl, rfl, by omega, fun r hr => by omega, ⟨rfl, World.ownsRow_nil _ _ _ _, Below.refl _ _⟩, ⟨World.ownsRow_nil _ _ _ _, .inl rfl⟩⟩
  case round =>
    obtain ⟨k, x, m, c, y, cy, rfl, rfl, rfl, hk, hb, he, hs⟩ := hrel
    have HE : Hid ((∀ r, r < k → Bs (Z r) ∧ (Z r).length ≤ 300) ∧ Enc w wr Z k x m c ∧ Ends w wr Z k x m c y cy) := ⟨hb, he, hs⟩
    have hm4 : m ≤ 4000 := by have := (enc_sl he hb).2.2.2.2; omega
    clear hb he hs
    by_cases hkn : k < n
    · have ki : (k : Int) < n := by omega
      obtain ⟨bb, off, ha, hbb, hrow⟩ := HR.out.resolve_left (by omega)
      subst ha
      obtain ⟨q1, q2, q3, q4, q5⟩ := hrow k hkn
      have QK : Hid (Sl .u8 w (A k) (L k) (Z k) ∧ (A k = none → C k = 0)) := ⟨q2, q5⟩
      have BW : Hid (Below w.heap.size w wr) := HE.out.2.1.2.2
      have q0 : wr.cell? ⟨bb, off + k, none⟩ = some (.slice (A k) (L k) (C k)) := (BW.out.cell (p := ⟨bb, off + k, none⟩) hbb).trans q1
      clear hrow q2 q5
      by_cases hl : (300 : Int) < L k
      · go_wp2
        go_ret
        exact ⟨rfl, BW.out⟩
      have P := ref_put (A k) (L k) (C k) (Z k) wr (QK.out.1.below BW.out) QK.out.2 (by omega)
      go_wp2_with fail
      go_at_call 8
      refine P.mono ?_
      rintro e w1 ⟨v1, rfl, o1, b1⟩
      obtain ⟨x1, c1, rfl⟩ := own_form o1
      have hlk : L k ≤ 300 := by omega
      have hL : (recS (Z k)).length = L k + 2 := by rw [recS_length, QK.out.1.1]
      have S1 : Hid (Sl .u8 w1 x1 (L k + 2) (recS (Z k)) ∧ (x1 = none → c1 = 0)) := by
        rw [← hL] at o1
        obtain ⟨a, c', hv, hs, hn⟩ := Sl.own o1 (recS_bs' QK.out.1.2.1 (by have := QK.out.1.1; omega))
        simp only [Value.slice.injEq] at hv
        obtain ⟨rfl, hm', rfl⟩ := hv
        rw [hL] at hs
        exact ⟨hs, hn⟩
      have O1 : Hid (w1.ownsRow w.heap.size 5 1 (.slice x m c) m ((encR (rowsOf Z k)).map (Value.int .u8))) := own_below HE.out.2.1.2.1 b1
      have E1 : Hid (Ends w w1 Z k x m c y cy) := ⟨own_below HE.out.2.2.1 b1, HE.out.2.2.2⟩
      have B1 : Hid (Below w.heap.size w w1) := BW.out.trans (b1.mono BW.out.size)
      have HZ : Hid ((∀ r, r < k + 1 → Bs (Z r) ∧ (Z r).length ≤ 300) ∧ m = endR Z k ∧ (Z k).length = L k) := by
        refine ⟨fun r hr => ?_, HE.out.2.1.1, QK.out.1.1.symm⟩
        by_cases hrk : r < k
        · exact HE.out.1 r hrk
        · have : r = k := by omega
          subst this
          exact ⟨QK.out.1.2.1, by have := QK.out.1.1; omega⟩
      obtain ⟨l, hlE⟩ : ∃ l, L k = l := ⟨_, rfl⟩
      obtain ⟨ak, hak⟩ : ∃ l, A k = l := ⟨_, rfl⟩
      obtain ⟨ck, hck⟩ : ∃ l, C k = l := ⟨_, rfl⟩
      rw [hlE] at S1 HZ hl hlk
      rw [hlE, hak, hck]
      have j2 : IntKind.i64.wrap ((k : Int) + 1) = (k : Int) + 1 := i64_wf (by omega) (by omega)
      clear HE QK o1 b1 P q0 q1 q3 q4 hlE hak hck hL BW
      go_wp2_with (at_builtin; refine wpList_append_sl_at rfl _ _ 22 rfl w.heap.size 5 i0 _ 1 Try.underlying22 hi hz0 hz1 hz2 rfl _ m _ rfl O1.out .u8 x1 (l + 2) c1 (recS (Z k)) rfl S1.out.1 S1.out.2 (by unfold maxLen; omega) (by omega) B1.out.size ?_)
      intro v2 w2 o2 g2 at2
      have B2 : Hid (Below w.heap.size w w2) := B1.out.grown g2 B1.out.size (fun k hk => (O1.out.lt k hk).1)
      obtain ⟨x2, c2, rfl⟩ := own_form o2
      have E2 : Hid (Enc w w2 Z (k + 1) x2 (m + (l + 2)) c2) := by
        refine ⟨?_, ?_, B2.out⟩
        · rw [endR_succ, HZ.out.2.2, HZ.out.2.1]
        · rw [rowsOf_succ, encR_one, List.map_append]
          exact o2
      have F2 : Hid (Ends w w2 Z k x2 (m + (l + 2)) c2 y cy) := by
        refine ⟨E1.out.1.kept g2 ?_, ?_⟩
        · rcases E1.out.2 with h | h
          · cases hh : (Value.slice y k cy).ownBlock with
            | none => exact .inl rfl
            | some b => exact .inr (by rw [h]; simp)
          · exact .inr (fun h' => h h'.symm)
        · rcases at2 with h | h
          · rw [h]; exact E1.out.2
          · refine .inr (fun h' => ?_)
            rw [h] at h'
            have := (E1.out.1.lt _ h'.symm).2
            omega
      obtain ⟨M, hM⟩ : ∃ M, m + (l + 2) = M := ⟨_, rfl⟩
      have HM : Hid (M = endR Z (k + 1)) := hM ▸ E2.out.1
      rw [hM] at E2 F2
      rw [hM]
      have hM4 : M ≤ 5000 := by omega
      have HZ1 : Hid (∀ r, r < k + 1 → Bs (Z r) ∧ (Z r).length ≤ 300) := HZ.out.1
      have BA : Hid (Below w.heap.size w (w2.alloc (.cells #[.int .i64 M] 3))) := B2.out.alloc B2.out.size _
      have OA : Hid ((w2.alloc (.cells #[.int .i64 M] 3)).ownsRow w.heap.size 3 1 (.slice y k cy) k ((endsR Z k).map (Value.int .i64))) := F2.out.1.alloc _
      clear o2 g2 O1 S1 B1 at2 hM E1 HZ
      go_wp2_with (at_builtin; refine wpList_append_own_at _ rfl _ _ 31 rfl w.heap.size 3 j0 _ 1 8 Try.underlying31 hj hy0 hy1 hy2 rfl (by decide) (.slice y k cy) k _ rfl OA.out ⟨w2.heap.size, 0, none⟩ 1 1 [.int .i64 M] rfl rfl (cell_one_new _ _ _) ?one (by unfold maxLen; omega) (by omega) BA.out.size ?_)
      case one =>
        intro u hu
        simp at hu
        rw [hu]
        rfl
      intro v3 w3 o3 g3 _ at3
      obtain ⟨y3, cy3, rfl⟩ := own_form o3
      have B3 : Hid (Below w.heap.size w w3) := BA.out.grown g3 BA.out.size (fun k hk => (OA.out.lt k hk).1)
      have E3 : Hid (Enc w w3 Z (k + 1) x2 M c2) := ⟨HM.out, (E2.out.2.1.alloc _).kept g3 F2.out.2, B3.out⟩
      have F3 : Hid (Ends w w3 Z (k + 1) x2 M c2 y3 cy3) := by
        refine ⟨?_, ?_⟩
        · rw [endsR_succ, List.map_append, ← HM.out]
          exact o3
        · rcases at3 with h | h
          · rw [h]; exact F2.out.2
          · rw [h]
            cases hh : (Value.slice x2 M c2).ownBlock with
            | none => exact .inl rfl
            | some b =>
              refine .inr (fun h' => ?_)
              have := (E2.out.2.1.lt b hh).2
              simp at h'
              omega
      clear o3 g3 at3 E2 F2 B2 BA OA
      go_wp2
      go_roundw
      case rel => exact ⟨k + 1, x2, M, c2, y3, cy3, rfl, rfl, by simp, by omega, HZ1.out, E3.out, F3.out⟩
      case measure => show n - _ < n - _; simp; omega
    · have hkn' : k = n := by omega
      subst hkn'
      obtain ⟨wl, hwl⟩ : ∃ x, x = wr := ⟨_, rfl⟩
      subst hwl
      have HL6 : Hid (∀ z ∈ rowsOf Z k, z.length ≤ 60000) := fun z hz => by
        obtain ⟨r, hr, rfl⟩ := rowsOf_mem hz
        have := (HE.out.1 r hr).2
        omega
      have HB : Hid (Sl .u8 wl x m (encR (rowsOf Z k)) ∧ (x = none → c = 0) ∧ Below w.heap.size w wl ∧ m ≤ c ∧ c ≤ 9223372036854775807) := by
        obtain ⟨HS1, HS2, HS3, HS4, _⟩ := enc_sl HE.out.2.1 HE.out.1
        exact ⟨HS1, HS4, HE.out.2.1.2.2, HS2, HS3⟩
      have HF : Hid (Ends w wl Z k x m c y cy ∧ m = endR Z k ∧ m = (encR (rowsOf Z k)).length) := ⟨HE.out.2.2, HE.out.2.1.1, HB.out.1.1⟩
      clear HE hkn
      by_cases c0 : cut < 0
      · go_wp2
        go_ret
        exact ⟨rfl, HB.out.2.2.1⟩
      by_cases c1 : (m : Int) < cut
      · go_wp2
        go_ret
        exact ⟨rfl, HB.out.2.2.1⟩
      obtain ⟨t, rfl⟩ : ∃ t : Nat, cut = t := ⟨cut.toNat, by omega⟩
      have HT : Hid (t ≤ (encR (rowsOf Z k)).length ∧ t ≤ m ∧ m ≤ c) := ⟨by have := HF.out.2.2; omega, by omega, HB.out.2.2.2.1⟩
      have t4 : (t : Int) ≤ 4000 := by omega
      go_wp2
      go_loopw [10] (fun i wt => ∃ (j : Nat), i = .int .i64 j ∧ j ≤ k ∧ endR Z j ≤ t ∧ Below wl.heap.size wl wt) (fun i _ => match i with | .int _ j => k - j.toNat | _ => 0)
      case atStart => exact ⟨0, rfl, by omega, by rw [endR_zero]; omega, Below.refl _ _⟩
      case round =>
        obtain ⟨j, rfl, hj, hjt, hbl⟩ := hrel
        have HJ : Hid (endR Z j ≤ t ∧ Below wl.heap.size wl wr) := ⟨hjt, hbl⟩
        have j2 : IntKind.i64.wrap ((j : Int) + 1) = (j : Int) + 1 := i64_wf (by omega) (by omega)
        clear hjt hbl
        by_cases hjk : j < k
        · have ji : (j : Int) < k := by omega
          obtain ⟨g, rfl, hq⟩ := ends_at HF.out.1 j hjk
          have q0 : wr.cell? ⟨g, j, none⟩ = some (.int .i64 ((endR Z (j + 1) : Nat) : Int)) := (HJ.out.2.cell (p := ⟨g, j, none⟩) (block_lt_of_cell hq)).trans hq
          obtain ⟨ed, hed⟩ : ∃ x, endR Z (j + 1) = x := ⟨_, rfl⟩
          have HD : Hid (endR Z (j + 1) = ed) := hed
          rw [hed] at q0
          clear hq hed
          by_cases het : (ed : Int) ≤ t
          · go_wp2
            go_roundw
            case rel => exact ⟨j + 1, by simp, by omega, by rw [HD.out]; omega, HJ.out.2⟩
            case measure => show k - _ < k - _; simp; omega
          · by_cases h00 : j = 0
            · have hj2 : j < k → t < endR Z (j + 1) := fun _ => by have := HD.out; omega
              have hjt := HJ.out.1
              have e1 : scanS ((encR (rowsOf Z k)).take t) = (rowsOf Z j, t - endR Z j) := by
                have h := scanS_cutAt (rowsOf Z k) j t HL6.out (by rw [rowsOf_length]; exact hj) (by rw [rowsOf_take _ _ _ hj]; exact hjt) HT.out.1 (fun h => by
                  rw [rowsOf_length] at h
                  rw [rowsOf_take _ _ _ (by omega)]
                  exact hj2 h)
                rw [rowsOf_take _ _ _ hj] at h
                exact h
              subst h00
              rw [endR_zero, Nat.sub_zero] at e1
              have pf : IntKind.i64.wrap (t : Int) = (t : Int) := i64_wf (by omega) (by omega)
              have P := rec_scan x t c _ wr ((HB.out.1.below HJ.out.2).take t HT.out.2.1) (by have := HT.out.2; omega) HB.out.2.2.2.2 HB.out.2.1 (by omega)
              rw [e1] at P
              have BW : Hid (Below w.heap.size w wr) := HB.out.2.2.1.trans (HJ.out.2.mono HB.out.2.2.1.size)
              have BL : Hid (Below wl.heap.size wl wr) := HJ.out.2
              have ci : (t : Int) ≤ c := by have := HT.out.2; omega
              clear hjt e1 hj2
              go_wp2_with fail
              go_at_call 9
              refine P.mono ?_
              rintro e w5 ⟨v5, vs5, rfl, m5, b5⟩
              obtain ⟨x5, c5, rfl⟩ := own_form m5.own
              have B5 : Hid (Below w.heap.size w w5) := BW.out.trans (b5.mono BW.out.size)
              have M5 := m5.read
              rw [rowsOf_length] at M5
              rw [rowsOf_length]
              have N := ref_same x5 0 c5 (rowsOf Z 0) a0 0 cap0 (rowsOf Z 0) w5 M5 ((rowsAt_rowsIn HR.out 0 (by omega)).below B5.out) (by omega) (by omega)
              rw [decide_eq_true rfl] at N
              have cj : ((0 : Nat) : Int) ≤ cap0 := by omega
              clear P m5 b5 M5
              go_wp2_with fail
              go_at_call 11
              refine N.mono ?_
              rintro e w6 ⟨rfl, b6⟩
              have B6 : Hid (Below w.heap.size w w6) := B5.out.trans (b6.mono B5.out.size)
              clear N b6
              go_wp2_with fail
              go_at_call 12
              refine (known_true w6).mono ?_
              rintro e w7 ⟨rfl, b7⟩
              go_wp2
              go_ret
              exact ⟨rfl, B6.out.trans (b7.mono B6.out.size)⟩
            · have hj2 : j < k → t < endR Z (j + 1) := fun _ => by have := HD.out; omega
              have hjt := HJ.out.1
              have e1 : scanS ((encR (rowsOf Z k)).take t) = (rowsOf Z j, t - endR Z j) := by
                have h := scanS_cutAt (rowsOf Z k) j t HL6.out (by rw [rowsOf_length]; exact hj) (by rw [rowsOf_take _ _ _ hj]; exact hjt) HT.out.1 (fun h => by
                  rw [rowsOf_length] at h
                  rw [rowsOf_take _ _ _ (by omega)]
                  exact hj2 h)
                rw [rowsOf_take _ _ _ hj] at h
                exact h
              obtain ⟨jm, hjm⟩ : ∃ jm, j = jm + 1 := ⟨j - 1, by omega⟩
              obtain ⟨g', hg', hq'⟩ := ends_at HF.out.1 jm (by omega)
              simp at hg'
              subst hg'
              rw [← hjm] at hq'
              have jp : IntKind.i64.wrap ((j : Int) - 1) = (jm : Int) := by rw [show (j : Int) - 1 = (jm : Int) by omega]; exact i64_wf (by omega) (by omega)
              have jq : (jm : Int) < k := by omega
              have j1 : (0 : Int) < j := by omega
              obtain ⟨e0, he0⟩ : ∃ e0, endR Z j = e0 := ⟨_, rfl⟩
              rw [he0] at e1 hq' hjt
              obtain ⟨p, hp⟩ : ∃ p, t - e0 = p := ⟨_, rfl⟩
              rw [hp] at e1
              have pf : IntKind.i64.wrap ((t : Int) - e0) = (p : Int) := by rw [show (t : Int) - e0 = (p : Int) by omega]; exact i64_wf (by omega) (by omega)
              have qb := block_lt_of_cell hq'
              have P := rec_scan x t c _ wr ((HB.out.1.below HJ.out.2).take t HT.out.2.1) (by have := HT.out.2; omega) HB.out.2.2.2.2 HB.out.2.1 (by omega)
              rw [e1] at P
              have BW : Hid (Below w.heap.size w wr) := HB.out.2.2.1.trans (HJ.out.2.mono HB.out.2.2.1.size)
              have BL : Hid (Below wl.heap.size wl wr) := HJ.out.2
              have ci : (t : Int) ≤ c := by have := HT.out.2; omega
              clear hjm hp he0 hjt e1 hj2
              go_wp2_with fail
              go_at_call 9
              refine P.mono ?_
              rintro e w5 ⟨v5, vs5, rfl, m5, b5⟩
              obtain ⟨x5, c5, rfl⟩ := own_form m5.own
              have B5 : Hid (Below w.heap.size w w5) := BW.out.trans (b5.mono BW.out.size)
              have M5 := m5.read
              rw [rowsOf_length] at M5
              rw [rowsOf_length]
              have q5 : w5.cell? ⟨g, jm, none⟩ = some (.int .i64 (e0 : Int)) := ((BL.out.trans (b5.mono BL.out.size)).cell (p := ⟨g, jm, none⟩) qb).trans hq'
              have N := ref_same x5 j c5 (rowsOf Z j) a0 j cap0 (rowsOf Z j) w5 M5 ((rowsAt_rowsIn HR.out j (by omega)).below B5.out) (by omega) (by omega)
              rw [decide_eq_true rfl] at N
              have cj : ((j : Nat) : Int) ≤ cap0 := by omega
              clear P m5 b5 M5
              go_wp2_with fail
              go_at_call 11
              refine N.mono ?_
              rintro e w6 ⟨rfl, b6⟩
              have B6 : Hid (Below w.heap.size w w6) := B5.out.trans (b6.mono B5.out.size)
              clear N b6
              go_wp2_with fail
              go_at_call 12
              refine (known_true w6).mono ?_
              rintro e w7 ⟨rfl, b7⟩
              go_wp2
              go_ret
              exact ⟨rfl, B6.out.trans (b7.mono B6.out.size)⟩
        · by_cases h00 : j = 0
          · have hj2 : j < k → t < endR Z (j + 1) := fun h => by omega
            have hjt := HJ.out.1
            have e1 : scanS ((encR (rowsOf Z k)).take t) = (rowsOf Z j, t - endR Z j) := by
              have h := scanS_cutAt (rowsOf Z k) j t HL6.out (by rw [rowsOf_length]; exact hj) (by rw [rowsOf_take _ _ _ hj]; exact hjt) HT.out.1 (fun h => by
                rw [rowsOf_length] at h
                rw [rowsOf_take _ _ _ (by omega)]
                exact hj2 h)
              rw [rowsOf_take _ _ _ hj] at h
              exact h
            subst h00
            rw [endR_zero, Nat.sub_zero] at e1
            have pf : IntKind.i64.wrap (t : Int) = (t : Int) := i64_wf (by omega) (by omega)
            have P := rec_scan x t c _ wr ((HB.out.1.below HJ.out.2).take t HT.out.2.1) (by have := HT.out.2; omega) HB.out.2.2.2.2 HB.out.2.1 (by omega)
            rw [e1] at P
            have BW : Hid (Below w.heap.size w wr) := HB.out.2.2.1.trans (HJ.out.2.mono HB.out.2.2.1.size)
            have BL : Hid (Below wl.heap.size wl wr) := HJ.out.2
            have ci : (t : Int) ≤ c := by have := HT.out.2; omega
            clear hjt e1 hj2
            go_wp2_with fail
            go_at_call 9
            refine P.mono ?_
            rintro e w5 ⟨v5, vs5, rfl, m5, b5⟩
            obtain ⟨x5, c5, rfl⟩ := own_form m5.own
            have B5 : Hid (Below w.heap.size w w5) := BW.out.trans (b5.mono BW.out.size)
            have M5 := m5.read
            rw [rowsOf_length] at M5
            rw [rowsOf_length]
            have N := ref_same x5 0 c5 (rowsOf Z 0) a0 0 cap0 (rowsOf Z 0) w5 M5 ((rowsAt_rowsIn HR.out 0 (by omega)).below B5.out) (by omega) (by omega)
            rw [decide_eq_true rfl] at N
            have cj : ((0 : Nat) : Int) ≤ cap0 := by omega
            clear P m5 b5 M5
            go_wp2_with fail
            go_at_call 11
            refine N.mono ?_
            rintro e w6 ⟨rfl, b6⟩
            have B6 : Hid (Below w.heap.size w w6) := B5.out.trans (b6.mono B5.out.size)
            clear N b6
            go_wp2_with fail
            go_at_call 12
            refine (known_true w6).mono ?_
            rintro e w7 ⟨rfl, b7⟩
            go_wp2
            go_ret
            exact ⟨rfl, B6.out.trans (b7.mono B6.out.size)⟩
          · have hj2 : j < k → t < endR Z (j + 1) := fun h => by omega
            have hjt := HJ.out.1
            have e1 : scanS ((encR (rowsOf Z k)).take t) = (rowsOf Z j, t - endR Z j) := by
              have h := scanS_cutAt (rowsOf Z k) j t HL6.out (by rw [rowsOf_length]; exact hj) (by rw [rowsOf_take _ _ _ hj]; exact hjt) HT.out.1 (fun h => by
                rw [rowsOf_length] at h
                rw [rowsOf_take _ _ _ (by omega)]
                exact hj2 h)
              rw [rowsOf_take _ _ _ hj] at h
              exact h
            obtain ⟨jm, hjm⟩ : ∃ jm, j = jm + 1 := ⟨j - 1, by omega⟩
            obtain ⟨g', hg', hq'⟩ := ends_at HF.out.1 jm (by omega)
            subst hg'
            rw [← hjm] at hq'
            have jp : IntKind.i64.wrap ((j : Int) - 1) = (jm : Int) := by rw [show (j : Int) - 1 = (jm : Int) by omega]; exact i64_wf (by omega) (by omega)
            have jq : (jm : Int) < k := by omega
            have j1 : (0 : Int) < j := by omega
            obtain ⟨e0, he0⟩ : ∃ e0, endR Z j = e0 := ⟨_, rfl⟩
            rw [he0] at e1 hq' hjt
            obtain ⟨p, hp⟩ : ∃ p, t - e0 = p := ⟨_, rfl⟩
            rw [hp] at e1
            have pf : IntKind.i64.wrap ((t : Int) - e0) = (p : Int) := by rw [show (t : Int) - e0 = (p : Int) by omega]; exact i64_wf (by omega) (by omega)
            have qb := block_lt_of_cell hq'
            have P := rec_scan x t c _ wr ((HB.out.1.below HJ.out.2).take t HT.out.2.1) (by have := HT.out.2; omega) HB.out.2.2.2.2 HB.out.2.1 (by omega)
            rw [e1] at P
            have BW : Hid (Below w.heap.size w wr) := HB.out.2.2.1.trans (HJ.out.2.mono HB.out.2.2.1.size)
            have BL : Hid (Below wl.heap.size wl wr) := HJ.out.2
            have ci : (t : Int) ≤ c := by have := HT.out.2; omega
            clear hjm hp he0 hjt e1 hj2
            go_wp2_with fail
            go_at_call 9
            refine P.mono ?_
            rintro e w5 ⟨v5, vs5, rfl, m5, b5⟩
            obtain ⟨x5, c5, rfl⟩ := own_form m5.own
            have B5 : Hid (Below w.heap.size w w5) := BW.out.trans (b5.mono BW.out.size)
            have M5 := m5.read
            rw [rowsOf_length] at M5
            rw [rowsOf_length]
            have q5 : w5.cell? ⟨g', jm, none⟩ = some (.int .i64 (e0 : Int)) := ((BL.out.trans (b5.mono BL.out.size)).cell (p := ⟨g', jm, none⟩) qb).trans hq'
            have N := ref_same x5 j c5 (rowsOf Z j) a0 j cap0 (rowsOf Z j) w5 M5 ((rowsAt_rowsIn HR.out j (by omega)).below B5.out) (by omega) (by omega)
            rw [decide_eq_true rfl] at N
            have cj : ((j : Nat) : Int) ≤ cap0 := by omega
            clear P m5 b5 M5
            go_wp2_with fail
            go_at_call 11
            refine N.mono ?_
            rintro e w6 ⟨rfl, b6⟩
            have B6 : Hid (Below w.heap.size w w6) := B5.out.trans (b6.mono B5.out.size)
            clear N b6
            go_wp2_with fail
            go_at_call 12
            refine (known_true w6).mono ?_
            rintro e w7 ⟨rfl, b7⟩
            go_wp2
            go_ret
            exact ⟨rfl, B6.out.trans (b7.mono B6.out.size)⟩

theorem Walk.recCut (a0 : Option Addr) (len0 cap0 : Nat) (A0 : Nat → Option Addr) (L0 C0 : Nat → Nat) (Z0 : Nat → List Int) (a1 : Int) (w : World) (w0 : Walk.IsRows .u8 w a0 len0 cap0 A0 L0 C0 Z0) (w1 : (Lit.int .i64 a1).wf = true) :
    Calls Try.prog 4 #[.slice a0 len0 cap0, .int .i64 a1] w fun e w' => e = .returned (.bool true) ∧ Below w.heap.size w w' := by
  by_cases h1 : (12 : Int) < len0
  · go_enter Try.func4, Try.ntmps4
    go_wp2
    go_ret
    exact ⟨rfl, Below.refl _ _⟩
  obtain ⟨hR, hc, hm, _⟩ := w0.rows
  exact cut_main a0 len0 cap0 A0 L0 C0 Z0 a1 w hR (by omega) hc hm

end Go.Proofs.Ytjonnheamhlibaa
