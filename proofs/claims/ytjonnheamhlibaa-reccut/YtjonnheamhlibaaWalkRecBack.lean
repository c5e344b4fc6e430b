/-
  girolaw5.RecBack.
-/
import Derived.Test.YtjonnheamhlibaaKnown5
import Derived.Test.YtjonnheamhlibaaRecMany
namespace Go.Proofs.Ytjonnheamhlibaa
open Go.RowKit
set_option linter.unusedVariables false
set_option linter.unusedSimpArgs false

/-- The bytes of the first k records, that the call made. -/
def Enc (w wr : World) (Z : Nat → List Int) (k : Nat) (x : Option Addr) (m c : Nat) : Prop :=
  m = endR Z k ∧ wr.ownsRow w.heap.size 5 1 (.slice x m c) m ((encR (rowsOf Z k)).map (Value.int .u8)) ∧ Below w.heap.size w wr

theorem enc_sl {w wr : World} {Z : Nat → List Int} {k : Nat} {x : Option Addr} {m c : Nat} (h : Enc w wr Z k x m c) (hb : ∀ r, r < k → Bs (Z r) ∧ (Z r).length ≤ 300) : Sl .u8 wr x m (encR (rowsOf Z k)) ∧ m ≤ c ∧ c ≤ 9223372036854775807 ∧ (x = none → c = 0) ∧ m ≤ k * 302 := by
  have hbs : Bs (encR (rowsOf Z k)) := encR_bs (fun z hz => by
    obtain ⟨r, hr, rfl⟩ := rowsOf_mem hz
    exact ⟨(hb r hr).1, by have := (hb r hr).2; omega⟩)
  obtain ⟨a, c', hv, hs, hn⟩ := Sl.own h.2.1 hbs
  have hm := h.1
  simp only [Value.slice.injEq] at hv
  obtain ⟨rfl, hm', rfl⟩ := hv
  rw [← hm'] at hs
  exact ⟨hs, (own_cap h.2.1).1, (own_cap h.2.1).2, hn, by rw [hm]; exact endR_le Z k 300 (fun r hr => (hb r hr).2)⟩

theorem own_at {w : World} {B : Nat} {T : TypeId} {x : Option Addr} {n c : Nat} {xs : List Value} (h : w.ownsRow B T 1 (.slice x n c) n xs) (hn : 0 < n) :
    ∃ g, x = some ⟨g, 0, none⟩ ∧ B ≤ g ∧ (∀ j, j < n → w.cell? ⟨g, j, none⟩ = xs[j]?) ∧ w.frozen? ⟨g, 0, none⟩ = false := by
  rcases h.2 with ⟨hv, _⟩ | ⟨g, cap, cur, hv, _⟩
  · simp at hv; omega
  · simp only [Value.slice.injEq, true_and] at hv
    obtain ⟨rfl, rfl⟩ := hv
    exact ⟨g, rfl, (h.lt g rfl).1, fun j hj => h.cellAt j (by omega), h.frozenAt 0⟩

theorem u8_wrap_ok (y : Int) : IntKind.u8.wrap (IntKind.u8.wrap y) = IntKind.u8.wrap y := by
  have h : 0 ≤ y % 256 ∧ y % 256 < 256 := ⟨Int.emod_nonneg _ (by decide), Int.emod_lt_of_pos _ (by decide)⟩
  have e : IntKind.u8.wrap y = y % 256 := by first | rfl | simp [IntKind.wrap, IntKind.bits, IntKind.signed]
  rw [e]
  exact u8_wf h.1 (by omega)

theorem back_main (a0 : Option Addr) (n cap0 : Nat) (A : Nat → Option Addr) (L C : Nat → Nat) (Z : Nat → List Int) (w : World) (hR : RowsAt w a0 n A L C Z) (h1 : n ≤ 12) :
    Calls Try.prog 6 #[.slice a0 n cap0] w fun e w' => e = .returned (.bool true) ∧ Below w.heap.size w w' := by
  obtain ⟨i0, hi, hz0, hz1, hz2⟩ := info_parts infoU8
  have HR : Hid (RowsAt w a0 n A L C Z) := hR
  have n12 : (n : Int) ≤ 12 := by omega
  clear hR
  go_enter Try.func6, Try.ntmps6
  go_wp2
  go_loopw [3, 4] (fun b i wr => ∃ (k : Nat) (x : Option Addr) (m c : Nat), b = .slice x m c ∧ i = .int .i64 k ∧ k ≤ n ∧ (∀ r, r < k → Bs (Z r) ∧ (Z r).length ≤ 300) ∧ Enc w wr Z k x m c) (fun _ i _ => match i with | .int _ k => n - k.toNat | _ => 0)
  case atStart => exact ⟨0, none, 0, 0, rfl, rfl, by omega, fun r hr => by omega, rfl, World.ownsRow_nil _ _ _ _, Below.refl _ _⟩
  case round =>
    obtain ⟨k, x, m, c, rfl, rfl, hk, hb, he⟩ := hrel
    have HE : Hid ((∀ r, r < k → Bs (Z r) ∧ (Z r).length ≤ 300) ∧ Enc w wr Z k x m c) := ⟨hb, he⟩
    have hm4 : m ≤ 4000 := by have := (enc_sl he hb).2.2.2.2; omega
    clear hb he
    by_cases hkn : k < n
    · have ki : (k : Int) < n := by omega
      obtain ⟨bb, off, ha, hbb, hrow⟩ := HR.out.resolve_left (by omega)
      subst ha
      obtain ⟨q1, q2, q3, q4, q5⟩ := hrow k hkn
      have QK : Hid (Sl .u8 w (A k) (L k) (Z k) ∧ (A k = none → C k = 0)) := ⟨q2, q5⟩
      have q0 : wr.cell? ⟨bb, off + k, none⟩ = some (.slice (A k) (L k) (C k)) := (HE.out.2.2.2.cell (p := ⟨bb, off + k, none⟩) hbb).trans q1
      clear hrow q2 q5
      by_cases hl : (300 : Int) < L k
      · go_wp2
        go_ret
        exact ⟨rfl, HE.out.2.2.2⟩
      have P := rec_put (A k) (L k) (C k) (Z k) wr (QK.out.1.below HE.out.2.2.2) QK.out.2 (by omega)
      go_wp2_with fail
      go_at_call 7
      refine P.mono ?_
      rintro e w1 ⟨v1, rfl, o1, b1⟩
      have q6 : w1.cell? ⟨bb, off + k, none⟩ = some (.slice (A k) (L k) (C k)) := (b1.cell (p := ⟨bb, off + k, none⟩) (Nat.lt_of_lt_of_le hbb HE.out.2.2.2.size)).trans q0
      obtain ⟨x1, c1, rfl⟩ := own_form o1
      have hlk : L k ≤ 300 := by omega
      have hL : (recS (Z k)).length = L k + 2 := by rw [recS_length, QK.out.1.1]
      have S1 : Hid (Sl .u8 w1 x1 (L k + 2) (recS (Z k)) ∧ (x1 = none → c1 = 0)) := by
        rw [← hL] at o1
        obtain ⟨a, c', hv, hs, hn⟩ := Sl.own o1 (recS_bs' QK.out.1.2.1 (by have := QK.out.1.1; omega))
        simp only [Value.slice.injEq] at hv
        obtain ⟨rfl, hm', rfl⟩ := hv
        rw [hL] at hs
        exact ⟨hs, hn⟩
      have O1 : Hid (w1.ownsRow w.heap.size 5 1 (.slice x m c) m ((encR (rowsOf Z k)).map (Value.int .u8))) := own_below HE.out.2.2.1 b1
      have B1 : Hid (Below w.heap.size w w1) := HE.out.2.2.2.trans (b1.mono HE.out.2.2.2.size)
      have HZ : Hid ((∀ r, r < k + 1 → Bs (Z r) ∧ (Z r).length ≤ 300) ∧ m = endR Z k ∧ (Z k).length = L k) := by
        refine ⟨fun r hr => ?_, HE.out.2.1, QK.out.1.1.symm⟩
        by_cases hrk : r < k
        · exact HE.out.1 r hrk
        · have : r = k := by omega
          subst this
          exact ⟨QK.out.1.2.1, by have := QK.out.1.1; omega⟩
      obtain ⟨l, hlE⟩ : ∃ l, L k = l := ⟨_, rfl⟩
      obtain ⟨ak, hak⟩ : ∃ l, A k = l := ⟨_, rfl⟩
      obtain ⟨ck, hck⟩ : ∃ l, C k = l := ⟨_, rfl⟩
      rw [hlE, hak, hck] at q6
      rw [hlE] at S1 HZ hl hlk
      rw [hlE, hak, hck]
      have j1 : IntKind.i64.wrap ((l : Int) + 2) = (l : Int) + 2 := i64_wf (by omega) (by omega)
      have j2 : IntKind.i64.wrap ((k : Int) + 1) = (k : Int) + 1 := i64_wf (by omega) (by omega)
      clear HE QK o1 b1 P q0 q1 q3 q4 hlE hak hck hL
      go_wp2_with (at_builtin; refine wpList_append_sl rfl _ _ 22 rfl w.heap.size 5 i0 _ 1 Try.underlying22 hi hz0 hz1 hz2 rfl _ m _ rfl O1.out .u8 x1 (l + 2) c1 (recS (Z k)) rfl S1.out.1 S1.out.2 (by unfold maxLen; omega) (by omega) B1.out.size ?_)
      intro v2 w2 o2 g2 _
      have B2 : Hid (Below w.heap.size w w2) := B1.out.grown g2 B1.out.size (fun k hk => (O1.out.lt k hk).1)
      obtain ⟨x2, c2, rfl⟩ := own_form o2
      have E2 : Hid (Enc w w2 Z (k + 1) x2 (m + (l + 2)) c2) := by
        refine ⟨?_, ?_, B2.out⟩
        · rw [endR_succ, HZ.out.2.2, HZ.out.2.1]
        · rw [rowsOf_succ, encR_one, List.map_append]
          exact o2
      clear o2 g2 O1 S1 B1 B2
      go_wp2
      go_roundw
      case rel => exact ⟨k + 1, x2, _, c2, rfl, by simp, by omega, HZ.out.1, E2.out⟩
      case measure => show n - _ < n - _; simp; omega
    · have hkn' : k = n := by omega
      subst hkn'
      obtain ⟨wl, hwl⟩ : ∃ x, x = wr := ⟨_, rfl⟩
      subst hwl
      obtain ⟨HS1, HS2, HS3, HS4, _⟩ := enc_sl HE.out.2 HE.out.1
      have HL6 : Hid (∀ z ∈ rowsOf Z k, z.length ≤ 60000) := fun z hz => by
        obtain ⟨r, hr, rfl⟩ := rowsOf_mem hz
        have := (HE.out.1 r hr).2
        omega
      have HB : Hid (Sl .u8 wl x m (encR (rowsOf Z k)) ∧ (x = none → c = 0) ∧ Below w.heap.size w wl ∧ m ≤ c ∧ c ≤ 9223372036854775807) := ⟨HS1, HS4, HE.out.2.2.2, HS2, HS3⟩
      have P := rec_scan x m c _ wl HS1 HS2 HS3 HS4 (by omega)
      rw [scanS_all _ HL6.out] at P
      clear HS1 HS4 HE HS2 HS3 hkn hk
      go_wp2_with fail
      go_at_call 9
      refine P.mono ?_
      rintro e w2 ⟨v2, vs, rfl, m2, b2⟩
      obtain ⟨x2, c2, rfl⟩ := own_form m2.own
      have B2 : Hid (Below w.heap.size w w2 ∧ Below wl.heap.size wl w2) := ⟨HB.out.2.2.1.trans (b2.mono HB.out.2.2.1.size), b2⟩
      have M2 : Hid (Made w2 wl.heap.size (.slice x2 k c2) vs (rowsOf Z k)) := by rw [rowsOf_length] at m2; exact m2
      have N := ref_same x2 k c2 (rowsOf Z k) a0 k cap0 (rowsOf Z k) w2 M2.out.read ((rowsAt_rowsIn HR.out k (Nat.le_refl _)).below B2.out.1) (by omega) (by omega)
      rw [decide_eq_true rfl] at N
      rw [rowsOf_length]
      clear P m2 b2
      go_wp2_with fail
      go_at_call 11
      refine N.mono ?_
      rintro e w3 ⟨rfl, b3⟩
      have M3 : Hid (Made w3 wl.heap.size (.slice x2 k c2) vs (rowsOf Z k)) := M2.out.below b3
      have B3 : Hid (Below wl.heap.size wl w3) := B2.out.2.trans (b3.mono B2.out.2.size)
      clear N b3 M2 B2
      go_wp2
      go_loopw [9] (fun i wt => ∃ (j : Nat) (R : List (List Int)), i = .int .i64 j ∧ j ≤ k ∧ R.length = k ∧ Made wt wl.heap.size (.slice x2 k c2) vs R ∧ Below wl.heap.size wl wt) (fun i _ => match i with | .int _ j => k - j.toNat | _ => 0)
      case atStart => exact ⟨0, rowsOf Z k, rfl, by omega, rowsOf_length _ _, M3.out, B3.out⟩
      case round =>
        obtain ⟨j, R, rfl, hj, hRl, hM, hBl⟩ := hrel
        have HM : Hid (R.length = k ∧ Made wr wl.heap.size (.slice x2 k c2) vs R ∧ Below wl.heap.size wl wr) := ⟨hRl, hM, hBl⟩
        have j2 : IntKind.i64.wrap ((j : Int) + 1) = (j : Int) + 1 := i64_wf (by omega) (by omega)
        by_cases hjk : j < k
        · have ji : (j : Int) < k := by omega
          have hO : wr.ownsRow wl.heap.size 22 1 (.slice x2 k c2) k vs := by have := hM.own; rw [hRl] at this; exact this
          obtain ⟨gs, hx2, _, hcs, _⟩ := own_at hO (by omega)
          obtain ⟨xa, ca, hva⟩ := own_form (hM.row j (by omega))
          have hvl : vs.length = k := by have := hO.1; omega
          have q0 : wr.cell? ⟨gs, j, none⟩ = some (.slice xa (R.getD j []).length ca) := by
            rw [hcs j hjk, ← hva]
            simp [List.getD_eq_getElem?_getD, hvl, hjk]
          have hO2 := hM.row j (by omega)
          rw [hva] at hO2
          have HO2 : Hid (wr.ownsRow wl.heap.size 5 1 (.slice xa (R.getD j []).length ca) (R.getD j []).length ((R.getD j []).map (Value.int .u8)) ∧ vs.getD j undef = .slice xa (R.getD j []).length ca) := ⟨hO2, hva⟩
          obtain ⟨l, hl⟩ : ∃ l, (R.getD j []).length = l := ⟨_, rfl⟩
          have HLn : Hid ((R.getD j []).length = l) := hl
          rw [hl] at q0
          subst hx2
          clear hM hBl hRl hO hcs hva hO2 hvl hl
          by_cases h0 : l = 0
          · have l0 : (l : Int) ≤ 0 := by omega
            go_wp2
            go_roundw
            case rel => exact ⟨j + 1, R, by simp, by omega, HM.out.1, HM.out.2.1, HM.out.2.2⟩
            case measure => show k - _ < k - _; simp; omega
          · have l0 : (0 : Int) < l := by omega
            have l1 : 0 < l := by omega
            obtain ⟨g, hxa, hg, hc, hf⟩ := own_at HO2.out.1 (by have := HLn.out; omega)
            subst hxa
            obtain ⟨y, hy⟩ : ∃ y, ((R.getD j []).map (Value.int .u8))[0]? = some (.int .u8 y) := by
              have := HLn.out
              match hh : R.getD j [] with
              | [] => rw [hh] at this; simp at this; omega
              | y :: _ => exact ⟨y, by simp⟩
            have q1 : wr.cell? ⟨g, 0, none⟩ = some (.int .u8 y) := (hc 0 (by have := HLn.out; omega)).trans hy
            have MP := made_poke HM.out.2.1 j (by have := HM.out.1; omega) g _ ca HO2.out.2 (IntKind.u8.wrap (y + 1)) (u8_wrap_ok _)
            have BP : Hid (Below wl.heap.size wl (wr.setCell ⟨g, 0, none⟩ (.int .u8 (IntKind.u8.wrap (y + 1))))) := HM.out.2.2.setCell (p := ⟨g, 0, none⟩) hg _
            obtain ⟨R', hR', hM'⟩ := MP
            have HM' : Hid (R'.length = R.length ∧ Made (wr.setCell ⟨g, 0, none⟩ (.int .u8 (IntKind.u8.wrap (y + 1)))) wl.heap.size (.slice (some ⟨gs, 0, none⟩) k c2) vs R') := ⟨hR', hM'⟩
            clear hc hy hR' hM'
            go_wp2
            go_roundw
            case rel => exact ⟨j + 1, R', by simp, by omega, by rw [HM'.out.1]; exact HM.out.1, HM'.out.2, BP.out⟩
            case measure => show k - _ < k - _; simp; omega
        · have hjk' : ¬ (j : Int) < k := by omega
          have BT : Hid (Below wl.heap.size wl wr) := HM.out.2.2
          have BW : Hid (Below w.heap.size w wr) := HB.out.2.2.1.trans (BT.out.mono HB.out.2.2.1.size)
          have P := rec_scan x m c _ wr (HB.out.1.below BT.out) HB.out.2.2.2.1 HB.out.2.2.2.2 HB.out.2.1 (by omega)
          rw [scanS_all _ HL6.out] at P
          clear hM hBl hRl HM
          go_wp2_with fail
          go_at_call 9
          refine P.mono ?_
          rintro e w5 ⟨v5, vs5, rfl, m5, b5⟩
          obtain ⟨x5, c5, rfl⟩ := own_form m5.own
          have B5 : Hid (Below w.heap.size w w5) := BW.out.trans (b5.mono BW.out.size)
          have M5 := m5.read
          rw [rowsOf_length] at M5
          have N := ref_same x5 k c5 (rowsOf Z k) a0 k cap0 (rowsOf Z k) w5 M5 ((rowsAt_rowsIn HR.out k (Nat.le_refl _)).below B5.out) (by omega) (by omega)
          rw [decide_eq_true rfl] at N
          rw [rowsOf_length]
          clear P m5 b5 M5
          go_wp2_with fail
          go_at_call 11
          refine N.mono ?_
          rintro e w6 ⟨rfl, b6⟩
          have B6 : Hid (Below w.heap.size w w6) := B5.out.trans (b6.mono B5.out.size)
          clear N b6
          go_wp2_with fail
          go_at_call 12
          refine (known_true w6).mono ?_
          rintro e w7 ⟨rfl, b7⟩
          go_wp2
          go_ret
          exact ⟨rfl, B6.out.trans (b7.mono B6.out.size)⟩

theorem Walk.recBack (a0 : Option Addr) (len0 cap0 : Nat) (A0 : Nat → Option Addr) (L0 C0 : Nat → Nat) (Z0 : Nat → List Int) (w : World) (w0 : Walk.IsRows .u8 w a0 len0 cap0 A0 L0 C0 Z0) :
    Calls Try.prog 6 #[.slice a0 len0 cap0] w fun e w' => e = .returned (.bool true) ∧ Below w.heap.size w w' := by
  by_cases h1 : (12 : Int) < len0
  · go_enter Try.func6, Try.ntmps6
    go_wp2
    go_ret
    exact ⟨rfl, Below.refl _ _⟩
  exact back_main a0 len0 cap0 A0 L0 C0 Z0 w w0.rows.1 (by omega)

end Go.Proofs.Ytjonnheamhlibaa
