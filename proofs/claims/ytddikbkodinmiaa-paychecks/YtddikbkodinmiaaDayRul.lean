/-
  day: Is: the program's answer and the document's.
-/
import Derived.Test.YtddikbkodinmiaaDayIs
namespace Go.Proofs.Ytddikbkodinmiaa
open Go.RowKit
set_option linter.unusedVariables false
set_option linter.unusedSimpArgs false

/-- Rules that may be. -/
def rulS (p : Int) (len : Nat) (P C : Nat → Int) (cut cl per : Int) : Bool := inB p 1 6 && (astS len P C && (inB cl 1 1048576 && (inB cut 0 cl && inB per 1 1048576)))

/-- Rules that lie at g. -/
def RulAt (w : World) (g : Nat) (p : Int) (a : Option Addr) (len cap : Nat) (cut cl per : Int) : Prop :=
  w.cell? ⟨g, 0, none⟩ = some (.int .i64 p) ∧ w.cell? ⟨g, 1, none⟩ = some (.slice a len cap) ∧ w.cell? ⟨g, 2, none⟩ = some (.int .i64 cut) ∧ w.cell? ⟨g, 3, none⟩ = some (.int .i64 cl) ∧ w.cell? ⟨g, 4, none⟩ = some (.int .i64 per)

theorem RulAt.below {w w' : World} {g : Nat} {p : Int} {a : Option Addr} {len cap : Nat} {cut cl per : Int} (h : RulAt w g p a len cap cut cl per) (hb : Below w.heap.size w w') : RulAt w' g p a len cap cut cl per := by
  obtain ⟨h0, h1, h2, h3, h4⟩ := h
  have hg := block_lt_of_cell h0
  exact ⟨by rw [hb.cell (p := ⟨g, 0, none⟩) hg]; exact h0, by rw [hb.cell (p := ⟨g, 1, none⟩) hg]; exact h1, by rw [hb.cell (p := ⟨g, 2, none⟩) hg]; exact h2, by rw [hb.cell (p := ⟨g, 3, none⟩) hg]; exact h3, by rw [hb.cell (p := ⟨g, 4, none⟩) hg]; exact h4⟩

theorem rul_new (w : World) (p : Int) (a : Option Addr) (len cap : Nat) (cut cl per : Int) (t : TypeId) (fr : Nat × Nat) : RulAt (w.alloc (.cells #[.int .i64 p, .slice a len cap, .int .i64 cut, .int .i64 cl, .int .i64 per] t fr)) w.heap.size p a len cap cut cl per :=
  ⟨by rw [cell_new]; rfl, by rw [cell_new]; rfl, by rw [cell_new]; rfl, by rw [cell_new]; rfl, by rw [cell_new]; rfl⟩

theorem rulS_low {p : Int} {len : Nat} {P C : Nat → Int} {cut cl per : Int} (h : p < 1) : false = rulS p len P C cut cl per := by
  have : inB p 1 6 = false := (inB_no h).symm
  simp [rulS, this]
theorem rulS_high {p : Int} {len : Nat} {P C : Nat → Int} {cut cl per : Int} (h : 6 < p) : false = rulS p len P C cut cl per := by
  have : inB p 1 6 = false := by unfold inB; rw [decide_eq_false_iff_not]; omega
  simp [rulS, this]
theorem rulS_many {p : Int} {len : Nat} {P C : Nat → Int} {cut cl per : Int} (h : 3 < len) : false = rulS p len P C cut cl per := by
  have : astS len P C = false := (astS_many (by omega)).symm
  simp [rulS, this]
theorem rulS_bad {p : Int} {len k : Nat} {P C : Nat → Int} {cut cl per : Int} (h : k < len) (hk : astOk P C k = false) : false = rulS p len P C cut cl per := by
  have : astS len P C = false := (astS_bad h hk).symm
  simp [rulS, this]
theorem rulS_rest {p : Int} {len : Nat} {P C : Nat → Int} {cut cl per : Int} {q3 q4 q5 : Bool} (h1 : ¬ p < 1) (h6 : ¬ 6 < p) (h3 : len ≤ 3) (hk : ∀ j, j < len → astOk P C j = true) (r3 : inB cl 1 1048576 = q3) (r4 : inB cut 0 cl = q4) (r5 : inB per 1 1048576 = q5) : (q3 && (q4 && q5)) = rulS p len P C cut cl per := by
  have e1 : inB p 1 6 = true := by unfold inB; rw [decide_eq_true_iff]; omega
  have e2 : astS len P C = true := (astS_all h3 hk).symm
  simp [rulS, e1, e2, r3, r4, r5]

set_option maxHeartbeats 4000000 in
theorem refIs_any (p : Int) (a : Option Addr) (len cap : Nat) (P C : Nat → Int) (cut cl per : Int) (w : World) (h : Asts w a len P C) (hl : len ≤ 9223372036854775807) :
    Calls Try.prog 7 #[.agg #[.int .i64 p, .slice a len cap, .int .i64 cut, .int .i64 cl, .int .i64 per]] w fun e w' => e = .returned (.bool (rulS p len P C cut cl per)) ∧ Below w.heap.size w w' := by
  by_cases h1 : p < 1
  · go_enter Try.func7, Try.ntmps7
    go_wp2
    go_ret
    exact ⟨rt_bool (rulS_low h1), box_below _ _⟩
  by_cases h6 : 6 < p
  · go_enter Try.func7, Try.ntmps7
    go_wp2
    go_ret
    exact ⟨rt_bool (rulS_high h6), box_below _ _⟩
  by_cases h3 : 3 < len
  · go_enter Try.func7, Try.ntmps7
    go_wp2
    go_ret
    exact ⟨rt_bool (rulS_many h3), box_below _ _⟩
  obtain ⟨g, hg⟩ : ∃ g, w.heap.size = g := ⟨_, rfl⟩
  obtain ⟨w1, hw⟩ : ∃ w1, w1 = w.alloc (.cells #[.int .i64 p, .slice a len cap, .int .i64 cut, .int .i64 cl, .int .i64 per] 24) := ⟨_, rfl⟩
  have b1 : Below w.heap.size w w1 := by rw [hw]; exact box_below _ _
  have HA : Hid (Asts w1 a len P C) := h.below b1
  have B1 : Hid (Below w.heap.size w w1) := b1
  have R1 : RulAt w1 g p a len cap cut cl per := by rw [hw, ← hg]; exact rul_new _ _ _ _ _ _ _ _ _ _
  obtain ⟨d0, d1, d2, d3, d4⟩ := R1
  have h3' : len ≤ 3 := by omega
  have HW : Hid (w1 = w.alloc (.cells #[.int .i64 p, .slice a len cap, .int .i64 cut, .int .i64 cl, .int .i64 per] 24)) := hw
  have HG : Hid (w.heap.size = g) := hg
  have W1 := in_any cl 1 1048576
  have W2 := in_any cut 0 cl
  have W3 := in_any per 1 1048576
  obtain ⟨q3, r3⟩ : ∃ q, inB cl 1 1048576 = q := ⟨_, rfl⟩
  obtain ⟨q4, r4⟩ : ∃ q, inB cut 0 cl = q := ⟨_, rfl⟩
  obtain ⟨q5, r5⟩ : ∃ q, inB per 1 1048576 = q := ⟨_, rfl⟩
  rw [r3] at W1
  rw [r4] at W2
  rw [r5] at W3
  have R3 : Hid (inB cl 1 1048576 = q3) := r3
  have R4 : Hid (inB cut 0 cl = q4) := r4
  have R5 : Hid (inB per 1 1048576 = q5) := r5
  clear h b1 hw hg r3 r4 r5
  go_enter Try.func7, Try.ntmps7
  go_wp2
  rw [HG.out]
  go_loopw [3] (fun i wr => ∃ k : Nat, k ≤ len ∧ i = .int .i64 k ∧ w1 = wr ∧ ∀ j, j < k → astOk P C j = true) (fun i _ => len - (intOf i).toNat)
  case atStart => exact ⟨0, Nat.zero_le _, rfl, HW.out, fun j hj => by omega⟩
  case round =>
    obtain ⟨k, hk, rfl, hwr, ok⟩ := hrel
    subst hwr
    have OK : Hid (∀ j, j < k → astOk P C j = true) := ok
    have HA' := HA.out
    clear ok
    by_cases hlt : k < len
    · clear W1 W2 W3
      rcases HA' with h0 | ⟨b, off, rfl, hbs, hc⟩
      · omega
      · obtain ⟨c0, c1⟩ := hc k hlt
        clear hc
        obtain ⟨x, hx⟩ : ∃ x, P k = x := ⟨_, rfl⟩
        obtain ⟨y, hy⟩ : ∃ y, C k = y := ⟨_, rfl⟩
        rw [hx] at c0
        rw [hy] at c1
        have V1 := in_any x 0 1048576
        have V2 := in_any y 0 10000
        obtain ⟨t, ht⟩ : ∃ p, inB x 0 1048576 = p := ⟨_, rfl⟩
        obtain ⟨q, hq⟩ : ∃ q, inB y 0 10000 = q := ⟨_, rfl⟩
        rw [ht] at V1
        rw [hq] at V2
        have HP : Hid (inB (P k) 0 1048576 = t) := by show inB (P k) 0 1048576 = t; rw [hx]; exact ht
        have HQ : Hid (inB (C k) 0 10000 = q) := by show inB (C k) 0 10000 = q; rw [hy]; exact hq
        clear ht hq hx hy
        go_wp2_with fail
        go_at_call 17
        refine (V1 _).mono ?_
        rintro e w2 ⟨rfl, hw⟩
        obtain rfl := hw.symm
        clear V1
        cases t
        · go_wp2
          go_ret
          exact ⟨rt_bool (rulS_bad hlt (astOk_p HP.out)), B1.out⟩
        · go_wp2_with fail
          go_at_call 17
          refine (V2 _).mono ?_
          rintro e w2 ⟨rfl, hw⟩
          obtain rfl := hw.symm
          clear V2
          cases q
          · go_wp2
            go_ret
            exact ⟨rt_bool (rulS_bad hlt (astOk_c HQ.out)), B1.out⟩
          · go_wp2
            go_roundw
            case rel => exact ⟨k + 1, by omega, by go_num, trivial, ok_snoc OK.out (astOk_all HP.out HQ.out)⟩
            case measure => simp [intOf]; omega
    · have R := rulS_rest (p := p) (cut := cut) (by omega) (by omega) h3' (fun j hj => OK.out j (by omega)) R3.out R4.out R5.out
      have HR : Hid ((q3 && (q4 && q5)) = rulS p len P C cut cl per) := R
      clear R HA'
      go_wp2_with fail
      go_at_call 17
      refine (W1 _).mono ?_
      rintro e w2 ⟨rfl, hw⟩
      obtain rfl := hw.symm
      clear W1
      cases q3
      · go_wp2
        go_ret
        exact ⟨rt_bool (by rw [← HR.out]; simp), B1.out⟩
      go_wp2_with fail
      go_at_call 17
      refine (W2 _).mono ?_
      rintro e w2 ⟨rfl, hw⟩
      obtain rfl := hw.symm
      clear W2
      cases q4
      · go_wp2
        go_ret
        exact ⟨rt_bool (by rw [← HR.out]; simp), B1.out⟩
      go_wp2_with fail
      go_at_call 17
      refine (W3 _).mono ?_
      rintro e w2 ⟨rfl, hw⟩
      obtain rfl := hw.symm
      clear W3
      go_wp2
      go_ret
      exact ⟨rt_bool (by rw [← HR.out]; simp), B1.out⟩

end Go.Proofs.Ytddikbkodinmiaa
