/-
  The walk of PoolOwn.
-/
import Derived.Test.YtbnhpehobadebaaPoolKnown
import Derived.Test.YtbnhpehobadebaaArgs
namespace Go.Proofs.Ytbnhpehobadebaa
open Go.RowKit
set_option linter.unusedVariables false
set_option linter.unusedSimpArgs false
namespace Walk

theorem poolOwn_out (a : Option Addr) (len cap : Nat) (i v : Int) (w : World) (h : 20 < (len : Int)) :
    Calls Try.prog 5 #[.slice a len cap, .int .i64 i, .int .i64 v] w fun e w' => e = .returned (.bool true) ∧ Below w.heap.size w w' := by
  go_enter Try.func5, Try.ntmps5
  go_wp2
  go_ret
  exact ⟨rfl, Below.refl _ _⟩

theorem setS_self {zs : List Int} {k : Nat} {v : Int} (h : k < zs.length) : (setS zs (k : Int) v).getD k 0 = v := by rw [setS_yes h]; exact getD_set_self _ _ _ h
theorem setS_other {zs : List Int} {k : Nat} {i v : Int} (h : k < zs.length) (hne : (k : Int) ≠ i) : (setS zs i v).getD k 0 = zs.getD k 0 := by
  unfold setS
  split
  · exact getD_set_ne _ _ _ _ (by omega)
  · rfl

set_option maxHeartbeats 4000000 in
theorem poolOwn_in (a : Option Addr) (len cap : Nat) (zs : List Int) (i v : Int) (w : World) (hS : Sl .i64 w a len zs) (hn : a = none → cap = 0) (hv : IntKind.i64.wrap v = v) (h1 : len ≤ 20) :
    Calls Try.prog 5 #[.slice a len cap, .int .i64 i, .int .i64 v] w fun e w' => e = .returned (.bool true) ∧ Below w.heap.size w w' := by
  obtain ⟨i0, hi, hz0, hz1, hz2⟩ := info_parts infoI64
  have own0 : (w.alloc (.cells #[] 2)).ownsRow w.heap.size 2 1 (.slice (some ⟨w.heap.size, 0, none⟩) 0 0) 0 [] := World.ownsRow_lit w #[] 0 (Nat.le_refl _) (by decide) rfl
  have bel0 : Below w.heap.size w (w.alloc (.cells #[] 2)) := (Below.refl _ _).alloc (Nat.le_refl _) _
  have hS0 := hS.below bel0
  have HS : Hid (Sl .i64 w a len zs) := hS
  have HV : Hid (IntKind.i64.wrap v = v) := hv
  have HB0 : Hid (Below w.heap.size w (w.alloc (.cells #[] 2))) := bel0
  have Hnn : Hid (a = none → cap = 0) := hn
  clear hS hv hn bel0
  have i1 : (len : Int) ≤ 20 := by omega
  go_enter Try.func5, Try.ntmps5
  go_wp2_with (refine wpList_append_sl rfl _ _ 23 rfl w.heap.size 2 i0 (.int .i64 0) 8 Try.underlying23 hi hz0 hz1 hz2 rfl (.slice (some ⟨w.heap.size, 0, none⟩) 0 0) 0 [] rfl own0 .i64 a len cap zs rfl hS0 Hnn.out ?c1 ?c2 ?c3 ?_)
  case c1 => unfold maxLen; omega
  case c2 => omega
  case c3 => exact HB0.out.size
  intro v' w2 hown hgrow hnil
  have HB2 : Hid (Below w.heap.size w w2) := HB0.out.grown hgrow HB0.out.size (fun k hk => by simp [Value.ownBlock] at hk; omega)
  have hnn : v' ≠ .slice none 0 0 := hnil
  obtain ⟨g, c2, rfl⟩ := own_some hown hnn
  have HM : Hid (Sl .i64 w2 (some ⟨g, 0, none⟩) len zs) := by
    obtain ⟨a', c', hv', hs', _⟩ := Sl.own hown HS.out.2.1
    simp at hv'
    have hl := HS.out.1
    rw [← hl] at hs'
    rw [hv'.1]
    exact hs'
  clear hown hgrow hnil hnn own0 HB0 hS0
  have S1 := set_any (some ⟨g, 0, none⟩) len c2 zs i v w2 HM.out (by omega) HV.out
  go_wp2_with fail
  go_at_call 10
  refine S1.mono ?_
  rintro e w3 ⟨g3, c3, rfl, s3, hg3, hc3, B3⟩
  have H3 : Hid (Below w.heap.size w w3) := HB2.out.trans (B3.mono HB2.out.size)
  have T3 : Hid (Sl .i64 w3 (some ⟨g3, 0, none⟩) len (setS zs i v)) := s3
  have S3 := same_any (some ⟨g, 0, none⟩) a len len c2 cap zs zs w3 (HM.out.below B3) (HS.out.below H3.out) (by omega)
  rw [decide_eq_true rfl] at S3
  clear B3 S1 HB2 s3 hg3 hc3 HM
  go_wp2_with fail
  go_at_call 9
  refine S3.mono ?_
  rintro e w4 ⟨rfl, n4, hw4⟩
  have H4 : Hid (Below w.heap.size w w4) := by rw [hw4]; exact below_drewN H3.out _
  have T4 : Hid (Sl .i64 w4 (some ⟨g3, 0, none⟩) len (setS zs i v)) := by rw [hw4]; exact T3.out.drew _
  clear hw4 S3 H3 T3
  go_wp2
  go_loop [9] (fun x => ∃ k : Nat, k ≤ len ∧ x = .int .i64 k) (fun x => len - (intOf x).toNat)
  case atStart => exact ⟨0, Nat.zero_le _, rfl⟩
  case round =>
    obtain ⟨k, hk, rfl⟩ := hrel
    by_cases hlt : k < len
    · obtain ⟨b1, o1, rfl, d1, _, p0, p1⟩ := (HS.out.below H4.out).at64 hlt
      have d2 : w4.cell? ⟨g3, k, none⟩ = some (.int .i64 ((setS zs i v).getD k 0)) := by
        obtain ⟨b2, o2, he, d2, _⟩ := T4.out.at64 hlt
        simp at he
        obtain ⟨rfl, rfl⟩ := he
        rw [Nat.zero_add] at d2
        exact d2
      have hlz : k < zs.length := by rw [← HS.out.1]; exact hlt
      by_cases hki : (k : Int) = i
      · subst hki
        rw [setS_self hlz] at d2
        clear hlz
        go_wp2
        go_round
        case rel => exact ⟨k + 1, by omega, by go_num⟩
        case measure => simp [intOf]; omega
      · rw [setS_other hlz hki] at d2
        have hne : ((k : Int) == i) = false := by simp [hki]
        clear hlz hki
        generalize zs.getD k 0 = x at d1 d2 p0 p1
        go_wp2
        go_round
        case rel => exact ⟨k + 1, by omega, by go_num⟩
        case measure => simp [intOf]; omega
    · obtain rfl : k = len := by omega
      go_wp2_with fail
      go_at_call 12
      refine (known_any w4).mono ?_
      rintro e w5 ⟨rfl, B5⟩
      have H5 : Hid (Below w.heap.size w w5) := H4.out.trans (B5.mono H4.out.size)
      clear B5
      go_wp2
      go_ret
      exact ⟨rfl, H5.out⟩

theorem poolOwn (a0 : Option Addr) (len0 cap0 : Nat) (z0 : List Int) (a1 a2 : Int) (w : World) (w0 : IsRow .i64 w a0 len0 cap0 z0) (w1 : (Lit.int .i64 a1).wf = true) (w2 : (Lit.int .i64 a2).wf = true) :
    Calls Try.prog 5 #[.slice a0 len0 cap0, .int .i64 a1, .int .i64 a2] w fun e w' => e = .returned (.bool true) ∧ Below w.heap.size w w' := by
  by_cases h : len0 ≤ 20
  · exact poolOwn_in a0 len0 cap0 _ a1 a2 w (w0.sl wf_i64').1 w0.none (wf_i64' _ w2) h
  · exact poolOwn_out a0 len0 cap0 a1 a2 w (by omega)

end Walk
end Go.Proofs.Ytbnhpehobadebaa
