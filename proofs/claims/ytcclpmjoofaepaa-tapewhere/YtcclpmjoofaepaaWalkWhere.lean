/-
  girolaw4.TapeWhere.
-/
import Derived.Test.YtcclpmjoofaepaaKnown4
import Derived.Test.YtcclpmjoofaepaaArgs
namespace Go.Proofs.Ytcclpmjoofaepaa
open Go.RowKit
set_option linter.unusedVariables false

theorem one_new (w : World) (T : TypeId) (x : Int) (hx : IntKind.u8.wrap x = x) : Sl .u8 (w.alloc (.cells #[.int .u8 x] T (1, 2))) (some ⟨w.heap.size, 0, none⟩) 1 [x] :=
  Sl.new .u8 w T (1, 2) [x] (by intro n hn; simp at hn; rw [hn]; exact hx)

/-- An Append that fits, on a side that is there. -/
theorem append_fits (d : D) (side : Int) (ys : List Int) (hd : d.dn = false) (hs : side = 0 ∨ side = 1) (hf : (d.z0.length : Int) + d.z1.length + ys.length ≤ d.room) :
    (d.crash = true ∧ d.append side ys = (11, d.lost)) ∨ (d.crash = false ∧ d.append side ys = (0, if side = 0 then d.more0 ys else d.more1 ys)) := by
  have hr : ¬ d.room - ((d.read side).length : Int) < (ys.length : Int) := by
    rcases hs with rfl | rfl <;> simp [D.read] <;> omega
  have hs' : 0 ≤ side ∧ side ≤ 1 := by omega
  unfold D.append
  rw [hd]
  simp only [Bool.false_eq_true, if_false, hs', and_self, not_true, hr]
  cases hc : d.crash with
  | true => exact .inl ⟨rfl, by simp⟩
  | false => exact .inr ⟨rfl, by simp⟩

theorem append_down (d : D) (side : Int) (ys : List Int) (hd : d.dn = true) : d.append side ys = (11, d) := by simp [D.append, hd]

set_option maxHeartbeats 4000000 in
theorem where_main (a0 a1 a2 : Int) (w : World) (l1 : -9223372036854775808 ≤ a1) (h0 : 0 ≤ a0) (h1 : a0 ≤ 20) (h2 : 0 ≤ a2) (h3 : a2 ≤ 20) (h4 : a1 ≤ 100) :
    Calls Try.prog 7 #[.int .i64 a0, .int .i64 a1, .int .i64 a2] w fun e w' => e = .returned (.bool true) ∧ Below w.heap.size w w' := by
  go_enter Try.func7, Try.ntmps7
  go_wp2_with fail
  go_at_call 9
  refine (my_new 1000 w w (Below.refl _ _) (by decide) (by decide)).mono ?_
  rintro e w1 ⟨rfl, h1⟩
  obtain ⟨b, hb⟩ : ∃ b, w.heap.size = b := ⟨_, rfl⟩
  have HB : Hid (w.heap.size = b) := hb
  rw [hb] at h1
  rw [hb]
  clear hb
  go_wp2
  go_loopw [8] (fun i wr => ∃ (k : Nat) (d : D), i = .int .i64 k ∧ (k : Int) ≤ a0 ∧ Mine w wr b d ∧ d.room = 1000 ∧ d.dn = false ∧ d.ar = false ∧ d.ops = k ∧ d.z0.length + d.z1.length = k) (fun i _ => (a0 - intOf i).toNat)
  case atStart => exact ⟨0, _, rfl, by omega, h1, rfl, rfl, rfl, rfl, rfl⟩
  case round =>
    obtain ⟨k, d, rfl, hk, hm, hD⟩ := hrel
    clear h1
    have HD : Hid (d.room = 1000 ∧ d.dn = false ∧ d.ar = false ∧ d.ops = k ∧ d.z0.length + d.z1.length = k) := hD
    clear hD
    by_cases hlt : (k : Int) < a0
    · have C := Lib.run_convert_bytes_const (P := Try.prog) wr 27 5 #[.int .u8 120] 1 1 Try.underlying27 Try.underlying5
      go_wp2_with fail
      go_at_call 11
      obtain ⟨sd, hsd⟩ : ∃ sd, (k : Int) % 2 = sd := ⟨_, rfl⟩
      rw [hsd]
      have hs : sd = 0 ∨ sd = 1 := by omega
      have hap : d.append sd [120] = (0, if sd = 0 then d.more0 [120] else d.more1 [120]) := by
        rcases append_fits d sd [120] HD.out.2.1 hs (by have := HD.out; simp; omega) with ⟨hc, _⟩ | ⟨_, h⟩
        · simp [D.crash, HD.out.2.2.1] at hc
        · exact h
      refine (my_append b w _ d (hm.alloc _) sd _ 1 1 [120] (one_new wr _ 120 (by decide)) (by simp) (fun _ x hx => by have := hm.base.2; simp at hx; subst hx; simp; omega) (by decide) (by have := HD.out.2.2.2.1; omega) _ _ hap).mono ?_
      rintro e w2 ⟨rfl, h2⟩
      have H2 : Hid (∃ d' : D, Mine w w2 b d' ∧ d'.room = 1000 ∧ d'.dn = false ∧ d'.ar = false ∧ d'.ops = k + 1 ∧ d'.z0.length + d'.z1.length = k + 1) := by
        obtain ⟨q1, q2, q3, q4, q5⟩ := HD.out
        refine ⟨_, h2, ?_⟩
        rcases hs with rfl | rfl
        · simp [D.more0, q1, q3, q4]; omega
        · simp [D.more1, q1, q3, q4]; omega
      clear h2 hap hs hsd HD hm C
      go_wp2
      go_roundw
      case rel =>
        obtain ⟨d', m', q⟩ := H2.out
        exact ⟨k + 1, d', by go_num, by omega, m', q⟩
      case measure => simp [intOf]; omega
    · have hka : (k : Int) = a0 := by omega
      obtain ⟨q1, q2, q3, q4, q5⟩ := HD.out
      have hl2 : Hid ((k : Int) = a0) := hka
      have HD' : Hid (d.room = 1000 ∧ d.dn = false ∧ d.ar = false ∧ (d.ops : Int) = a0 ∧ (d.z0.length : Int) + d.z1.length = a0) := ⟨q1, q2, q3, by omega, by omega⟩
      clear q1 q2 q3 q4 q5 HD hka
      go_wp2_with fail
      go_at_call 17
      refine (my_arm b w wr d hm a1 0 (by decide)).mono ?_
      rintro e w2 ⟨rfl, h2⟩
      clear hm
      go_wp2
      obtain ⟨wo, rfl⟩ : ∃ wo, wo = wr := ⟨wr, rfl⟩
      go_loopw [9] (fun i wr => ∃ (k : Nat) (d : D), i = .int .i64 k ∧ (k : Int) ≤ a2 ∧ Mine w wr b d ∧ d.room = 1000 ∧ d.ar = true ∧ d.at' = a1 ∧ (d.z0.length : Int) + d.z1.length ≤ a0 + k ∧
        (d.dn = true ∧ 0 < k ∧ a1 < a0 + k ∧ (d.ops : Int) = max a0 a1 ∨ d.dn = false ∧ (k = 0 ∨ a0 + k ≤ a1) ∧ (d.ops : Int) = a0 + k)) (fun i _ => (a2 - intOf i).toNat)
      case atStart =>
        obtain ⟨q1, q2, q3, q4, q5⟩ := HD'.out
        exact ⟨0, d.armed a1 0, rfl, by omega, h2, q1, rfl, rfl, by simp [D.armed]; omega, .inr ⟨q2, .inl rfl, by simp [D.armed]; omega⟩⟩
      case round =>
        clear h2 HD' hlt hl2 hk
        obtain ⟨k, d, rfl, hk, hm, q1, q2, q3, q4, q5⟩ := hrel
        have HD : Hid (d.room = 1000 ∧ d.ar = true ∧ d.at' = a1 ∧ (d.z0.length : Int) + d.z1.length ≤ a0 + k ∧ (d.dn = true ∧ 0 < k ∧ a1 < a0 + k ∧ (d.ops : Int) = max a0 a1 ∨ d.dn = false ∧ (k = 0 ∨ a0 + k ≤ a1) ∧ (d.ops : Int) = a0 + k)) := ⟨q1, q2, q3, q4, q5⟩
        clear q1 q2 q3 q4 q5
        by_cases hlt : (k : Int) < a2
        · have C := Lib.run_convert_bytes_const (P := Try.prog) wr 27 5 #[.int .u8 121] 1 1 Try.underlying27 Try.underlying5
          have A : Hid (∃ d' : D, d.append ((k : Int) % 2) [121] = ((if a1 ≤ a0 + k then 11 else 0), d') ∧ d'.room = 1000 ∧ d'.ar = true ∧ d'.at' = a1 ∧ (d'.z0.length : Int) + d'.z1.length ≤ a0 + (k + 1 : Nat) ∧
              (d'.dn = true ∧ 0 < k + 1 ∧ a1 < a0 + (k + 1 : Nat) ∧ (d'.ops : Int) = max a0 a1 ∨ d'.dn = false ∧ (k + 1 = 0 ∨ a0 + (k + 1 : Nat) ≤ a1) ∧ (d'.ops : Int) = a0 + (k + 1 : Nat))) := by
            obtain ⟨q1, q2, q3, q4, q5⟩ := HD.out
            rcases q5 with ⟨p1, p2, p3, p4⟩ | ⟨p1, p2, p3⟩
            · refine ⟨d, ?_, q1, q2, q3, by omega, .inl ⟨p1, by omega, by omega, p4⟩⟩
              rw [append_down d _ _ p1, if_pos (by omega)]
            · rcases append_fits d ((k : Int) % 2) [121] p1 (by omega) (by simp; omega) with ⟨hc, he⟩ | ⟨hc, he⟩
              · have hc' := (D.crash_true hc).2
                rw [q3] at hc'
                refine ⟨d.lost, ?_, q1, q2, q3, ?_, .inl ⟨rfl, by omega, by omega, ?_⟩⟩
                · rw [he, if_pos (by omega)]
                · simp [D.lost]; omega
                · show (d.ops : Int) = _; omega
              · have hc' := D.crash_false hc
                rw [q2, q3] at hc'
                simp at hc'
                refine ⟨if (k : Int) % 2 = 0 then d.more0 [121] else d.more1 [121], ?_, ?_⟩
                · rw [he]; simp only [if_neg (show ¬ a1 ≤ a0 + (k : Int) by omega)]
                · split
                  · exact ⟨q1, q2, q3, by simp [D.more0]; omega, .inr ⟨rfl, by omega, by simp [D.more0]; omega⟩⟩
                  · exact ⟨q1, q2, q3, by simp [D.more1]; omega, .inr ⟨rfl, by omega, by simp [D.more1]; omega⟩⟩
          obtain ⟨d', hap, hd'⟩ := A.out
          have HD2 := show Hid _ from hd'
          have hops : d.ops ≤ 4611686018427387904 := by have := HD.out.2.2.2.2; omega
          clear A hd' HD
          go_wp2_with fail
          go_at_call 11
          refine (my_append b w _ d (hm.alloc _) ((k : Int) % 2) _ 1 1 [121] (one_new wr _ 121 (by decide)) (by simp) (fun _ x hx => by have := hm.base.2; simp at hx; subst hx; simp; omega) (by decide) hops _ _ hap).mono ?_
          rintro e w3 ⟨rfl, h3⟩
          clear hm hap C hops
          have j0 : wrap64 (a0 + (k : Int)) = a0 + k := by unfold wrap64; omega
          by_cases hc : a1 ≤ a0 + (k : Int)
          · rw [if_pos hc]
            go_wp2
            go_roundw
            case rel => exact ⟨k + 1, d', by go_num, by omega, h3, HD2.out⟩
            case measure => simp [intOf]; omega
          · rw [if_neg hc]
            go_wp2
            go_roundw
            case rel => exact ⟨k + 1, d', by go_num, by omega, h3, HD2.out⟩
            case measure => simp [intOf]; omega
        · have hka : (k : Int) = a2 := by omega
          obtain ⟨q1, q2, q3, q4, q5⟩ := HD.out
          have hl2 : Hid ((k : Int) = a2) := hka
          have N := my_down b w wr d hm
          have M := deck_ops b wr _ d hm.1
          have j0 : wrap64 (a0 + a2) = a0 + a2 := by unfold wrap64; omega
          obtain ⟨op, hop⟩ : ∃ op : Int, (d.ops : Int) = op := ⟨_, rfl⟩
          rw [hop] at M q5
          have KN := known_true wr
          have HM := hm.2
          clear HD hop
          have jj : wrap64 a0 = a0 := by unfold wrap64; omega
          clear q1 q2 q3 q4 hm
          rcases q5 with ⟨p1, p2, p3, p4⟩ | ⟨p1, p2, p3⟩
          · rw [p1] at N
            have t1 : 0 < a2 := by omega
            have t2 : a1 < a0 + a2 := by omega
            by_cases hmx : a0 < a1
            · have t3 : op = a1 := by omega
              subst t3
              clear p2 p3 p4 hka hk p1
              go_wp2_with fail
              go_at_call 21
              refine N.mono ?_
              rintro e w3 ⟨rfl, hw⟩
              obtain rfl := hw.symm
              go_wp2_with fail
              go_at_call 22
              refine M.mono ?_
              rintro e w3 ⟨rfl, hw⟩
              obtain rfl := hw.symm
              go_wp2_with fail
              go_at_call 26
              refine KN.mono ?_
              rintro e w3 ⟨rfl, hw⟩
              go_wp2
              go_ret
              exact ⟨rfl, HM.trans (hw.mono HM.size)⟩
            · have t3 : op = a0 := by omega
              have t4 : a1 ≤ a0 := by omega
              have t5 : a0 < a0 + a2 := by omega
              subst t3
              clear p2 p3 p4 hka hk p1 hmx
              go_wp2_with fail
              go_at_call 21
              refine N.mono ?_
              rintro e w3 ⟨rfl, hw⟩
              obtain rfl := hw.symm
              go_wp2_with fail
              go_at_call 22
              refine M.mono ?_
              rintro e w3 ⟨rfl, hw⟩
              obtain rfl := hw.symm
              go_wp2_with fail
              go_at_call 26
              refine KN.mono ?_
              rintro e w3 ⟨rfl, hw⟩
              go_wp2
              go_ret
              exact ⟨rfl, HM.trans (hw.mono HM.size)⟩
          · rw [p1] at N
            by_cases hz : a2 = 0
            · have t3 : op = a0 := by omega
              subst t3
              obtain rfl := hz
              clear p2 p3 hka hk p1
              by_cases hmx : op < a1
              · have t6 : op ≤ a1 := by omega
                go_wp2_with fail
                go_at_call 21
                refine N.mono ?_
                rintro e w3 ⟨rfl, hw⟩
                obtain rfl := hw.symm
                go_wp2_with fail
                go_at_call 22
                refine M.mono ?_
                rintro e w3 ⟨rfl, hw⟩
                obtain rfl := hw.symm
                go_wp2_with fail
                go_at_call 26
                refine KN.mono ?_
                rintro e w3 ⟨rfl, hw⟩
                go_wp2
                go_ret
                exact ⟨rfl, HM.trans (hw.mono HM.size)⟩
              · have t4 : a1 ≤ op := by omega
                clear hmx
                go_wp2_with fail
                go_at_call 21
                refine N.mono ?_
                rintro e w3 ⟨rfl, hw⟩
                obtain rfl := hw.symm
                go_wp2_with fail
                go_at_call 22
                refine M.mono ?_
                rintro e w3 ⟨rfl, hw⟩
                obtain rfl := hw.symm
                go_wp2_with fail
                go_at_call 26
                refine KN.mono ?_
                rintro e w3 ⟨rfl, hw⟩
                go_wp2
                go_ret
                exact ⟨rfl, HM.trans (hw.mono HM.size)⟩
            · have t3 : op = a0 + a2 := by omega
              have t1 : 0 < a2 := by omega
              have t2 : a0 + a2 ≤ a1 := by omega
              have t4 : a0 < a1 := by omega
              subst t3
              clear p2 p3 hka hk p1 hz
              go_wp2_with fail
              go_at_call 21
              refine N.mono ?_
              rintro e w3 ⟨rfl, hw⟩
              obtain rfl := hw.symm
              go_wp2_with fail
              go_at_call 22
              refine M.mono ?_
              rintro e w3 ⟨rfl, hw⟩
              obtain rfl := hw.symm
              go_wp2_with fail
              go_at_call 26
              refine KN.mono ?_
              rintro e w3 ⟨rfl, hw⟩
              go_wp2
              go_ret
              exact ⟨rfl, HM.trans (hw.mono HM.size)⟩

theorem Walk.tapeWhere (a0 a1 a2 : Int) (w0 : (Lit.int .i64 a0).wf = true) (w1 : (Lit.int .i64 a1).wf = true) (w2 : (Lit.int .i64 a2).wf = true) (w : World) :
    Calls Try.prog 7 #[.int .i64 a0, .int .i64 a1, .int .i64 a2] w fun e w' => e = .returned (.bool true) ∧ Below w.heap.size w w' := by
  have b0 := wf_i64 (Walk.wf_i64' _ w0)
  have b1 := wf_i64 (Walk.wf_i64' _ w1)
  have b2 := wf_i64 (Walk.wf_i64' _ w2)
  by_cases c0 : a0 < 0
  · go_enter Try.func7, Try.ntmps7
    go_wp2
    go_ret
    exact ⟨rfl, Below.refl _ _⟩
  by_cases c1 : 20 < a0
  · go_enter Try.func7, Try.ntmps7
    go_wp2
    go_ret
    exact ⟨rfl, Below.refl _ _⟩
  by_cases c2 : a2 < 0
  · go_enter Try.func7, Try.ntmps7
    go_wp2
    go_ret
    exact ⟨rfl, Below.refl _ _⟩
  by_cases c3 : 20 < a2
  · go_enter Try.func7, Try.ntmps7
    go_wp2
    go_ret
    exact ⟨rfl, Below.refl _ _⟩
  by_cases c4 : 100 < a1
  · go_enter Try.func7, Try.ntmps7
    go_wp2
    go_ret
    exact ⟨rfl, Below.refl _ _⟩
  exact where_main a0 a1 a2 w b1.1 (by omega) (by omega) (by omega) (by omega) (by omega)

end Go.Proofs.Ytcclpmjoofaepaa
