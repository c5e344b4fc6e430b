/-
  The walk of PoolTells.
-/
import Derived.Test.YtbnhpehobadebaaPoolKnown
import Derived.Test.YtbnhpehobadebaaRefValue
import Derived.Test.YtbnhpehobadebaaArgs
import Derived.Test.YtbnhpehobadebaaAstArg
namespace Go.Proofs.Ytbnhpehobadebaa
open Go.RowKit
set_option linter.unusedVariables false
set_option linter.unusedSimpArgs false
namespace Walk

theorem poolTells_out (a pa ha : Option Addr) (la ca pl pc hl hc : Nat) (i v : Int) (w : World) (h : 20 < la ∨ 20 < pl ∨ 20 < hl) :
    Calls Try.prog 3 #[.slice a la ca, .slice pa pl pc, .slice ha hl hc, .int .i64 i, .int .i64 v] w fun e w' => e = .returned (.bool true) ∧ Below w.heap.size w w' := by
  by_cases h1 : 20 < (la : Int)
  · clear h
    go_enter Try.func3, Try.ntmps3
    go_wp2
    go_ret
    exact ⟨rfl, Below.refl _ _⟩
  · by_cases h2 : 20 < (pl : Int)
    · clear h
      go_enter Try.func3, Try.ntmps3
      go_wp2
      go_ret
      exact ⟨rfl, Below.refl _ _⟩
    · have h3 : 20 < (hl : Int) := by omega
      clear h
      go_enter Try.func3, Try.ntmps3
      go_wp2
      go_ret
      exact ⟨rfl, Below.refl _ _⟩

set_option maxHeartbeats 4000000 in
theorem poolTells_in (a pa ha : Option Addr) (la ca pl pc hl hc : Nat) (A C : Nat → Int) (ps hs : List Int) (i v : Int) (w : World) (hA : Asts w a la A C) (hP : Sl .i64 w pa pl ps) (hH : Sl .i64 w ha hl hs) (hn : ha = none → hc = 0) (hv : IntKind.i64.wrap v = v)
    (h1 : la ≤ 20) (h2 : pl ≤ 20) (h3 : hl ≤ 20) :
    Calls Try.prog 3 #[.slice a la ca, .slice pa pl pc, .slice ha hl hc, .int .i64 i, .int .i64 v] w fun e w' => e = .returned (.bool true) ∧ Below w.heap.size w w' := by
  have V1 : ∀ u, Below w.heap.size w u → Calls Try.prog 7 #[.slice a la ca, .slice pa pl pc, .slice ha hl hc] u fun e w' =>
      e = .returned (.tuple #[.int .i64 (valueV la pl hl (fun i => ps.getD i 0) (fun i => hs.getD i 0) C), .bool (valueB la pl hl (fun i => ps.getD i 0) (fun i => hs.getD i 0) C)]) ∧ Below u.heap.size u w' := fun u hb => value_any a pa ha la ca pl pc hl hc A C ps hs u (hA.below hb) (hP.below hb) (hH.below hb) (by omega)
  have V2 : ∀ u, Below w.heap.size w u → Calls Try.prog 8 #[.slice a la ca, .slice pa pl pc, .slice ha hl hc] u fun e w' =>
      e = .returned (.tuple #[.int .i64 (valueV la pl hl (fun i => ps.getD i 0) (fun i => hs.getD i 0) C), .bool (valueB la pl hl (fun i => ps.getD i 0) (fun i => hs.getD i 0) C)]) ∧ Below u.heap.size u w' := fun u hb => refValue_any a pa ha la ca pl pc hl hc A C ps hs u (hA.below hb) (hP.below hb) (hH.below hb) (by omega)
  have S1 : ∀ u, Below w.heap.size w u → Calls Try.prog 10 #[.slice ha hl hc, .int .i64 i, .int .i64 v] u (SetEnd u hl (setS hs i v)) := fun u hb => set_any ha hl hc hs i v u (hH.below hb) (by omega) hv
  have S2 : ∀ u, Below w.heap.size w u → Calls Try.prog 11 #[.slice ha hl hc, .int .i64 i, .int .i64 v] u (SetEnd u hl (setS hs i v)) := fun u hb => refSet_any ha hl hc hs i v u (hH.below hb) hn (by omega) hv
  generalize valueV la pl hl (fun i => ps.getD i 0) (fun i => hs.getD i 0) C = V at V1 V2
  generalize valueB la pl hl (fun i => ps.getD i 0) (fun i => hs.getD i 0) C = B at V1 V2
  clear hA hP hH hn hv
  have i1 : (la : Int) ≤ 20 := by omega
  have i2 : (pl : Int) ≤ 20 := by omega
  have i3 : (hl : Int) ≤ 20 := by omega
  have hl' : Hid (hl ≤ 9223372036854775807) := by show hl ≤ _; omega
  clear h1 h2 h3
  go_enter Try.func3, Try.ntmps3
  go_wp2_with fail
  go_at_call 7
  refine (V1 _ (Below.refl _ _)).mono ?_
  rintro e w1 ⟨rfl, B1⟩
  have H1 : Hid (Below w.heap.size w w1) := B1
  clear B1 V1
  go_wp2_with fail
  go_at_call 8
  refine (V2 _ H1.out).mono ?_
  rintro e w2 ⟨rfl, B2⟩
  have H2 : Hid (Below w.heap.size w w2) := H1.out.trans (B2.mono H1.out.size)
  clear B2 V2 H1
  go_wp2_with fail
  go_at_call 10
  refine (S1 _ H2.out).mono ?_
  rintro e w3 ⟨g3, c3, rfl, s3, hg3, hc3, B3⟩
  have H3 : Hid (Below w.heap.size w w3) := H2.out.trans (B3.mono H2.out.size)
  have T3 : Hid (Sl .i64 w3 (some ⟨g3, 0, none⟩) hl (setS hs i v)) := s3
  clear B3 S1 H2 s3 hg3 hc3
  go_wp2_with fail
  go_at_call 11
  refine (S2 _ H3.out).mono ?_
  rintro e w4 ⟨g4, c4, rfl, s4, hg4, hc4, B4⟩
  have H4 : Hid (Below w.heap.size w w4) := H3.out.trans (B4.mono H3.out.size)
  have S3 := same_any (some ⟨g3, 0, none⟩) (some ⟨g4, 0, none⟩) hl hl c3 c4 (setS hs i v) (setS hs i v) w4 (T3.out.below B4) s4 hl'.out
  rw [decide_eq_true rfl] at S3
  clear B4 S2 H3 s4 hg4 hc4 T3
  go_wp2_with fail
  go_at_call 9
  refine S3.mono ?_
  rintro e w5 ⟨rfl, n5, hw5⟩
  have H5 : Hid (Below w.heap.size w w5) := by rw [hw5]; exact below_drewN H4.out _
  clear hw5 S3 H4
  go_wp2_with fail
  go_at_call 12
  refine (known_any w5).mono ?_
  rintro e w6 ⟨rfl, B6⟩
  have H6 : Hid (Below w.heap.size w w6) := H5.out.trans (B6.mono H5.out.size)
  clear B6 H5
  go_wp2
  go_ret
  exact ⟨rfl, H6.out⟩

theorem poolTells (a0 : Option Addr) (len0 cap0 : Nat) (A0 C0 : Nat → Int) (a1 : Option Addr) (len1 cap1 : Nat) (z1 : List Int) (a2 : Option Addr) (len2 cap2 : Nat) (z2 : List Int) (a3 a4 : Int) (w : World)
    (w0 : Asts w a0 len0 A0 C0) (w1 : IsRow .i64 w a1 len1 cap1 z1) (w2 : IsRow .i64 w a2 len2 cap2 z2) (w3 : (Lit.int .i64 a3).wf = true) (w4 : (Lit.int .i64 a4).wf = true) :
    Calls Try.prog 3 #[.slice a0 len0 cap0, .slice a1 len1 cap1, .slice a2 len2 cap2, .int .i64 a3, .int .i64 a4] w fun e w' => e = .returned (.bool true) ∧ Below w.heap.size w w' := by
  by_cases h : 20 < len0 ∨ 20 < len1 ∨ 20 < len2
  · exact poolTells_out a0 a1 a2 len0 cap0 len1 cap1 len2 cap2 a3 a4 w h
  · exact poolTells_in a0 a1 a2 len0 cap0 len1 cap1 len2 cap2 A0 C0 _ _ a3 a4 w w0 (w1.sl wf_i64').1 (w2.sl wf_i64').1 w2.none (wf_i64' _ w4) (by omega) (by omega) (by omega)

end Walk
end Go.Proofs.Ytbnhpehobadebaa
