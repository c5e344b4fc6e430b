/-
  girolaw6.LogLast.
-/
import Derived.Test.YtdecdjjknbbolaaLastRound
namespace Go.Proofs.Ytdecdjjknbbolaa
open Go.RowKit
set_option linter.unusedVariables false
set_option linter.unusedSimpArgs false

set_option maxRecDepth 1000000 in
set_option maxHeartbeats 40000000 in
theorem last_main (a0 : Option Addr) (n0 c0' : Nat) (K At Kp : Nat → Int) (A : Nat → Option Addr) (L C : Nat → Nat) (Z : Nat → List Int) (w : World) (hR : Script w a0 n0 K At Kp A L C Z) (hn0 : n0 ≤ 50) :
    Calls Try.prog 3 #[.slice a0 n0 c0'] w fun e w' => e = .returned (.bool true) ∧ Below w.heap.size w w' := by
  obtain ⟨d1, o1, h1, dn1, rm1, ar1, op1⟩ := held_new 5000 [115] (by decide) (by decide)
  have HP : Hid ((D.new 5000).opened [115] = (0, d1, some ⟨1, 0, 0, false⟩, [115], []) ∧ Held d1 1 0 [115] [] [] ∧ d1.dn = false ∧ d1.room = 5000 ∧ d1.ar = false ∧ d1.ops = 3) := ⟨o1, h1, dn1, rm1, ar1, op1⟩
  have HR : Hid (Script w a0 n0 K At Kp A L C Z) := hR
  clear o1 h1 dn1 rm1 ar1 op1 hR
  have i0 : (n0 : Int) ≤ 50 := by omega
  go_enter Try.func3, Try.ntmps3
  go_wp2_with fail
  go_at_call 8
  refine (our_new 5000 w w No (fun j hj => hj.elim) (Below.refl _ _) (by decide) (by decide)).mono ?_
  rintro e w1 ⟨rfl, D1, b1⟩
  obtain ⟨b, hb⟩ : ∃ b, w.heap.size = b := ⟨_, rfl⟩
  have HBB : Hid (w.heap.size = b) := hb
  rw [hb] at D1
  rw [hb]
  have C1 := Lib.run_convert_bytes_const (P := Try.prog) w1 26 5 #[.int .u8 115] 1 1 Try.underlying26 Try.underlying5
  have D2 : Hid (OurD w (w1.alloc (.cells #[.int .u8 115] 5 (1, 2))) (· = w1.heap.size) b (D.new 5000)) := D1.widen ((Below.refl _ _).alloc (Nat.le_refl _) _) _ (by rintro j rfl; exact ⟨.inr (Nat.le_refl _), by simp⟩)
  clear hb b1 D1
  go_wp2_with fail
  go_at_call 9
  refine (our_open D2.out _ 1 1 [115] (one_const w1 115 (by decide)) (by simp) (fun _ x hx => .inr (by simp at hx; rw [← hx])) (by decide) (by decide) d1 ⟨1, 0, 0, false⟩ [115] [] HP.out.1).mono ?_
  rintro e w2 ⟨l, x1, f1, x2, f2, rfl, O2, oo2, s2, r2⟩
  have HO : Hid (Lasts w w2 b l [115] (.slice none 0 0) [] [] d1 1 0 0 0) :=
    ⟨O2.less (fun j hj => by simp [SpX, Value.ownBlock] at hj), HP.out.2.1, Spn.none _ _, HP.out.2.2.1, HP.out.2.2.2.1, by have := HP.out.2.2.2.2.2; omega, by decide, by decide, by simp, by decide⟩
  clear C1 D2 O2 oo2 s2 r2 HP
  go_wp2
  refine last_loop w a0 n0 c0' b K At Kp A L C Z HR.out hn0 _ _ _ _ _ _ _ _ _ _ _ _ _ _ _ _ _ _ _ _ _ _ _ _ _ _ _ _ _ _ _ _ _ _ _ _ _ _ _ _ _ _ _ _ _ _ _ _ _ _ _ _ _ _ _ _ _ _ _ _ _ _ _ _ _ _ _ _ _ _ _ _ _ _ _ _ _ _ _ _ _ _ _ _ _ _ _ _ _ _ _ _ _ _ _ _ _ _ _ _ _ _ _ _ _ _ _ _ _ _ _ _ _ _ _ _ _ _ _ _ _ _ _ _ _ _ _ _ _ _ _ _ _ _ _ _ _ _ _ _ _ _ _ _ _ _ _ _ _ _ _ _ _ _ _ _ _ _ _ _ _ _ _ _ _ _ _ _ _ _ _ _ _ _ _ _ _ _ _ _ _ _ _ _ _ _ _ _ _ _ _ _ _ _ _ _ _ _ _ _ _ _ _ _ _ _ _ _ _ _ _ _ _ _ _ _ _ _ _ _ _ _ _ _ _ _ _ w2 ?_ ?_ ?_
  · exact ⟨0, l, [115], none, 0, 0, [], [], d1, 1, 0, 0, rfl, rfl, rfl, rfl, by omega, HO.out⟩
  · intro u4 u8 u9 u10 u11 u12 u13 u14 u15 u16 u17 u18 u19 u20 u21 u22 u23 u43 u44 u45 u46 u47 u48 u49 u50 u51 u52 u53 u54 u55 u56 u57 u58 u59 u60 u61 u62 u63 u64 u65 u66 u67 u68 u69 u70 u71 u72 u73 u74 u75 u76 u77 u78 u79 u80 u81 u82 u83 u84 u85 u86 u87 u88 u89 u90 u91 u92 u93 u94 u95 u96 u97 u98 u99 u100 u101 u102 u103 u104 u105 u106 u107 u108 u109 u110 u111 u112 u113 u114 u115 u116 u117 u118 u119 u120 u121 u122 u123 u124 u125 u126 u127 u128 u129 u130 u131 u132 u133 u134 u135 u136 u137 u138 u139 u140 u141 u142 u143 u144 u145 u146 u147 u148 u149 u150 u151 u152 u153 u154 u155 u156 u157 u158 u159 u160 u161 u162 u163 u164 u165 u166 u167 u168 u169 u170 u171 u172 u173 u174 u175 u176 u177 u178 u179 u180 u181 u182 u183 u184 u185 u186 u187 u188 u189 u190 u191 u192 u193 u194 u195 u196 u197 u198 u199 u200 u201 u202 u203 u204 u205 u206 u207 u208 u209 u210 u211 u212 u213 u214 u215 u216 u217 u218 u219 u220 u221 u222 u223 u224 u225 u226 w3 b3
    go_ret
    exact ⟨rfl, b3⟩
  · intro u2 u4 u8 u9 u10 u11 u12 u13 u14 u15 u16 u17 u18 u19 u20 u21 u22 u23 u43 u44 u45 u46 u47 u48 u49 u50 u51 u52 u53 u54 u55 u56 u57 u58 u59 u60 u61 u62 u63 u64 u65 u66 u67 u68 u69 u70 u71 u72 u73 u74 u75 u76 u77 u78 u79 u80 u81 u82 u83 u84 u85 u86 u87 u88 u89 u90 u91 u92 u93 u94 u95 u96 u97 u98 u99 u100 u101 u102 u103 u104 u105 u106 u107 u108 u109 u110 u111 u112 u113 u114 u115 u116 u117 u118 u119 u120 u121 u122 u123 u124 u125 u126 u127 u128 u129 u130 u131 u132 u133 u134 u135 u136 u137 u138 u139 u140 u141 u142 u143 u144 u145 u146 u147 u148 u149 u150 u151 u152 u153 u154 u155 u156 u157 u158 u159 u160 u161 u162 u163 u164 u165 u166 u167 u168 u169 u170 u171 u172 u173 u174 u175 u176 u177 u178 u179 u180 u181 u182 u183 u184 u185 u186 u187 u188 u189 u190 u191 u192 u193 u194 u195 u196 u197 u198 u199 u200 u201 u202 u203 u204 u205 u206 u207 u208 u209 u210 u211 u212 u213 u214 u215 u216 u217 u218 u219 u220 u221 u222 u223 u224 u225 u226 w3 b3
    have B3 : Hid (Below w.heap.size w w3) := b3
    clear b3 HO
    go_wp2_with fail
    go_at_call 13
    refine (known_true w3).mono ?_
    rintro e wz ⟨rfl, bz⟩
    have BZ : Hid (Below w.heap.size w wz) := B3.out.trans (bz.mono B3.out.size)
    clear bz
    go_wp2
    go_ret
    exact ⟨rfl, BZ.out⟩

set_option maxRecDepth 1000000 in
set_option maxHeartbeats 4000000 in
theorem Walk.logLast (a0 : Option Addr) (len0 cap0 : Nat) (K At Kp : Nat → Int) (A : Nat → Option Addr) (L C : Nat → Nat) (Z : Nat → List Int) (w : World) (w0 : Script w a0 len0 K At Kp A L C Z) :
    Calls Try.prog 3 #[.slice a0 len0 cap0] w fun e w' => e = .returned (.bool true) ∧ Below w.heap.size w w' := by
  by_cases h1 : (50 : Int) < len0
  · go_enter Try.func3, Try.ntmps3
    go_wp2
    go_ret
    exact ⟨rfl, Below.refl _ _⟩
  exact last_main a0 len0 cap0 K At Kp A L C Z w w0 (by omega)

end Go.Proofs.Ytdecdjjknbbolaa
