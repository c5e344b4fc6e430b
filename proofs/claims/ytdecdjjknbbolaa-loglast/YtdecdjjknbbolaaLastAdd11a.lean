/-
  LogLast: one way through a round.
-/
import Derived.Test.YtdecdjjknbbolaaLastLoop
namespace Go.Proofs.Ytdecdjjknbbolaa
open Go.RowKit
set_option linter.unusedVariables false
set_option linter.unusedSimpArgs false

set_option maxRecDepth 1000000 in
set_option maxHeartbeats 40000000 in
theorem last_add_11a (w wr : World) (bb off n0 c0' b l k : Nat) (snap : List Int) (la : Option Addr) (ln lc : Nat) (vs : List Value) (R : List (List Int)) (d : D) (g s : Int) (n : Nat) (hkn : k < n0) (hn0 : n0 ≤ 50) (HL : Hid (Lasts w wr b l snap (.slice la ln lc) vs R d g s n k))
    (tt kp : Int) (Ak : Option Addr) (Lk Ck : Nat) (Zk : List Int) (QK : Hid (Sl .u8 w Ak Lk Zk ∧ (Ak = none → Ck = 0) ∧ Lk = Zk.length ∧ kp ≤ 9223372036854775807))
    (s0 : wr.cell? ⟨bb, off + k * 4, none⟩ = some (.int .i64 1)) (s1 : wr.cell? ⟨bb, off + k * 4 + 1, none⟩ = some (.slice Ak Lk Ck)) (s2' : wr.cell? ⟨bb, off + k * 4 + 2, none⟩ = some (.int .i64 tt)) (s3 : wr.cell? ⟨bb, off + k * 4 + 3, none⟩ = some (.int .i64 kp))
    (hLk40 : Lk ≤ 40) (d' : D) (ha : d.add ⟨g, s, n, false⟩ Zk = (11, d', ⟨g, s, n, false⟩)) (g2 s2 : Int) (tail : List Int) (hV : Held d'.fresh g2 s2 snap (R ++ [Zk]) tail) (hb : g2 ≤ 2 * (k : Int) + 2) (hrm' : d'.room = d.room)
    (Q0 : Exit → Act → World → Prop) (c1 c5 c6 c7 c24 c25 c26 c27 c28 c29 c30 c31 c32 c33 c34 c35 c36 c37 c38 c39 c40 c41 c42 c227 u2 u11 u12 u13 u14 u15 u16 u17 u18 u19 u20 u21 u22 u23 u43 u44 u45 u46 u47 u48 u49 u50 u51 u52 u53 u54 u55 u56 u57 u58 u59 u60 u61 u62 u63 u64 u65 u66 u67 u68 u69 u70 u71 u72 u73 u74 u75 u76 u77 u78 u79 u80 u81 u82 u83 u84 u85 u86 u87 u88 u89 u90 u91 u92 u93 u94 u95 u96 u97 u98 u99 u100 u101 u102 u103 u104 u105 u106 u107 u108 u109 u110 u111 u112 u113 u114 u115 u116 u117 u118 u119 u120 u121 u122 u123 u124 u125 u126 u127 u128 u129 u130 u131 u132 u133 u134 u135 u136 u137 u138 u139 u140 u141 u142 u143 u144 u145 u146 u147 u148 u149 u150 u151 u152 u153 u154 u155 u156 u157 u158 u159 u160 u161 u162 u163 u164 u165 u166 u167 u168 u169 u170 u171 u172 u173 u174 u175 u176 u177 u178 u179 u180 u181 u182 u183 u184 u185 u186 u187 u188 u189 u190 u191 u192 u193 u194 u195 u196 u197 u198 u199 u200 u201 u202 u203 u204 u205 u206 u207 u208 u209 u210 u211 u212 u213 u214 u215 u216 u217 u218 u219 u220 u221 u222 u223 u224 u225 u226 : Value) :
    Code.wp Try.prog ((Try.f3.body.bind firstLoop).getD .skip) (Exit.then (fun a' w'' => LastI w (some ⟨bb, off, none⟩) n0 c0' b c1 c5 c6 c7 c24 c25 c26 c27 c28 c29 c30 c31 c32 c33 c34 c35 c36 c37 c38 c39 c40 c41 c42 c227 a' w'' ∧ LastM n0 a' w'' < LastM n0 ⟨#[.slice (some ⟨bb, off, none⟩) n0 c0', c1, u2, .pointer (some ⟨b, 0, none⟩), .pointer (some ⟨l, 0, none⟩), c5, c6, c7, .string (strOfNums snap), .slice la ln lc, .int .i64 k, u11, u12, u13, u14, u15, u16, u17, u18, u19, u20, u21, u22, u23, c24, c25, c26, c27, c28, c29, c30, c31, c32, c33, c34, c35, c36, c37, c38, c39, c40, c41, c42, u43, u44, u45, u46, u47, u48, u49, u50, u51, u52, u53, u54, u55, u56, u57, u58, u59, u60, u61, u62, u63, u64, u65, u66, u67, u68, u69, u70, u71, u72, u73, u74, u75, u76, u77, u78, u79, u80, u81, u82, u83, u84, u85, u86, u87, u88, u89, u90, u91, u92, u93, u94, u95, u96, u97, u98, u99, u100, u101, u102, u103, u104, u105, u106, u107, u108, u109, u110, u111, u112, u113, u114, u115, u116, u117, u118, u119, u120, u121, u122, u123, u124, u125, u126, u127, u128, u129, u130, u131, u132, u133, u134, u135, u136, u137, u138, u139, u140, u141, u142, u143, u144, u145, u146, u147, u148, u149, u150, u151, u152, u153, u154, u155, u156, u157, u158, u159, u160, u161, u162, u163, u164, u165, u166, u167, u168, u169, u170, u171, u172, u173, u174, u175, u176, u177, u178, u179, u180, u181, u182, u183, u184, u185, u186, u187, u188, u189, u190, u191, u192, u193, u194, u195, u196, u197, u198, u199, u200, u201, u202, u203, u204, u205, u206, u207, u208, u209, u210, u211, u212, u213, u214, u215, u216, u217, u218, u219, u220, u221, u222, u223, u224, u225, u226, c227], []⟩ wr) Q0) ⟨#[.slice (some ⟨bb, off, none⟩) n0 c0', c1, u2, .pointer (some ⟨b, 0, none⟩), .pointer (some ⟨l, 0, none⟩), c5, c6, c7, .string (strOfNums snap), .slice la ln lc, .int .i64 k, u11, u12, u13, u14, u15, u16, u17, u18, u19, u20, u21, u22, u23, c24, c25, c26, c27, c28, c29, c30, c31, c32, c33, c34, c35, c36, c37, c38, c39, c40, c41, c42, u43, u44, u45, u46, u47, u48, u49, u50, u51, u52, u53, u54, u55, u56, u57, u58, u59, u60, u61, u62, u63, u64, u65, u66, u67, u68, u69, u70, u71, u72, u73, u74, u75, u76, u77, u78, u79, u80, u81, u82, u83, u84, u85, u86, u87, u88, u89, u90, u91, u92, u93, u94, u95, u96, u97, u98, u99, u100, u101, u102, u103, u104, u105, u106, u107, u108, u109, u110, u111, u112, u113, u114, u115, u116, u117, u118, u119, u120, u121, u122, u123, u124, u125, u126, u127, u128, u129, u130, u131, u132, u133, u134, u135, u136, u137, u138, u139, u140, u141, u142, u143, u144, u145, u146, u147, u148, u149, u150, u151, u152, u153, u154, u155, u156, u157, u158, u159, u160, u161, u162, u163, u164, u165, u166, u167, u168, u169, u170, u171, u172, u173, u174, u175, u176, u177, u178, u179, u180, u181, u182, u183, u184, u185, u186, u187, u188, u189, u190, u191, u192, u193, u194, u195, u196, u197, u198, u199, u200, u201, u202, u203, u204, u205, u206, u207, u208, u209, u210, u211, u212, u213, u214, u215, u216, u217, u218, u219, u220, u221, u222, u223, u224, u225, u226, c227], []⟩ wr := by
  conv => arg 2; whnf
  obtain ⟨j0, hj, hy0, hy1, hy2⟩ := info_parts infoRow

  have i0 : (n0 : Int) ≤ 50 := by omega
  have ki : (k : Int) < n0 := by omega
  have kj : IntKind.i64.wrap ((k : Int) + 1) = (k : Int) + 1 := i64_wf (by omega) (by omega)
  have hlen := lasts_len HL.out
  have HN : Hid (ln = R.length ∧ ln ≤ 50) := ⟨hlen.1, by omega⟩
  have hrl50 : R.length ≤ 50 := by have := HL.out.rl; omega
  have HB : Hid (Bs snap) := lasts_bs HL.out
  clear hlen

  obtain ⟨g0, hg0⟩ : ∃ x, x = wr.heap.size := ⟨_, rfl⟩
  obtain ⟨w5, hw5⟩ : ∃ x, x = wr.alloc (.cells #[.int .i64 1, .slice Ak Lk Ck, .int .i64 tt, .int .i64 kp] 34) := ⟨_, rfl⟩
  have LA := lasts_act HL.out (.cells #[.int .i64 1, .slice Ak Lk Ck, .int .i64 tt, .int .i64 kp] 34)
  rw [← hw5, ← hg0] at LA
  have HG0 : Hid (∀ j, g0 ≤ j → ¬ SpX (.slice la ln lc) j) := LA.2.2
  have H5 : Hid (Our w w5 (fun j => SpX (.slice la ln lc) j ∨ j = g0) b l d ⟨g, s, n, false⟩) := LA.1
  have S5 : Hid (Spn w w5 (.slice la ln lc) vs R) := LA.2.1
  have G5 : Hid (w5.heap[g0]? = some (.cells #[.int .i64 1, .slice Ak Lk Ck, .int .i64 tt, .int .i64 kp] 34 (0, 0))) := by
    rw [hw5, hg0]
    exact heap_alloc_new wr _
  clear LA
  go_upto_region 13 with fail
  rw [← hw5, ← hg0]
  clear hw5 hg0 s0 s1 s2' s3
  obtain ⟨q0, q1, q2, q3⟩ := act_cells G5.out

  have A1 := our_add H5.out Ak Lk Ck Zk (QK.out.1.below H5.out.blw) QK.out.2.1 (by omega) (by have := HL.out.ops; omega) (by have := HL.out.nl; simp only; omega)

  obtain ⟨snap2, hs2⟩ : ∃ x, x = snap := ⟨_, rfl⟩
  obtain ⟨R2, hR2⟩ : ∃ x, x = R ++ [Zk] := ⟨_, rfl⟩
  rw [← hs2, ← hR2] at hV
  have HV : Hid (Held d'.fresh g2 s2 snap2 R2 tail ∧ g2 ≤ 2 * (k : Int) + 2 ∧ R2.length ≤ 60) := ⟨hV, hb, by rw [hR2]; have := HL.out.rl; simp <;> omega⟩

  have HQ : Hid (snap2 = snap ∧ R2 = R ++ [Zk]) := ⟨hs2, hR2⟩
  have HRM : Hid (d'.room = 5000) := hrm'.trans HL.out.rm
  clear hV hs2 hR2 hb hrm'

  rw [ha] at A1
  go_wp2_with fail
  go_at_call 10
  refine A1.mono ?_
  rintro e w6 ⟨rfl, O6, oo6⟩
  have G6 : Hid (w6.heap[g0]? = some (.cells #[.int .i64 1, .slice Ak Lk Ck, .int .i64 tt, .int .i64 kp] 34 (0, 0))) := (oo6.block g0 (lt_of_block G5.out) (fun hs => hs.2 (.inr rfl))).trans G5.out
  have SP6 : Hid (Spn w w6 (.slice la ln lc) vs R) := S5.out.only oo6 (fun j hj hs => hs.2 (.inl hj))
  obtain ⟨q0, q1, q2, q3⟩ := act_cells G6.out

  obtain ⟨lg, hlg⟩ : ∃ x, (⟨g, s, n, false⟩ : Lg) = x := ⟨_, rfl⟩
  rw [hlg] at O6
  have RS := our_restart O6
  clear A1 O6 oo6 hlg
  go_wp2_with fail
  go_at_call 14
  refine RS.mono ?_
  rintro e wr' ⟨rfl, OR, oor⟩
  have GR : Hid (wr'.heap[g0]? = some (.cells #[.int .i64 1, .slice Ak Lk Ck, .int .i64 tt, .int .i64 kp] 34 (0, 0))) := (oor.block g0 (lt_of_block G6.out) (fun hs => hs.2 (.inr rfl))).trans G6.out
  have SPR : Hid (Spn w wr' (.slice la ln lc) vs R) := SP6.out.only oor (fun j hj hs => hs.2 (.inl hj))
  clear q0 q1 q2 q3
  obtain ⟨q0, q1, q2, q3⟩ := act_cells GR.out
  obtain ⟨df, hdf⟩ : ∃ x, x = d'.fresh := ⟨_, rfl⟩
  have HDF0 : Hid (df = d'.fresh) := hdf
  rw [← hdf] at OR
  have hlk : df.look = ⟨g2, s2, snap2, R2, true⟩ := by rw [hdf]; exact HV.out.1.look
  have LK := our_look OR.deck
  rw [hlk] at LK
  have HOL : Hid (Our w wr' (fun j => SpX (.slice la ln lc) j ∨ j = g0) b l df lg) := OR
  clear RS OR oor hdf hlk G6 SP6

  go_wp2_with fail
  go_at_call 15
  refine LK.mono ?_
  rintro e w7 ⟨x1, f1, x2, f2, rfl, s7, r7, b7⟩
  simp only
  obtain ⟨m1, hm1⟩ : ∃ x, snap2.length = x := ⟨_, rfl⟩
  obtain ⟨m2, hm2⟩ : ∃ x, R2.length = x := ⟨_, rfl⟩
  have X7 : Hid (Sl .u8 w7 x1 m1 snap2 ∧ RowsIn w7 x2 m2 R2 ∧ m2 ≤ 60) := by
    have h1 := s7.sl
    have h2 := r7.rowsIn
    simp only at h1 h2
    rw [hm1] at h1
    rw [hm2] at h2
    exact ⟨h1, h2, by have := HV.out.2.2; omega⟩
  rw [hm1, hm2]
  have HO7 : Hid (Our w w7 (fun j => SpX (.slice la ln lc) j ∨ j = g0) b l df lg) := HOL.out.grow b7
  have SP7 : Hid (Spn w w7 (.slice la ln lc) vs R) := SPR.out.below b7
  have G7 : Hid (w7.heap[g0]? = some (.cells #[.int .i64 1, .slice Ak Lk Ck, .int .i64 tt, .int .i64 kp] 34 (0, 0))) := (b7.block g0 (lt_of_block GR.out)).trans GR.out
  have hm260 : m2 ≤ 60 := X7.out.2.2
  clear LK s7 r7 b7 hm1 hm2 HOL SPR GR q0 q1 q2 q3
  obtain ⟨q0, q1, q2, q3⟩ := act_cells G7.out
  obtain ⟨W, hW⟩ : ∃ x, decide (snap2 = snap ∧ R2 = R) = x := ⟨_, rfl⟩
  obtain ⟨J, hJ⟩ : ∃ x, decide (snap2 = Zk ∧ R2 = []) = x := ⟨_, rfl⟩
  obtain ⟨I, hI⟩ : ∃ x, decide (snap2 = snap ∧ R2 = R ++ [Zk]) = x := ⟨_, rfl⟩
  have HF : Hid (decide (snap2 = snap ∧ R2 = R) = W ∧ decide (snap2 = Zk ∧ R2 = []) = J ∧ decide (snap2 = snap ∧ R2 = R ++ [Zk]) = I) := ⟨hW, hJ, hI⟩

  have HEQ : Hid (snap2 = snap ∧ R2 = R ++ [Zk]) := HQ.out
  have HC : Hid (I = true) := by
    show _ = _
    rw [← hI]
    exact decide_eq_true HQ.out

  clear hW hJ hI

  go_upto_region 28 with fail
  go_cut [18] from 43 to 226 (fun s wc => s = .bool W ∧ Below w7.heap.size w7 wc)
  case first =>
    have T1 : (convert 26 9 (.slice x1 m1 f1)).run Try.prog w7 = .ok (.string (strOfNums snap2)) w7 := X7.out.1.text (P := Try.prog) (cap := f1) 26 9 5 Try.underlying26 Try.underlying5 Try.underlying9
    by_cases hs : snap2 = snap
    · rw [hs] at T1
      have SM := ref_same x2 m2 f2 R2 la ln lc R w7 X7.out.2.1 (SP7.out.rowsIn HO7.out.blw) (by have := HV.out.2.2; omega) (by have := HN.out; omega)
      have HW : Hid (decide (R2 = R) = W) := by
        show _ = _
        rw [← HF.out.1]
        exact decide_eq_decide.2 ⟨fun h => ⟨hs, h⟩, fun h => h.2⟩
      rw [HW.out] at SM
      clear hs
      go_wp2_with fail
      go_at_call 16
      refine SM.mono ?_
      rintro e w8 ⟨rfl, b8⟩
      go_wp2
      go_meet
      case rel => exact ⟨rfl, b8⟩
    · have hs' := text_ne (fun he => hs (strOfNums_inj X7.out.1.2.1 HB.out he))
      have HW : Hid (false = W) := by
        show _ = _
        rw [← HF.out.1]
        exact (decide_eq_false (fun h => hs h.1)).symm
      clear hs
      go_wp2
      go_meet
      case rel => exact ⟨congrArg Value.bool HW.out, Below.refl _ _⟩
  case rest =>
    obtain ⟨rfl, b8⟩ := hcut
    have HO8 : Hid (Our w wc (fun j => SpX (.slice la ln lc) j ∨ j = g0) b l df lg) := HO7.out.grow b8
    have SP8 : Hid (Spn w wc (.slice la ln lc) vs R) := SP7.out.below b8
    have G8 : Hid (wc.heap[g0]? = some (.cells #[.int .i64 1, .slice Ak Lk Ck, .int .i64 tt, .int .i64 kp] 34 (0, 0))) := (b8.block g0 (lt_of_block G7.out)).trans G7.out
    have X8 : Hid (Sl .u8 wc x1 m1 snap2 ∧ RowsIn wc x2 m2 R2) := ⟨X7.out.1.below b8, X7.out.2.1.below b8⟩
    clear HO7 SP7 G7 X7 b8 q0 q1 q2 q3
    obtain ⟨w8, hw8⟩ : ∃ x, x = wc := ⟨_, rfl⟩
    subst hw8
    obtain ⟨q0, q1, q2, q3⟩ := act_cells G8.out
    go_upto_region 29 with fail
    go_cut [19] from 43 to 226 (fun s wc => s = .bool J ∧ wc = w8)
    case first =>
      have T1 : (convert 26 9 (.slice x1 m1 f1)).run Try.prog w8 = .ok (.string (strOfNums snap2)) w8 := X8.out.1.text (P := Try.prog) (cap := f1) 26 9 5 Try.underlying26 Try.underlying5 Try.underlying9
      have T2 : (convert 26 9 (.slice Ak Lk Ck)).run Try.prog w8 = .ok (.string (strOfNums Zk)) w8 := (QK.out.1.below HO8.out.blw).text (P := Try.prog) (cap := Ck) 26 9 5 Try.underlying26 Try.underlying5 Try.underlying9
      by_cases hs : snap2 = Zk
      · rw [hs] at T1
        by_cases hr : m2 = 0
        · have HW : Hid (true = J) := by
            show _ = _
            rw [← HF.out.2.1]
            exact (decide_eq_true ⟨hs, List.length_eq_zero_iff.1 (by rw [← X8.out.2.1]; exact hr)⟩).symm
          subst hr
          clear hs
          go_wp2
          go_meet
          case rel => exact ⟨congrArg Value.bool HW.out, rfl⟩
        · have HW : Hid (false = J) := by
            show _ = _
            rw [← HF.out.2.1]
            exact (decide_eq_false (fun h => hr (by rw [X8.out.2.1, h.2]; rfl))).symm
          have hr' : ((m2 : Int) == 0) = false := by simp; omega
          clear hs
          go_wp2
          go_meet
          case rel => exact ⟨congrArg Value.bool HW.out, rfl⟩
      · have hs' := text_ne (fun he => hs (strOfNums_inj X8.out.1.2.1 QK.out.1.2.1 he))
        have HW : Hid (false = J) := by
          show _ = _
          rw [← HF.out.2.1]
          exact (decide_eq_false (fun h => hs h.1)).symm
        clear hs
        go_wp2
        go_meet
        case rel => exact ⟨congrArg Value.bool HW.out, rfl⟩
    case rest =>
      obtain ⟨rfl, hw⟩ := hcut
      obtain rfl := hw.symm

      go_upto_region 31 with fail
      go_cut [19] from 43 to 226 (fun s wc => s = .bool I ∧ Below w8.heap.size w8 wc)
      case first =>

        have hs2 := HEQ.out.1
        have TC : ∀ w' : World, Below w8.heap.size w8 w' → (convert 26 9 (.slice x1 m1 f1)).run Try.prog w' = .ok (.string (strOfNums snap)) w' := fun w' hb => by
          have := (X8.out.1.below hb).text (P := Try.prog) (cap := f1) 26 9 5 Try.underlying26 Try.underlying5 Try.underlying9
          rw [hs2] at this
          exact this
        have HW : Hid (decide (R2 = R ++ [Zk]) = I) := by
          show _ = _
          rw [← HF.out.2.2]
          exact decide_eq_decide.2 ⟨fun h => ⟨hs2, h⟩, fun h => h.2⟩
        have hg08 : g0 < w8.heap.size := lt_of_block G8.out
        have RS : ∀ w', Below w8.heap.size w8 w' → (w'.cell? ⟨g0, 1, none⟩ = some (.slice Ak Lk Ck) ∧ Below w8.heap.size w8 w') := fun w' h => ⟨(h.cell (p := ⟨g0, 1, none⟩) hg08).trans q1, h⟩
        have RS0 : w8.drew.cell? ⟨g0, 1, none⟩ = some (.slice Ak Lk Ck) ∧ Below w8.heap.size w8 w8.drew := RS _ ((Below.refl _ _).drew)
        have RSA : ∀ (W' : World) (o : Obj), (W'.cell? ⟨g0, 1, none⟩ = some (.slice Ak Lk Ck) ∧ Below w8.heap.size w8 W') → ((W'.alloc o).cell? ⟨g0, 1, none⟩ = some (.slice Ak Lk Ck) ∧ Below w8.heap.size w8 (W'.alloc o)) := fun W' o h => RS _ (h.2.alloc h.2.size o)
        have SPL : Hid (w8.ownsRow w.heap.size 26 1 (.slice la ln lc) ln vs ∧ vs.length = ln) := by
          have h1 := SP8.out.own
          rw [← HN.out.1] at h1
          exact ⟨h1, by have := h1.1; omega⟩
        have hla : Hid ((la = none → lc = 0) ∧ (la = none → ln = 0)) := ⟨own_none SPL.out.1, fun h => by have h1 := own_none SPL.out.1 h; have h2 := (own_cap SPL.out.1).1; omega⟩
        have HVC : Hid (∀ W', (W'.cell? ⟨g0, 1, none⟩ = some (.slice Ak Lk Ck) ∧ Below w8.heap.size w8 W') → ∀ y, la = some y → ∀ j u, vs[j]? = some u → W'.cell? (y.add j) = some u) := by
          intro W' hW y hy j u hju
          subst hy
          obtain ⟨gy, cy, hv⟩ := own_some SPL.out.1 (by simp)
          simp at hv
          have h1 := SPL.out.1.cells (g := gy) (by rw [hv.1]; rfl) j u hju
          rw [hv.1]
          rw [Addr.add_flat] at h1 ⊢
          exact (hW.2.cell (p := ⟨gy, 0 + j, none⟩) (block_lt_of_cell h1)).trans h1
        have hone : Hid (∀ u ∈ vs, u.oneCell' = true) := by
          intro u hu
          obtain ⟨i, hi, rfl⟩ := List.getElem_of_mem hu
          obtain ⟨x, c, hx, _⟩ := SP8.out.row i (by have := SPL.out.2; have := HN.out.1; omega)
          have : vs[i] = vs.getD i undef := by simp [List.getD_eq_getElem?_getD, hi]
          rw [this, hx]
          rfl
        have OA : Hid ((w8.drew.alloc (.cells #[] 26)).ownsRow w8.heap.size 26 1 (.slice (some ⟨w8.heap.size, 0, none⟩) 0 0) 0 []) := World.ownsRow_lit (e := 26) (size := 1) (base := w8.heap.size) w8.drew #[] 0 (by simp) (Nat.zero_le _) rfl
        have OB : Hid (((w8.drew.alloc (.cells #[] 26)).alloc (.cells #[.slice Ak Lk Ck] 26)).ownsRow w8.heap.size 26 1 (.slice (some ⟨w8.heap.size, 0, none⟩) 0 0) 0 []) := OA.out.alloc _
        have OC : Hid (((w8.drew.alloc (.cells #[.slice Ak Lk Ck] 26)).alloc (.cells #[] 26)).ownsRow w8.heap.size 26 1 (.slice (some ⟨w8.heap.size + 1, 0, none⟩) 0 0) 0 []) := by
          have := World.ownsRow_lit (e := 26) (size := 1) (base := w8.heap.size) (w8.drew.alloc (.cells #[.slice Ak Lk Ck] 26)) #[] 0 (by simp) (Nat.zero_le _) rfl
          have hsz : (w8.drew.alloc (.cells #[.slice Ak Lk Ck] 26)).heap.size = w8.heap.size + 1 := by simp
          rw [hsz] at this
          exact this
        have LB : Hid (((w8.alloc (.cells #[] 26)).alloc (.cells #[.slice Ak Lk Ck] 26)).drew.heap[w8.heap.size + 1]? = some (.cells #[.slice Ak Lk Ck] 26 (0, 0))) := by
          have h1 := heap_alloc_new (w8.alloc (.cells #[] 26)) (.cells #[.slice Ak Lk Ck] 26)
          have hsz : (w8.alloc (.cells #[] 26)).heap.size = w8.heap.size + 1 := by simp
          rw [hsz] at h1
          exact h1
        have LC : Hid (((w8.alloc (.cells #[.slice Ak Lk Ck] 26)).alloc (.cells #[] 26)).drew.heap[w8.heap.size]? = some (.cells #[.slice Ak Lk Ck] 26 (0, 0))) := by
          have h1 := heap_alloc_new w8 (.cells #[.slice Ak Lk Ck] 26)
          exact (((Below.refl (w8.heap.size + 1) (w8.alloc (.cells #[.slice Ak Lk Ck] 26))).alloc (by simp) (.cells #[] 26)).block w8.heap.size (by omega)).trans h1
        have hln50 : ln ≤ 50 := HN.out.2
        clear hs2
        go_wp2
        go_region_held3 (fun w' => w'.cell? ⟨g0, 1, none⟩ = some (.slice Ak Lk Ck) ∧ Below w8.heap.size w8 w') (first | assumption | exact RS _ (by assumption) | exact RS0 | exact RSA _ _ (by assumption))
          (first
          | (refine stepg_append (by rfl) (.tmp 130) (.tmp 131) 27 (by rfl) w8.heap.size 26 j0 _ 24 Try.underlying27 hj hy0 hy1 hy2 (by rfl) (.slice (some ⟨w8.heap.size, 0, none⟩) 0 0) 0 [] (by rfl) (by first | exact OA.out | exact OB.out) la ln lc vs (by rfl) SPL.out.2 hla.out.1 hla.out.2 (HVC.out _ (by assumption)) hone.out (by unfold maxLen; omega) (by omega) (Below.size (And.right (by assumption))) ?_
             intro v2 w2 o2 g2
             simp only [Nat.zero_add, List.nil_append] at o2
             obtain ⟨a2, c2, rfl⟩ := own_form o2
             have B2 : Below w8.heap.size w8 w2 := Below.grown (And.right (by assumption)) g2 (Below.size (And.right (by assumption))) (fun k hk => by simp [Value.ownBlock] at hk; omega))
          | (refine stepg_append (by rfl) (.tmp 130) (.tmp 131) 27 (by rfl) w8.heap.size 26 j0 _ 24 Try.underlying27 hj hy0 hy1 hy2 (by rfl) (.slice (some ⟨w8.heap.size + 1, 0, none⟩) 0 0) 0 [] (by rfl) OC.out la ln lc vs (by rfl) SPL.out.2 hla.out.1 hla.out.2 (HVC.out _ (by assumption)) hone.out (by unfold maxLen; omega) (by omega) (Below.size (And.right (by assumption))) ?_
             intro v2 w2 o2 g2
             simp only [Nat.zero_add, List.nil_append] at o2
             obtain ⟨a2, c2, rfl⟩ := own_form o2
             have B2 : Below w8.heap.size w8 w2 := Below.grown (And.right (by assumption)) g2 (Below.size (And.right (by assumption))) (fun k hk => by simp [Value.ownBlock] at hk; omega))
          | (refine stepg_append (by rfl) (.tmp 132) (.tmp 135) 27 (by rfl) w8.heap.size 26 j0 _ 24 Try.underlying27 hj hy0 hy1 hy2 (by rfl) (.slice a2 ln c2) ln vs (by rfl) (by first | exact o2 | exact o2.alloc _) (some ⟨w2.heap.size, 0, none⟩) 1 1 [.slice Ak Lk Ck] (by rfl) rfl (by simp) (by simp) (by intro y hy; simp at hy; subst hy; exact cell_one_new _ _ _) (by intro u hu; simp at hu; rw [hu]; rfl) (by unfold maxLen; omega) (by omega) (Below.size (And.right (by assumption))) ?_
             intro v3 w3 o3 g3
             obtain ⟨a3, c3, rfl⟩ := own_form o3
             have B3 : Below w8.heap.size w8 w3 := Below.grown (And.right (by assumption)) g3 (Below.size (And.right (by assumption))) (fun k hk => (o2.lt k hk).1))
          | (refine stepg_append (by rfl) (.tmp 132) (.tmp 135) 27 (by rfl) w8.heap.size 26 j0 _ 24 Try.underlying27 hj hy0 hy1 hy2 (by rfl) (.slice a2 ln c2) ln vs (by rfl) o2 (some ⟨w8.heap.size + 1, 0, none⟩) 1 1 [.slice Ak Lk Ck] (by rfl) rfl (by simp) (by simp) (by intro y hy; simp at hy; subst hy; exact lit_kept LB.out g2 (by simp [Value.ownBlock])) (by intro u hu; simp at hu; rw [hu]; rfl) (by unfold maxLen; omega) (by omega) B2.size ?_
             intro v3 w3 o3 g3
             obtain ⟨a3, c3, rfl⟩ := own_form o3
             have B3 : Below w8.heap.size w8 w3 := Below.grown B2 g3 B2.size (fun k hk => (o2.lt k hk).1))
          | (refine stepg_append (by rfl) (.tmp 132) (.tmp 135) 27 (by rfl) w8.heap.size 26 j0 _ 24 Try.underlying27 hj hy0 hy1 hy2 (by rfl) (.slice a2 ln c2) ln vs (by rfl) o2 (some ⟨w8.heap.size, 0, none⟩) 1 1 [.slice Ak Lk Ck] (by rfl) rfl (by simp) (by simp) (by intro y hy; simp at hy; subst hy; exact lit_kept LC.out g2 (by simp [Value.ownBlock])) (by intro u hu; simp at hu; rw [hu]; rfl) (by unfold maxLen; omega) (by omega) B2.size ?_
             intro v3 w3 o3 g3
             obtain ⟨a3, c3, rfl⟩ := own_form o3
             have B3 : Below w8.heap.size w8 w3 := Below.grown B2 g3 B2.size (fun k hk => (o2.lt k hk).1))
          | (go_at_call 16
             have RI : RowsIn w3 a3 (ln + 1) (R ++ [Zk]) := rows_of SP8.out (HO8.out.blw) B3 HN.out.1 QK.out.1 QK.out.2.2.1 o3
             refine (ref_same x2 m2 f2 R2 a3 (ln + 1) c3 (R ++ [Zk]) w3 (X8.out.2.below B3) RI (by omega) (by omega)).mono ?_
             rw [HW.out]
             rintro e w4 ⟨rfl, b4⟩
             have B4 : Below w8.heap.size w8 w4 := B3.trans (b4.mono B3.size))
          | fail)
        all_goals
          go_wp2
          go_meet
          case rel => exact ⟨rfl, B4⟩

      case rest =>
        obtain ⟨rfl, b9⟩ := hcut
        have HO9 : Hid (Our w wc (fun j => SpX (.slice la ln lc) j ∨ j = g0) b l df lg) := HO8.out.grow b9
        have SP9 : Hid (Spn w wc (.slice la ln lc) vs R) := SP8.out.below b9
        have G9 : Hid (wc.heap[g0]? = some (.cells #[.int .i64 1, .slice Ak Lk Ck, .int .i64 tt, .int .i64 kp] 34 (0, 0))) := (b9.block g0 (lt_of_block G8.out)).trans G8.out
        clear HO8 SP8 G8 X8 b9 q0 q1 q2 q3
        obtain ⟨w9, hw9⟩ : ∃ x, x = wc := ⟨_, rfl⟩
        subst hw9
        obtain ⟨q0, q1, q2, q3⟩ := act_cells G9.out
        obtain rfl : I = true := HC.out

        have BA : Hid (Below w9.heap.size w9 (w9.alloc (.cells #[.slice Ak Lk Ck] 26))) := (Below.refl _ _).alloc (Nat.le_refl _) _
        have SQ : Hid (Spn w (w9.alloc (.cells #[.slice Ak Lk Ck] 26)) (.slice la ln lc) vs R) := SP9.out.below BA.out
        have hw9 : w.heap.size ≤ w9.heap.size := HO9.out.blw.size
        go_wp2_with (at_builtin; refine wpList_append_own_at _ rfl _ _ 27 rfl w.heap.size 26 j0 _ 1 24 Try.underlying27 hj hy0 hy1 hy2 rfl (by decide) (.slice la ln lc) R.length vs rfl SQ.out.own ⟨w9.heap.size, 0, none⟩ 1 1 [.slice Ak Lk Ck] rfl rfl (cell_one_new _ _ _) ?one (by unfold maxLen; omega) (by omega) (by simp; omega) ?_)
        case one => first | rfl | (intro u hu; simp at hu; rw [hu]; rfl)
        intro va wa oa ga _ ata
        obtain ⟨laa, lca, rfl⟩ := own_form oa
        have MA : Hid (Spn w wa (.slice laa (R.length + 1) lca) (vs ++ [.slice Ak Lk Ck]) (R ++ [Zk])) := SQ.out.more (by rw [QK.out.2.2.1]) (by rw [← QK.out.2.2.1]; exact QK.out.1) oa
        have HA : Hid (Our w wa (SpX (.slice laa (R.length + 1) lca)) b l df lg) := HO9.out.spine (fun j hj => .inl hj) BA.out ga (by simpa using ata) (fun j hj => (MA.out.lt j hj).2) (fun j hj => (SP9.out.lt j hj).1) _ (fun j hj => .inr hj)
        have GA : Hid (wa.heap[g0]? = some (.cells #[.int .i64 1, .slice Ak Lk Ck, .int .i64 tt, .int .i64 kp] 34 (0, 0))) := by
          refine Eq.trans ?_ ((BA.out.block g0 (lt_of_block G9.out)).trans G9.out)
          refine ga.block g0 (by have := lt_of_block G9.out; simp; omega) (fun e => ?_)
          exact HG0.out g0 (Nat.le_refl _) e.symm
        clear oa ga ata SQ BA q0 q1 q2 q3
        obtain ⟨q0, q1, q2, q3⟩ := act_cells GA.out
        clear HO9 SP9 G9

        have AG := last_again HV.out.1 (by rw [HEQ.out.1]; first | exact HL.out.sl | (have := QK.out.2.2.1; omega)) HRM.out (by have := HV.out.2.1; omega)
        obtain ⟨ag1, d3, ag2, ag3, ag4, ag5, ag6⟩ := AG
        have HAG : Hid (d'.fresh.opened [] = (0, d'.fresh, some ⟨g2, s2, R2.length, true⟩, snap2, R2) ∧ d'.fresh.resave ⟨g2, s2, R2.length, true⟩ snap2 = (0, d3, ⟨g2 + 1, 1 - s2, 0, false⟩) ∧ Held d3 (g2 + 1) (1 - s2) snap2 [] [] ∧ d3.dn = false ∧ d3.room = 5000 ∧ d3.ops = 3) := ⟨ag1, ag2, ag3, ag4, ag5, ag6⟩
        clear ag1 ag2 ag3 ag4 ag5 ag6
        have HDF : Hid (df = d'.fresh) := HDF0.out
        have OP := our_open HA.out.deck none 0 0 [] (Sl.nil _ _ _) (fun _ => rfl) (fun h => absurd rfl h) (by decide) (by rw [HDF.out]; simp [D.fresh]) d'.fresh ⟨g2, s2, R2.length, true⟩ snap2 R2 (by rw [HDF.out]; exact HAG.out.1)
        go_wp2_with fail
        go_at_call 9
        refine OP.mono ?_
        rintro e wb ⟨lb, y1, e1, y2, e2, rfl, OB, oob, sb, rb⟩
        have MB : Hid (Spn w wb (.slice laa (R.length + 1) lca) (vs ++ [.slice Ak Lk Ck]) (R ++ [Zk])) := MA.out.only oob (fun j hj hs => hs.2 hj)
        have HOB : Hid (Our w wb No b lb d'.fresh ⟨g2, s2, R2.length, true⟩) := OB.less (fun j hj => hj.elim)
        obtain ⟨k1, hk1⟩ : ∃ x, snap2.length = x := ⟨_, rfl⟩
        obtain ⟨k2, hk2⟩ : ∃ x, R2.length = x := ⟨_, rfl⟩
        have TB : (convert 26 9 (.slice y1 k1 e1)).run Try.prog wb = .ok (.string (strOfNums snap)) wb := by
          have hsb := sb.sl
          rw [hk1, HEQ.out.1] at hsb
          exact hsb.text (P := Try.prog) (cap := e1) 26 9 5 Try.underlying26 Try.underlying5 Try.underlying9
        have SM := ref_same y2 R2.length e2 R2 laa (R.length + 1) lca (R ++ [Zk]) wb rb.rowsIn (MB.out.rowsIn HOB.out.blw) (by have := HV.out.2.2; omega) (by have := HN.out; omega)
        rw [decide_eq_true HEQ.out.2] at SM
        rw [hk2] at SM
        rw [hk1, hk2]
        have HK2 : Hid (R2.length = k2 ∧ k2 ≤ 60) := ⟨hk2, by have := HV.out.2.2; omega⟩
        clear OP OB oob sb rb hk1 hk2
        go_wp2_with fail
        go_at_call 16
        refine SM.mono ?_
        rintro e wd ⟨rfl, bd⟩
        have HOD : Hid (Our w wd No b lb d'.fresh ⟨g2, s2, R2.length, true⟩) := HOB.out.grow bd
        have C := Lib.run_convert_bytes_const (P := Try.prog) wd 26 5 #[.int .u8 122] 1 1 Try.underlying26 Try.underlying5
        have AD := our_add (HOD.out.grow ((Below.refl _ _).alloc (Nat.le_refl _) (.cells #[.int .u8 122] 5 (1, 2)))) _ 1 1 [122] (one_const wd 122 (by decide)) (by simp) (by decide) (by simp [D.fresh]) (by have := HK2.out; simp only; omega)
        rw [add_stale] at AD
        clear SM bd HOB MB TB
        go_wp2_with fail
        go_at_call 10
        refine AD.mono ?_
        rintro e we ⟨rfl, OE, ooe⟩
        have HOE : Hid (Our w we No b lb d'.fresh ⟨g2, s2, R2.length, true⟩) := OE
        obtain ⟨wg, cg, CG, bg, sg⟩ := bytes_of we snap (by first | exact HB.out | exact QK.out.1.2.1)
        have SV := our_save (HOE.out.grow bg) _ _ cg snap sg (by simp) (by first | (have := HL.out.sl; omega) | (have := QK.out.2.2.1; omega)) (by simp [D.fresh]) (by simp only; have := HV.out.1.g1; omega) (by simp only; have := HV.out.2.1; omega) (by simpa using HV.out.1.hs)
        have hre : d'.fresh.resave ⟨g2, s2, R2.length, true⟩ snap = (0, d3, ⟨g2 + 1, 1 - s2, 0, false⟩) := by
          have := HAG.out.2.1
          rw [HEQ.out.1] at this
          exact this
        rw [hre] at SV
        clear hre C AD OE ooe HOE HOD bg sg
        go_wp2_with fail
        go_at_call 11
        refine SV.mono ?_
        rintro e wh ⟨rfl, OH, ooh⟩
        have FH : Hid (Lasts w wh b lb snap (.slice none 0 0) [] [] d3 (g2 + 1) (1 - s2) 0 (k + 1)) := by
          have hh := HAG.out.2.2
          rw [HEQ.out.1] at hh
          refine ⟨OH.less (fun j hj => by simp [SpX, Value.ownBlock] at hj), hh.1, Spn.none _ _, hh.2.1, hh.2.2.1, by rw [hh.2.2.2]; omega, by have := HV.out.2.1; omega, by omega, by simp, ?_⟩
          first | exact HL.out.sl | (have := QK.out.2.2.1; omega)
        clear SV OH ooh CG
        go_wp2
        refine ⟨?_, by simp [LastM, intOf]; omega⟩
        unfold LastI
        (repeat apply Exists.intro)
        refine ⟨?rel, rfl⟩
        case rel => exact ⟨k + 1, lb, snap, none, 0, 0, [], [], d3, _, _, 0, rfl, rfl, rfl, by simp, by omega, FH.out⟩

end Go.Proofs.Ytdecdjjknbbolaa
