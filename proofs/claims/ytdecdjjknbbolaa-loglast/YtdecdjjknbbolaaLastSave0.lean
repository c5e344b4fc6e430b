/-
  LogLast: one way through a round.
-/
import Derived.Test.YtdecdjjknbbolaaLastLoop
namespace Go.Proofs.Ytdecdjjknbbolaa
open Go.RowKit
set_option linter.unusedVariables false
set_option linter.unusedSimpArgs false

set_option maxRecDepth 1000000 in
set_option maxHeartbeats 40000000 in
theorem last_save_0 (w wr : World) (bb off n0 c0' b l k : Nat) (snap : List Int) (la : Option Addr) (ln lc : Nat) (vs : List Value) (R : List (List Int)) (d : D) (g s : Int) (n : Nat) (hkn : k < n0) (hn0 : n0 ≤ 50) (HL : Hid (Lasts w wr b l snap (.slice la ln lc) vs R d g s n k))
    (tt kp : Int) (Ak : Option Addr) (Lk Ck : Nat) (Zk : List Int) (QK : Hid (Sl .u8 w Ak Lk Zk ∧ (Ak = none → Ck = 0) ∧ Lk = Zk.length ∧ kp ≤ 9223372036854775807))
    (s0 : wr.cell? ⟨bb, off + k * 4, none⟩ = some (.int .i64 2)) (s1 : wr.cell? ⟨bb, off + k * 4 + 1, none⟩ = some (.slice Ak Lk Ck)) (s2' : wr.cell? ⟨bb, off + k * 4 + 2, none⟩ = some (.int .i64 tt)) (s3 : wr.cell? ⟨bb, off + k * 4 + 3, none⟩ = some (.int .i64 kp))
    (hLk40 : Lk ≤ 40) (d' : D) (ha : d.resave ⟨g, s, n, false⟩ Zk = (0, d', ⟨g + 1, 1 - s, 0, false⟩)) (hh : Held d' (g + 1) (1 - s) Zk [] []) (hdn' : d'.dn = false) (hrm' : d'.room = d.room) (hop' : d'.ops = d.ops + 3)
    (Q0 : Exit → Act → World → Prop) (c1 c5 c6 c7 c24 c25 c26 c27 c28 c29 c30 c31 c32 c33 c34 c35 c36 c37 c38 c39 c40 c41 c42 c227 u2 u11 u12 u13 u14 u15 u16 u17 u18 u19 u20 u21 u22 u23 u43 u44 u45 u46 u47 u48 u49 u50 u51 u52 u53 u54 u55 u56 u57 u58 u59 u60 u61 u62 u63 u64 u65 u66 u67 u68 u69 u70 u71 u72 u73 u74 u75 u76 u77 u78 u79 u80 u81 u82 u83 u84 u85 u86 u87 u88 u89 u90 u91 u92 u93 u94 u95 u96 u97 u98 u99 u100 u101 u102 u103 u104 u105 u106 u107 u108 u109 u110 u111 u112 u113 u114 u115 u116 u117 u118 u119 u120 u121 u122 u123 u124 u125 u126 u127 u128 u129 u130 u131 u132 u133 u134 u135 u136 u137 u138 u139 u140 u141 u142 u143 u144 u145 u146 u147 u148 u149 u150 u151 u152 u153 u154 u155 u156 u157 u158 u159 u160 u161 u162 u163 u164 u165 u166 u167 u168 u169 u170 u171 u172 u173 u174 u175 u176 u177 u178 u179 u180 u181 u182 u183 u184 u185 u186 u187 u188 u189 u190 u191 u192 u193 u194 u195 u196 u197 u198 u199 u200 u201 u202 u203 u204 u205 u206 u207 u208 u209 u210 u211 u212 u213 u214 u215 u216 u217 u218 u219 u220 u221 u222 u223 u224 u225 u226 : Value) :
    Code.wp Try.prog ((Try.f3.body.bind firstLoop).getD .skip) (Exit.then (fun a' w'' => LastI w (some ⟨bb, off, none⟩) n0 c0' b c1 c5 c6 c7 c24 c25 c26 c27 c28 c29 c30 c31 c32 c33 c34 c35 c36 c37 c38 c39 c40 c41 c42 c227 a' w'' ∧ LastM n0 a' w'' < LastM n0 ⟨#[.slice (some ⟨bb, off, none⟩) n0 c0', c1, u2, .pointer (some ⟨b, 0, none⟩), .pointer (some ⟨l, 0, none⟩), c5, c6, c7, .string (strOfNums snap), .slice la ln lc, .int .i64 k, u11, u12, u13, u14, u15, u16, u17, u18, u19, u20, u21, u22, u23, c24, c25, c26, c27, c28, c29, c30, c31, c32, c33, c34, c35, c36, c37, c38, c39, c40, c41, c42, u43, u44, u45, u46, u47, u48, u49, u50, u51, u52, u53, u54, u55, u56, u57, u58, u59, u60, u61, u62, u63, u64, u65, u66, u67, u68, u69, u70, u71, u72, u73, u74, u75, u76, u77, u78, u79, u80, u81, u82, u83, u84, u85, u86, u87, u88, u89, u90, u91, u92, u93, u94, u95, u96, u97, u98, u99, u100, u101, u102, u103, u104, u105, u106, u107, u108, u109, u110, u111, u112, u113, u114, u115, u116, u117, u118, u119, u120, u121, u122, u123, u124, u125, u126, u127, u128, u129, u130, u131, u132, u133, u134, u135, u136, u137, u138, u139, u140, u141, u142, u143, u144, u145, u146, u147, u148, u149, u150, u151, u152, u153, u154, u155, u156, u157, u158, u159, u160, u161, u162, u163, u164, u165, u166, u167, u168, u169, u170, u171, u172, u173, u174, u175, u176, u177, u178, u179, u180, u181, u182, u183, u184, u185, u186, u187, u188, u189, u190, u191, u192, u193, u194, u195, u196, u197, u198, u199, u200, u201, u202, u203, u204, u205, u206, u207, u208, u209, u210, u211, u212, u213, u214, u215, u216, u217, u218, u219, u220, u221, u222, u223, u224, u225, u226, c227], []⟩ wr) Q0) ⟨#[.slice (some ⟨bb, off, none⟩) n0 c0', c1, u2, .pointer (some ⟨b, 0, none⟩), .pointer (some ⟨l, 0, none⟩), c5, c6, c7, .string (strOfNums snap), .slice la ln lc, .int .i64 k, u11, u12, u13, u14, u15, u16, u17, u18, u19, u20, u21, u22, u23, c24, c25, c26, c27, c28, c29, c30, c31, c32, c33, c34, c35, c36, c37, c38, c39, c40, c41, c42, u43, u44, u45, u46, u47, u48, u49, u50, u51, u52, u53, u54, u55, u56, u57, u58, u59, u60, u61, u62, u63, u64, u65, u66, u67, u68, u69, u70, u71, u72, u73, u74, u75, u76, u77, u78, u79, u80, u81, u82, u83, u84, u85, u86, u87, u88, u89, u90, u91, u92, u93, u94, u95, u96, u97, u98, u99, u100, u101, u102, u103, u104, u105, u106, u107, u108, u109, u110, u111, u112, u113, u114, u115, u116, u117, u118, u119, u120, u121, u122, u123, u124, u125, u126, u127, u128, u129, u130, u131, u132, u133, u134, u135, u136, u137, u138, u139, u140, u141, u142, u143, u144, u145, u146, u147, u148, u149, u150, u151, u152, u153, u154, u155, u156, u157, u158, u159, u160, u161, u162, u163, u164, u165, u166, u167, u168, u169, u170, u171, u172, u173, u174, u175, u176, u177, u178, u179, u180, u181, u182, u183, u184, u185, u186, u187, u188, u189, u190, u191, u192, u193, u194, u195, u196, u197, u198, u199, u200, u201, u202, u203, u204, u205, u206, u207, u208, u209, u210, u211, u212, u213, u214, u215, u216, u217, u218, u219, u220, u221, u222, u223, u224, u225, u226, c227], []⟩ wr := by
  conv => arg 2; whnf
  have i0 : (n0 : Int) ≤ 50 := by omega
  have ki : (k : Int) < n0 := by omega
  have kj : IntKind.i64.wrap ((k : Int) + 1) = (k : Int) + 1 := i64_wf (by omega) (by omega)
  have hlen := lasts_len HL.out
  have HN : Hid (ln = R.length ∧ ln ≤ 50) := ⟨hlen.1, by omega⟩
  have hrl50 : R.length ≤ 50 := by have := HL.out.rl; omega
  have HB : Hid (Bs snap) := lasts_bs HL.out
  clear hlen

  obtain ⟨g0, hg0⟩ : ∃ x, x = wr.heap.size := ⟨_, rfl⟩
  obtain ⟨w5, hw5⟩ : ∃ x, x = wr.alloc (.cells #[.int .i64 2, .slice Ak Lk Ck, .int .i64 tt, .int .i64 kp] 34) := ⟨_, rfl⟩
  have LA := lasts_act HL.out (.cells #[.int .i64 2, .slice Ak Lk Ck, .int .i64 tt, .int .i64 kp] 34)
  rw [← hw5, ← hg0] at LA
  have HG0 : Hid (∀ j, g0 ≤ j → ¬ SpX (.slice la ln lc) j) := LA.2.2
  have H5 : Hid (Our w w5 (fun j => SpX (.slice la ln lc) j ∨ j = g0) b l d ⟨g, s, n, false⟩) := LA.1
  have S5 : Hid (Spn w w5 (.slice la ln lc) vs R) := LA.2.1
  have G5 : Hid (w5.heap[g0]? = some (.cells #[.int .i64 2, .slice Ak Lk Ck, .int .i64 tt, .int .i64 kp] 34 (0, 0))) := by
    rw [hw5, hg0]
    exact heap_alloc_new wr _
  clear LA
  go_upto_region 13 with fail
  rw [← hw5, ← hg0]
  clear hw5 hg0 s0 s1 s2' s3
  obtain ⟨q0, q1, q2, q3⟩ := act_cells G5.out

  have A1 := our_save H5.out Ak Lk Ck Zk (QK.out.1.below H5.out.blw) QK.out.2.1 (by omega) (by have := HL.out.ops; omega) (by simp only; have := HL.out.held.g1; omega) (by simp only; have := HL.out.gl; omega) (by simpa using HL.out.held.hs)

  have HH : Hid (Held d' (g + 1) (1 - s) Zk [] [] ∧ d'.dn = false ∧ d'.room = d.room ∧ d'.ops = d.ops + 3) := ⟨hh, hdn', hrm', hop'⟩
  obtain ⟨g2, s2, tail, hV, hb⟩ : ∃ g2 s2 tail, Held d' g2 s2 Zk [] tail ∧ g2 ≤ 2 * (k : Int) + 2 := ⟨_, _, _, hh, by have := HL.out.gl; omega⟩

  obtain ⟨snap2, hs2⟩ : ∃ x, x = Zk := ⟨_, rfl⟩
  obtain ⟨R2, hR2⟩ : ∃ x, x = ([] : List (List Int)) := ⟨_, rfl⟩
  rw [← hs2, ← hR2] at hV
  have HV : Hid (Held d' g2 s2 snap2 R2 tail ∧ g2 ≤ 2 * (k : Int) + 2 ∧ R2.length ≤ 60) := ⟨hV, hb, by rw [hR2]; have := HL.out.rl; simp <;> omega⟩

  have HQ : Hid (snap2 = Zk ∧ R2 = []) := ⟨hs2, hR2⟩
  clear hV hs2 hR2 hb hh hdn' hrm' hop'

  rw [ha] at A1
  go_wp2_with fail
  go_at_call 11
  refine A1.mono ?_
  rintro e w6 ⟨rfl, O6, oo6⟩
  have G6 : Hid (w6.heap[g0]? = some (.cells #[.int .i64 2, .slice Ak Lk Ck, .int .i64 tt, .int .i64 kp] 34 (0, 0))) := (oo6.block g0 (lt_of_block G5.out) (fun hs => hs.2 (.inr rfl))).trans G5.out
  have SP6 : Hid (Spn w w6 (.slice la ln lc) vs R) := S5.out.only oo6 (fun j hj hs => hs.2 (.inl hj))
  obtain ⟨q0, q1, q2, q3⟩ := act_cells G6.out

  obtain ⟨lg, hlg⟩ : ∃ x, (⟨g + 1, 1 - s, 0, false⟩ : Lg) = x := ⟨_, rfl⟩
  have HLG : Hid ((⟨g + 1, 1 - s, 0, false⟩ : Lg) = lg) := hlg
  rw [hlg] at O6
  obtain ⟨df, hdf⟩ : ∃ x, x = d' := ⟨_, rfl⟩
  have HDF : Hid (df = d') := hdf
  rw [← hdf] at O6
  have hlk : df.look = ⟨g2, s2, snap2, R2, true⟩ := by rw [hdf]; exact HV.out.1.look
  have LK := our_look O6.deck
  rw [hlk] at LK
  have HOL : Hid (Our w w6 (fun j => SpX (.slice la ln lc) j ∨ j = g0) b l df lg) := O6

  have FIN : Hid (∀ wq, Our w wq No b l df lg → Lasts w wq b l Zk (.slice none 0 0) [] [] df (g + 1) (1 - s) 0 (k + 1)) := by
    intro wq h2
    rw [← HLG.out] at h2
    refine ⟨h2.less (fun j hj => by simp [SpX, Value.ownBlock] at hj), ?_, Spn.none _ _, ?_, ?_, ?_, by have := HL.out.gl; omega, by omega, by simp, by have := QK.out.2.2.1; omega⟩
    · rw [HDF.out]; exact HH.out.1
    · rw [HDF.out]; exact HH.out.2.1
    · rw [HDF.out]; exact HH.out.2.2.1.trans HL.out.rm
    · rw [HDF.out, HH.out.2.2.2]; have := HL.out.ops; omega

  clear A1 O6 oo6 hlg hdf hlk

  go_wp2_with fail
  go_at_call 15
  refine LK.mono ?_
  rintro e w7 ⟨x1, f1, x2, f2, rfl, s7, r7, b7⟩
  simp only
  obtain ⟨m1, hm1⟩ : ∃ x, snap2.length = x := ⟨_, rfl⟩
  obtain ⟨m2, hm2⟩ : ∃ x, R2.length = x := ⟨_, rfl⟩
  have X7 : Hid (Sl .u8 w7 x1 m1 snap2 ∧ RowsIn w7 x2 m2 R2 ∧ m2 ≤ 60) := by
    have h1 := s7.sl
    have h2 := r7.rowsIn
    simp only at h1 h2
    rw [hm1] at h1
    rw [hm2] at h2
    exact ⟨h1, h2, by have := HV.out.2.2; omega⟩
  rw [hm1, hm2]
  have HO7 : Hid (Our w w7 (fun j => SpX (.slice la ln lc) j ∨ j = g0) b l df lg) := HOL.out.grow b7
  have SP7 : Hid (Spn w w7 (.slice la ln lc) vs R) := SP6.out.below b7
  have G7 : Hid (w7.heap[g0]? = some (.cells #[.int .i64 2, .slice Ak Lk Ck, .int .i64 tt, .int .i64 kp] 34 (0, 0))) := (b7.block g0 (lt_of_block G6.out)).trans G6.out
  have hm260 : m2 ≤ 60 := X7.out.2.2
  clear LK s7 r7 b7 hm1 hm2 HOL SP6 G6 q0 q1 q2 q3
  obtain ⟨q0, q1, q2, q3⟩ := act_cells G7.out
  obtain ⟨W, hW⟩ : ∃ x, decide (snap2 = snap ∧ R2 = R) = x := ⟨_, rfl⟩
  obtain ⟨J, hJ⟩ : ∃ x, decide (snap2 = Zk ∧ R2 = []) = x := ⟨_, rfl⟩
  obtain ⟨I, hI⟩ : ∃ x, decide (snap2 = snap ∧ R2 = R ++ [Zk]) = x := ⟨_, rfl⟩
  have HF : Hid (decide (snap2 = snap ∧ R2 = R) = W ∧ decide (snap2 = Zk ∧ R2 = []) = J ∧ decide (snap2 = snap ∧ R2 = R ++ [Zk]) = I) := ⟨hW, hJ, hI⟩

  have HEQ : Hid (snap2 = Zk ∧ R2 = []) := HQ.out
  have HC : Hid (J = true) := by
    show _ = _
    rw [← hJ]
    exact decide_eq_true HQ.out

  clear hW hJ hI

  go_upto_region 28 with fail
  go_cut [18] from 43 to 226 (fun s wc => s = .bool W ∧ Below w7.heap.size w7 wc)
  case first =>
    have T1 : (convert 26 9 (.slice x1 m1 f1)).run Try.prog w7 = .ok (.string (strOfNums snap2)) w7 := X7.out.1.text (P := Try.prog) (cap := f1) 26 9 5 Try.underlying26 Try.underlying5 Try.underlying9
    by_cases hs : snap2 = snap
    · rw [hs] at T1
      have SM := ref_same x2 m2 f2 R2 la ln lc R w7 X7.out.2.1 (SP7.out.rowsIn HO7.out.blw) (by have := HV.out.2.2; omega) (by have := HN.out; omega)
      have HW : Hid (decide (R2 = R) = W) := by
        show _ = _
        rw [← HF.out.1]
        exact decide_eq_decide.2 ⟨fun h => ⟨hs, h⟩, fun h => h.2⟩
      rw [HW.out] at SM
      clear hs
      go_wp2_with fail
      go_at_call 16
      refine SM.mono ?_
      rintro e w8 ⟨rfl, b8⟩
      go_wp2
      go_meet
      case rel => exact ⟨rfl, b8⟩
    · have hs' := text_ne (fun he => hs (strOfNums_inj X7.out.1.2.1 HB.out he))
      have HW : Hid (false = W) := by
        show _ = _
        rw [← HF.out.1]
        exact (decide_eq_false (fun h => hs h.1)).symm
      clear hs
      go_wp2
      go_meet
      case rel => exact ⟨congrArg Value.bool HW.out, Below.refl _ _⟩
  case rest =>
    obtain ⟨rfl, b8⟩ := hcut
    have HO8 : Hid (Our w wc (fun j => SpX (.slice la ln lc) j ∨ j = g0) b l df lg) := HO7.out.grow b8
    have SP8 : Hid (Spn w wc (.slice la ln lc) vs R) := SP7.out.below b8
    have G8 : Hid (wc.heap[g0]? = some (.cells #[.int .i64 2, .slice Ak Lk Ck, .int .i64 tt, .int .i64 kp] 34 (0, 0))) := (b8.block g0 (lt_of_block G7.out)).trans G7.out
    have X8 : Hid (Sl .u8 wc x1 m1 snap2 ∧ RowsIn wc x2 m2 R2) := ⟨X7.out.1.below b8, X7.out.2.1.below b8⟩
    clear HO7 SP7 G7 X7 b8 q0 q1 q2 q3
    obtain ⟨w8, hw8⟩ : ∃ x, x = wc := ⟨_, rfl⟩
    subst hw8
    obtain ⟨q0, q1, q2, q3⟩ := act_cells G8.out
    go_upto_region 29 with fail
    go_cut [19] from 43 to 226 (fun s wc => s = .bool J ∧ wc = w8)
    case first =>
      have T1 : (convert 26 9 (.slice x1 m1 f1)).run Try.prog w8 = .ok (.string (strOfNums snap2)) w8 := X8.out.1.text (P := Try.prog) (cap := f1) 26 9 5 Try.underlying26 Try.underlying5 Try.underlying9
      have T2 : (convert 26 9 (.slice Ak Lk Ck)).run Try.prog w8 = .ok (.string (strOfNums Zk)) w8 := (QK.out.1.below HO8.out.blw).text (P := Try.prog) (cap := Ck) 26 9 5 Try.underlying26 Try.underlying5 Try.underlying9
      by_cases hs : snap2 = Zk
      · rw [hs] at T1
        by_cases hr : m2 = 0
        · have HW : Hid (true = J) := by
            show _ = _
            rw [← HF.out.2.1]
            exact (decide_eq_true ⟨hs, List.length_eq_zero_iff.1 (by rw [← X8.out.2.1]; exact hr)⟩).symm
          subst hr
          clear hs
          go_wp2
          go_meet
          case rel => exact ⟨congrArg Value.bool HW.out, rfl⟩
        · have HW : Hid (false = J) := by
            show _ = _
            rw [← HF.out.2.1]
            exact (decide_eq_false (fun h => hr (by rw [X8.out.2.1, h.2]; rfl))).symm
          have hr' : ((m2 : Int) == 0) = false := by simp; omega
          clear hs
          go_wp2
          go_meet
          case rel => exact ⟨congrArg Value.bool HW.out, rfl⟩
      · have hs' := text_ne (fun he => hs (strOfNums_inj X8.out.1.2.1 QK.out.1.2.1 he))
        have HW : Hid (false = J) := by
          show _ = _
          rw [← HF.out.2.1]
          exact (decide_eq_false (fun h => hs h.1)).symm
        clear hs
        go_wp2
        go_meet
        case rel => exact ⟨congrArg Value.bool HW.out, rfl⟩
    case rest =>
      obtain ⟨rfl, hw⟩ := hcut
      obtain rfl := hw.symm

      have HO9 : Hid (Our w w8 (fun j => SpX (.slice la ln lc) j ∨ j = g0) b l df lg) := HO8.out
      have SP9 : Hid (Spn w w8 (.slice la ln lc) vs R) := SP8.out
      have G9 : Hid (w8.heap[g0]? = some (.cells #[.int .i64 2, .slice Ak Lk Ck, .int .i64 tt, .int .i64 kp] 34 (0, 0))) := G8.out
      clear HO8 SP8 G8 X8 q0 q1 q2 q3
      obtain ⟨w9, hw9⟩ : ∃ x, x = w8 := ⟨_, rfl⟩
      subst hw9
      obtain ⟨q0, q1, q2, q3⟩ := act_cells G9.out
      obtain rfl : J = true := HC.out

      have T2 : (convert 26 9 (.slice Ak Lk Ck)).run Try.prog w9 = .ok (.string (strOfNums Zk)) w9 := (QK.out.1.below HO9.out.blw).text (P := Try.prog) (cap := Ck) 26 9 5 Try.underlying26 Try.underlying5 Try.underlying9
      have HA : Hid (Our w w9 No b l df lg) := HO9.out.less (fun j hj => hj.elim)
      have MA : Hid (Spn w w9 (.slice none 0 0) [] []) := Spn.none _ _
      clear HO9 SP9

      go_wp2
      refine ⟨?_, by simp [LastM, intOf]; omega⟩
      unfold LastI
      (repeat apply Exists.intro)
      refine ⟨?rel, rfl⟩
      case rel => exact ⟨k + 1, l, Zk, none, 0, 0, [], [], df, _, _, 0, rfl, rfl, rfl, by simp, by omega, FIN.out w9 HA.out⟩

end Go.Proofs.Ytdecdjjknbbolaa
