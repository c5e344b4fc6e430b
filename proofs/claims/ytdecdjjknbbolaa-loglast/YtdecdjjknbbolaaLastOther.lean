/-
  LogLast: the other ways through a round.
-/
import Derived.Test.YtdecdjjknbbolaaLastLoop
namespace Go.Proofs.Ytdecdjjknbbolaa
open Go.RowKit
set_option linter.unusedVariables false
set_option linter.unusedSimpArgs false

set_option maxRecDepth 1000000 in
set_option maxHeartbeats 40000000 in
theorem last_big (w wr : World) (bb off n0 c0' b l k : Nat) (snap : List Int) (la : Option Addr) (ln lc : Nat) (vs : List Value) (R : List (List Int)) (d : D) (g s : Int) (n : Nat) (hkn : k < n0) (hn0 : n0 ≤ 50) (HL : Hid (Lasts w wr b l snap (.slice la ln lc) vs R d g s n k))
    (kk tt kp : Int) (Ak : Option Addr) (Lk Ck : Nat) (Zk : List Int) (QK : Hid (Sl .u8 w Ak Lk Zk ∧ (Ak = none → Ck = 0) ∧ Lk = Zk.length ∧ kp ≤ 9223372036854775807))
    (s0 : wr.cell? ⟨bb, off + k * 4, none⟩ = some (.int .i64 kk)) (s1 : wr.cell? ⟨bb, off + k * 4 + 1, none⟩ = some (.slice Ak Lk Ck)) (s2' : wr.cell? ⟨bb, off + k * 4 + 2, none⟩ = some (.int .i64 tt)) (s3 : wr.cell? ⟨bb, off + k * 4 + 3, none⟩ = some (.int .i64 kp))
    (Q0 : Exit → Act → World → Prop) (c1 c5 c6 c7 c24 c25 c26 c27 c28 c29 c30 c31 c32 c33 c34 c35 c36 c37 c38 c39 c40 c41 c42 c227 : Value) (hret : ∀ (u4 u8 u9 u10 u11 u12 u13 u14 u15 u16 u17 u18 u19 u20 u21 u22 u23 u43 u44 u45 u46 u47 u48 u49 u50 u51 u52 u53 u54 u55 u56 u57 u58 u59 u60 u61 u62 u63 u64 u65 u66 u67 u68 u69 u70 u71 u72 u73 u74 u75 u76 u77 u78 u79 u80 u81 u82 u83 u84 u85 u86 u87 u88 u89 u90 u91 u92 u93 u94 u95 u96 u97 u98 u99 u100 u101 u102 u103 u104 u105 u106 u107 u108 u109 u110 u111 u112 u113 u114 u115 u116 u117 u118 u119 u120 u121 u122 u123 u124 u125 u126 u127 u128 u129 u130 u131 u132 u133 u134 u135 u136 u137 u138 u139 u140 u141 u142 u143 u144 u145 u146 u147 u148 u149 u150 u151 u152 u153 u154 u155 u156 u157 u158 u159 u160 u161 u162 u163 u164 u165 u166 u167 u168 u169 u170 u171 u172 u173 u174 u175 u176 u177 u178 u179 u180 u181 u182 u183 u184 u185 u186 u187 u188 u189 u190 u191 u192 u193 u194 u195 u196 u197 u198 u199 u200 u201 u202 u203 u204 u205 u206 u207 u208 u209 u210 u211 u212 u213 u214 u215 u216 u217 u218 u219 u220 u221 u222 u223 u224 u225 u226 : Value) (w'' : World), Below w.heap.size w w'' → Q0 .ret ⟨#[.slice (some ⟨bb, off, none⟩) n0 c0', c1, .bool true, .pointer (some ⟨b, 0, none⟩), u4, c5, c6, c7, u8, u9, u10, u11, u12, u13, u14, u15, u16, u17, u18, u19, u20, u21, u22, u23, c24, c25, c26, c27, c28, c29, c30, c31, c32, c33, c34, c35, c36, c37, c38, c39, c40, c41, c42, u43, u44, u45, u46, u47, u48, u49, u50, u51, u52, u53, u54, u55, u56, u57, u58, u59, u60, u61, u62, u63, u64, u65, u66, u67, u68, u69, u70, u71, u72, u73, u74, u75, u76, u77, u78, u79, u80, u81, u82, u83, u84, u85, u86, u87, u88, u89, u90, u91, u92, u93, u94, u95, u96, u97, u98, u99, u100, u101, u102, u103, u104, u105, u106, u107, u108, u109, u110, u111, u112, u113, u114, u115, u116, u117, u118, u119, u120, u121, u122, u123, u124, u125, u126, u127, u128, u129, u130, u131, u132, u133, u134, u135, u136, u137, u138, u139, u140, u141, u142, u143, u144, u145, u146, u147, u148, u149, u150, u151, u152, u153, u154, u155, u156, u157, u158, u159, u160, u161, u162, u163, u164, u165, u166, u167, u168, u169, u170, u171, u172, u173, u174, u175, u176, u177, u178, u179, u180, u181, u182, u183, u184, u185, u186, u187, u188, u189, u190, u191, u192, u193, u194, u195, u196, u197, u198, u199, u200, u201, u202, u203, u204, u205, u206, u207, u208, u209, u210, u211, u212, u213, u214, u215, u216, u217, u218, u219, u220, u221, u222, u223, u224, u225, u226, c227], []⟩ w'') (hbig : (40 : Int) < Lk)
    (u2 u11 u12 u13 u14 u15 u16 u17 u18 u19 u20 u21 u22 u23 u43 u44 u45 u46 u47 u48 u49 u50 u51 u52 u53 u54 u55 u56 u57 u58 u59 u60 u61 u62 u63 u64 u65 u66 u67 u68 u69 u70 u71 u72 u73 u74 u75 u76 u77 u78 u79 u80 u81 u82 u83 u84 u85 u86 u87 u88 u89 u90 u91 u92 u93 u94 u95 u96 u97 u98 u99 u100 u101 u102 u103 u104 u105 u106 u107 u108 u109 u110 u111 u112 u113 u114 u115 u116 u117 u118 u119 u120 u121 u122 u123 u124 u125 u126 u127 u128 u129 u130 u131 u132 u133 u134 u135 u136 u137 u138 u139 u140 u141 u142 u143 u144 u145 u146 u147 u148 u149 u150 u151 u152 u153 u154 u155 u156 u157 u158 u159 u160 u161 u162 u163 u164 u165 u166 u167 u168 u169 u170 u171 u172 u173 u174 u175 u176 u177 u178 u179 u180 u181 u182 u183 u184 u185 u186 u187 u188 u189 u190 u191 u192 u193 u194 u195 u196 u197 u198 u199 u200 u201 u202 u203 u204 u205 u206 u207 u208 u209 u210 u211 u212 u213 u214 u215 u216 u217 u218 u219 u220 u221 u222 u223 u224 u225 u226 : Value) :
    Code.wp Try.prog ((Try.f3.body.bind firstLoop).getD .skip) (Exit.then (fun a' w'' => LastI w (some ⟨bb, off, none⟩) n0 c0' b c1 c5 c6 c7 c24 c25 c26 c27 c28 c29 c30 c31 c32 c33 c34 c35 c36 c37 c38 c39 c40 c41 c42 c227 a' w'' ∧ LastM n0 a' w'' < LastM n0 ⟨#[.slice (some ⟨bb, off, none⟩) n0 c0', c1, u2, .pointer (some ⟨b, 0, none⟩), .pointer (some ⟨l, 0, none⟩), c5, c6, c7, .string (strOfNums snap), .slice la ln lc, .int .i64 k, u11, u12, u13, u14, u15, u16, u17, u18, u19, u20, u21, u22, u23, c24, c25, c26, c27, c28, c29, c30, c31, c32, c33, c34, c35, c36, c37, c38, c39, c40, c41, c42, u43, u44, u45, u46, u47, u48, u49, u50, u51, u52, u53, u54, u55, u56, u57, u58, u59, u60, u61, u62, u63, u64, u65, u66, u67, u68, u69, u70, u71, u72, u73, u74, u75, u76, u77, u78, u79, u80, u81, u82, u83, u84, u85, u86, u87, u88, u89, u90, u91, u92, u93, u94, u95, u96, u97, u98, u99, u100, u101, u102, u103, u104, u105, u106, u107, u108, u109, u110, u111, u112, u113, u114, u115, u116, u117, u118, u119, u120, u121, u122, u123, u124, u125, u126, u127, u128, u129, u130, u131, u132, u133, u134, u135, u136, u137, u138, u139, u140, u141, u142, u143, u144, u145, u146, u147, u148, u149, u150, u151, u152, u153, u154, u155, u156, u157, u158, u159, u160, u161, u162, u163, u164, u165, u166, u167, u168, u169, u170, u171, u172, u173, u174, u175, u176, u177, u178, u179, u180, u181, u182, u183, u184, u185, u186, u187, u188, u189, u190, u191, u192, u193, u194, u195, u196, u197, u198, u199, u200, u201, u202, u203, u204, u205, u206, u207, u208, u209, u210, u211, u212, u213, u214, u215, u216, u217, u218, u219, u220, u221, u222, u223, u224, u225, u226, c227], []⟩ wr) Q0) ⟨#[.slice (some ⟨bb, off, none⟩) n0 c0', c1, u2, .pointer (some ⟨b, 0, none⟩), .pointer (some ⟨l, 0, none⟩), c5, c6, c7, .string (strOfNums snap), .slice la ln lc, .int .i64 k, u11, u12, u13, u14, u15, u16, u17, u18, u19, u20, u21, u22, u23, c24, c25, c26, c27, c28, c29, c30, c31, c32, c33, c34, c35, c36, c37, c38, c39, c40, c41, c42, u43, u44, u45, u46, u47, u48, u49, u50, u51, u52, u53, u54, u55, u56, u57, u58, u59, u60, u61, u62, u63, u64, u65, u66, u67, u68, u69, u70, u71, u72, u73, u74, u75, u76, u77, u78, u79, u80, u81, u82, u83, u84, u85, u86, u87, u88, u89, u90, u91, u92, u93, u94, u95, u96, u97, u98, u99, u100, u101, u102, u103, u104, u105, u106, u107, u108, u109, u110, u111, u112, u113, u114, u115, u116, u117, u118, u119, u120, u121, u122, u123, u124, u125, u126, u127, u128, u129, u130, u131, u132, u133, u134, u135, u136, u137, u138, u139, u140, u141, u142, u143, u144, u145, u146, u147, u148, u149, u150, u151, u152, u153, u154, u155, u156, u157, u158, u159, u160, u161, u162, u163, u164, u165, u166, u167, u168, u169, u170, u171, u172, u173, u174, u175, u176, u177, u178, u179, u180, u181, u182, u183, u184, u185, u186, u187, u188, u189, u190, u191, u192, u193, u194, u195, u196, u197, u198, u199, u200, u201, u202, u203, u204, u205, u206, u207, u208, u209, u210, u211, u212, u213, u214, u215, u216, u217, u218, u219, u220, u221, u222, u223, u224, u225, u226, c227], []⟩ wr := by
  conv => arg 2; whnf
  have i0 : (n0 : Int) ≤ 50 := by omega
  have ki : (k : Int) < n0 := by omega
  have HBL : Hid (Below w.heap.size w wr) := HL.out.our.blw
  go_wp2
  first
  | exact HBL.out.alloc HBL.out.size _
  | exact hret _ _ _ _ _ _ _ _ _ _ _ _ _ _ _ _ _ _ _ _ _ _ _ _ _ _ _ _ _ _ _ _ _ _ _ _ _ _ _ _ _ _ _ _ _ _ _ _ _ _ _ _ _ _ _ _ _ _ _ _ _ _ _ _ _ _ _ _ _ _ _ _ _ _ _ _ _ _ _ _ _ _ _ _ _ _ _ _ _ _ _ _ _ _ _ _ _ _ _ _ _ _ _ _ _ _ _ _ _ _ _ _ _ _ _ _ _ _ _ _ _ _ _ _ _ _ _ _ _ _ _ _ _ _ _ _ _ _ _ _ _ _ _ _ _ _ _ _ _ _ _ _ _ _ _ _ _ _ _ _ _ _ _ _ _ _ _ _ _ _ _ _ _ _ _ _ _ _ _ _ _ _ _ _ _ _ _ _ _ _ _ _ _ _ _ _ _ _ _ _ _ _ (HBL.out.alloc HBL.out.size _)

set_option maxRecDepth 1000000 in
set_option maxHeartbeats 40000000 in
theorem last_disk (w wr : World) (bb off n0 c0' b l k : Nat) (snap : List Int) (la : Option Addr) (ln lc : Nat) (vs : List Value) (R : List (List Int)) (d : D) (g s : Int) (n : Nat) (hkn : k < n0) (hn0 : n0 ≤ 50) (HL : Hid (Lasts w wr b l snap (.slice la ln lc) vs R d g s n k))
    (tt kp : Int) (Ak : Option Addr) (Lk Ck : Nat) (Zk : List Int) (QK : Hid (Sl .u8 w Ak Lk Zk ∧ (Ak = none → Ck = 0) ∧ Lk = Zk.length ∧ kp ≤ 9223372036854775807))
    (s0 : wr.cell? ⟨bb, off + k * 4, none⟩ = some (.int .i64 1)) (s1 : wr.cell? ⟨bb, off + k * 4 + 1, none⟩ = some (.slice Ak Lk Ck)) (s2' : wr.cell? ⟨bb, off + k * 4 + 2, none⟩ = some (.int .i64 tt)) (s3 : wr.cell? ⟨bb, off + k * 4 + 3, none⟩ = some (.int .i64 kp))
    (Q0 : Exit → Act → World → Prop) (c1 c5 c6 c7 c24 c25 c26 c27 c28 c29 c30 c31 c32 c33 c34 c35 c36 c37 c38 c39 c40 c41 c42 c227 : Value) (hret : ∀ (u4 u8 u9 u10 u11 u12 u13 u14 u15 u16 u17 u18 u19 u20 u21 u22 u23 u43 u44 u45 u46 u47 u48 u49 u50 u51 u52 u53 u54 u55 u56 u57 u58 u59 u60 u61 u62 u63 u64 u65 u66 u67 u68 u69 u70 u71 u72 u73 u74 u75 u76 u77 u78 u79 u80 u81 u82 u83 u84 u85 u86 u87 u88 u89 u90 u91 u92 u93 u94 u95 u96 u97 u98 u99 u100 u101 u102 u103 u104 u105 u106 u107 u108 u109 u110 u111 u112 u113 u114 u115 u116 u117 u118 u119 u120 u121 u122 u123 u124 u125 u126 u127 u128 u129 u130 u131 u132 u133 u134 u135 u136 u137 u138 u139 u140 u141 u142 u143 u144 u145 u146 u147 u148 u149 u150 u151 u152 u153 u154 u155 u156 u157 u158 u159 u160 u161 u162 u163 u164 u165 u166 u167 u168 u169 u170 u171 u172 u173 u174 u175 u176 u177 u178 u179 u180 u181 u182 u183 u184 u185 u186 u187 u188 u189 u190 u191 u192 u193 u194 u195 u196 u197 u198 u199 u200 u201 u202 u203 u204 u205 u206 u207 u208 u209 u210 u211 u212 u213 u214 u215 u216 u217 u218 u219 u220 u221 u222 u223 u224 u225 u226 : Value) (w'' : World), Below w.heap.size w w'' → Q0 .ret ⟨#[.slice (some ⟨bb, off, none⟩) n0 c0', c1, .bool true, .pointer (some ⟨b, 0, none⟩), u4, c5, c6, c7, u8, u9, u10, u11, u12, u13, u14, u15, u16, u17, u18, u19, u20, u21, u22, u23, c24, c25, c26, c27, c28, c29, c30, c31, c32, c33, c34, c35, c36, c37, c38, c39, c40, c41, c42, u43, u44, u45, u46, u47, u48, u49, u50, u51, u52, u53, u54, u55, u56, u57, u58, u59, u60, u61, u62, u63, u64, u65, u66, u67, u68, u69, u70, u71, u72, u73, u74, u75, u76, u77, u78, u79, u80, u81, u82, u83, u84, u85, u86, u87, u88, u89, u90, u91, u92, u93, u94, u95, u96, u97, u98, u99, u100, u101, u102, u103, u104, u105, u106, u107, u108, u109, u110, u111, u112, u113, u114, u115, u116, u117, u118, u119, u120, u121, u122, u123, u124, u125, u126, u127, u128, u129, u130, u131, u132, u133, u134, u135, u136, u137, u138, u139, u140, u141, u142, u143, u144, u145, u146, u147, u148, u149, u150, u151, u152, u153, u154, u155, u156, u157, u158, u159, u160, u161, u162, u163, u164, u165, u166, u167, u168, u169, u170, u171, u172, u173, u174, u175, u176, u177, u178, u179, u180, u181, u182, u183, u184, u185, u186, u187, u188, u189, u190, u191, u192, u193, u194, u195, u196, u197, u198, u199, u200, u201, u202, u203, u204, u205, u206, u207, u208, u209, u210, u211, u212, u213, u214, u215, u216, u217, u218, u219, u220, u221, u222, u223, u224, u225, u226, c227], []⟩ w'') (hLk40 : Lk ≤ 40) (h10 : d.add ⟨g, s, n, false⟩ Zk = (10, d, ⟨g, s, n, false⟩))
    (u2 u11 u12 u13 u14 u15 u16 u17 u18 u19 u20 u21 u22 u23 u43 u44 u45 u46 u47 u48 u49 u50 u51 u52 u53 u54 u55 u56 u57 u58 u59 u60 u61 u62 u63 u64 u65 u66 u67 u68 u69 u70 u71 u72 u73 u74 u75 u76 u77 u78 u79 u80 u81 u82 u83 u84 u85 u86 u87 u88 u89 u90 u91 u92 u93 u94 u95 u96 u97 u98 u99 u100 u101 u102 u103 u104 u105 u106 u107 u108 u109 u110 u111 u112 u113 u114 u115 u116 u117 u118 u119 u120 u121 u122 u123 u124 u125 u126 u127 u128 u129 u130 u131 u132 u133 u134 u135 u136 u137 u138 u139 u140 u141 u142 u143 u144 u145 u146 u147 u148 u149 u150 u151 u152 u153 u154 u155 u156 u157 u158 u159 u160 u161 u162 u163 u164 u165 u166 u167 u168 u169 u170 u171 u172 u173 u174 u175 u176 u177 u178 u179 u180 u181 u182 u183 u184 u185 u186 u187 u188 u189 u190 u191 u192 u193 u194 u195 u196 u197 u198 u199 u200 u201 u202 u203 u204 u205 u206 u207 u208 u209 u210 u211 u212 u213 u214 u215 u216 u217 u218 u219 u220 u221 u222 u223 u224 u225 u226 : Value) :
    Code.wp Try.prog ((Try.f3.body.bind firstLoop).getD .skip) (Exit.then (fun a' w'' => LastI w (some ⟨bb, off, none⟩) n0 c0' b c1 c5 c6 c7 c24 c25 c26 c27 c28 c29 c30 c31 c32 c33 c34 c35 c36 c37 c38 c39 c40 c41 c42 c227 a' w'' ∧ LastM n0 a' w'' < LastM n0 ⟨#[.slice (some ⟨bb, off, none⟩) n0 c0', c1, u2, .pointer (some ⟨b, 0, none⟩), .pointer (some ⟨l, 0, none⟩), c5, c6, c7, .string (strOfNums snap), .slice la ln lc, .int .i64 k, u11, u12, u13, u14, u15, u16, u17, u18, u19, u20, u21, u22, u23, c24, c25, c26, c27, c28, c29, c30, c31, c32, c33, c34, c35, c36, c37, c38, c39, c40, c41, c42, u43, u44, u45, u46, u47, u48, u49, u50, u51, u52, u53, u54, u55, u56, u57, u58, u59, u60, u61, u62, u63, u64, u65, u66, u67, u68, u69, u70, u71, u72, u73, u74, u75, u76, u77, u78, u79, u80, u81, u82, u83, u84, u85, u86, u87, u88, u89, u90, u91, u92, u93, u94, u95, u96, u97, u98, u99, u100, u101, u102, u103, u104, u105, u106, u107, u108, u109, u110, u111, u112, u113, u114, u115, u116, u117, u118, u119, u120, u121, u122, u123, u124, u125, u126, u127, u128, u129, u130, u131, u132, u133, u134, u135, u136, u137, u138, u139, u140, u141, u142, u143, u144, u145, u146, u147, u148, u149, u150, u151, u152, u153, u154, u155, u156, u157, u158, u159, u160, u161, u162, u163, u164, u165, u166, u167, u168, u169, u170, u171, u172, u173, u174, u175, u176, u177, u178, u179, u180, u181, u182, u183, u184, u185, u186, u187, u188, u189, u190, u191, u192, u193, u194, u195, u196, u197, u198, u199, u200, u201, u202, u203, u204, u205, u206, u207, u208, u209, u210, u211, u212, u213, u214, u215, u216, u217, u218, u219, u220, u221, u222, u223, u224, u225, u226, c227], []⟩ wr) Q0) ⟨#[.slice (some ⟨bb, off, none⟩) n0 c0', c1, u2, .pointer (some ⟨b, 0, none⟩), .pointer (some ⟨l, 0, none⟩), c5, c6, c7, .string (strOfNums snap), .slice la ln lc, .int .i64 k, u11, u12, u13, u14, u15, u16, u17, u18, u19, u20, u21, u22, u23, c24, c25, c26, c27, c28, c29, c30, c31, c32, c33, c34, c35, c36, c37, c38, c39, c40, c41, c42, u43, u44, u45, u46, u47, u48, u49, u50, u51, u52, u53, u54, u55, u56, u57, u58, u59, u60, u61, u62, u63, u64, u65, u66, u67, u68, u69, u70, u71, u72, u73, u74, u75, u76, u77, u78, u79, u80, u81, u82, u83, u84, u85, u86, u87, u88, u89, u90, u91, u92, u93, u94, u95, u96, u97, u98, u99, u100, u101, u102, u103, u104, u105, u106, u107, u108, u109, u110, u111, u112, u113, u114, u115, u116, u117, u118, u119, u120, u121, u122, u123, u124, u125, u126, u127, u128, u129, u130, u131, u132, u133, u134, u135, u136, u137, u138, u139, u140, u141, u142, u143, u144, u145, u146, u147, u148, u149, u150, u151, u152, u153, u154, u155, u156, u157, u158, u159, u160, u161, u162, u163, u164, u165, u166, u167, u168, u169, u170, u171, u172, u173, u174, u175, u176, u177, u178, u179, u180, u181, u182, u183, u184, u185, u186, u187, u188, u189, u190, u191, u192, u193, u194, u195, u196, u197, u198, u199, u200, u201, u202, u203, u204, u205, u206, u207, u208, u209, u210, u211, u212, u213, u214, u215, u216, u217, u218, u219, u220, u221, u222, u223, u224, u225, u226, c227], []⟩ wr := by
  conv => arg 2; whnf
  have i0 : (n0 : Int) ≤ 50 := by omega
  have ki : (k : Int) < n0 := by omega
  have kj : IntKind.i64.wrap ((k : Int) + 1) = (k : Int) + 1 := i64_wf (by omega) (by omega)
  have hlen := lasts_len HL.out
  have HN : Hid (ln = R.length ∧ ln ≤ 50) := ⟨hlen.1, by omega⟩
  have hrl50 : R.length ≤ 50 := by have := HL.out.rl; omega
  have HB : Hid (Bs snap) := lasts_bs HL.out
  clear hlen

  obtain ⟨g0, hg0⟩ : ∃ x, x = wr.heap.size := ⟨_, rfl⟩
  obtain ⟨w5, hw5⟩ : ∃ x, x = wr.alloc (.cells #[.int .i64 1, .slice Ak Lk Ck, .int .i64 tt, .int .i64 kp] 34) := ⟨_, rfl⟩
  have LA := lasts_act HL.out (.cells #[.int .i64 1, .slice Ak Lk Ck, .int .i64 tt, .int .i64 kp] 34)
  rw [← hw5, ← hg0] at LA
  have HG0 : Hid (∀ j, g0 ≤ j → ¬ SpX (.slice la ln lc) j) := LA.2.2
  have H5 : Hid (Our w w5 (fun j => SpX (.slice la ln lc) j ∨ j = g0) b l d ⟨g, s, n, false⟩) := LA.1
  have S5 : Hid (Spn w w5 (.slice la ln lc) vs R) := LA.2.1
  have G5 : Hid (w5.heap[g0]? = some (.cells #[.int .i64 1, .slice Ak Lk Ck, .int .i64 tt, .int .i64 kp] 34 (0, 0))) := by
    rw [hw5, hg0]
    exact heap_alloc_new wr _
  clear LA
  go_upto_region 13 with fail
  rw [← hw5, ← hg0]
  clear hw5 hg0 s0 s1 s2' s3
  obtain ⟨q0, q1, q2, q3⟩ := act_cells G5.out

  have A1 := our_add H5.out Ak Lk Ck Zk (QK.out.1.below H5.out.blw) QK.out.2.1 (by omega) (by have := HL.out.ops; omega) (by have := HL.out.nl; simp only; omega)

  rw [h10] at A1
  go_wp2_with fail
  go_at_call 10
  refine A1.mono ?_
  rintro e w6 ⟨rfl, O6, oo6⟩
  have B6 : Hid (Below w.heap.size w w6) := O6.blw
  clear A1 O6 oo6

  go_wp2_with fail
  go_at_call 13
  refine (known_true w6).mono ?_
  rintro e wz ⟨rfl, bz⟩
  have BZ : Hid (Below w.heap.size w wz) := B6.out.trans (bz.mono B6.out.size)
  clear bz
  go_wp2

  first
  | exact BZ.out
  | exact hret _ _ _ _ _ _ _ _ _ _ _ _ _ _ _ _ _ _ _ _ _ _ _ _ _ _ _ _ _ _ _ _ _ _ _ _ _ _ _ _ _ _ _ _ _ _ _ _ _ _ _ _ _ _ _ _ _ _ _ _ _ _ _ _ _ _ _ _ _ _ _ _ _ _ _ _ _ _ _ _ _ _ _ _ _ _ _ _ _ _ _ _ _ _ _ _ _ _ _ _ _ _ _ _ _ _ _ _ _ _ _ _ _ _ _ _ _ _ _ _ _ _ _ _ _ _ _ _ _ _ _ _ _ _ _ _ _ _ _ _ _ _ _ _ _ _ _ _ _ _ _ _ _ _ _ _ _ _ _ _ _ _ _ _ _ _ _ _ _ _ _ _ _ _ _ _ _ _ _ _ _ _ _ _ _ _ _ _ _ _ _ _ _ _ _ _ _ _ _ _ _ _ BZ.out

set_option maxRecDepth 1000000 in
set_option maxHeartbeats 40000000 in
theorem last_arm (w wr : World) (bb off n0 c0' b l k : Nat) (snap : List Int) (la : Option Addr) (ln lc : Nat) (vs : List Value) (R : List (List Int)) (d : D) (g s : Int) (n : Nat) (hkn : k < n0) (hn0 : n0 ≤ 50) (HL : Hid (Lasts w wr b l snap (.slice la ln lc) vs R d g s n k))
    (tt kp : Int) (Ak : Option Addr) (Lk Ck : Nat) (Zk : List Int) (QK : Hid (Sl .u8 w Ak Lk Zk ∧ (Ak = none → Ck = 0) ∧ Lk = Zk.length ∧ kp ≤ 9223372036854775807))
    (s0 : wr.cell? ⟨bb, off + k * 4, none⟩ = some (.int .i64 3)) (s1 : wr.cell? ⟨bb, off + k * 4 + 1, none⟩ = some (.slice Ak Lk Ck)) (s2' : wr.cell? ⟨bb, off + k * 4 + 2, none⟩ = some (.int .i64 tt)) (s3 : wr.cell? ⟨bb, off + k * 4 + 3, none⟩ = some (.int .i64 kp))
    (Q0 : Exit → Act → World → Prop) (c1 c5 c6 c7 c24 c25 c26 c27 c28 c29 c30 c31 c32 c33 c34 c35 c36 c37 c38 c39 c40 c41 c42 c227 : Value) (hLk40 : Lk ≤ 40)
    (u2 u11 u12 u13 u14 u15 u16 u17 u18 u19 u20 u21 u22 u23 u43 u44 u45 u46 u47 u48 u49 u50 u51 u52 u53 u54 u55 u56 u57 u58 u59 u60 u61 u62 u63 u64 u65 u66 u67 u68 u69 u70 u71 u72 u73 u74 u75 u76 u77 u78 u79 u80 u81 u82 u83 u84 u85 u86 u87 u88 u89 u90 u91 u92 u93 u94 u95 u96 u97 u98 u99 u100 u101 u102 u103 u104 u105 u106 u107 u108 u109 u110 u111 u112 u113 u114 u115 u116 u117 u118 u119 u120 u121 u122 u123 u124 u125 u126 u127 u128 u129 u130 u131 u132 u133 u134 u135 u136 u137 u138 u139 u140 u141 u142 u143 u144 u145 u146 u147 u148 u149 u150 u151 u152 u153 u154 u155 u156 u157 u158 u159 u160 u161 u162 u163 u164 u165 u166 u167 u168 u169 u170 u171 u172 u173 u174 u175 u176 u177 u178 u179 u180 u181 u182 u183 u184 u185 u186 u187 u188 u189 u190 u191 u192 u193 u194 u195 u196 u197 u198 u199 u200 u201 u202 u203 u204 u205 u206 u207 u208 u209 u210 u211 u212 u213 u214 u215 u216 u217 u218 u219 u220 u221 u222 u223 u224 u225 u226 : Value) :
    Code.wp Try.prog ((Try.f3.body.bind firstLoop).getD .skip) (Exit.then (fun a' w'' => LastI w (some ⟨bb, off, none⟩) n0 c0' b c1 c5 c6 c7 c24 c25 c26 c27 c28 c29 c30 c31 c32 c33 c34 c35 c36 c37 c38 c39 c40 c41 c42 c227 a' w'' ∧ LastM n0 a' w'' < LastM n0 ⟨#[.slice (some ⟨bb, off, none⟩) n0 c0', c1, u2, .pointer (some ⟨b, 0, none⟩), .pointer (some ⟨l, 0, none⟩), c5, c6, c7, .string (strOfNums snap), .slice la ln lc, .int .i64 k, u11, u12, u13, u14, u15, u16, u17, u18, u19, u20, u21, u22, u23, c24, c25, c26, c27, c28, c29, c30, c31, c32, c33, c34, c35, c36, c37, c38, c39, c40, c41, c42, u43, u44, u45, u46, u47, u48, u49, u50, u51, u52, u53, u54, u55, u56, u57, u58, u59, u60, u61, u62, u63, u64, u65, u66, u67, u68, u69, u70, u71, u72, u73, u74, u75, u76, u77, u78, u79, u80, u81, u82, u83, u84, u85, u86, u87, u88, u89, u90, u91, u92, u93, u94, u95, u96, u97, u98, u99, u100, u101, u102, u103, u104, u105, u106, u107, u108, u109, u110, u111, u112, u113, u114, u115, u116, u117, u118, u119, u120, u121, u122, u123, u124, u125, u126, u127, u128, u129, u130, u131, u132, u133, u134, u135, u136, u137, u138, u139, u140, u141, u142, u143, u144, u145, u146, u147, u148, u149, u150, u151, u152, u153, u154, u155, u156, u157, u158, u159, u160, u161, u162, u163, u164, u165, u166, u167, u168, u169, u170, u171, u172, u173, u174, u175, u176, u177, u178, u179, u180, u181, u182, u183, u184, u185, u186, u187, u188, u189, u190, u191, u192, u193, u194, u195, u196, u197, u198, u199, u200, u201, u202, u203, u204, u205, u206, u207, u208, u209, u210, u211, u212, u213, u214, u215, u216, u217, u218, u219, u220, u221, u222, u223, u224, u225, u226, c227], []⟩ wr) Q0) ⟨#[.slice (some ⟨bb, off, none⟩) n0 c0', c1, u2, .pointer (some ⟨b, 0, none⟩), .pointer (some ⟨l, 0, none⟩), c5, c6, c7, .string (strOfNums snap), .slice la ln lc, .int .i64 k, u11, u12, u13, u14, u15, u16, u17, u18, u19, u20, u21, u22, u23, c24, c25, c26, c27, c28, c29, c30, c31, c32, c33, c34, c35, c36, c37, c38, c39, c40, c41, c42, u43, u44, u45, u46, u47, u48, u49, u50, u51, u52, u53, u54, u55, u56, u57, u58, u59, u60, u61, u62, u63, u64, u65, u66, u67, u68, u69, u70, u71, u72, u73, u74, u75, u76, u77, u78, u79, u80, u81, u82, u83, u84, u85, u86, u87, u88, u89, u90, u91, u92, u93, u94, u95, u96, u97, u98, u99, u100, u101, u102, u103, u104, u105, u106, u107, u108, u109, u110, u111, u112, u113, u114, u115, u116, u117, u118, u119, u120, u121, u122, u123, u124, u125, u126, u127, u128, u129, u130, u131, u132, u133, u134, u135, u136, u137, u138, u139, u140, u141, u142, u143, u144, u145, u146, u147, u148, u149, u150, u151, u152, u153, u154, u155, u156, u157, u158, u159, u160, u161, u162, u163, u164, u165, u166, u167, u168, u169, u170, u171, u172, u173, u174, u175, u176, u177, u178, u179, u180, u181, u182, u183, u184, u185, u186, u187, u188, u189, u190, u191, u192, u193, u194, u195, u196, u197, u198, u199, u200, u201, u202, u203, u204, u205, u206, u207, u208, u209, u210, u211, u212, u213, u214, u215, u216, u217, u218, u219, u220, u221, u222, u223, u224, u225, u226, c227], []⟩ wr := by
  conv => arg 2; whnf
  have i0 : (n0 : Int) ≤ 50 := by omega
  have ki : (k : Int) < n0 := by omega
  have kj : IntKind.i64.wrap ((k : Int) + 1) = (k : Int) + 1 := i64_wf (by omega) (by omega)
  have hlen := lasts_len HL.out
  have HN : Hid (ln = R.length ∧ ln ≤ 50) := ⟨hlen.1, by omega⟩
  have hrl50 : R.length ≤ 50 := by have := HL.out.rl; omega
  have HB : Hid (Bs snap) := lasts_bs HL.out
  clear hlen

  obtain ⟨g0, hg0⟩ : ∃ x, x = wr.heap.size := ⟨_, rfl⟩
  obtain ⟨w5, hw5⟩ : ∃ x, x = wr.alloc (.cells #[.int .i64 3, .slice Ak Lk Ck, .int .i64 tt, .int .i64 kp] 34) := ⟨_, rfl⟩
  have LA := lasts_act HL.out (.cells #[.int .i64 3, .slice Ak Lk Ck, .int .i64 tt, .int .i64 kp] 34)
  rw [← hw5, ← hg0] at LA
  have HG0 : Hid (∀ j, g0 ≤ j → ¬ SpX (.slice la ln lc) j) := LA.2.2
  have H5 : Hid (Our w w5 (fun j => SpX (.slice la ln lc) j ∨ j = g0) b l d ⟨g, s, n, false⟩) := LA.1
  have S5 : Hid (Spn w w5 (.slice la ln lc) vs R) := LA.2.1
  have G5 : Hid (w5.heap[g0]? = some (.cells #[.int .i64 3, .slice Ak Lk Ck, .int .i64 tt, .int .i64 kp] 34 (0, 0))) := by
    rw [hw5, hg0]
    exact heap_alloc_new wr _
  clear LA
  go_upto_region 13 with fail
  rw [← hw5, ← hg0]
  clear hw5 hg0 s0 s1 s2' s3
  obtain ⟨q0, q1, q2, q3⟩ := act_cells G5.out

  have AR := our_arm H5.out tt kp QK.out.2.2.2
  go_wp2_with fail
  go_at_call 12
  refine AR.mono ?_
  rintro e w6 ⟨rfl, O6, oo6⟩
  have F6 : Hid (Lasts w w6 b l snap (.slice la ln lc) vs R (d.armed tt kp) g s n (k + 1)) :=
    ⟨O6.less (fun j hj => .inl hj), HL.out.held.armed tt kp, S5.out.only oo6 (fun j hj hs => hs.2 (.inl hj)), HL.out.dn, HL.out.rm, by have := HL.out.ops; show d.ops ≤ _; omega, by have := HL.out.gl; omega, by have := HL.out.nl; omega, by have := HL.out.rl; omega, HL.out.sl⟩
  clear AR O6 oo6 q0 q1 q2 q3
  go_wp2

  refine ⟨?_, by simp [LastM, intOf]; omega⟩
  unfold LastI
  (repeat apply Exists.intro)
  refine ⟨?rel, rfl⟩

  case rel => exact ⟨k + 1, l, snap, la, ln, lc, vs, R, _, g, s, n, rfl, rfl, rfl, by simp, by omega, F6.out⟩

set_option maxRecDepth 1000000 in
set_option maxHeartbeats 40000000 in
theorem last_other (w wr : World) (bb off n0 c0' b l k : Nat) (snap : List Int) (la : Option Addr) (ln lc : Nat) (vs : List Value) (R : List (List Int)) (d : D) (g s : Int) (n : Nat) (hkn : k < n0) (hn0 : n0 ≤ 50) (HL : Hid (Lasts w wr b l snap (.slice la ln lc) vs R d g s n k))
    (kk tt kp : Int) (Ak : Option Addr) (Lk Ck : Nat) (Zk : List Int) (QK : Hid (Sl .u8 w Ak Lk Zk ∧ (Ak = none → Ck = 0) ∧ Lk = Zk.length ∧ kp ≤ 9223372036854775807))
    (s0 : wr.cell? ⟨bb, off + k * 4, none⟩ = some (.int .i64 kk)) (s1 : wr.cell? ⟨bb, off + k * 4 + 1, none⟩ = some (.slice Ak Lk Ck)) (s2' : wr.cell? ⟨bb, off + k * 4 + 2, none⟩ = some (.int .i64 tt)) (s3 : wr.cell? ⟨bb, off + k * 4 + 3, none⟩ = some (.int .i64 kp))
    (Q0 : Exit → Act → World → Prop) (c1 c5 c6 c7 c24 c25 c26 c27 c28 c29 c30 c31 c32 c33 c34 c35 c36 c37 c38 c39 c40 c41 c42 c227 : Value) (hLk40 : Lk ≤ 40) (e1 : ¬ kk = 1) (e2 : ¬ kk = 2) (e3 : ¬ kk = 3)
    (u2 u11 u12 u13 u14 u15 u16 u17 u18 u19 u20 u21 u22 u23 u43 u44 u45 u46 u47 u48 u49 u50 u51 u52 u53 u54 u55 u56 u57 u58 u59 u60 u61 u62 u63 u64 u65 u66 u67 u68 u69 u70 u71 u72 u73 u74 u75 u76 u77 u78 u79 u80 u81 u82 u83 u84 u85 u86 u87 u88 u89 u90 u91 u92 u93 u94 u95 u96 u97 u98 u99 u100 u101 u102 u103 u104 u105 u106 u107 u108 u109 u110 u111 u112 u113 u114 u115 u116 u117 u118 u119 u120 u121 u122 u123 u124 u125 u126 u127 u128 u129 u130 u131 u132 u133 u134 u135 u136 u137 u138 u139 u140 u141 u142 u143 u144 u145 u146 u147 u148 u149 u150 u151 u152 u153 u154 u155 u156 u157 u158 u159 u160 u161 u162 u163 u164 u165 u166 u167 u168 u169 u170 u171 u172 u173 u174 u175 u176 u177 u178 u179 u180 u181 u182 u183 u184 u185 u186 u187 u188 u189 u190 u191 u192 u193 u194 u195 u196 u197 u198 u199 u200 u201 u202 u203 u204 u205 u206 u207 u208 u209 u210 u211 u212 u213 u214 u215 u216 u217 u218 u219 u220 u221 u222 u223 u224 u225 u226 : Value) :
    Code.wp Try.prog ((Try.f3.body.bind firstLoop).getD .skip) (Exit.then (fun a' w'' => LastI w (some ⟨bb, off, none⟩) n0 c0' b c1 c5 c6 c7 c24 c25 c26 c27 c28 c29 c30 c31 c32 c33 c34 c35 c36 c37 c38 c39 c40 c41 c42 c227 a' w'' ∧ LastM n0 a' w'' < LastM n0 ⟨#[.slice (some ⟨bb, off, none⟩) n0 c0', c1, u2, .pointer (some ⟨b, 0, none⟩), .pointer (some ⟨l, 0, none⟩), c5, c6, c7, .string (strOfNums snap), .slice la ln lc, .int .i64 k, u11, u12, u13, u14, u15, u16, u17, u18, u19, u20, u21, u22, u23, c24, c25, c26, c27, c28, c29, c30, c31, c32, c33, c34, c35, c36, c37, c38, c39, c40, c41, c42, u43, u44, u45, u46, u47, u48, u49, u50, u51, u52, u53, u54, u55, u56, u57, u58, u59, u60, u61, u62, u63, u64, u65, u66, u67, u68, u69, u70, u71, u72, u73, u74, u75, u76, u77, u78, u79, u80, u81, u82, u83, u84, u85, u86, u87, u88, u89, u90, u91, u92, u93, u94, u95, u96, u97, u98, u99, u100, u101, u102, u103, u104, u105, u106, u107, u108, u109, u110, u111, u112, u113, u114, u115, u116, u117, u118, u119, u120, u121, u122, u123, u124, u125, u126, u127, u128, u129, u130, u131, u132, u133, u134, u135, u136, u137, u138, u139, u140, u141, u142, u143, u144, u145, u146, u147, u148, u149, u150, u151, u152, u153, u154, u155, u156, u157, u158, u159, u160, u161, u162, u163, u164, u165, u166, u167, u168, u169, u170, u171, u172, u173, u174, u175, u176, u177, u178, u179, u180, u181, u182, u183, u184, u185, u186, u187, u188, u189, u190, u191, u192, u193, u194, u195, u196, u197, u198, u199, u200, u201, u202, u203, u204, u205, u206, u207, u208, u209, u210, u211, u212, u213, u214, u215, u216, u217, u218, u219, u220, u221, u222, u223, u224, u225, u226, c227], []⟩ wr) Q0) ⟨#[.slice (some ⟨bb, off, none⟩) n0 c0', c1, u2, .pointer (some ⟨b, 0, none⟩), .pointer (some ⟨l, 0, none⟩), c5, c6, c7, .string (strOfNums snap), .slice la ln lc, .int .i64 k, u11, u12, u13, u14, u15, u16, u17, u18, u19, u20, u21, u22, u23, c24, c25, c26, c27, c28, c29, c30, c31, c32, c33, c34, c35, c36, c37, c38, c39, c40, c41, c42, u43, u44, u45, u46, u47, u48, u49, u50, u51, u52, u53, u54, u55, u56, u57, u58, u59, u60, u61, u62, u63, u64, u65, u66, u67, u68, u69, u70, u71, u72, u73, u74, u75, u76, u77, u78, u79, u80, u81, u82, u83, u84, u85, u86, u87, u88, u89, u90, u91, u92, u93, u94, u95, u96, u97, u98, u99, u100, u101, u102, u103, u104, u105, u106, u107, u108, u109, u110, u111, u112, u113, u114, u115, u116, u117, u118, u119, u120, u121, u122, u123, u124, u125, u126, u127, u128, u129, u130, u131, u132, u133, u134, u135, u136, u137, u138, u139, u140, u141, u142, u143, u144, u145, u146, u147, u148, u149, u150, u151, u152, u153, u154, u155, u156, u157, u158, u159, u160, u161, u162, u163, u164, u165, u166, u167, u168, u169, u170, u171, u172, u173, u174, u175, u176, u177, u178, u179, u180, u181, u182, u183, u184, u185, u186, u187, u188, u189, u190, u191, u192, u193, u194, u195, u196, u197, u198, u199, u200, u201, u202, u203, u204, u205, u206, u207, u208, u209, u210, u211, u212, u213, u214, u215, u216, u217, u218, u219, u220, u221, u222, u223, u224, u225, u226, c227], []⟩ wr := by
  conv => arg 2; whnf
  have i0 : (n0 : Int) ≤ 50 := by omega
  have ki : (k : Int) < n0 := by omega
  have kj : IntKind.i64.wrap ((k : Int) + 1) = (k : Int) + 1 := i64_wf (by omega) (by omega)
  have hlen := lasts_len HL.out
  have HN : Hid (ln = R.length ∧ ln ≤ 50) := ⟨hlen.1, by omega⟩
  have hrl50 : R.length ≤ 50 := by have := HL.out.rl; omega
  have HB : Hid (Bs snap) := lasts_bs HL.out
  clear hlen

  obtain ⟨g0, hg0⟩ : ∃ x, x = wr.heap.size := ⟨_, rfl⟩
  obtain ⟨w5, hw5⟩ : ∃ x, x = wr.alloc (.cells #[.int .i64 kk, .slice Ak Lk Ck, .int .i64 tt, .int .i64 kp] 34) := ⟨_, rfl⟩
  have LA := lasts_act HL.out (.cells #[.int .i64 kk, .slice Ak Lk Ck, .int .i64 tt, .int .i64 kp] 34)
  rw [← hw5, ← hg0] at LA
  have HG0 : Hid (∀ j, g0 ≤ j → ¬ SpX (.slice la ln lc) j) := LA.2.2
  have H5 : Hid (Our w w5 (fun j => SpX (.slice la ln lc) j ∨ j = g0) b l d ⟨g, s, n, false⟩) := LA.1
  have S5 : Hid (Spn w w5 (.slice la ln lc) vs R) := LA.2.1
  have G5 : Hid (w5.heap[g0]? = some (.cells #[.int .i64 kk, .slice Ak Lk Ck, .int .i64 tt, .int .i64 kp] 34 (0, 0))) := by
    rw [hw5, hg0]
    exact heap_alloc_new wr _
  clear LA
  go_upto_region 13 with fail
  rw [← hw5, ← hg0]
  clear hw5 hg0 s0 s1 s2' s3
  obtain ⟨q0, q1, q2, q3⟩ := act_cells G5.out

  have n1 : (kk == 1) = false := by simpa using e1
  have n2 : (kk == 2) = false := by simpa using e2
  have n3 : (kk == 3) = false := by simpa using e3
  have F6 : Hid (Lasts w w5 b l snap (.slice la ln lc) vs R d g s n (k + 1)) :=
    ⟨H5.out.less (fun j hj => .inl hj), HL.out.held, S5.out, HL.out.dn, HL.out.rm, by have := HL.out.ops; omega, by have := HL.out.gl; omega, by have := HL.out.nl; omega, by have := HL.out.rl; omega, HL.out.sl⟩
  go_wp2

  refine ⟨?_, by simp [LastM, intOf]; omega⟩
  unfold LastI
  (repeat apply Exists.intro)
  refine ⟨?rel, rfl⟩

  case rel => exact ⟨k + 1, l, snap, la, ln, lc, vs, R, d, g, s, n, rfl, rfl, rfl, by simp, by omega, F6.out⟩

set_option maxRecDepth 1000000 in
set_option maxHeartbeats 40000000 in
theorem last_end (w wr : World) (a0 : Option Addr) (n0 c0' b l k : Nat) (snap : List Int) (la : Option Addr) (ln lc : Nat) (hk : k = n0) (hn0 : n0 ≤ 50) (bl : Below w.heap.size w wr)
    (Q0 : Exit → Act → World → Prop) (c1 c5 c6 c7 c24 c25 c26 c27 c28 c29 c30 c31 c32 c33 c34 c35 c36 c37 c38 c39 c40 c41 c42 c227 : Value) (hexit : ∀ (u2 u4 u8 u9 u10 u11 u12 u13 u14 u15 u16 u17 u18 u19 u20 u21 u22 u23 u43 u44 u45 u46 u47 u48 u49 u50 u51 u52 u53 u54 u55 u56 u57 u58 u59 u60 u61 u62 u63 u64 u65 u66 u67 u68 u69 u70 u71 u72 u73 u74 u75 u76 u77 u78 u79 u80 u81 u82 u83 u84 u85 u86 u87 u88 u89 u90 u91 u92 u93 u94 u95 u96 u97 u98 u99 u100 u101 u102 u103 u104 u105 u106 u107 u108 u109 u110 u111 u112 u113 u114 u115 u116 u117 u118 u119 u120 u121 u122 u123 u124 u125 u126 u127 u128 u129 u130 u131 u132 u133 u134 u135 u136 u137 u138 u139 u140 u141 u142 u143 u144 u145 u146 u147 u148 u149 u150 u151 u152 u153 u154 u155 u156 u157 u158 u159 u160 u161 u162 u163 u164 u165 u166 u167 u168 u169 u170 u171 u172 u173 u174 u175 u176 u177 u178 u179 u180 u181 u182 u183 u184 u185 u186 u187 u188 u189 u190 u191 u192 u193 u194 u195 u196 u197 u198 u199 u200 u201 u202 u203 u204 u205 u206 u207 u208 u209 u210 u211 u212 u213 u214 u215 u216 u217 u218 u219 u220 u221 u222 u223 u224 u225 u226 : Value) (w'' : World), Below w.heap.size w w'' → Q0 (.exit 0) ⟨#[.slice a0 n0 c0', c1, u2, .pointer (some ⟨b, 0, none⟩), u4, c5, c6, c7, u8, u9, u10, u11, u12, u13, u14, u15, u16, u17, u18, u19, u20, u21, u22, u23, c24, c25, c26, c27, c28, c29, c30, c31, c32, c33, c34, c35, c36, c37, c38, c39, c40, c41, c42, u43, u44, u45, u46, u47, u48, u49, u50, u51, u52, u53, u54, u55, u56, u57, u58, u59, u60, u61, u62, u63, u64, u65, u66, u67, u68, u69, u70, u71, u72, u73, u74, u75, u76, u77, u78, u79, u80, u81, u82, u83, u84, u85, u86, u87, u88, u89, u90, u91, u92, u93, u94, u95, u96, u97, u98, u99, u100, u101, u102, u103, u104, u105, u106, u107, u108, u109, u110, u111, u112, u113, u114, u115, u116, u117, u118, u119, u120, u121, u122, u123, u124, u125, u126, u127, u128, u129, u130, u131, u132, u133, u134, u135, u136, u137, u138, u139, u140, u141, u142, u143, u144, u145, u146, u147, u148, u149, u150, u151, u152, u153, u154, u155, u156, u157, u158, u159, u160, u161, u162, u163, u164, u165, u166, u167, u168, u169, u170, u171, u172, u173, u174, u175, u176, u177, u178, u179, u180, u181, u182, u183, u184, u185, u186, u187, u188, u189, u190, u191, u192, u193, u194, u195, u196, u197, u198, u199, u200, u201, u202, u203, u204, u205, u206, u207, u208, u209, u210, u211, u212, u213, u214, u215, u216, u217, u218, u219, u220, u221, u222, u223, u224, u225, u226, c227], []⟩ w'')
    (u2 u11 u12 u13 u14 u15 u16 u17 u18 u19 u20 u21 u22 u23 u43 u44 u45 u46 u47 u48 u49 u50 u51 u52 u53 u54 u55 u56 u57 u58 u59 u60 u61 u62 u63 u64 u65 u66 u67 u68 u69 u70 u71 u72 u73 u74 u75 u76 u77 u78 u79 u80 u81 u82 u83 u84 u85 u86 u87 u88 u89 u90 u91 u92 u93 u94 u95 u96 u97 u98 u99 u100 u101 u102 u103 u104 u105 u106 u107 u108 u109 u110 u111 u112 u113 u114 u115 u116 u117 u118 u119 u120 u121 u122 u123 u124 u125 u126 u127 u128 u129 u130 u131 u132 u133 u134 u135 u136 u137 u138 u139 u140 u141 u142 u143 u144 u145 u146 u147 u148 u149 u150 u151 u152 u153 u154 u155 u156 u157 u158 u159 u160 u161 u162 u163 u164 u165 u166 u167 u168 u169 u170 u171 u172 u173 u174 u175 u176 u177 u178 u179 u180 u181 u182 u183 u184 u185 u186 u187 u188 u189 u190 u191 u192 u193 u194 u195 u196 u197 u198 u199 u200 u201 u202 u203 u204 u205 u206 u207 u208 u209 u210 u211 u212 u213 u214 u215 u216 u217 u218 u219 u220 u221 u222 u223 u224 u225 u226 : Value) :
    Code.wp Try.prog ((Try.f3.body.bind firstLoop).getD .skip) (Exit.then (fun a' w'' => LastI w a0 n0 c0' b c1 c5 c6 c7 c24 c25 c26 c27 c28 c29 c30 c31 c32 c33 c34 c35 c36 c37 c38 c39 c40 c41 c42 c227 a' w'' ∧ LastM n0 a' w'' < LastM n0 ⟨#[.slice a0 n0 c0', c1, u2, .pointer (some ⟨b, 0, none⟩), .pointer (some ⟨l, 0, none⟩), c5, c6, c7, .string (strOfNums snap), .slice la ln lc, .int .i64 k, u11, u12, u13, u14, u15, u16, u17, u18, u19, u20, u21, u22, u23, c24, c25, c26, c27, c28, c29, c30, c31, c32, c33, c34, c35, c36, c37, c38, c39, c40, c41, c42, u43, u44, u45, u46, u47, u48, u49, u50, u51, u52, u53, u54, u55, u56, u57, u58, u59, u60, u61, u62, u63, u64, u65, u66, u67, u68, u69, u70, u71, u72, u73, u74, u75, u76, u77, u78, u79, u80, u81, u82, u83, u84, u85, u86, u87, u88, u89, u90, u91, u92, u93, u94, u95, u96, u97, u98, u99, u100, u101, u102, u103, u104, u105, u106, u107, u108, u109, u110, u111, u112, u113, u114, u115, u116, u117, u118, u119, u120, u121, u122, u123, u124, u125, u126, u127, u128, u129, u130, u131, u132, u133, u134, u135, u136, u137, u138, u139, u140, u141, u142, u143, u144, u145, u146, u147, u148, u149, u150, u151, u152, u153, u154, u155, u156, u157, u158, u159, u160, u161, u162, u163, u164, u165, u166, u167, u168, u169, u170, u171, u172, u173, u174, u175, u176, u177, u178, u179, u180, u181, u182, u183, u184, u185, u186, u187, u188, u189, u190, u191, u192, u193, u194, u195, u196, u197, u198, u199, u200, u201, u202, u203, u204, u205, u206, u207, u208, u209, u210, u211, u212, u213, u214, u215, u216, u217, u218, u219, u220, u221, u222, u223, u224, u225, u226, c227], []⟩ wr) Q0) ⟨#[.slice a0 n0 c0', c1, u2, .pointer (some ⟨b, 0, none⟩), .pointer (some ⟨l, 0, none⟩), c5, c6, c7, .string (strOfNums snap), .slice la ln lc, .int .i64 k, u11, u12, u13, u14, u15, u16, u17, u18, u19, u20, u21, u22, u23, c24, c25, c26, c27, c28, c29, c30, c31, c32, c33, c34, c35, c36, c37, c38, c39, c40, c41, c42, u43, u44, u45, u46, u47, u48, u49, u50, u51, u52, u53, u54, u55, u56, u57, u58, u59, u60, u61, u62, u63, u64, u65, u66, u67, u68, u69, u70, u71, u72, u73, u74, u75, u76, u77, u78, u79, u80, u81, u82, u83, u84, u85, u86, u87, u88, u89, u90, u91, u92, u93, u94, u95, u96, u97, u98, u99, u100, u101, u102, u103, u104, u105, u106, u107, u108, u109, u110, u111, u112, u113, u114, u115, u116, u117, u118, u119, u120, u121, u122, u123, u124, u125, u126, u127, u128, u129, u130, u131, u132, u133, u134, u135, u136, u137, u138, u139, u140, u141, u142, u143, u144, u145, u146, u147, u148, u149, u150, u151, u152, u153, u154, u155, u156, u157, u158, u159, u160, u161, u162, u163, u164, u165, u166, u167, u168, u169, u170, u171, u172, u173, u174, u175, u176, u177, u178, u179, u180, u181, u182, u183, u184, u185, u186, u187, u188, u189, u190, u191, u192, u193, u194, u195, u196, u197, u198, u199, u200, u201, u202, u203, u204, u205, u206, u207, u208, u209, u210, u211, u212, u213, u214, u215, u216, u217, u218, u219, u220, u221, u222, u223, u224, u225, u226, c227], []⟩ wr := by
  conv => arg 2; whnf
  have ki : ¬ (k : Int) < n0 := by omega
  have HBL : Hid (Below w.heap.size w wr) := bl
  clear bl hk
  go_wp2
  first
  | exact HBL.out
  | exact hexit _ _ _ _ _ _ _ _ _ _ _ _ _ _ _ _ _ _ _ _ _ _ _ _ _ _ _ _ _ _ _ _ _ _ _ _ _ _ _ _ _ _ _ _ _ _ _ _ _ _ _ _ _ _ _ _ _ _ _ _ _ _ _ _ _ _ _ _ _ _ _ _ _ _ _ _ _ _ _ _ _ _ _ _ _ _ _ _ _ _ _ _ _ _ _ _ _ _ _ _ _ _ _ _ _ _ _ _ _ _ _ _ _ _ _ _ _ _ _ _ _ _ _ _ _ _ _ _ _ _ _ _ _ _ _ _ _ _ _ _ _ _ _ _ _ _ _ _ _ _ _ _ _ _ _ _ _ _ _ _ _ _ _ _ _ _ _ _ _ _ _ _ _ _ _ _ _ _ _ _ _ _ _ _ _ _ _ _ _ _ _ _ _ _ _ _ _ _ _ _ _ _ _ HBL.out

end Go.Proofs.Ytdecdjjknbbolaa
