/-
  LogLast: the loop's body, what holds at its head, how many acts are left.
-/
import Derived.Test.YtdecdjjknbbolaaLastSpec
import Derived.Deep.CutRange
import Derived.Deep.CutBlock
namespace Go.Proofs.Ytdecdjjknbbolaa
open Go.RowKit
set_option linter.unusedVariables false
set_option linter.unusedSimpArgs false

/-- A literal that an append elsewhere leaves alone. -/
theorem lit_kept {W w2 : World} {row : Option Nat} {blk : Nat} {x : Value} {T : TypeId} (h : W.heap[blk]? = some (.cells #[x] T (0, 0))) (g : W.grownBy w2 row) (hr : row ≠ some blk) : ∀ j u, [x][j]? = some u → w2.cell? ((⟨blk, 0, none⟩ : Addr).add j) = some u := by
  intro j u hj
  have h2 : w2.heap[blk]? = some (.cells #[x] T (0, 0)) := (g.block blk (lt_of_block h) (fun e => hr e.symm)).trans h
  have := cell_of_row w2 blk j _ _ _ h2
  rw [Addr.add_flat, Nat.zero_add, this]
  simpa using hj
theorem rows_of {w w8 w3 : World} {la a3 : Option Addr} {ln lc c3 : Nat} {vs : List Value} {R : List (List Int)} {Ak : Option Addr} {Lk Ck : Nat} {Zk : List Int} (h : Spn w w8 (.slice la ln lc) vs R) (bl : Below w.heap.size w w8) (B3 : Below w8.heap.size w8 w3) (hln : ln = R.length) (hz : Sl .u8 w Ak Lk Zk) (hl : Lk = Zk.length)
    (o3 : w3.ownsRow w8.heap.size 26 1 (.slice a3 (ln + 1) c3) (ln + 1) (vs ++ [.slice Ak Lk Ck])) : RowsIn w3 a3 (ln + 1) (R ++ [Zk]) := by
  subst hl
  have o4 := own_base o3 bl.size
  rw [hln] at o4 ⊢
  exact (Spn.more (h.below B3) rfl hz o4).rowsIn (bl.trans (B3.mono bl.size))

/-- What is kept behind k acts. -/
structure Lasts (w wr : World) (b l : Nat) (snap : List Int) (v : Value) (vs : List Value) (R : List (List Int)) (d : D) (g s : Int) (n k : Nat) : Prop where
  our : Our w wr (SpX v) b l d ⟨g, s, n, false⟩
  held : Held d g s snap R []
  spn : Spn w wr v vs R
  dn : d.dn = false
  rm : d.room = 5000
  ops : d.ops ≤ 6 * k + 3
  gl : g ≤ 2 * (k : Int) + 1
  nl : n ≤ k
  rl : R.length ≤ k
  sl : snap.length ≤ 40

/-- The first loop of a code. -/
def firstLoop : Code → Option Code
  | .loop c => some c
  | .seq a b => match firstLoop a with
    | some c => some c
    | none => firstLoop b
  | .block _ c => firstLoop c
  | .scope c => firstLoop c
  | .cond _ a b => match firstLoop a with
    | some c => some c
    | none => firstLoop b
  | _ => none

def LastRel (w : World) (b n0 : Nat) (pv sv rv iv : Value) (wr : World) : Prop :=
  ∃ (k l : Nat) (snap : List Int) (la : Option Addr) (ln lc : Nat) (vs : List Value) (R : List (List Int)) (d : D) (g s : Int) (n : Nat), pv = .pointer (some ⟨l, 0, none⟩) ∧ sv = .string (strOfNums snap) ∧ rv = .slice la ln lc ∧ iv = .int .i64 k ∧ k ≤ n0 ∧
    Lasts w wr b l snap (.slice la ln lc) vs R d g s n k

set_option maxRecDepth 1000000 in
def LastI (w : World) (a0 : Option Addr) (n0 c0' b : Nat) (c1 c5 c6 c7 c24 c25 c26 c27 c28 c29 c30 c31 c32 c33 c34 c35 c36 c37 c38 c39 c40 c41 c42 c227 : Value) (a : Act) (w' : World) : Prop :=
  ∃ u2 u4 u8 u9 u10 u11 u12 u13 u14 u15 u16 u17 u18 u19 u20 u21 u22 u23 u43 u44 u45 u46 u47 u48 u49 u50 u51 u52 u53 u54 u55 u56 u57 u58 u59 u60 u61 u62 u63 u64 u65 u66 u67 u68 u69 u70 u71 u72 u73 u74 u75 u76 u77 u78 u79 u80 u81 u82 u83 u84 u85 u86 u87 u88 u89 u90 u91 u92 u93 u94 u95 u96 u97 u98 u99 u100 u101 u102 u103 u104 u105 u106 u107 u108 u109 u110 u111 u112 u113 u114 u115 u116 u117 u118 u119 u120 u121 u122 u123 u124 u125 u126 u127 u128 u129 u130 u131 u132 u133 u134 u135 u136 u137 u138 u139 u140 u141 u142 u143 u144 u145 u146 u147 u148 u149 u150 u151 u152 u153 u154 u155 u156 u157 u158 u159 u160 u161 u162 u163 u164 u165 u166 u167 u168 u169 u170 u171 u172 u173 u174 u175 u176 u177 u178 u179 u180 u181 u182 u183 u184 u185 u186 u187 u188 u189 u190 u191 u192 u193 u194 u195 u196 u197 u198 u199 u200 u201 u202 u203 u204 u205 u206 u207 u208 u209 u210 u211 u212 u213 u214 u215 u216 u217 u218 u219 u220 u221 u222 u223 u224 u225 u226 : Value, LastRel w b n0 u4 u8 u9 u10 w' ∧ a = ⟨#[.slice a0 n0 c0', c1, u2, .pointer (some ⟨b, 0, none⟩), u4, c5, c6, c7, u8, u9, u10, u11, u12, u13, u14, u15, u16, u17, u18, u19, u20, u21, u22, u23, c24, c25, c26, c27, c28, c29, c30, c31, c32, c33, c34, c35, c36, c37, c38, c39, c40, c41, c42, u43, u44, u45, u46, u47, u48, u49, u50, u51, u52, u53, u54, u55, u56, u57, u58, u59, u60, u61, u62, u63, u64, u65, u66, u67, u68, u69, u70, u71, u72, u73, u74, u75, u76, u77, u78, u79, u80, u81, u82, u83, u84, u85, u86, u87, u88, u89, u90, u91, u92, u93, u94, u95, u96, u97, u98, u99, u100, u101, u102, u103, u104, u105, u106, u107, u108, u109, u110, u111, u112, u113, u114, u115, u116, u117, u118, u119, u120, u121, u122, u123, u124, u125, u126, u127, u128, u129, u130, u131, u132, u133, u134, u135, u136, u137, u138, u139, u140, u141, u142, u143, u144, u145, u146, u147, u148, u149, u150, u151, u152, u153, u154, u155, u156, u157, u158, u159, u160, u161, u162, u163, u164, u165, u166, u167, u168, u169, u170, u171, u172, u173, u174, u175, u176, u177, u178, u179, u180, u181, u182, u183, u184, u185, u186, u187, u188, u189, u190, u191, u192, u193, u194, u195, u196, u197, u198, u199, u200, u201, u202, u203, u204, u205, u206, u207, u208, u209, u210, u211, u212, u213, u214, u215, u216, u217, u218, u219, u220, u221, u222, u223, u224, u225, u226, c227], []⟩
def LastM (n0 : Nat) (a : Act) (w' : World) : Nat := ((n0 : Int) - intOf (a.tmps.getD 10 undef)).toNat

theorem lasts_len {w wr : World} {b l : Nat} {snap : List Int} {la : Option Addr} {ln lc : Nat} {vs : List Value} {R : List (List Int)} {d : D} {g s : Int} {n k : Nat} (h : Lasts w wr b l snap (.slice la ln lc) vs R d g s n k) : ln = R.length ∧ ln ≤ k := by
  obtain ⟨_, _, he⟩ := own_form h.spn.own
  simp at he
  exact ⟨he.2.1, by have := h.rl; omega⟩
theorem lasts_bs {w wr : World} {b l : Nat} {snap : List Int} {v : Value} {vs : List Value} {R : List (List Int)} {d : D} {g s : Int} {n k : Nat} (h : Lasts w wr b l snap v vs R d g s n k) : Bs snap := by
  have h1 := h.held.bytes
  obtain ⟨S, hd, _⟩ := h.our.deck
  have h3 := (hd.ok.read s).2
  rw [h1] at h3
  intro x hx
  refine h3 x ?_
  rw [encR_cons, recS]
  simp [hx]
theorem lasts_act {w wr : World} {b l : Nat} {snap : List Int} {v : Value} {vs : List Value} {R : List (List Int)} {d : D} {g s : Int} {n k : Nat} (h : Lasts w wr b l snap v vs R d g s n k) (o : Obj) :
    Our w (wr.alloc o) (fun j => SpX v j ∨ j = wr.heap.size) b l d ⟨g, s, n, false⟩ ∧ Spn w (wr.alloc o) v vs R ∧ ∀ j, wr.heap.size ≤ j → ¬ SpX v j := by
  refine ⟨h.our.widen ((Below.refl _ _).alloc (Nat.le_refl _) _) _ ?_, h.spn.below ((Below.refl _ _).alloc (Nat.le_refl _) _), ?_⟩
  · rintro j (hj | rfl)
    · exact ⟨.inl hj, by have := (h.spn.lt j hj).2; simp; omega⟩
    · exact ⟨.inr (Nat.le_refl _), by simp⟩
  · intro j hj hs
    have := (h.spn.lt j hs).2
    omega

/-- The document's words of a crash: the row is there, or it is not. -/
theorem snoc_ne (R : List (List Int)) (z : List Int) : ¬ R = R ++ [z] := by
  intro h
  have := congrArg List.length h
  simp at this

end Go.Proofs.Ytdecdjjknbbolaa
