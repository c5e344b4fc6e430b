/-
  Texts of this seat in one: LimCopy, LimAccs, LimRefRows, LimNew, LimCopyAll, LimSpec, LimEvery, LimIs, LimIsAll, LimRefIs, LimNet, BksArg.
-/
import Derived.Test.YtlackjldopeigaaLimOne
import Derived.Laws.CopyOwn
import Derived.Test.YtlackjldopeigaaRowBase
import Derived.Deep.Matrix

/-
  lim: lists in new memory: the program's answers and the document's.
-/
namespace Go.Proofs.Ytlackjldopeigaa
open Go.RowKit
set_option linter.unusedVariables false
set_option linter.unusedSimpArgs false

theorem size64 : (Try.prog.info? 2).map (·.size) = some 1 := by kernel_rfl

theorem Sl.src {w : World} {a : Option Addr} {n : Nat} {zs : List Int} (h : Sl .i64 w a n zs) (h0 : 0 < (zs.map (Value.int .i64)).length) : ∃ ad, a = some ad ∧ ∀ j v, (zs.map (Value.int .i64))[j]? = some v → w.cell? (ad.add j) = some v := by
  rcases h.2.2 with hz | ⟨b, off, ha, hc⟩
  · subst hz; simp at h0
  · refine ⟨_, ha, ?_⟩
    intro j u hj
    have hjl : j < zs.length := by
      have := (List.getElem?_eq_some_iff.1 hj).1
      simpa using this
    rw [Addr.add_flat, hc j hjl]
    simp [hjl] at hj
    rw [← hj]
    simp [List.getD_eq_getElem?_getD, hjl]

theorem splice_all (n : Nat) (cs : List Value) (h : cs.length = n) : splice (List.replicate n (Value.int .i64 0)) 0 cs = cs := by
  have : List.drop cs.length (List.replicate n (Value.int .i64 0)) = [] := List.drop_eq_nil_of_le (by simp; omega)
  simp [splice, this]

set_option maxHeartbeats 2000000 in
theorem copyList_any (a : Option Addr) (n c : Nat) (zs : List Int) (w : World) (h : Sl .i64 w a n zs) (hr : n ≤ 1000000) : Calls Try.prog 78 #[.slice a n c] w (RowEnd w zs) := by
  have HN : Hid (zs.length = n) := h.1.symm
  have HW : Hid (W64 zs) := h.2.1
  obtain ⟨w1, hmk, hh1, hB1⟩ := make64 w n hr
  obtain ⟨cs, hcs⟩ : ∃ cs, cs = zs.map (Value.int .i64) := ⟨_, rfl⟩
  obtain ⟨cur, hcur⟩ : ∃ cur, cur = List.replicate n (Value.int .i64 0) := ⟨_, rfl⟩
  have hh1' : w1.heap[w.heap.size]? = some (.cells cur.toArray 2 (0, 0)) := by
    have := hh1
    unfold Blk at this
    rw [hcur, this]
    simp
  have hcl : Hid (cs.length = n) := by rw [hcs]; show (List.map _ zs).length = n; rw [List.length_map]; exact HN.out
  have hul : Hid (cur.length = n) := by rw [hcur]; simp [Hid]
  have hone : Hid (∀ v ∈ cs, v.oneCell' = true) := by
    rw [hcs]
    intro u hu
    obtain ⟨z, _, rfl⟩ := List.mem_map.1 hu
    rfl
  have hsrc : Hid (0 < cs.length → some (⟨w.heap.size, 0, none⟩ : Addr) = some ⟨w.heap.size, 0, none⟩ ∧ ∃ ad, a = some ad ∧ ∀ j v, cs[j]? = some v → w1.cell? (ad.add j) = some v) := by
    intro h0
    rw [hcs] at h0 ⊢
    exact ⟨rfl, (h.below hB1).src h0⟩
  have hspl : Hid (splice cur 0 cs = zs.map (Value.int .i64)) := by
    show splice cur 0 cs = zs.map (Value.int .i64)
    rw [hcur, splice_all n cs hcl.out, hcs]
  have HB1 : Hid (Below w.heap.size w w1) := hB1
  clear h hcs hcur hB1 hh1
  go_enter Try.func78, Try.ntmps78
  go_wp2_with (refine wpList_copy_splice rfl _ _ 22 22 rfl 2 Try.underlying22 size64 (some ⟨w.heap.size, 0, none⟩) a n n n c rfl rfl w.heap.size 0 cur 2 hh1' cs ?cn hsrc.out ?cf hone.out w.heap.size w HB1.out (Nat.le_refl _) ?_)
  case cn => exact hcl.out
  case cf => exact Nat.le_of_eq (hcl.out.trans hul.out.symm)
  intro w2 hg2 hb2
  have K : Hid (Blk w2 w.heap.size zs) := by
    show Blk w2 w.heap.size zs
    unfold Blk
    rw [hg2.out, hspl.out]
  have HB2 : Hid (Below w.heap.size w w2) := hb2
  have HO : Hid (w2.ownsRow w.heap.size 2 1 (.slice (some ⟨w.heap.size, 0, none⟩) n n) zs.length (zs.map (Value.int .i64))) := by
    have := blk_own K.out (Nat.le_refl _) (by rw [HN.out]; unfold maxLen; omega)
    rw [HN.out] at this ⊢
    exact this
  clear hg2 hb2 hspl hsrc hone hul hcl hmk hh1' HB1 K
  go_wp2
  go_ret
  exact ⟨_, rfl, HO.out, HW.out, HB2.out⟩

set_option maxHeartbeats 2000000 in
theorem copyRows_at (b off c : Nat) (R : List (List Int)) (w : World) (hr : R.length ≤ 1000000) (hs : ∀ z ∈ R, z.length ≤ 1000000)
    (h : ∀ i, i < R.length → ∃ x c, w.cell? ⟨b, off + i, none⟩ = some (.slice x (R.getD i []).length c) ∧ Sl .i64 w x (R.getD i []).length (R.getD i []) ∧ (x = none → c = 0)) :
    Calls Try.prog 77 #[.slice (some ⟨b, off, none⟩) R.length c] w (RowsEnd w R) := by
  obtain ⟨w2, hmk, K0, B0⟩ := makeRows64 w R.length hr
  have HK0 : Hid (PartI w2 w.heap.size R.length [] []) := PartI.start K0
  have HB0 : Hid (Below w.heap.size w w2) := B0
  have HH : Hid (∀ i, i < R.length → ∃ x c, w.cell? ⟨b, off + i, none⟩ = some (.slice x (R.getD i []).length c) ∧ Sl .i64 w x (R.getD i []).length (R.getD i []) ∧ (x = none → c = 0)) := h
  have HS : Hid (∀ z ∈ R, z.length ≤ 1000000) := hs
  clear K0 B0 h hs
  go_enter Try.func77, Try.ntmps77
  go_wp2
  go_loopw [11] (fun i wr => ∃ (k : Nat) (vs : List Value), k ≤ R.length ∧ i = .int .i64 k ∧ Below w.heap.size w wr ∧ PartI wr w.heap.size R.length vs (R.take k)) (fun i _ => R.length - (intOf i).toNat)
  case atStart => exact ⟨0, [], Nat.zero_le _, rfl, HB0.out, by rw [List.take_zero]; exact HK0.out⟩
  case round =>
    obtain ⟨k, vs, hk, rfl, bel, part⟩ := hrel
    have HB : Hid (Below w.heap.size w wr) := bel
    have HK : Hid (PartI wr w.heap.size R.length vs (R.take k)) := part
    have HT : Hid ((R.take k).length = k) := by show _ = _; rw [List.length_take]; exact Nat.min_eq_left hk
    clear bel part
    by_cases hlt : k < R.length
    · obtain ⟨x, cx, p0, s0, _⟩ := HH.out k hlt
      have p1 : wr.cell? ⟨b, off + k, none⟩ = some (.slice x (R.getD k []).length cx) := by rw [HB.out.cell (p := ⟨b, off + k, none⟩) (block_lt_of_cell p0)]; exact p0
      obtain ⟨z, hz⟩ : ∃ z, R.getD k [] = z := ⟨_, rfl⟩
      have hmem : z ∈ R := by
        have e : R.getD k [] = R[k] := by simp [hlt]
        rw [← hz, e]
        exact List.getElem_mem hlt
      have C0 := copyList_any x (R.getD k []).length cx (R.getD k []) wr (s0.below HB.out) (by rw [hz]; exact HS.out z hmem)
      rw [hz] at p1 C0
      have HZ : Hid (R.take (k + 1) = R.take k ++ [z]) := by
        show _ = _
        rw [List.take_succ_eq_append_getElem hlt, ← hz]
        simp [hlt]
      obtain ⟨lz, hlz⟩ : ∃ l, z.length = l := ⟨_, rfl⟩
      rw [hlz] at p1 C0
      have i1 : (k : Int) < (R.length : Int) := by omega
      clear p0 s0 hz hmem hlz
      go_wp2_with fail
      go_at_call 78
      refine C0.mono ?_
      rintro e w3 ⟨vr, rfl, hown, hw64, hb3⟩
      have HK3 : Hid (PartI w3 w.heap.size R.length vs (R.take k)) := HK.out.below hb3
      have HM : Hid (PartI (w3.setCell ⟨w.heap.size, k, none⟩ vr) w.heap.size R.length (vs ++ [vr]) (R.take (k + 1))) := by
        have := HK.out.more (by rw [HT.out]; exact hlt) hb3 hw64 hown
        rw [HT.out, ← HZ.out] at this
        exact this
      have HB3 : Hid (Below w.heap.size w w3) := HB.out.trans (hb3.mono HB.out.size)
      have c0 := HK3.out.cell (by rw [HT.out]; exact hlt)
      have f0 := HK3.out.free k
      rw [HT.out] at c0
      obtain ⟨va, vc, hvr⟩ := own_form hown
      obtain ⟨ln, hln⟩ : ∃ l, z.length = l := ⟨_, rfl⟩
      rw [hln] at hvr
      subst hvr
      clear hown hw64 hb3 HK HB C0 p1 hln
      go_wp2
      go_roundw
      case rel => exact ⟨k + 1, _, by omega, by go_num, HB3.out.setCell (p := ⟨w.heap.size, k, none⟩) (Nat.le_refl _) _, HM.out⟩
      case measure => simp [intOf]; omega
    · obtain rfl : k = R.length := by omega
      have HM : Hid (MadeI wr w.heap.size (.slice (some ⟨w.heap.size, 0, none⟩) R.length R.length) vs R) := by
        have := HK.out
        rw [List.take_length] at this
        exact this.all (Nat.le_refl _) (by unfold maxLen; omega)
      go_wp2
      go_ret
      exact ⟨_, _, rfl, HM.out, HB.out⟩

set_option maxHeartbeats 1000000 in
theorem copyRows_none (a : Option Addr) (c : Nat) (w : World) : Calls Try.prog 77 #[.slice a 0 c] w (RowsEnd w []) := by
  obtain ⟨w2, hmk0, K0, B0⟩ := makeRows64 w 0 (by omega)
  have hmk : (Instr.makeSlice 25 (.int .i64 0) (.int .i64 0)).run Try.prog w = .ok (.slice (some ⟨w.heap.size, 0, none⟩) 0 0) w2 := hmk0
  clear hmk0
  have HM : Hid (MadeI w2 w.heap.size (.slice (some ⟨w.heap.size, 0, none⟩) 0 0) [] []) := (PartI.start K0).all (R := []) (Nat.le_refl _) (Nat.zero_le _)
  have HB0 : Hid (Below w.heap.size w w2) := B0
  clear K0 B0
  go_enter Try.func77, Try.ntmps77
  go_wp2
  refine wp_loop_rounds 1 ?_
  rw [rounds_succ]
  go_wp2
  go_ret
  exact ⟨_, _, rfl, HM.out, HB0.out⟩

theorem copyRows_any (a : Option Addr) (n c : Nat) (R : List (List Int)) (w : World) (h : RowsI w a n R) (hr : n ≤ 1000000) (hs : ∀ z ∈ R, z.length ≤ 1000000) : Calls Try.prog 77 #[.slice a n c] w (RowsEnd w R) := by
  have l := h.1
  subst l
  rcases h.2.2 with h0 | ⟨b, off, rfl, hc⟩
  · subst h0
    exact copyRows_none a c w
  · exact copyRows_at b off c R w hr hs hc

end Go.Proofs.Ytlackjldopeigaa

/-
  Accounts that a call makes: a copy of them; what lies there.
-/
namespace Go.Proofs.Ytlackjldopeigaa
open Go.RowKit
set_option linter.unusedVariables false
set_option linter.unusedSimpArgs false

theorem infoAcct : (Try.prog.info? 53).map (fun i => (i.zero, i.size, i.bytes)) = some (some (.agg #[.int .i64 0, .int .i64 0, .int .i64 0]), 3, 24) := by kernel_rfl
theorem sizeAcct : (Try.prog.info? 53).map (·.size) = some 3 := by kernel_rfl

/-- The cells of accounts. -/
def accL : List A3 → List Value
  | [] => []
  | x :: l => .int .i64 x.1 :: .int .i64 x.2.1 :: .int .i64 x.2.2 :: accL l
theorem accL_length (A : List A3) : (accL A).length = A.length * 3 := by
  induction A with
  | nil => rfl
  | cons x l ih => simp only [accL, List.length_cons, ih]; omega
theorem accL_at (A : List A3) (i : Nat) (h : i < A.length) : (accL A)[i * 3]? = some (.int .i64 (A.getD i a30).1) ∧ (accL A)[i * 3 + 1]? = some (.int .i64 (A.getD i a30).2.1) ∧ (accL A)[i * 3 + 2]? = some (.int .i64 (A.getD i a30).2.2) := by
  induction A generalizing i with
  | nil => simp at h
  | cons x l ih =>
    cases i with
    | zero => exact ⟨rfl, rfl, rfl⟩
    | succ i =>
      have := ih i (by simpa using h)
      rw [show (i + 1) * 3 = i * 3 + 3 by omega, show i * 3 + 3 + 1 = i * 3 + 1 + 3 by omega, show i * 3 + 3 + 2 = i * 3 + 2 + 3 by omega]
      simpa [accL] using this
theorem accL_append (A B : List A3) : accL (A ++ B) = accL A ++ accL B := by
  induction A with
  | nil => rfl
  | cons x l ih => simp [accL, ih]
theorem accL_one (A : List A3) : ∀ v ∈ accL A, v.oneCell' = true := by
  induction A with
  | nil => intro v hv; simp [accL] at hv
  | cons x l ih =>
    intro v hv
    simp only [accL, List.mem_cons] at hv
    rcases hv with rfl | rfl | rfl | hv
    · rfl
    · rfl
    · rfl
    · exact ih v hv

theorem Accs.own {w : World} {B : Nat} {v : Value} {A : List A3} (h : w.ownsRow B 53 3 v A.length (accL A)) : ∃ a cap, v = .slice a A.length cap ∧ Accs w a A.length A ∧ (a = none → cap = 0) ∧ cap ≤ 9223372036854775807 := by
  rcases h.2 with ⟨rfl, h0⟩ | ⟨g, cap, cur, rfl, _, _, _, hm, _⟩
  · have : A = [] := List.length_eq_zero_iff.mp h0
    subst this
    exact ⟨none, 0, rfl, ⟨rfl, .inl rfl⟩, fun _ => rfl, by omega⟩
  · refine ⟨some ⟨g, 0, none⟩, cap, rfl, ⟨rfl, .inr ⟨g, 0, rfl, fun i hi => ?_⟩⟩, fun h => by simp at h, by unfold maxLen at hm; omega⟩
    obtain ⟨c0, c1, c2⟩ := accL_at A i hi
    refine ⟨?_, ?_, ?_⟩
    · rw [Nat.zero_add, h.cellAt (i * 3) (by omega), c0]
    · rw [Nat.zero_add, h.cellAt (i * 3 + 1) (by omega), c1]
    · rw [Nat.zero_add, h.cellAt (i * 3 + 2) (by omega), c2]

theorem Accs.src {w : World} {a : Option Addr} {n : Nat} {A : List A3} (h : Accs w a n A) (h0 : 0 < n) : ∃ x, a = some x ∧ ∀ j v, (accL A)[j]? = some v → w.cell? (x.add j) = some v := by
  have hl := h.1
  rcases h.2 with hz | ⟨b, off, ha, hc⟩
  · subst hz; simp at hl; omega
  · refine ⟨_, ha, ?_⟩
    intro j v hj
    have hjl : j < A.length * 3 := by rw [← accL_length]; exact (List.getElem?_eq_some_iff.1 hj).1
    obtain ⟨c0, c1, c2⟩ := accL_at A (j / 3) (by omega)
    obtain ⟨d0, d1, d2⟩ := hc (j / 3) (by omega)
    rw [Addr.add_flat]
    rcases (by omega : j % 3 = 0 ∨ j % 3 = 1 ∨ j % 3 = 2) with e | e | e
    · have ej : j = j / 3 * 3 := by omega
      rw [ej] at hj
      rw [hj] at c0
      rw [show off + j = off + j / 3 * 3 by omega, d0, ← c0]
    · have ej : j = j / 3 * 3 + 1 := by omega
      rw [ej] at hj
      rw [hj] at c1
      rw [show off + j = off + j / 3 * 3 + 1 by omega, d1, ← c1]
    · have ej : j = j / 3 * 3 + 2 := by omega
      rw [ej] at hj
      rw [hj] at c2
      rw [show off + j = off + j / 3 * 3 + 2 by omega, d2, ← c2]

/-- copy of n elements of three cells each, over all of a row. -/
theorem wpList_copy3 {P : Program} {w : World} {ops : Array Oper} {rest : List Oper} {o : Oper} {a : Act} {Q : Exit → Act → World → Prop} (hgd : o.guard = none) (d s : Operand) (dT sT : TypeId)
    (ho : o.op = .call { callee := .builtin .copy, args := #[d, s], argTypes := #[dT, sT] }) (elem : TypeId) (hu : P.underlying dT = some (.slice elem)) (hsz : (P.info? elem).map (·.size) = some 3)
    (g n cap : Nat) (ad : Option Addr) (sCap : Nat) (hd : a.eval d = .slice (some ⟨g, 0, none⟩) n cap) (hs : a.eval s = .slice ad n sCap)
    (cur : Array Value) (t : TypeId) (hg : w.heap[g]? = some (.cells cur t (0, 0))) (cs : List Value) (hn : cs.length = n * 3) (hc : cur.size = n * 3)
    (hpos : 0 < n → ∃ x, ad = some x ∧ ∀ j v, cs[j]? = some v → w.cell? (x.add j) = some v) (h1 : ∀ v ∈ cs, v.oneCell' = true) (B : Nat) (w0 : World) (hb : Below B w0 w) (hBg : B ≤ g)
    (h : ∀ w', Hid (w'.heap[g]? = some (.cells cs.toArray t (0, 0))) → Below B w0 w' → wpList P ops Q rest (a.put o.dst (goInt n)) w') : wpList P ops Q (o :: rest) a w := by
  refine wpList_plain hgd fun K hK => ?_
  cases hq : P.info? elem with
  | none => simp [hq] at hsz
  | some i =>
    have hi : i.size = 3 := by simpa [hq] using hsz
    have hrun : (Builtin.copy_ #[dT, sT] o.type #[.slice (some ⟨g, 0, none⟩) n cap, .slice ad n sCap]).run P w = .ok (goInt n) (w.setRow g cs.toArray) := by
      have hst := run_storeCells_at P g 0 t cs 0 cur w hg (by rw [hn, hc]; omega) h1
      have hrow : (cur.toList.take (0 + 0) ++ cs ++ cur.toList.drop (0 + 0 + cs.length)).toArray = cs.toArray := by
        have : cur.toList.drop (0 + 0 + cs.length) = [] := List.drop_eq_nil_of_le (by simp; omega)
        rw [this]
        simp
      rw [hrow] at hst
      by_cases h0 : n = 0
      · subst h0
        have e : cs = [] := List.length_eq_zero_iff.mp (by simpa using hn)
        subst e
        cases ad with
        | none =>
          simp only [List.toArray] at hst ⊢
          simp [Builtin.copy_, run_underlying hu, Builtin.lenOf, Builtin.firstCells, sizeOf, typeInfo, hq, hi, hst]
        | some x =>
          have hl := run_loadCells_list (P := P) w x [] (fun j v hj => by simp at hj)
          simp only [List.length_nil] at hl
          simp [Builtin.copy_, run_underlying hu, Builtin.lenOf, Builtin.firstCells, sizeOf, typeInfo, hq, hi, hl, hst]
      · obtain ⟨x, rfl, hsrc⟩ := hpos (by omega)
        have hl := run_loadCells_list (P := P) w x cs hsrc
        rw [hn] at hl
        simp [Builtin.copy_, run_underlying hu, Builtin.lenOf, Builtin.firstCells, sizeOf, typeInfo, hq, hi, hl, hst]
    unfold Oper.wp
    simp [execOp, ho, resolve, invoke, builtin, hd, hs, hrun, Result.andThen]
    exact hK _ _ (h _ (setRow_heap w g cur _ t _ hg) (below_setRow hb hBg _))

/-- What a copy of accounts leaves. -/
def AccsEnd (w : World) (A : List A3) (e : Ending) (w' : World) : Prop :=
  ∃ v, e = .returned v ∧ w'.ownsRow w.heap.size 53 3 v A.length (accL A) ∧ Below w.heap.size w w'

theorem makeAccs (w : World) (n : Nat) (h : n ≤ 1000000) :
    ∃ w' cur, (Instr.makeSlice 24 (.int .i64 n) (.int .i64 n)).run Try.prog w = .ok (.slice (some ⟨w.heap.size, 0, none⟩) n n) w' ∧ w'.heap[w.heap.size]? = some (.cells cur 53 (0, 0)) ∧ cur.size = n * 3 ∧ Below w.heap.size w w' := by
  obtain ⟨i, hi, hz0, hz1, hz2⟩ := info_parts infoAcct
  have hr := run_make (P := Try.prog) w 24 53 i _ Try.underlying24 hi hz0 .i64 .i64 n n (by omega) (Int.le_refl _) (by rw [hz2]; omega) (by omega)
  simp only [Int.toNat_natCast, hz1] at hr
  exact ⟨_, _, hr, heap_alloc_new w _, size_madeCells _ _, (Below.refl _ _).alloc (Nat.le_refl _) _⟩

set_option maxHeartbeats 2000000 in
theorem copyAccs_any (a : Option Addr) (n c : Nat) (A : List A3) (w : World) (h : Accs w a n A) (hr : n ≤ 1000000) : Calls Try.prog 76 #[.slice a n c] w (AccsEnd w A) := by
  have HN : Hid (n = A.length) := h.1
  obtain ⟨w1, cur, hmk, hh1, hcs, hB1⟩ := makeAccs w n hr
  have hsrc : Hid (0 < n → ∃ x, a = some x ∧ ∀ j v, (accL A)[j]? = some v → w1.cell? (x.add j) = some v) := fun h0 => (h.below hB1).src h0
  have HB1 : Hid (Below w.heap.size w w1) := hB1
  obtain ⟨cs, hcs'⟩ : ∃ cs, accL A = cs := ⟨_, rfl⟩
  rw [hcs'] at hsrc
  have HC : Hid (accL A = cs ∧ cs.length = n * 3 ∧ cur.size = n * 3 ∧ ∀ v ∈ cs, v.oneCell' = true) := ⟨hcs', by rw [← hcs', accL_length, HN.out], hcs, by rw [← hcs']; exact accL_one A⟩
  clear h hB1 hcs hcs'
  go_enter Try.func76, Try.ntmps76
  go_wp2_with (refine wpList_copy3 rfl _ _ 24 24 rfl 53 Try.underlying24 sizeAcct w.heap.size n n a c rfl rfl cur 53 hh1 cs HC.out.2.1 HC.out.2.2.1 hsrc.out HC.out.2.2.2 w.heap.size w HB1.out (Nat.le_refl _) ?_)
  intro w2 hw2 hb2
  have HO : Hid (w2.ownsRow w.heap.size 53 3 (.slice (some ⟨w.heap.size, 0, none⟩) n n) A.length (accL A)) := by
    rw [HC.out.1, ← HN.out]
    refine ⟨HC.out.2.1, .inr ⟨w.heap.size, n, cs.toArray, rfl, Nat.le_refl _, ?_, Nat.le_refl _, by unfold maxLen; omega, by simp [HC.out.2.1], ?_⟩⟩
    · exact hw2.out
    · rw [← HC.out.2.1]
      simp
  have HB2 : Hid (Below w.heap.size w w2) := hb2
  clear hw2 hb2 hmk hh1 hsrc HB1 HC
  go_wp2
  go_ret
  exact ⟨_, rfl, HO.out, HB2.out⟩

end Go.Proofs.Ytlackjldopeigaa

/-
  giroref10.rows: rows in new memory.
-/
namespace Go.Proofs.Ytlackjldopeigaa
open Go.RowKit
set_option linter.unusedVariables false
set_option linter.unusedSimpArgs false

set_option maxHeartbeats 2000000 in
theorem refCopyRows_at (b off c : Nat) (R : List (List Int)) (w : World) (hr : R.length ≤ 1000000) (hs : ∀ z ∈ R, z.length ≤ 1000000)
    (h : ∀ i, i < R.length → ∃ x c, w.cell? ⟨b, off + i, none⟩ = some (.slice x (R.getD i []).length c) ∧ Sl .i64 w x (R.getD i []).length (R.getD i []) ∧ (x = none → c = 0)) :
    Calls Try.prog 68 #[.slice (some ⟨b, off, none⟩) R.length c] w (RowsEnd w R) := by
  have HH : Hid (∀ i, i < R.length → ∃ x c, w.cell? ⟨b, off + i, none⟩ = some (.slice x (R.getD i []).length c) ∧ Sl .i64 w x (R.getD i []).length (R.getD i []) ∧ (x = none → c = 0)) := h
  have HS : Hid (∀ z ∈ R, z.length ≤ 1000000) := hs
  clear h hs
  obtain ⟨i0, hi, hz0, hz1, hz2⟩ := info_parts infoI64
  obtain ⟨j0, hj, hy0, hy1, hy2⟩ := info_parts infoRow64
  go_enter Try.func68, Try.ntmps68
  go_wp2
  go_loopw [3, 4] (fun l i wr => ∃ (k : Nat) (vs : List Value) (la : Option Addr) (ln lc : Nat), k ≤ R.length ∧ l = .slice la ln lc ∧ i = .int .i64 k ∧ Below w.heap.size w wr ∧ MadeI wr w.heap.size (.slice la ln lc) vs (R.take k)) (fun _ i _ => R.length - (intOf i).toNat)
  case atStart => exact ⟨0, [], none, 0, 0, Nat.zero_le _, rfl, rfl, Below.refl _ _, by rw [List.take_zero]; exact MadeI.start _ _⟩
  case round =>
    obtain ⟨k, vs, la, ln, lc, hk, rfl, rfl, bel, part⟩ := hrel
    have HB : Hid (Below w.heap.size w wr) := bel
    have HK : Hid (MadeI wr w.heap.size (.slice la ln lc) vs (R.take k)) := part
    have HT : Hid ((R.take k).length = k) := by show _ = _; rw [List.length_take]; exact Nat.min_eq_left hk
    clear bel part
    by_cases hlt : k < R.length
    · obtain ⟨x, cx, p0, s0, xn⟩ := HH.out k hlt
      have hlt0 := block_lt_of_cell p0
      have b1 : Below wr.heap.size wr (wr.alloc (.cells #[] 2)) := box_below _ _
      have p1 : (wr.alloc (.cells #[] 2)).cell? ⟨b, off + k, none⟩ = some (.slice x (R.getD k []).length cx) := by rw [b1.cell (p := ⟨b, off + k, none⟩) (Nat.lt_of_lt_of_le hlt0 HB.out.size), HB.out.cell (p := ⟨b, off + k, none⟩) hlt0]; exact p0
      have s1 := (s0.below HB.out).below b1
      obtain ⟨z, hz⟩ : ∃ z, R.getD k [] = z := ⟨_, rfl⟩
      have hmem : z ∈ R := by
        have e : R.getD k [] = R[k] := by simp [hlt]
        rw [← hz, e]
        exact List.getElem_mem hlt
      have hzl := HS.out z hmem
      rw [hz] at p1 s1
      have HW : Hid (W64 z) := s1.2.1
      have HZ : Hid (R.take (k + 1) = R.take k ++ [z]) := by
        show _ = _
        rw [List.take_succ_eq_append_getElem hlt, ← hz]
        simp [hlt]
      obtain ⟨lz, hlz⟩ : ∃ l, z.length = l := ⟨_, rfl⟩
      rw [hlz] at p1 s1 hzl
      have HL : Hid (z.length = lz) := hlz
      have i1 : (k : Int) < (R.length : Int) := by omega
      have own0 : (wr.alloc (.cells #[] 2)).ownsRow wr.heap.size 2 1 (.slice (some ⟨wr.heap.size, 0, none⟩) 0 0) 0 [] := World.ownsRow_lit wr #[] 0 (Nat.le_refl _) (by decide) rfl
      have HS1 : Hid (Sl .i64 (wr.alloc (.cells #[] 2)) x lz z) := s1
      have HXN : Hid (x = none → cx = 0) := xn
      have HO0 : Hid ((wr.alloc (.cells #[] 2)).ownsRow wr.heap.size 2 1 (.slice (some ⟨wr.heap.size, 0, none⟩) 0 0) 0 []) := own0
      clear p0 s0 hz hmem hlz s1 xn own0 b1 hlt0
      go_wp2_with (at_builtin; refine wpList_append_sl rfl _ _ 22 rfl wr.heap.size 2 i0 (.int .i64 0) 8 Try.underlying22 hi hz0 hz1 hz2 rfl (.slice (some ⟨wr.heap.size, 0, none⟩) 0 0) 0 [] rfl HO0.out .i64 x lz cx z rfl HS1.out HXN.out ?c1 ?c2 ?c3 ?_)
      case c1 => unfold maxLen; omega
      case c2 => omega
      case c3 => simp
      intro vr w3 o3 g3 _
      have b3 : Below wr.heap.size wr w3 := ((Below.refl wr.heap.size wr).alloc (Nat.le_refl _) _).grown g3 (by simp) (fun k hk => by simp [Value.ownBlock] at hk; omega)
      have o3' : w3.ownsRow wr.heap.size 2 1 vr z.length (z.map (Value.int .i64)) := by rw [HL.out]; simpa using o3
      have HO : Hid (w3.ownsRow wr.heap.size 2 1 vr z.length (z.map (Value.int .i64)) ∧ Below wr.heap.size wr w3) := ⟨o3', b3⟩
      have HB3 : Hid (Below w.heap.size w w3) := HB.out.trans (b3.mono HB.out.size)
      obtain ⟨va, vc, hvr⟩ := own_form o3'
      have own1 : (w3.alloc (.cells #[vr] 22)).ownsRow w.heap.size 22 1 (.slice la ln lc) k vs := by
        have := own_below (HK.out.below b3).own (box_below w3 (.cells #[vr] 22))
        rwa [HT.out] at this
      rw [HL.out] at hvr
      subst hvr
      clear o3 o3' g3 b3 HS1 HXN HO0 p1
      go_wp2_with (at_builtin; refine wpList_append_own_at _ rfl _ _ 25 rfl w.heap.size 22 j0 _ 1 24 Try.underlying25 hj hy0 hy1 hy2 rfl (by decide) (.slice la ln lc) k vs rfl own1 ⟨w3.heap.size, 0, none⟩ 1 1 [.slice va lz vc] rfl rfl ?q1 ?q2 ?q3 ?q4 ?q5 ?_)
      case q1 =>
        intro j u hj
        cases j with
        | zero => simp at hj; rw [← hj, Addr.add_flat, Nat.add_zero, cell_new]; rfl
        | succ j => simp at hj
      case q2 => intro u hu; simp at hu; rw [hu]; rfl
      case q3 => unfold maxLen; omega
      case q4 => omega
      case q5 => have := HB3.out.size; simp; omega
      intro v' w5 o5 g5 _ at5
      have gb : (w3.alloc (.cells #[Value.slice va lz vc] 22)).heap.size = w3.heap.size + 1 := size_alloc _ _
      have HM : Hid (MadeI w5 w.heap.size v' (vs ++ [.slice va lz vc]) (R.take (k + 1))) := by
        rw [HZ.out]
        have kb : Below wr.heap.size wr (w3.alloc (.cells #[Value.slice va lz vc] 22)) := HO.out.2.trans ((box_below _ _).mono HO.out.2.size)
        refine HK.out.more kb HW.out (own_below HO.out.1 (box_below _ _)) HB.out.size g5 (by rw [HT.out]; exact o5) ?_
        rcases at5 with h | h
        · exact .inl h
        · exact .inr ⟨_, h, Nat.le_of_eq gb⟩
      have HB5 : Hid (Below w.heap.size w w5) := by
        refine (HB3.out.alloc HB3.out.size _).grown g5 (by have := HB3.out.size; rw [gb]; omega) ?_
        intro b hb
        exact (HK.out.own.lt b hb).1
      obtain ⟨va', vc', rfl⟩ := own_form o5
      clear o5 g5 at5 gb own1 HO HK HB HB3
      go_wp2
      go_roundw
      case rel => exact ⟨k + 1, _, _, _, _, by omega, rfl, by go_num, HB5.out, HM.out⟩
      case measure => simp [intOf]; omega
    · obtain rfl : k = R.length := by omega
      have HM : Hid (MadeI wr w.heap.size (.slice la ln lc) vs R) := by
        have := HK.out
        rw [List.take_length] at this
        exact this
      go_wp2
      go_ret
      exact ⟨_, _, rfl, HM.out, HB.out⟩

set_option maxHeartbeats 1000000 in
theorem refCopyRows_none (a : Option Addr) (c : Nat) (w : World) : Calls Try.prog 68 #[.slice a 0 c] w (RowsEnd w []) := by
  go_enter Try.func68, Try.ntmps68
  go_wp2
  refine wp_loop_rounds 1 ?_
  rw [rounds_succ]
  go_wp2
  go_ret
  exact ⟨_, _, rfl, MadeI.start _ _, Below.refl _ _⟩

theorem refCopyRows_any (a : Option Addr) (n c : Nat) (R : List (List Int)) (w : World) (h : RowsI w a n R) (hr : n ≤ 1000000) (hs : ∀ z ∈ R, z.length ≤ 1000000) : Calls Try.prog 68 #[.slice a n c] w (RowsEnd w R) := by
  have l := h.1
  subst l
  rcases h.2.2 with h0 | ⟨b, off, rfl, hc⟩
  · subst h0
    exact refCopyRows_none a c w
  · exact refCopyRows_at b off c R w hr hs hc

end Go.Proofs.Ytlackjldopeigaa

/-
  Books in new memory; facts of what is made in a region that draws.
-/
namespace Go.Proofs.Ytlackjldopeigaa
open Go.RowKit
set_option linter.unusedVariables false
set_option linter.unusedSimpArgs false

/-- Books that lie in blocks from B on, made by the call. -/
structure NewBk (w : World) (B : Nat) (x : BA) (b : Bks) : Prop where
  acc : w.ownsRow B 53 3 (.slice x.aA x.nA x.cA) b.A.length (accL b.A)
  bil : ∃ vs, MadeI w B (.slice x.aB x.nB x.cB) vs b.B
  mul : w.ownsRow B 2 1 (.slice x.aM x.nM x.cM) b.M.length (b.M.map (Value.int .i64))
  pos : ∃ vs, MadeI w B (.slice x.aP x.nP x.cP) vs b.P
  wf : W64 b.M
theorem NewBk.below {w w' : World} {B : Nat} {x : BA} {b : Bks} (h : NewBk w B x b) (k : Below w.heap.size w w') : NewBk w' B x b :=
  ⟨own_below h.acc k, h.bil.imp fun _ h => h.below k, own_below h.mul k, h.pos.imp fun _ h => h.below k, h.wf⟩
theorem NewBk.kept {w w' : World} {B : Nat} {x : BA} {b : Bks} (h : NewBk w B x b) (k : Kept (fun n => B ≤ n) w w') : NewBk w' B x b :=
  ⟨own_kept h.acc k, h.bil.imp fun _ h => h.kept k, own_kept h.mul k, h.pos.imp fun _ h => h.kept k, h.wf⟩
theorem NewBk.base {w : World} {B B' : Nat} {x : BA} {b : Bks} (h : NewBk w B x b) (k : B' ≤ B) : NewBk w B' x b :=
  ⟨own_base h.acc k, h.bil.imp fun _ h => h.base k, own_base h.mul k, h.pos.imp fun _ h => h.base k, h.wf⟩

theorem short_made {w : World} {B : Nat} {v : Value} {vs : List Value} {R : List (List Int)} (h : MadeI w B v vs R) : Short R := by
  intro z hz
  obtain ⟨i, hi, he⟩ := List.getElem_of_mem hz
  have hr := h.row i hi
  have e : R.getD i [] = z := by simp [hi, he]
  rw [e] at hr
  rcases hr.2 with ⟨_, h0⟩ | ⟨g, cap, cur, _, _, _, h1, h2, _⟩
  · omega
  · unfold maxLen at h2; omega

theorem own_len {w : World} {B s n' : Nat} {T : TypeId} {a : Option Addr} {n c : Nat} {xs : List Value} (h : w.ownsRow B T s (.slice a n c) n' xs) : n = n' ∧ n ≤ 9223372036854775807 ∧ (a = none → c = 0) := by
  rcases h.2 with ⟨hv, h0⟩ | ⟨g, cap, cur, hv, _, _, h1, h2, _⟩
  · simp at hv; exact ⟨by omega, by omega, fun _ => hv.2.2⟩
  · simp at hv; unfold maxLen at h2; exact ⟨hv.2.1, by omega, fun h => by rw [hv.1] at h; simp at h⟩

theorem NewBk.bk {w : World} {B : Nat} {x : BA} {b : Bks} (h : NewBk w B x b) : Bk w x b := by
  obtain ⟨vb, hb⟩ := h.bil
  obtain ⟨vp, hp⟩ := h.pos
  obtain ⟨lA, mA, oA⟩ := own_len h.acc
  obtain ⟨lM, mM, oM⟩ := own_len h.mul
  obtain ⟨_, mB, _⟩ := own_len hb.own
  obtain ⟨_, mP, _⟩ := own_len hp.own
  refine ⟨?_, hb.read, ?_, hp.read, mA, mB, mM, mP, short_made hb, short_made hp, oA, oM⟩
  · obtain ⟨a, c, hv, ha, _⟩ := Accs.own h.acc
    simp at hv
    rw [hv.1, hv.2.1]
    exact ha
  · obtain ⟨a, c, hv, ha, _⟩ := Sl.own h.mul h.wf
    simp at hv
    rw [hv.1, hv.2.1]
    exact ha

/-- Not too much to be copied. -/
structure Small (b : Bks) : Prop where
  A : b.A.length ≤ 1000000
  B : b.B.length ≤ 1000000
  M : b.M.length ≤ 1000000
  P : b.P.length ≤ 1000000
  rB : ∀ z ∈ b.B, z.length ≤ 1000000
  rP : ∀ z ∈ b.P, z.length ≤ 1000000

def Fact.ownR (B : Nat) (e : TypeId) (s n : Nat) (cs : List Value) : Fact := ⟨fun w v => w.ownsRow B e s v n cs, fun _ _ _ hb h => own_below h hb⟩
def Fact.lit0 (B : Nat) (e : TypeId) (s : Nat) : Fact := ⟨fun w v => ∃ b, v = .slice (some ⟨b, 0, none⟩) 0 0 ∧ w.ownsRow B e s v 0 [], fun _ _ _ hb ⟨b, h1, h2⟩ => ⟨b, h1, own_below h2 hb⟩⟩
def Fact.rows64 (B : Nat) (R : List (List Int)) : Fact := ⟨fun w v => ∃ vs, MadeI w B v vs R, fun _ _ _ hb ⟨vs, h⟩ => ⟨vs, h.below hb⟩⟩
def Fact.books (B : Nat) (b : Bks) : Fact := ⟨fun w v => ∃ x : BA, v = x.val ∧ NewBk w B x b, fun _ _ _ hb ⟨x, h1, h2⟩ => ⟨x, h1, h2.below hb⟩⟩

theorem accs_fact {f : FuncId} {args : Array Value} {w : World} {A : List A3} {B : Nat} (hB : B ≤ w.heap.size) (h : Calls Try.prog f args w (AccsEnd w A)) :
    Calls Try.prog f args w fun e w' => ∃ v, e = .returned v ∧ Below w.heap.size w w' ∧ (Fact.ownR B 53 3 A.length (accL A)).1 w' v :=
  h.mono fun e w' ⟨v, h1, h2, h3⟩ => ⟨v, h1, h3, own_base h2 hB⟩
theorem row_fact {f : FuncId} {args : Array Value} {w : World} {zs : List Int} {B : Nat} (hB : B ≤ w.heap.size) (h : Calls Try.prog f args w (RowEnd w zs)) :
    Calls Try.prog f args w fun e w' => ∃ v, e = .returned v ∧ Below w.heap.size w w' ∧ (Fact.ownR B 2 1 zs.length (zs.map (Value.int .i64))).1 w' v :=
  h.mono fun e w' ⟨v, h1, h2, _, h3⟩ => ⟨v, h1, h3, own_base h2 hB⟩
theorem rows_fact {f : FuncId} {args : Array Value} {w : World} {R : List (List Int)} {B : Nat} (hB : B ≤ w.heap.size) (h : Calls Try.prog f args w (RowsEnd w R)) :
    Calls Try.prog f args w fun e w' => ∃ v, e = .returned v ∧ Below w.heap.size w w' ∧ (Fact.rows64 B R).1 w' v :=
  h.mono fun e w' ⟨v, vs, h1, h2, h3⟩ => ⟨v, h1, h3, vs, h2.base hB⟩

theorem own_slice {w : World} {B s : Nat} {T : TypeId} {v : Value} {n : Nat} {xs : List Value} (h : w.ownsRow B T s v n xs) : ∃ a c, v = .slice a n c := by
  rcases h.2 with ⟨rfl, rfl⟩ | ⟨g, cap, cur, rfl, _⟩
  · exact ⟨none, 0, rfl⟩
  · exact ⟨_, _, rfl⟩

/-- Four slices are books. -/
theorem books_of {w : World} {B : Nat} {b : Bks} {v0 v1 v2 v3 : Value} (wf : W64 b.M) (h0 : (Fact.ownR B 53 3 b.A.length (accL b.A)).1 w v0) (h1 : (Fact.rows64 B b.B).1 w v1) (h2 : (Fact.ownR B 2 1 b.M.length (b.M.map (Value.int .i64))).1 w v2) (h3 : (Fact.rows64 B b.P).1 w v3) :
    ∃ x : BA, v0 = .slice x.aA x.nA x.cA ∧ v1 = .slice x.aB x.nB x.cB ∧ v2 = .slice x.aM x.nM x.cM ∧ v3 = .slice x.aP x.nP x.cP ∧ NewBk w B x b := by
  obtain ⟨vb, h1⟩ := h1
  obtain ⟨vp, h3⟩ := h3
  obtain ⟨aA, cA, rfl⟩ := own_slice h0
  obtain ⟨aB, cB, rfl⟩ := own_slice h1.own
  obtain ⟨aM, cM, rfl⟩ := own_slice h2
  obtain ⟨aP, cP, rfl⟩ := own_slice h3.own
  exact ⟨⟨aA, _, cA, aB, _, cB, aM, _, cM, aP, _, cP⟩, rfl, rfl, rfl, rfl, ⟨h0, ⟨vb, h1⟩, h2, ⟨vp, h3⟩, wf⟩⟩

section
variable {P : Program} {L : List Fact} {T : List Nat} {Q : Exit → Act → World → Prop} {a0 : Act} {w0 : World} {i : Nat} {o : Oper}

/-- append onto an empty literal. -/
theorem owes_append_new (t e : TypeId) (B x y jx jy m c s : Nat) (inf : TypeInfo) (z : Value) (bytes : Nat) (cs : List Value) (ad : Option Addr) (ho : o.op = .call { callee := .builtin .append, args := #[.tmp x, .tmp y], argTypes := #[t, t] })
    (hx : T.getD jx 0 = x) (hdx : (o.after.toList.any fun e => e.on == jx && Region.binds .any e) = true) (hfx : L.getD jx Fact.any = Fact.lit0 B e s)
    (hy : T.getD jy 0 = y) (hdy : (o.after.toList.any fun e => e.on == jy && Region.binds .any e) = true) (hfy : L.getD jy Fact.any = Fact.is (.slice ad m c))
    (hL : L.getD i Fact.any = Fact.ownR B e s m cs) (hcs : cs.length = m * s) (hsrc : 0 < m → ∃ x, ad = some x ∧ ∀ j v, cs[j]? = some v → w0.cell? (x.add j) = some v) (hnn : ad = none → m = 0 ∧ c = 0) (hB : B ≤ w0.heap.size)
    (ht : P.underlying t = some (.slice e)) (hi : P.info? e = some inf) (hz : inf.zero = some z) (hsize : inf.size = s) (hby : inf.bytes = bytes) (hzs : z.cells.size = s) (hs0 : 0 < s)
    (h63 : m ≤ maxLen) (hbytes : m * bytes ≤ 140737488355328) (hw : ∀ a w, Leans L T a0 w0 o a w → Wants T o a) : OwesT P Q L T a0 w0 i o := by
  refine owes_make fun a w hl => ⟨hw a w hl, ?_⟩
  have vx := hl.dep jx hdx
  rw [hfx, hx] at vx
  obtain ⟨b, vx, ox⟩ := vx
  have vy := hl.dep jy hdy
  rw [hfy, hy] at vy
  have ex : a.eval (.tmp x) = .slice (some ⟨b, 0, none⟩) 0 0 := vx
  have ey : a.eval (.tmp y) = .slice ad m c := vy
  rw [vx] at ox
  rw [hL]
  have h0s : m = 0 → cs = [] := fun h0 => List.length_eq_zero_iff.mp (by rw [hcs, h0]; simp)
  cases ad with
  | none =>
    obtain ⟨rfl, rfl⟩ := hnn rfl
    have hrun := run_append_owned_none (P := P) (w := w) B t o.type e inf s ht hi _ 0 _ ox
    refine ⟨.slice (some ⟨b, 0, none⟩) 0 0, w, ?_, Below.refl _ _, ?_⟩
    · simp [execOp, ho, resolve, invoke, builtin, ex, ey, hrun, Result.andThen]
    · show w.ownsRow B e s _ 0 cs
      rw [h0s rfl]
      exact ox
  | some ad =>
    by_cases h0 : m = 0
    · subst h0
      have hrun := run_append_room_cells (P := P) w t o.type e inf ht hi b 0 0 0 ad 0 c [] (by simp) (fun j u hj => by simp at hj) (fun u hu => by simp at hu) (by omega) (fun j hj => by simp at hj) (fun j hj => by simp at hj)
      refine ⟨.slice (some ⟨b, 0, none⟩) 0 0, w, ?_, Below.refl _ _, ?_⟩
      · simp [execOp, ho, resolve, invoke, builtin, ex, ey, hrun, Result.andThen]
        rfl
      · show w.ownsRow B e s _ 0 cs
        rw [h0s rfl]
        exact ox
    · obtain ⟨ad', hae, hsrc'⟩ := hsrc (by omega)
      simp at hae
      subst hae
      obtain ⟨v', w', hrun, r1, r2⟩ := run_append_arg_grows (P := P) w t o.type e inf z s bytes ht hi hz hsize hby hzs hs0 ⟨b, 0, none⟩ 0 0 [] (by simp) (fun j u hj => by simp at hj) ad m c cs hcs (fun j u hj => by
        have h1 := hsrc' j u hj
        rw [hl.below.cell (p := ad.add j) (block_lt_of_cell h1)]
        exact h1) (by omega) (by omega) (by rw [Nat.zero_add]; exact hbytes)
      refine ⟨v', w', ?_, ?_, ?_⟩
      · simp [execOp, ho, resolve, invoke, builtin, ex, ey, hrun, Result.andThen]
      · exact (Below.refl _ _).grown r2 (Nat.le_refl _) (fun k hk => by simp at hk)
      · show w'.ownsRow B e s v' m cs
        have := own_base r1 (Nat.le_trans hB hl.below.size)
        simpa using this
end

end Go.Proofs.Ytlackjldopeigaa

/-
  lim.Copy and giroref10.Copy: books in new memory.
-/
namespace Go.Proofs.Ytlackjldopeigaa
open Go.RowKit
set_option linter.unusedVariables false
set_option linter.unusedSimpArgs false

theorem booksSize : (Try.prog.info? 27).map (·.size) = some 4 := by kernel_rfl
/-- What a copy of books leaves. -/
def BooksEnd (w : World) (b : Bks) (e : Ending) (w' : World) : Prop := ∃ y : BA, e = .returned y.val ∧ NewBk w' w.heap.size y b ∧ Below w.heap.size w w'

theorem own_lit3 {w : World} {B : Nat} (h : B ≤ w.heap.size) : (w.alloc (.cells #[] 53)).ownsRow B 53 3 (.slice (some ⟨w.heap.size, 0, none⟩) 0 0) 0 [] :=
  ⟨rfl, .inr ⟨w.heap.size, 0, #[], rfl, h, heap_alloc_new w _, Nat.le_refl _, Nat.zero_le _, rfl, rfl⟩⟩
theorem books_of' {w : World} {B nA nM : Nat} {b : Bks} {v0 v1 v2 v3 : Value} (wf : W64 b.M) (lA : nA = b.A.length) (lM : nM = b.M.length) (h0 : (Fact.ownR B 53 3 nA (accL b.A)).1 w v0) (h1 : (Fact.rows64 B b.B).1 w v1) (h2 : (Fact.ownR B 2 1 nM (b.M.map (Value.int .i64))).1 w v2) (h3 : (Fact.rows64 B b.P).1 w v3) :
    ∃ x : BA, v0 = .slice x.aA x.nA x.cA ∧ v1 = .slice x.aB x.nB x.cB ∧ v2 = .slice x.aM x.nM x.cM ∧ v3 = .slice x.aP x.nP x.cP ∧ NewBk w B x b := by
  subst lA lM
  exact books_of wf h0 h1 h2 h3

set_option maxHeartbeats 4000000 in
set_option maxRecDepth 100000 in
theorem limCopy_any (x : BA) (b : Bks) (w : World) (h : Bk w x b) (hs : Small b) : Calls Try.prog 63 #[x.val] w (BooksEnd w b) := by
  obtain ⟨aA, nA, cA, aB, nB, cB, aM, nM, cM, aP, nP, cP⟩ := x
  obtain ⟨w2, hw2⟩ : ∃ w2, w2 = (w.alloc (.cells #[.slice aA nA cA, .slice aB nB cB, .slice aM nM cM, .slice aP nP cP] 27)).alloc (.cells #[.slice none 0 0, .slice none 0 0, .slice none 0 0, .slice none 0 0] 27) := ⟨_, rfl⟩
  have B2 : Hid (Below w.heap.size w w2) := by rw [hw2]; exact (box_below _ _).alloc (box_below _ _).size _
  have X2 : Hid (Box4 w2 w.heap.size ⟨aA, nA, cA, aB, nB, cB, aM, nM, cM, aP, nP, cP⟩) := by rw [hw2]; exact (Box4.new w ⟨aA, nA, cA, aB, nB, cB, aM, nM, cM, aP, nP, cP⟩ _ _).below (box_below _ _)
  have G2 : Hid (w2.heap[w.heap.size + 1]? = some (.cells #[.slice none 0 0, .slice none 0 0, .slice none 0 0, .slice none 0 0] 27 (0, 0)) ∧ w2.heap.size = w.heap.size + 2) := by
    have := heap_alloc_new (w.alloc (.cells #[.slice aA nA cA, .slice aB nB cB, .slice aM nM cM, .slice aP nP cP] 27)) (.cells #[.slice none 0 0, .slice none 0 0, .slice none 0 0, .slice none 0 0] 27)
    rw [size_alloc] at this
    rw [hw2]
    exact ⟨this, by rw [size_alloc, size_alloc]⟩
  have HX : Hid (Bk w2 ⟨aA, nA, cA, aB, nB, cB, aM, nM, cM, aP, nP, cP⟩ b) := h.below B2.out
  have HM : Hid (W64 b.M) := h.mul.2.1
  have lA : nA = b.A.length := h.acc.1
  have lB : nB = b.B.length := h.bil.1
  have lM : nM = b.M.length := h.mul.1
  have lP : nP = b.P.length := h.pos.1
  have CA : Hid (∀ u, Below w2.heap.size w2 u → Calls Try.prog 76 #[.slice aA nA cA] u (AccsEnd u b.A)) := fun u hu => copyAccs_any aA nA cA b.A u (HX.out.acc.below hu) (by rw [lA]; exact hs.A)
  have CM : Hid (∀ u, Below w2.heap.size w2 u → Calls Try.prog 78 #[.slice aM nM cM] u (RowEnd u b.M)) := fun u hu => copyList_any aM nM cM b.M u (HX.out.mul.below hu) (by rw [lM]; exact hs.M)
  have CB : Hid (∀ u, Below w2.heap.size w2 u → Calls Try.prog 77 #[.slice aB nB cB] u (RowsEnd u b.B)) := fun u hu => copyRows_any aB nB cB b.B u (HX.out.bil.below hu) (by rw [lB]; exact hs.B) hs.rB
  have CP : Hid (∀ u, Below w2.heap.size w2 u → Calls Try.prog 77 #[.slice aP nP cP] u (RowsEnd u b.P)) := fun u hu => copyRows_any aP nP cP b.P u (HX.out.pos.below hu) (by rw [lP]; exact hs.P) hs.rP
  clear h hs lA lB lM lP
  go_enter Try.func63, Try.ntmps63
  go_wp2
  rw [← hw2]
  clear hw2
  refine region_owes_endN 13 (L := [Fact.is (.pointer (some ⟨w.heap.size, 0, none⟩)),
    Fact.is (.slice aA nA cA),
    Fact.ownR w2.heap.size 53 3 b.A.length (accL b.A),
    Fact.is (.pointer (some ⟨w.heap.size, 1, none⟩)),
    Fact.is (.slice aB nB cB),
    Fact.rows64 w2.heap.size b.B,
    Fact.is (.pointer (some ⟨w.heap.size, 2, none⟩)),
    Fact.is (.slice aM nM cM),
    Fact.ownR w2.heap.size 2 1 b.M.length (b.M.map (Value.int .i64)),
    Fact.is (.pointer (some ⟨w.heap.size, 3, none⟩)),
    Fact.is (.slice aP nP cP),
    Fact.rows64 w2.heap.size b.P,
    Fact.books w2.heap.size b])
    (T := [3, 4, 5, 6, 7, 8, 9, 10, 11, 12, 13, 14, 15]) (by kernel_rfl) rfl rfl (by kernel_rfl) (by kernel_rfl) rfl ?owes ?_
  case owes =>
    simp only [List.take_succ_cons, List.take_zero]
    refine .cons (owes_value fun q u lh => ⟨wants_free rfl, .pointer (some ⟨w.heap.size, 0, none⟩), by have e1 : q.tmps.getD 1 undef = .pointer (some ⟨w.heap.size, 0, none⟩) := lh.old 1 rfl; simp [execOp, Act.eval, e1, go_sem], rfl⟩) ?_
    refine .cons (owes_value fun q u lh => ⟨wants_free rfl, .slice aA nA cA, by have e3 : q.tmps.getD 3 undef = .pointer (some ⟨w.heap.size, 0, none⟩) := lh.dep 0 rfl; obtain ⟨p0, p1, p2, p3⟩ := X2.out.below lh.below; simp [execOp, Act.eval, e3, p0, go_sem], rfl⟩) ?_
    refine .cons (owes_call 76 Try.func76 (by kernel_rfl) (by kernel_rfl) [.tmp 4] #[24] rfl fun q u lh => ⟨wants_free rfl, by have e4 : q.tmps.getD 4 undef = .slice aA nA cA := lh.dep 1 rfl; show Calls Try.prog 76 #[q.tmps.getD 4 undef] u _; rw [e4]; exact accs_fact lh.below.size (CA.out u lh.below)⟩) ?_
    refine .cons (owes_value fun q u lh => ⟨wants_free rfl, .pointer (some ⟨w.heap.size, 1, none⟩), by have e1 : q.tmps.getD 1 undef = .pointer (some ⟨w.heap.size, 0, none⟩) := lh.old 1 rfl; simp [execOp, Act.eval, e1, go_sem], rfl⟩) ?_
    refine .cons (owes_value fun q u lh => ⟨wants_free rfl, .slice aB nB cB, by have e6 : q.tmps.getD 6 undef = .pointer (some ⟨w.heap.size, 1, none⟩) := lh.dep 3 rfl; obtain ⟨p0, p1, p2, p3⟩ := X2.out.below lh.below; simp [execOp, Act.eval, e6, p1, go_sem], rfl⟩) ?_
    refine .cons (owes_call 77 Try.func77 (by kernel_rfl) (by kernel_rfl) [.tmp 7] #[25] rfl fun q u lh => ⟨wants_free rfl, by have e7 : q.tmps.getD 7 undef = .slice aB nB cB := lh.dep 4 rfl; show Calls Try.prog 77 #[q.tmps.getD 7 undef] u _; rw [e7]; exact rows_fact lh.below.size (CB.out u lh.below)⟩) ?_
    refine .cons (owes_value fun q u lh => ⟨wants_free rfl, .pointer (some ⟨w.heap.size, 2, none⟩), by have e1 : q.tmps.getD 1 undef = .pointer (some ⟨w.heap.size, 0, none⟩) := lh.old 1 rfl; simp [execOp, Act.eval, e1, go_sem], rfl⟩) ?_
    refine .cons (owes_value fun q u lh => ⟨wants_free rfl, .slice aM nM cM, by have e9 : q.tmps.getD 9 undef = .pointer (some ⟨w.heap.size, 2, none⟩) := lh.dep 6 rfl; obtain ⟨p0, p1, p2, p3⟩ := X2.out.below lh.below; simp [execOp, Act.eval, e9, p2, go_sem], rfl⟩) ?_
    refine .cons (owes_call 78 Try.func78 (by kernel_rfl) (by kernel_rfl) [.tmp 10] #[22] rfl fun q u lh => ⟨wants_free rfl, by have e10 : q.tmps.getD 10 undef = .slice aM nM cM := lh.dep 7 rfl; show Calls Try.prog 78 #[q.tmps.getD 10 undef] u _; rw [e10]; exact row_fact lh.below.size (CM.out u lh.below)⟩) ?_
    refine .cons (owes_value fun q u lh => ⟨wants_free rfl, .pointer (some ⟨w.heap.size, 3, none⟩), by have e1 : q.tmps.getD 1 undef = .pointer (some ⟨w.heap.size, 0, none⟩) := lh.old 1 rfl; simp [execOp, Act.eval, e1, go_sem], rfl⟩) ?_
    refine .cons (owes_value fun q u lh => ⟨wants_free rfl, .slice aP nP cP, by have e12 : q.tmps.getD 12 undef = .pointer (some ⟨w.heap.size, 3, none⟩) := lh.dep 9 rfl; obtain ⟨p0, p1, p2, p3⟩ := X2.out.below lh.below; simp [execOp, Act.eval, e12, p3, go_sem], rfl⟩) ?_
    refine .cons (owes_call 77 Try.func77 (by kernel_rfl) (by kernel_rfl) [.tmp 13] #[25] rfl fun q u lh => ⟨wants_free rfl, by have e13 : q.tmps.getD 13 undef = .slice aP nP cP := lh.dep 10 rfl; show Calls Try.prog 77 #[q.tmps.getD 13 undef] u _; rw [e13]; exact rows_fact lh.below.size (CP.out u lh.below)⟩) ?_
    refine .cons (owes_value fun q u lh => by obtain ⟨x, e5, e8, e11, e14, hn⟩ := books_of HM.out (lh.dep 2 rfl) (lh.dep 5 rfl) (lh.dep 8 rfl) (lh.dep 11 rfl); exact ⟨wants_free rfl, x.val, by have e5 : q.tmps[5]?.getD undef = _ := (Array.getD_eq_getD_getElem? ..).symm.trans e5; have e8 : q.tmps[8]?.getD undef = _ := (Array.getD_eq_getD_getElem? ..).symm.trans e8; have e11 : q.tmps[11]?.getD undef = _ := (Array.getD_eq_getD_getElem? ..).symm.trans e11; have e14 : q.tmps[14]?.getD undef = _ := (Array.getD_eq_getD_getElem? ..).symm.trans e14; simp [execOp, Act.eval, e5, e8, e11, e14, go_sem], ⟨x, rfl, hn⟩⟩) ?_
    exact .nil _
  intro q u hb hsz hdf hold hfact
  obtain ⟨v5, e5⟩ : ∃ v, q.tmps.getD 5 undef = v := ⟨_, rfl⟩
  have f5 : (Fact.ownR w2.heap.size 53 3 b.A.length (accL b.A)).1 u v5 := by rw [← e5]; exact hfact 2 (by decide)
  obtain ⟨v8, e8⟩ : ∃ v, q.tmps.getD 8 undef = v := ⟨_, rfl⟩
  have f8 : (Fact.rows64 w2.heap.size b.B).1 u v8 := by rw [← e8]; exact hfact 5 (by decide)
  obtain ⟨v11, e11⟩ : ∃ v, q.tmps.getD 11 undef = v := ⟨_, rfl⟩
  have f11 : (Fact.ownR w2.heap.size 2 1 b.M.length (b.M.map (Value.int .i64))).1 u v11 := by rw [← e11]; exact hfact 8 (by decide)
  obtain ⟨v14, e14⟩ : ∃ v, q.tmps.getD 14 undef = v := ⟨_, rfl⟩
  have f14 : (Fact.rows64 w2.heap.size b.P).1 u v14 := by rw [← e14]; exact hfact 11 (by decide)
  obtain ⟨v15, e15⟩ : ∃ v, q.tmps.getD 15 undef = v := ⟨_, rfl⟩
  have f15 : (Fact.books w2.heap.size b).1 u v15 := by rw [← e15]; exact hfact 12 (by decide)
  have f : ∃ y : BA, v15 = y.val ∧ NewBk u w2.heap.size y b := f15
  clear f15
  obtain ⟨y, hy, hn⟩ := f
  subst hy
  obtain ⟨yA, mA, eA, yB, mB, eB, yM, mM, eM, yP, mP, eP⟩ := y
  obtain rfl := frame_puts hsz hdf [3, 4, 5, 6, 7, 8, 9, 10, 11, 12, 13, 14, 15] hold [(3, Value.pointer (some ⟨w.heap.size, 0, none⟩)), (4, Value.slice aA nA cA), (5, v5), (6, Value.pointer (some ⟨w.heap.size, 1, none⟩)), (7, Value.slice aB nB cB), (8, v8), (9, Value.pointer (some ⟨w.heap.size, 2, none⟩)), (10, Value.slice aM nM cM), (11, v11), (12, Value.pointer (some ⟨w.heap.size, 3, none⟩)), (13, Value.slice aP nP cP), (14, v14), (15, BA.val ⟨yA, mA, eA, yB, mB, eB, yM, mM, eM, yP, mP, eP⟩)] ⟨hfact 0 (by decide), hfact 1 (by decide), e5, hfact 3 (by decide), hfact 4 (by decide), e8, hfact 6 (by decide), hfact 7 (by decide), e11, hfact 9 (by decide), hfact 10 (by decide), e14, e15, trivial⟩ rfl
  clear hsz hdf hold hfact
  have hg : u.heap[w.heap.size + 1]? = some (.cells #[.slice none 0 0, .slice none 0 0, .slice none 0 0, .slice none 0 0] 27 (0, 0)) := (hb.block _ (by rw [G2.out.2]; omega)).trans G2.out.1
  have R : Hid (BooksEnd w b (.returned (BA.val ⟨yA, mA, eA, yB, mB, eB, yM, mM, eM, yP, mP, eP⟩)) (u.setRow (w.heap.size + 1) #[.slice yA mA eA, .slice yB mB eB, .slice yM mM eM, .slice yP mP eP])) := by
    refine ⟨_, rfl, (hn.kept ?_).base B2.out.size, below_setRow (B2.out.trans (hb.mono B2.out.size)) (by omega) _⟩
    intro k hk
    have hk : w2.heap.size ≤ k := hk
    rw [G2.out.2] at hk
    exact setRow_other u (w.heap.size + 1) k _ (by omega)
  have D : Hid (Box4 (u.setRow (w.heap.size + 1) #[.slice yA mA eA, .slice yB mB eB, .slice yM mM eM, .slice yP mP eP]) (w.heap.size + 1) ⟨yA, mA, eA, yB, mB, eB, yM, mM, eM, yP, mP, eP⟩) := by
    have hr := setRow_heap u (w.heap.size + 1) _ #[.slice yA mA eA, .slice yB mB eB, .slice yM mM eM, .slice yP mP eP] _ _ hg
    refine ⟨?_, ?_, ?_, ?_⟩ <;> (rw [cell_of_row _ _ _ _ _ _ hr]; rfl)
  simp only [puts, Act.put, List.setIfInBounds_toArray, List.set_cons_zero, List.set_cons_succ]
  refine wp_store_row 27 (.tmp 2) (.tmp 15) rfl (w.heap.size + 1) #[.slice yA mA eA, .slice yB mB eB, .slice yM mM eM, .slice yP mP eP] rfl rfl _ _ hg booksSize (by simp) (by simp [Value.oneCell']) ?_
  generalize u.setRow (w.heap.size + 1) #[.slice yA mA eA, .slice yB mB eB, .slice yM mM eM, .slice yP mP eP] = w4 at R D ⊢
  obtain ⟨d0, d1, d2, d3⟩ := D.out
  clear hg hn hb G2 X2 B2
  go_wp2
  exact bodyPost_ret (v := BA.val ⟨yA, mA, eA, yB, mB, eB, yM, mM, eM, yP, mP, eP⟩) (by simp [results, Try.results63, d0, d1, d2, d3, go_sem]) rfl R.out

set_option maxHeartbeats 4000000 in
set_option maxRecDepth 100000 in
theorem refCopy_any (x : BA) (b : Bks) (w : World) (h : Bk w x b) (hs : Small b) : Calls Try.prog 45 #[x.val] w (BooksEnd w b) := by
  obtain ⟨aA, nA, cA, aB, nB, cB, aM, nM, cM, aP, nP, cP⟩ := x
  obtain ⟨w2, hw2⟩ : ∃ w2, w2 = (w.alloc (.cells #[.slice aA nA cA, .slice aB nB cB, .slice aM nM cM, .slice aP nP cP] 27)).alloc (.cells #[.slice none 0 0, .slice none 0 0, .slice none 0 0, .slice none 0 0] 27) := ⟨_, rfl⟩
  have B2 : Hid (Below w.heap.size w w2) := by rw [hw2]; exact (box_below _ _).alloc (box_below _ _).size _
  have X2 : Hid (Box4 w2 w.heap.size ⟨aA, nA, cA, aB, nB, cB, aM, nM, cM, aP, nP, cP⟩) := by rw [hw2]; exact (Box4.new w ⟨aA, nA, cA, aB, nB, cB, aM, nM, cM, aP, nP, cP⟩ _ _).below (box_below _ _)
  have G2 : Hid (w2.heap[w.heap.size + 1]? = some (.cells #[.slice none 0 0, .slice none 0 0, .slice none 0 0, .slice none 0 0] 27 (0, 0)) ∧ w2.heap.size = w.heap.size + 2) := by
    have := heap_alloc_new (w.alloc (.cells #[.slice aA nA cA, .slice aB nB cB, .slice aM nM cM, .slice aP nP cP] 27)) (.cells #[.slice none 0 0, .slice none 0 0, .slice none 0 0, .slice none 0 0] 27)
    rw [size_alloc] at this
    rw [hw2]
    exact ⟨this, by rw [size_alloc, size_alloc]⟩
  have HX : Hid (Bk w2 ⟨aA, nA, cA, aB, nB, cB, aM, nM, cM, aP, nP, cP⟩ b) := h.below B2.out
  have HM : Hid (W64 b.M) := h.mul.2.1
  have lA : nA = b.A.length := h.acc.1
  have lB : nB = b.B.length := h.bil.1
  have lM : nM = b.M.length := h.mul.1
  have lP : nP = b.P.length := h.pos.1
  obtain ⟨i0, hi, hz0, hz1, hz2⟩ := info_parts infoI64
  obtain ⟨k0, hk, hx0, hx1, hx2⟩ := info_parts infoAcct
  have hnA : nA ≤ 1000000 := by rw [lA]; exact hs.A
  have hnM : nM ≤ 1000000 := by rw [lM]; exact hs.M
  have HLA : Hid (nA = b.A.length) := lA
  have HLM : Hid (nM = b.M.length) := lM
  have HA : Hid ((accL b.A).length = nA * 3 ∧ (0 < nA → ∃ x, aA = some x ∧ ∀ j v, (accL b.A)[j]? = some v → w2.cell? (x.add j) = some v) ∧ (aA = none → nA = 0 ∧ cA = 0)) := by
    refine ⟨by rw [accL_length, lA], fun h0 => HX.out.acc.src h0, fun hn => ⟨?_, HX.out.oA hn⟩⟩
    rcases Nat.eq_zero_or_pos nA with h0 | h0
    · exact h0
    · obtain ⟨x, hx, _⟩ := HX.out.acc.src h0
      rw [show aA = some x from hx] at hn
      simp at hn
  have HMM : Hid ((b.M.map (Value.int .i64)).length = nM * 1 ∧ (0 < nM → ∃ x, aM = some x ∧ ∀ j v, (b.M.map (Value.int .i64))[j]? = some v → w2.cell? (x.add j) = some v) ∧ (aM = none → nM = 0 ∧ cM = 0)) := by
    have key : 0 < nM → ∃ x, aM = some x ∧ ∀ j v, (b.M.map (Value.int .i64))[j]? = some v → w2.cell? (x.add j) = some v := fun h0 => HX.out.mul.src (by rw [List.length_map, ← lM]; exact h0)
    refine ⟨by rw [List.length_map, lM, Nat.mul_one], key, fun hn => ⟨?_, HX.out.oM hn⟩⟩
    rcases Nat.eq_zero_or_pos nM with h0 | h0
    · exact h0
    · obtain ⟨x, hx, _⟩ := key h0
      rw [hx] at hn
      simp at hn
  have CB : Hid (∀ u, Below w2.heap.size w2 u → Calls Try.prog 68 #[.slice aB nB cB] u (RowsEnd u b.B)) := fun u hu => refCopyRows_any aB nB cB b.B u (HX.out.bil.below hu) (by rw [lB]; exact hs.B) hs.rB
  have CP : Hid (∀ u, Below w2.heap.size w2 u → Calls Try.prog 68 #[.slice aP nP cP] u (RowsEnd u b.P)) := fun u hu => refCopyRows_any aP nP cP b.P u (HX.out.pos.below hu) (by rw [lP]; exact hs.P) hs.rP
  clear h hs lA lB lM lP
  go_enter Try.func45, Try.ntmps45
  go_wp2
  rw [← hw2]
  clear hw2
  refine region_owes_endN 15 (L := [Fact.lit0 w2.heap.size 53 3,
    Fact.is (.pointer (some ⟨w.heap.size, 0, none⟩)),
    Fact.is (.slice aA nA cA),
    Fact.ownR w2.heap.size 53 3 nA (accL b.A),
    Fact.is (.pointer (some ⟨w.heap.size, 1, none⟩)),
    Fact.is (.slice aB nB cB),
    Fact.rows64 w2.heap.size b.B,
    Fact.lit0 w2.heap.size 2 1,
    Fact.is (.pointer (some ⟨w.heap.size, 2, none⟩)),
    Fact.is (.slice aM nM cM),
    Fact.ownR w2.heap.size 2 1 nM (b.M.map (Value.int .i64)),
    Fact.is (.pointer (some ⟨w.heap.size, 3, none⟩)),
    Fact.is (.slice aP nP cP),
    Fact.rows64 w2.heap.size b.P,
    Fact.books w2.heap.size b])
    (T := [3, 4, 5, 6, 7, 8, 9, 10, 11, 12, 13, 14, 15, 16, 17]) (by kernel_rfl) rfl rfl (by kernel_rfl) (by kernel_rfl) rfl ?owes ?_
  case owes =>
    simp only [List.take_succ_cons, List.take_zero]
    refine .cons (owes_make fun q u lh => ⟨wants_free rfl, .slice (some ⟨u.heap.size, 0, none⟩) 0 0, u.alloc (.cells #[] 53), by simp [execOp, Act.eval, go_sem], box_below _ _, ⟨u.heap.size, rfl, own_lit3 lh.below.size⟩⟩) ?_
    refine .cons (owes_value fun q u lh => ⟨wants_free rfl, .pointer (some ⟨w.heap.size, 0, none⟩), by have e1 : q.tmps.getD 1 undef = .pointer (some ⟨w.heap.size, 0, none⟩) := lh.old 1 rfl; simp [execOp, Act.eval, e1, go_sem], rfl⟩) ?_
    refine .cons (owes_value fun q u lh => ⟨wants_free rfl, .slice aA nA cA, by have e4 : q.tmps.getD 4 undef = .pointer (some ⟨w.heap.size, 0, none⟩) := lh.dep 1 rfl; obtain ⟨p0, p1, p2, p3⟩ := X2.out.below lh.below; simp [execOp, Act.eval, e4, p0, go_sem], rfl⟩) ?_
    refine .cons (owes_append_new 24 53 w2.heap.size 3 5 0 2 nA cA 3 k0 _ 24 (accL b.A) aA rfl rfl rfl rfl rfl rfl rfl rfl HA.out.1 HA.out.2.1 HA.out.2.2 (Nat.le_refl _) Try.underlying24 hk hx0 hx1 hx2 rfl (by decide) (by unfold maxLen; omega) (by omega) fun q u lh => wants_free rfl) ?_
    refine .cons (owes_value fun q u lh => ⟨wants_free rfl, .pointer (some ⟨w.heap.size, 1, none⟩), by have e1 : q.tmps.getD 1 undef = .pointer (some ⟨w.heap.size, 0, none⟩) := lh.old 1 rfl; simp [execOp, Act.eval, e1, go_sem], rfl⟩) ?_
    refine .cons (owes_value fun q u lh => ⟨wants_free rfl, .slice aB nB cB, by have e7 : q.tmps.getD 7 undef = .pointer (some ⟨w.heap.size, 1, none⟩) := lh.dep 4 rfl; obtain ⟨p0, p1, p2, p3⟩ := X2.out.below lh.below; simp [execOp, Act.eval, e7, p1, go_sem], rfl⟩) ?_
    refine .cons (owes_call 68 Try.func68 (by kernel_rfl) (by kernel_rfl) [.tmp 8] #[25] rfl fun q u lh => ⟨wants_free rfl, by have e8 : q.tmps.getD 8 undef = .slice aB nB cB := lh.dep 5 rfl; show Calls Try.prog 68 #[q.tmps.getD 8 undef] u _; rw [e8]; exact rows_fact lh.below.size (CB.out u lh.below)⟩) ?_
    refine .cons (owes_make fun q u lh => ⟨wants_free rfl, .slice (some ⟨u.heap.size, 0, none⟩) 0 0, u.alloc (.cells #[] 2), by simp [execOp, Act.eval, go_sem], box_below _ _, ⟨u.heap.size, rfl, World.ownsRow_lit u #[] 0 lh.below.size (by decide) rfl⟩⟩) ?_
    refine .cons (owes_value fun q u lh => ⟨wants_free rfl, .pointer (some ⟨w.heap.size, 2, none⟩), by have e1 : q.tmps.getD 1 undef = .pointer (some ⟨w.heap.size, 0, none⟩) := lh.old 1 rfl; simp [execOp, Act.eval, e1, go_sem], rfl⟩) ?_
    refine .cons (owes_value fun q u lh => ⟨wants_free rfl, .slice aM nM cM, by have e11 : q.tmps.getD 11 undef = .pointer (some ⟨w.heap.size, 2, none⟩) := lh.dep 8 rfl; obtain ⟨p0, p1, p2, p3⟩ := X2.out.below lh.below; simp [execOp, Act.eval, e11, p2, go_sem], rfl⟩) ?_
    refine .cons (owes_append_new 22 2 w2.heap.size 10 12 7 9 nM cM 1 i0 _ 8 (b.M.map (Value.int .i64)) aM rfl rfl rfl rfl rfl rfl rfl rfl HMM.out.1 HMM.out.2.1 HMM.out.2.2 (Nat.le_refl _) Try.underlying22 hi hz0 hz1 hz2 rfl (by decide) (by unfold maxLen; omega) (by omega) fun q u lh => wants_free rfl) ?_
    refine .cons (owes_value fun q u lh => ⟨wants_free rfl, .pointer (some ⟨w.heap.size, 3, none⟩), by have e1 : q.tmps.getD 1 undef = .pointer (some ⟨w.heap.size, 0, none⟩) := lh.old 1 rfl; simp [execOp, Act.eval, e1, go_sem], rfl⟩) ?_
    refine .cons (owes_value fun q u lh => ⟨wants_free rfl, .slice aP nP cP, by have e14 : q.tmps.getD 14 undef = .pointer (some ⟨w.heap.size, 3, none⟩) := lh.dep 11 rfl; obtain ⟨p0, p1, p2, p3⟩ := X2.out.below lh.below; simp [execOp, Act.eval, e14, p3, go_sem], rfl⟩) ?_
    refine .cons (owes_call 68 Try.func68 (by kernel_rfl) (by kernel_rfl) [.tmp 15] #[25] rfl fun q u lh => ⟨wants_free rfl, by have e15 : q.tmps.getD 15 undef = .slice aP nP cP := lh.dep 12 rfl; show Calls Try.prog 68 #[q.tmps.getD 15 undef] u _; rw [e15]; exact rows_fact lh.below.size (CP.out u lh.below)⟩) ?_
    refine .cons (owes_value fun q u lh => by obtain ⟨x, e5, e8, e11, e14, hn⟩ := books_of' HM.out HLA.out HLM.out (lh.dep 3 rfl) (lh.dep 6 rfl) (lh.dep 10 rfl) (lh.dep 13 rfl); exact ⟨wants_free rfl, x.val, by have e6 : q.tmps[6]?.getD undef = _ := (Array.getD_eq_getD_getElem? ..).symm.trans e5; have e9 : q.tmps[9]?.getD undef = _ := (Array.getD_eq_getD_getElem? ..).symm.trans e8; have e13 : q.tmps[13]?.getD undef = _ := (Array.getD_eq_getD_getElem? ..).symm.trans e11; have e16 : q.tmps[16]?.getD undef = _ := (Array.getD_eq_getD_getElem? ..).symm.trans e14; simp [execOp, Act.eval, e6, e9, e13, e16, go_sem], ⟨x, rfl, hn⟩⟩) ?_
    exact .nil _
  intro q u hb hsz hdf hold hfact
  obtain ⟨v3, e3⟩ : ∃ v, q.tmps.getD 3 undef = v := ⟨_, rfl⟩
  have f3 : (Fact.lit0 w2.heap.size 53 3).1 u v3 := by rw [← e3]; exact hfact 0 (by decide)
  obtain ⟨v6, e6⟩ : ∃ v, q.tmps.getD 6 undef = v := ⟨_, rfl⟩
  have f6 : (Fact.ownR w2.heap.size 53 3 nA (accL b.A)).1 u v6 := by rw [← e6]; exact hfact 3 (by decide)
  obtain ⟨v9, e9⟩ : ∃ v, q.tmps.getD 9 undef = v := ⟨_, rfl⟩
  have f9 : (Fact.rows64 w2.heap.size b.B).1 u v9 := by rw [← e9]; exact hfact 6 (by decide)
  obtain ⟨v10, e10⟩ : ∃ v, q.tmps.getD 10 undef = v := ⟨_, rfl⟩
  have f10 : (Fact.lit0 w2.heap.size 2 1).1 u v10 := by rw [← e10]; exact hfact 7 (by decide)
  obtain ⟨v13, e13⟩ : ∃ v, q.tmps.getD 13 undef = v := ⟨_, rfl⟩
  have f13 : (Fact.ownR w2.heap.size 2 1 nM (b.M.map (Value.int .i64))).1 u v13 := by rw [← e13]; exact hfact 10 (by decide)
  obtain ⟨v16, e16⟩ : ∃ v, q.tmps.getD 16 undef = v := ⟨_, rfl⟩
  have f16 : (Fact.rows64 w2.heap.size b.P).1 u v16 := by rw [← e16]; exact hfact 13 (by decide)
  obtain ⟨v17, e17⟩ : ∃ v, q.tmps.getD 17 undef = v := ⟨_, rfl⟩
  have f17 : (Fact.books w2.heap.size b).1 u v17 := by rw [← e17]; exact hfact 14 (by decide)
  have f : ∃ y : BA, v17 = y.val ∧ NewBk u w2.heap.size y b := f17
  clear f17
  obtain ⟨y, hy, hn⟩ := f
  subst hy
  obtain ⟨yA, mA, eA, yB, mB, eB, yM, mM, eM, yP, mP, eP⟩ := y
  obtain rfl := frame_puts hsz hdf [3, 4, 5, 6, 7, 8, 9, 10, 11, 12, 13, 14, 15, 16, 17] hold [(3, v3), (4, Value.pointer (some ⟨w.heap.size, 0, none⟩)), (5, Value.slice aA nA cA), (6, v6), (7, Value.pointer (some ⟨w.heap.size, 1, none⟩)), (8, Value.slice aB nB cB), (9, v9), (10, v10), (11, Value.pointer (some ⟨w.heap.size, 2, none⟩)), (12, Value.slice aM nM cM), (13, v13), (14, Value.pointer (some ⟨w.heap.size, 3, none⟩)), (15, Value.slice aP nP cP), (16, v16), (17, BA.val ⟨yA, mA, eA, yB, mB, eB, yM, mM, eM, yP, mP, eP⟩)] ⟨e3, hfact 1 (by decide), hfact 2 (by decide), e6, hfact 4 (by decide), hfact 5 (by decide), e9, e10, hfact 8 (by decide), hfact 9 (by decide), e13, hfact 11 (by decide), hfact 12 (by decide), e16, e17, trivial⟩ rfl
  clear hsz hdf hold hfact
  have hg : u.heap[w.heap.size + 1]? = some (.cells #[.slice none 0 0, .slice none 0 0, .slice none 0 0, .slice none 0 0] 27 (0, 0)) := (hb.block _ (by rw [G2.out.2]; omega)).trans G2.out.1
  have R : Hid (BooksEnd w b (.returned (BA.val ⟨yA, mA, eA, yB, mB, eB, yM, mM, eM, yP, mP, eP⟩)) (u.setRow (w.heap.size + 1) #[.slice yA mA eA, .slice yB mB eB, .slice yM mM eM, .slice yP mP eP])) := by
    refine ⟨_, rfl, (hn.kept ?_).base B2.out.size, below_setRow (B2.out.trans (hb.mono B2.out.size)) (by omega) _⟩
    intro k hk
    have hk : w2.heap.size ≤ k := hk
    rw [G2.out.2] at hk
    exact setRow_other u (w.heap.size + 1) k _ (by omega)
  have D : Hid (Box4 (u.setRow (w.heap.size + 1) #[.slice yA mA eA, .slice yB mB eB, .slice yM mM eM, .slice yP mP eP]) (w.heap.size + 1) ⟨yA, mA, eA, yB, mB, eB, yM, mM, eM, yP, mP, eP⟩) := by
    have hr := setRow_heap u (w.heap.size + 1) _ #[.slice yA mA eA, .slice yB mB eB, .slice yM mM eM, .slice yP mP eP] _ _ hg
    refine ⟨?_, ?_, ?_, ?_⟩ <;> (rw [cell_of_row _ _ _ _ _ _ hr]; rfl)
  simp only [puts, Act.put, List.setIfInBounds_toArray, List.set_cons_zero, List.set_cons_succ]
  refine wp_store_row 27 (.tmp 2) (.tmp 17) rfl (w.heap.size + 1) #[.slice yA mA eA, .slice yB mB eB, .slice yM mM eM, .slice yP mP eP] rfl rfl _ _ hg booksSize (by simp) (by simp [Value.oneCell']) ?_
  generalize u.setRow (w.heap.size + 1) #[.slice yA mA eA, .slice yB mB eB, .slice yM mM eM, .slice yP mP eP] = w4 at R D ⊢
  obtain ⟨d0, d1, d2, d3⟩ := D.out
  clear hg hn hb G2 X2 B2
  go_wp2
  exact bodyPost_ret (v := BA.val ⟨yA, mA, eA, yB, mB, eB, yM, mM, eM, yP, mP, eP⟩) (by simp [results, Try.results45, d0, d1, d2, d3, go_sem]) rfl R.out

end Go.Proofs.Ytlackjldopeigaa

/-
  What books may be: plain facts of lists.
-/
namespace Go.Proofs.Ytlackjldopeigaa
open Go.RowKit
set_option linter.unusedVariables false
set_option linter.unusedSimpArgs false

/-- May it be a limit? -/
def limB (v : Int) : Bool := decide (-1 ≤ v ∧ v ≤ 2305843009213693952)
/-- A position? -/
def posB (v : Int) : Bool := decide (-72057594037927936 < v ∧ v < 72057594037927936)
theorem limB_rest {v : Int} (h : 0 ≤ v) : decide (v ≤ 2305843009213693952) = limB v := by unfold limB; simp only [decide_eq_decide]; omega
theorem limB_rest' {v : Int} (h : -1 ≤ v) : decide (v ≤ 2305843009213693952) = limB v := by unfold limB; simp only [decide_eq_decide]; omega
theorem limB_low {v : Int} (h : v < -1) : false = limB v := by unfold limB; symm; rw [decide_eq_false_iff_not]; omega
theorem posB_low {v : Int} (h : v ≤ -72057594037927936) : false = posB v := by unfold posB; symm; rw [decide_eq_false_iff_not]; omega
theorem posB_rest {v : Int} (h : -72057594037927936 < v) : decide (v < 72057594037927936) = posB v := by unfold posB; simp only [decide_eq_decide]; omega
theorem posB_yes {v : Int} (h : posB v = true) : -72057594037927936 < v ∧ v < 72057594037927936 := by unfold posB at h; exact of_decide_eq_true h
theorem posB_mk {v : Int} (h : -72057594037927936 < v) (k : v < 72057594037927936) : posB v = true := by unfold posB; exact decide_eq_true ⟨h, k⟩

/-- n rows of n. -/
def squareB (R : List (List Int)) (n : Nat) : Bool := decide (R.length = n) && R.all (fun z => decide (z.length = n))
/-- The number at i, k. -/
def at2 (R : List (List Int)) (i k : Nat) : Int := (R.getD i []).getD k 0
/-- Each is the one that it mirrors, turned round. -/
def turnB (R : List (List Int)) : Bool := (List.range R.length).all fun i => (List.range R.length).all fun k => decide (at2 R i k = -at2 R k i)
def cellB (b : Bks) (i k : Nat) : Bool := limB (at2 b.B i k) && (posB (at2 b.P i k) && decide (at2 b.P i k = -at2 b.P k i))
def acctAt (A : List A3) (i : Nat) : Bool := acctB (A.getD i a30).1 (A.getD i a30).2.1 (A.getD i a30).2.2
def rowB (b : Bks) (n i : Nat) : Bool := acctAt b.A i && (limB (b.M.getD i 0) && (List.range n).all (cellB b i))
/-- Are they books? -/
def booksB (b : Bks) : Bool := decide (1 ≤ b.A.length ∧ b.A.length ≤ 6) && (squareB b.B b.A.length && (squareB b.P b.A.length && (decide (b.M.length = b.A.length) && (List.range b.A.length).all (rowB b b.A.length))))

/-- What makes books. -/
structure Good (b : Bks) : Prop where
  n1 : 1 ≤ b.A.length
  n6 : b.A.length ≤ 6
  acc : ∀ i, i < b.A.length → acctAt b.A i = true
  bil : b.B.length = b.A.length
  bils : ∀ i, i < b.A.length → (b.B.getD i []).length = b.A.length
  lim : ∀ i k, i < b.A.length → k < b.A.length → limB (at2 b.B i k) = true
  mul : b.M.length = b.A.length
  muls : ∀ i, i < b.A.length → limB (b.M.getD i 0) = true
  pos : b.P.length = b.A.length
  poss : ∀ i, i < b.A.length → (b.P.getD i []).length = b.A.length
  may : ∀ i k, i < b.A.length → k < b.A.length → posB (at2 b.P i k) = true
  turn : ∀ i k, i < b.A.length → k < b.A.length → at2 b.P i k = -at2 b.P k i

theorem all_at {α : Type} {l : List α} {d : α} {p : α → Bool} : l.all p = true ↔ ∀ i, i < l.length → p (l.getD i d) = true := by
  rw [List.all_eq_true]
  constructor
  · intro h i hi
    exact h _ (by simp [List.getD_eq_getElem?_getD, hi])
  · intro h x hx
    obtain ⟨i, hi, rfl⟩ := List.getElem_of_mem hx
    have := h i hi
    simpa [List.getD_eq_getElem?_getD, hi] using this
theorem squareB_yes {R : List (List Int)} {n : Nat} : squareB R n = true ↔ R.length = n ∧ ∀ i, i < n → (R.getD i []).length = n := by
  unfold squareB
  rw [Bool.and_eq_true, decide_eq_true_iff, all_at (d := [])]
  constructor
  · rintro ⟨h1, h2⟩
    exact ⟨h1, fun i hi => of_decide_eq_true (h2 i (by omega))⟩
  · rintro ⟨h1, h2⟩
    exact ⟨h1, fun i hi => decide_eq_true (h2 i (by omega))⟩
theorem range_all {n : Nat} {p : Nat → Bool} : (List.range n).all p = true ↔ ∀ i, i < n → p i = true := by
  rw [List.all_eq_true]
  simp only [List.mem_range]
theorem booksB_yes {b : Bks} : booksB b = true ↔ Good b := by
  unfold booksB
  simp only [Bool.and_eq_true, decide_eq_true_iff, squareB_yes, range_all, rowB, cellB]
  constructor
  · rintro ⟨⟨h1, h2⟩, ⟨h3, h4⟩, ⟨h5, h6⟩, h7, h8⟩
    exact ⟨h1, h2, fun i hi => (h8 i hi).1, h3, h4, fun i k hi hk => ((h8 i hi).2.2 k hk).1, h7, fun i hi => (h8 i hi).2.1, h5, h6, fun i k hi hk => ((h8 i hi).2.2 k hk).2.1, fun i k hi hk => ((h8 i hi).2.2 k hk).2.2⟩
  · intro h
    exact ⟨⟨h.n1, h.n6⟩, ⟨h.bil, h.bils⟩, ⟨h.pos, h.poss⟩, h.mul, fun i hi => ⟨h.acc i hi, h.muls i hi, fun k hk => ⟨h.lim i k hi hk, h.may i k hi hk, h.turn i k hi hk⟩⟩⟩

/-- The same, as the program asks it. -/
def booksC (b : Bks) : Bool := decide (0 < (b.A.length : Int)) && (partB b.A.length && ((b.A.all fun x => acctB x.1 x.2.1 x.2.2) && (squareB b.B b.A.length && ((b.B.all fun z => z.all limB) && (decide (b.M.length = b.A.length) && (b.M.all limB && (squareB b.P b.A.length && ((b.P.all fun z => z.all posB) && turnB b.P))))))))
theorem booksC_eq (b : Bks) : booksC b = booksB b := by
  rw [Bool.eq_iff_iff, booksB_yes]
  unfold booksC
  simp only [Bool.and_eq_true, decide_eq_true_iff, squareB_yes]
  constructor
  · rintro ⟨h1, h2, h3, ⟨h4, h5⟩, h6, h7, h8, ⟨h9, h10⟩, h11, h12⟩
    have hn : 0 ≤ (b.A.length : Int) ∧ (b.A.length : Int) ≤ 6 := of_decide_eq_true h2
    rw [all_at (d := a30)] at h3
    rw [all_at (d := [])] at h6 h11
    rw [all_at (d := 0)] at h8
    refine ⟨by omega, by omega, h3, h4, h5, ?_, h7, fun i hi => h8 i (by omega), h9, h10, ?_, ?_⟩
    · intro i k hi hk
      have := h6 i (by omega)
      rw [all_at (d := 0)] at this
      exact this k (by rw [h5 i hi]; exact hk)
    · intro i k hi hk
      have := h11 i (by omega)
      rw [all_at (d := 0)] at this
      exact this k (by rw [h10 i hi]; exact hk)
    · intro i k hi hk
      unfold turnB at h12
      rw [range_all] at h12
      have := h12 i (by omega)
      rw [range_all] at this
      exact of_decide_eq_true (this k (by omega))
  · intro h
    have h1 := h.n1
    have h6 := h.n6
    refine ⟨by omega, decide_eq_true ⟨by omega, by omega⟩, ?_, ⟨h.bil, h.bils⟩, ?_, h.mul, ?_, ⟨h.pos, h.poss⟩, ?_, ?_⟩
    · rw [all_at (d := a30)]
      exact h.acc
    · rw [all_at (d := [])]
      intro i hi
      rw [all_at (d := 0)]
      intro k hk
      rw [h.bil] at hi
      rw [h.bils i hi] at hk
      exact h.lim i k hi hk
    · rw [all_at (d := 0)]
      intro i hi
      exact h.muls i (by rw [← h.mul]; exact hi)
    · rw [all_at (d := [])]
      intro i hi
      rw [all_at (d := 0)]
      intro k hk
      rw [h.pos] at hi
      rw [h.poss i hi] at hk
      exact h.may i k hi hk
    · unfold turnB
      rw [range_all]
      intro i hi
      rw [range_all]
      intro k hk
      rw [h.pos] at hi hk
      exact decide_eq_true (h.turn i k hi hk)

theorem all_snoc {α : Type} {l : List α} {d : α} {p : α → Bool} {k : Nat} (h : k < l.length) (ha : (l.take k).all p = true) (hp : p (l.getD k d) = true) : (l.take (k + 1)).all p = true := by
  rw [take_snocA l d k h, List.all_append, ha, List.all_cons, List.all_nil, hp]; rfl
theorem all_no {α : Type} {l : List α} {d : α} {p : α → Bool} {k : Nat} (h : k < l.length) (hp : p (l.getD k d) = false) : false = l.all p := by
  symm
  rw [Bool.eq_false_iff]
  intro ha
  rw [all_at (d := d)] at ha
  rw [ha k h] at hp
  exact Bool.noConfusion hp
theorem all_take {α : Type} {l : List α} {p : α → Bool} (h : (l.take l.length).all p = true) : true = l.all p := by rw [List.take_length] at h; exact h.symm

end Go.Proofs.Ytlackjldopeigaa

/-
  lim: is each of a list such: one theorem for each list and each function that is handed in.
-/
namespace Go.Proofs.Ytlackjldopeigaa
open Go.RowKit
set_option linter.unusedVariables false
set_option linter.unusedSimpArgs false

theorem limitF_any (v : Int) (w : World) : Calls Try.prog 100 #[.int .i64 v] w fun e w' => e = .returned (.bool (limB v)) ∧ w' = w := by
  rcases Int.lt_or_le v 0 with h | h
  · by_cases h1 : v = -1
    · subst h1
      go_enter Try.func100, Try.ntmps100
      go_wp2
      go_ret
      exact ⟨rt_bool (by decide), rfl⟩
    · have h2 : (v == -1) = false := by simp [h1]
      have HL : Hid (v < -1) := by show v < -1; omega
      clear h1
      go_enter Try.func100, Try.ntmps100
      go_wp2
      go_ret
      exact ⟨rt_bool (limB_low HL.out), rfl⟩
  · have h2 : (v == -1) = false := by rw [beq_eq_false_iff_ne]; omega
    go_enter Try.func100, Try.ntmps100
    go_wp2
    go_ret
    exact ⟨rt_bool (limB_rest h), rfl⟩

theorem posF_any (v : Int) (w : World) : Calls Try.prog 101 #[.int .i64 v] w fun e w' => e = .returned (.bool (posB v)) ∧ w' = w := by
  rcases Int.lt_or_le (-72057594037927936) v with h | h
  · go_enter Try.func101, Try.ntmps101
    go_wp2
    go_ret
    exact ⟨rt_bool (posB_rest h), rfl⟩
  · go_enter Try.func101, Try.ntmps101
    go_wp2
    go_ret
    exact ⟨rt_bool (posB_low h), rfl⟩

theorem rowF_any (x : Option Addr) (l d g n : Nat) (w : World) (h : w.cell? ⟨g, 0, none⟩ = some (.int .i64 n)) : Calls Try.prog 98 #[.slice x l d, .pointer (some ⟨g, 0, none⟩)] w fun e w' => e = .returned (.bool (decide (l = n))) ∧ w' = w := by
  by_cases hl : l = n
  · subst hl
    go_enter Try.func98, Try.ntmps98
    go_wp2
    go_ret
    exact ⟨rt_bool (by simp), rfl⟩
  · have h' : ((l : Int) == (n : Int)) = false := by rw [beq_eq_false_iff_ne]; omega
    rw [decide_eq_false hl]
    clear hl
    go_enter Try.func98, Try.ntmps98
    go_wp2
    go_ret
    exact ⟨rfl, rfl⟩

theorem evLim_none (a : Option Addr) (c : Nat) (w : World) : Calls Try.prog 99 #[.slice a 0 c, .func (.func 100) #[] #[]] w fun e w' => e = .returned (.bool true) ∧ w' = w := by
  go_enter Try.func99, Try.ntmps99
  go_wp2
  refine wp_loop_rounds 1 ?_
  rw [rounds_succ]
  go_wp2
  go_ret
  exact ⟨rfl, rfl⟩

set_option maxHeartbeats 1000000 in
theorem evLim_row (b off c : Nat) (zs : List Int) (w : World) (hm : zs.length ≤ 9223372036854775807) (hc : ∀ i, i < zs.length → w.cell? ⟨b, off + i, none⟩ = some (.int .i64 (zs.getD i 0))) :
    Calls Try.prog 99 #[.slice (some ⟨b, off, none⟩) zs.length c, .func (.func 100) #[] #[]] w fun e w' => e = .returned (.bool (zs.all limB)) ∧ w' = w := by
  go_enter Try.func99, Try.ntmps99
  go_wp2
  go_loop [9] (fun i => ∃ k : Nat, k ≤ zs.length ∧ i = .int .i64 k ∧ (zs.take k).all limB = true) (fun i => zs.length - (intOf i).toNat)
  case atStart => exact ⟨0, by omega, rfl, by simp⟩
  case round =>
    obtain ⟨k, hk, rfl, ha⟩ := hrel
    have HA : Hid ((zs.take k).all limB = true) := ha
    clear ha
    by_cases hlt : k < zs.length
    · have c1 := hc k hlt
      obtain ⟨x, hx⟩ : ∃ x, zs.getD k 0 = x := ⟨_, rfl⟩
      rw [hx] at c1
      have E := limitF_any x
      obtain ⟨q, hq⟩ : ∃ q, limB x = q := ⟨_, rfl⟩
      rw [hq] at E
      have HQ : Hid (limB (zs.getD k 0) = q) := by rw [hx]; exact hq
      have i1 : (k : Int) < (zs.length : Int) := by omega
      clear hx hq hc
      go_wp2_with fail
      go_at_call 100
      refine (E _).mono ?_
      rintro e w1 ⟨rfl, hw⟩
      obtain rfl := hw.symm
      cases q
      · go_wp2
        go_ret
        exact ⟨rt_bool (all_no hlt HQ.out), rfl⟩
      · go_wp2
        go_round
        case rel => exact ⟨k + 1, by omega, by go_num, all_snoc hlt HA.out HQ.out⟩
        case measure => simp [intOf]; omega
    · obtain rfl : k = zs.length := by omega
      clear hc
      go_wp2
      go_ret
      exact ⟨rt_bool (all_take HA.out), rfl⟩

theorem evLim_any (a : Option Addr) (n c : Nat) (zs : List Int) (w : World) (h : Sl .i64 w a n zs) (hm : n ≤ 9223372036854775807) :
    Calls Try.prog 99 #[.slice a n c, .func (.func 100) #[] #[]] w fun e w' => e = .returned (.bool (zs.all limB)) ∧ w' = w := by
  have l1 := h.1
  subst l1
  rcases h.2.2 with h0 | ⟨b, off, rfl, hc⟩
  · subst h0
    refine (evLim_none a c w).mono ?_
    rintro e w' ⟨rfl, rfl⟩
    exact ⟨by simp, rfl⟩
  · exact evLim_row b off c zs w hm hc

theorem evPos_none (a : Option Addr) (c : Nat) (w : World) : Calls Try.prog 99 #[.slice a 0 c, .func (.func 101) #[] #[]] w fun e w' => e = .returned (.bool true) ∧ w' = w := by
  go_enter Try.func99, Try.ntmps99
  go_wp2
  refine wp_loop_rounds 1 ?_
  rw [rounds_succ]
  go_wp2
  go_ret
  exact ⟨rfl, rfl⟩

set_option maxHeartbeats 1000000 in
theorem evPos_row (b off c : Nat) (zs : List Int) (w : World) (hm : zs.length ≤ 9223372036854775807) (hc : ∀ i, i < zs.length → w.cell? ⟨b, off + i, none⟩ = some (.int .i64 (zs.getD i 0))) :
    Calls Try.prog 99 #[.slice (some ⟨b, off, none⟩) zs.length c, .func (.func 101) #[] #[]] w fun e w' => e = .returned (.bool (zs.all posB)) ∧ w' = w := by
  go_enter Try.func99, Try.ntmps99
  go_wp2
  go_loop [9] (fun i => ∃ k : Nat, k ≤ zs.length ∧ i = .int .i64 k ∧ (zs.take k).all posB = true) (fun i => zs.length - (intOf i).toNat)
  case atStart => exact ⟨0, by omega, rfl, by simp⟩
  case round =>
    obtain ⟨k, hk, rfl, ha⟩ := hrel
    have HA : Hid ((zs.take k).all posB = true) := ha
    clear ha
    by_cases hlt : k < zs.length
    · have c1 := hc k hlt
      obtain ⟨x, hx⟩ : ∃ x, zs.getD k 0 = x := ⟨_, rfl⟩
      rw [hx] at c1
      have E := posF_any x
      obtain ⟨q, hq⟩ : ∃ q, posB x = q := ⟨_, rfl⟩
      rw [hq] at E
      have HQ : Hid (posB (zs.getD k 0) = q) := by rw [hx]; exact hq
      have i1 : (k : Int) < (zs.length : Int) := by omega
      clear hx hq hc
      go_wp2_with fail
      go_at_call 101
      refine (E _).mono ?_
      rintro e w1 ⟨rfl, hw⟩
      obtain rfl := hw.symm
      cases q
      · go_wp2
        go_ret
        exact ⟨rt_bool (all_no hlt HQ.out), rfl⟩
      · go_wp2
        go_round
        case rel => exact ⟨k + 1, by omega, by go_num, all_snoc hlt HA.out HQ.out⟩
        case measure => simp [intOf]; omega
    · obtain rfl : k = zs.length := by omega
      clear hc
      go_wp2
      go_ret
      exact ⟨rt_bool (all_take HA.out), rfl⟩

theorem evPos_any (a : Option Addr) (n c : Nat) (zs : List Int) (w : World) (h : Sl .i64 w a n zs) (hm : n ≤ 9223372036854775807) :
    Calls Try.prog 99 #[.slice a n c, .func (.func 101) #[] #[]] w fun e w' => e = .returned (.bool (zs.all posB)) ∧ w' = w := by
  have l1 := h.1
  subst l1
  rcases h.2.2 with h0 | ⟨b, off, rfl, hc⟩
  · subst h0
    refine (evPos_none a c w).mono ?_
    rintro e w' ⟨rfl, rfl⟩
    exact ⟨by simp, rfl⟩
  · exact evPos_row b off c zs w hm hc

theorem areLimits_any (a : Option Addr) (n c : Nat) (zs : List Int) (w : World) (h : Sl .i64 w a n zs) (hm : n ≤ 9223372036854775807) :
    Calls Try.prog 86 #[.slice a n c] w fun e w' => e = .returned (.bool (zs.all limB)) ∧ w' = w := by
  have E := evLim_any a n c zs w h hm
  clear h
  generalize zs.all limB = q at E ⊢
  go_enter Try.func86, Try.ntmps86
  go_wp2_with fail
  go_at_call 99
  refine E.mono ?_
  rintro e w1 ⟨rfl, hw⟩
  obtain rfl := hw.symm
  go_wp2
  go_ret
  exact ⟨rfl, rfl⟩

theorem arePositions_any (a : Option Addr) (n c : Nat) (zs : List Int) (w : World) (h : Sl .i64 w a n zs) (hm : n ≤ 9223372036854775807) :
    Calls Try.prog 87 #[.slice a n c] w fun e w' => e = .returned (.bool (zs.all posB)) ∧ w' = w := by
  have E := evPos_any a n c zs w h hm
  clear h
  generalize zs.all posB = q at E ⊢
  go_enter Try.func87, Try.ntmps87
  go_wp2_with fail
  go_at_call 99
  refine E.mono ?_
  rintro e w1 ⟨rfl, hw⟩
  obtain rfl := hw.symm
  go_wp2
  go_ret
  exact ⟨rfl, rfl⟩

theorem evLims_none (a : Option Addr) (c : Nat) (w : World) : Calls Try.prog 85 #[.slice a 0 c, .func (.func 86) #[] #[]] w fun e w' => e = .returned (.bool true) ∧ w' = w := by
  go_enter Try.func85, Try.ntmps85
  go_wp2
  refine wp_loop_rounds 1 ?_
  rw [rounds_succ]
  go_wp2
  go_ret
  exact ⟨rfl, rfl⟩

set_option maxHeartbeats 1000000 in
theorem evLims_row (b off c : Nat) (R : List (List Int)) (w : World) (hm : R.length ≤ 9223372036854775807) (hs : Short R)
    (hc : ∀ i, i < R.length → ∃ x c, w.cell? ⟨b, off + i, none⟩ = some (.slice x (R.getD i []).length c) ∧ Sl .i64 w x (R.getD i []).length (R.getD i []) ∧ (x = none → c = 0)) :
    Calls Try.prog 85 #[.slice (some ⟨b, off, none⟩) R.length c, .func (.func 86) #[] #[]] w fun e w' => e = .returned (.bool (R.all (fun z => z.all limB))) ∧ w' = w := by
  go_enter Try.func85, Try.ntmps85
  go_wp2
  go_loop [9] (fun i => ∃ k : Nat, k ≤ R.length ∧ i = .int .i64 k ∧ (R.take k).all (fun z => z.all limB) = true) (fun i => R.length - (intOf i).toNat)
  case atStart => exact ⟨0, by omega, rfl, by simp⟩
  case round =>
    obtain ⟨k, hk, rfl, ha⟩ := hrel
    have HA : Hid ((R.take k).all (fun z => z.all limB) = true) := ha
    clear ha
    by_cases hlt : k < R.length
    · obtain ⟨x, d, c1, s1, _⟩ := hc k hlt
      have hsk := hs.at hlt
      obtain ⟨z, hz⟩ : ∃ z, R.getD k [] = z := ⟨_, rfl⟩
      rw [hz] at c1 s1 hsk
      have E := areLimits_any x _ d z w s1 hsk
      obtain ⟨q, hq⟩ : ∃ q, (fun z => z.all limB) z = q := ⟨_, rfl⟩
      have hq' := hq
      simp only at hq'
      rw [hq'] at E
      have HQ : Hid ((fun z => z.all limB) (R.getD k []) = q) := by rw [hz]; exact hq
      have i1 : (k : Int) < (R.length : Int) := by omega
      obtain ⟨l, hl⟩ : ∃ l, z.length = l := ⟨_, rfl⟩
      rw [hl] at c1 E
      clear hz hq hq' hc s1 hsk hl hs
      go_wp2_with fail
      go_at_call 86
      refine E.mono ?_
      rintro e w1 ⟨rfl, hw⟩
      obtain rfl := hw.symm
      cases q
      · go_wp2
        go_ret
        exact ⟨rt_bool (all_no hlt HQ.out), rfl⟩
      · go_wp2
        go_round
        case rel => exact ⟨k + 1, by omega, by go_num, all_snoc hlt HA.out HQ.out⟩
        case measure => simp [intOf]; omega
    · obtain rfl : k = R.length := by omega
      clear hc
      go_wp2
      go_ret
      exact ⟨rt_bool (all_take HA.out), rfl⟩

theorem evLims_any (a : Option Addr) (n c : Nat) (R : List (List Int)) (w : World) (h : RowsI w a n R) (hm : n ≤ 9223372036854775807) (hs : Short R) :
    Calls Try.prog 85 #[.slice a n c, .func (.func 86) #[] #[]] w fun e w' => e = .returned (.bool (R.all (fun z => z.all limB))) ∧ w' = w := by
  have l1 := h.1
  subst l1
  rcases h.2.2 with h0 | ⟨b, off, rfl, hc⟩
  · subst h0
    refine (evLims_none a c w).mono ?_
    rintro e w' ⟨rfl, rfl⟩
    exact ⟨by simp, rfl⟩
  · exact evLims_row b off c R w hm hs hc

theorem evPoss_none (a : Option Addr) (c : Nat) (w : World) : Calls Try.prog 85 #[.slice a 0 c, .func (.func 87) #[] #[]] w fun e w' => e = .returned (.bool true) ∧ w' = w := by
  go_enter Try.func85, Try.ntmps85
  go_wp2
  refine wp_loop_rounds 1 ?_
  rw [rounds_succ]
  go_wp2
  go_ret
  exact ⟨rfl, rfl⟩

set_option maxHeartbeats 1000000 in
theorem evPoss_row (b off c : Nat) (R : List (List Int)) (w : World) (hm : R.length ≤ 9223372036854775807) (hs : Short R)
    (hc : ∀ i, i < R.length → ∃ x c, w.cell? ⟨b, off + i, none⟩ = some (.slice x (R.getD i []).length c) ∧ Sl .i64 w x (R.getD i []).length (R.getD i []) ∧ (x = none → c = 0)) :
    Calls Try.prog 85 #[.slice (some ⟨b, off, none⟩) R.length c, .func (.func 87) #[] #[]] w fun e w' => e = .returned (.bool (R.all (fun z => z.all posB))) ∧ w' = w := by
  go_enter Try.func85, Try.ntmps85
  go_wp2
  go_loop [9] (fun i => ∃ k : Nat, k ≤ R.length ∧ i = .int .i64 k ∧ (R.take k).all (fun z => z.all posB) = true) (fun i => R.length - (intOf i).toNat)
  case atStart => exact ⟨0, by omega, rfl, by simp⟩
  case round =>
    obtain ⟨k, hk, rfl, ha⟩ := hrel
    have HA : Hid ((R.take k).all (fun z => z.all posB) = true) := ha
    clear ha
    by_cases hlt : k < R.length
    · obtain ⟨x, d, c1, s1, _⟩ := hc k hlt
      have hsk := hs.at hlt
      obtain ⟨z, hz⟩ : ∃ z, R.getD k [] = z := ⟨_, rfl⟩
      rw [hz] at c1 s1 hsk
      have E := arePositions_any x _ d z w s1 hsk
      obtain ⟨q, hq⟩ : ∃ q, (fun z => z.all posB) z = q := ⟨_, rfl⟩
      have hq' := hq
      simp only at hq'
      rw [hq'] at E
      have HQ : Hid ((fun z => z.all posB) (R.getD k []) = q) := by rw [hz]; exact hq
      have i1 : (k : Int) < (R.length : Int) := by omega
      obtain ⟨l, hl⟩ : ∃ l, z.length = l := ⟨_, rfl⟩
      rw [hl] at c1 E
      clear hz hq hq' hc s1 hsk hl hs
      go_wp2_with fail
      go_at_call 87
      refine E.mono ?_
      rintro e w1 ⟨rfl, hw⟩
      obtain rfl := hw.symm
      cases q
      · go_wp2
        go_ret
        exact ⟨rt_bool (all_no hlt HQ.out), rfl⟩
      · go_wp2
        go_round
        case rel => exact ⟨k + 1, by omega, by go_num, all_snoc hlt HA.out HQ.out⟩
        case measure => simp [intOf]; omega
    · obtain rfl : k = R.length := by omega
      clear hc
      go_wp2
      go_ret
      exact ⟨rt_bool (all_take HA.out), rfl⟩

theorem evPoss_any (a : Option Addr) (n c : Nat) (R : List (List Int)) (w : World) (h : RowsI w a n R) (hm : n ≤ 9223372036854775807) (hs : Short R) :
    Calls Try.prog 85 #[.slice a n c, .func (.func 87) #[] #[]] w fun e w' => e = .returned (.bool (R.all (fun z => z.all posB))) ∧ w' = w := by
  have l1 := h.1
  subst l1
  rcases h.2.2 with h0 | ⟨b, off, rfl, hc⟩
  · subst h0
    refine (evPoss_none a c w).mono ?_
    rintro e w' ⟨rfl, rfl⟩
    exact ⟨by simp, rfl⟩
  · exact evPoss_row b off c R w hm hs hc

theorem evSq_none (a : Option Addr) (c g m : Nat) (w : World) : Calls Try.prog 85 #[.slice a 0 c, .func (.func 98) #[] #[.pointer (some ⟨g, 0, none⟩)]] w fun e w' => e = .returned (.bool true) ∧ w' = w := by
  go_enter Try.func85, Try.ntmps85
  go_wp2
  refine wp_loop_rounds 1 ?_
  rw [rounds_succ]
  go_wp2
  go_ret
  exact ⟨rfl, rfl⟩

set_option maxHeartbeats 1000000 in
theorem evSq_row (b off c g m : Nat) (R : List (List Int)) (w : World) (hm : R.length ≤ 9223372036854775807) (hs : Short R) (hg : w.cell? ⟨g, 0, none⟩ = some (.int .i64 m))
    (hc : ∀ i, i < R.length → ∃ x c, w.cell? ⟨b, off + i, none⟩ = some (.slice x (R.getD i []).length c) ∧ Sl .i64 w x (R.getD i []).length (R.getD i []) ∧ (x = none → c = 0)) :
    Calls Try.prog 85 #[.slice (some ⟨b, off, none⟩) R.length c, .func (.func 98) #[] #[.pointer (some ⟨g, 0, none⟩)]] w fun e w' => e = .returned (.bool (R.all (fun z => decide (z.length = m)))) ∧ w' = w := by
  go_enter Try.func85, Try.ntmps85
  go_wp2
  go_loop [9] (fun i => ∃ k : Nat, k ≤ R.length ∧ i = .int .i64 k ∧ (R.take k).all (fun z => decide (z.length = m)) = true) (fun i => R.length - (intOf i).toNat)
  case atStart => exact ⟨0, by omega, rfl, by simp⟩
  case round =>
    obtain ⟨k, hk, rfl, ha⟩ := hrel
    have HA : Hid ((R.take k).all (fun z => decide (z.length = m)) = true) := ha
    clear ha
    by_cases hlt : k < R.length
    · obtain ⟨x, d, c1, s1, _⟩ := hc k hlt
      have hsk := hs.at hlt
      obtain ⟨z, hz⟩ : ∃ z, R.getD k [] = z := ⟨_, rfl⟩
      rw [hz] at c1 s1 hsk
      have E := rowF_any x z.length d g m w hg
      obtain ⟨q, hq⟩ : ∃ q, (fun z => decide (z.length = m)) z = q := ⟨_, rfl⟩
      have hq' := hq
      simp only at hq'
      rw [hq'] at E
      have HQ : Hid ((fun z => decide (z.length = m)) (R.getD k []) = q) := by rw [hz]; exact hq
      have i1 : (k : Int) < (R.length : Int) := by omega
      obtain ⟨l, hl⟩ : ∃ l, z.length = l := ⟨_, rfl⟩
      rw [hl] at c1 E
      clear hz hq hq' hc s1 hsk hl hs
      go_wp2_with fail
      go_at_call 98
      refine E.mono ?_
      rintro e w1 ⟨rfl, hw⟩
      obtain rfl := hw.symm
      cases q
      · go_wp2
        go_ret
        exact ⟨rt_bool (all_no hlt HQ.out), rfl⟩
      · go_wp2
        go_round
        case rel => exact ⟨k + 1, by omega, by go_num, all_snoc hlt HA.out HQ.out⟩
        case measure => simp [intOf]; omega
    · obtain rfl : k = R.length := by omega
      clear hc
      go_wp2
      go_ret
      exact ⟨rt_bool (all_take HA.out), rfl⟩

theorem evSq_any (a : Option Addr) (n c g m : Nat) (R : List (List Int)) (w : World) (h : RowsI w a n R) (hm : n ≤ 9223372036854775807) (hs : Short R) (hg : w.cell? ⟨g, 0, none⟩ = some (.int .i64 m)) :
    Calls Try.prog 85 #[.slice a n c, .func (.func 98) #[] #[.pointer (some ⟨g, 0, none⟩)]] w fun e w' => e = .returned (.bool (R.all (fun z => decide (z.length = m)))) ∧ w' = w := by
  have l1 := h.1
  subst l1
  rcases h.2.2 with h0 | ⟨b, off, rfl, hc⟩
  · subst h0
    refine (evSq_none a c g m w).mono ?_
    rintro e w' ⟨rfl, rfl⟩
    exact ⟨by simp, rfl⟩
  · exact evSq_row b off c g m R w hm hs hg hc

set_option maxHeartbeats 1000000 in
theorem isSquare_any (a : Option Addr) (n c m : Nat) (R : List (List Int)) (w : World) (h : RowsI w a n R) (hm : n ≤ 9223372036854775807) (hs : Short R) :
    Calls Try.prog 84 #[.slice a n c, .int .i64 m] w fun e w' => e = .returned (.bool (squareB R m)) ∧ Below w.heap.size w w' := by
  have hl := h.1
  unfold squareB
  by_cases he : n = m
  · subst he
    rw [← hl, decide_eq_true rfl]
    have E := evSq_any a n c w.heap.size n R (w.alloc (.cells #[.int .i64 n] 3)) (h.below (box_below _ _)) hm hs (by rw [cell_new]; rfl)
    clear h hl
    generalize (R.all fun z => decide (z.length = n)) = q at E ⊢
    go_enter Try.func84, Try.ntmps84
    go_wp2_with fail
    go_at_call 85
    refine E.mono ?_
    rintro e w1 ⟨rfl, hw⟩
    obtain rfl := hw.symm
    go_wp2
    go_ret
    exact ⟨rt_bool (by simp), box_below _ _⟩
  · have h' : ((n : Int) == (m : Int)) = false := by rw [beq_eq_false_iff_ne]; omega
    rw [← hl, decide_eq_false he]
    clear h hl he
    go_enter Try.func84, Try.ntmps84
    go_wp2
    go_ret
    exact ⟨rt_bool (by simp), box_below _ _⟩

theorem evAcc_none (a : Option Addr) (c : Nat) (w : World) : Calls Try.prog 82 #[.slice a 0 c, .func (.func 83) #[] #[]] w fun e w' => e = .returned (.bool true) ∧ w' = w := by
  go_enter Try.func82, Try.ntmps82
  go_wp2
  refine wp_loop_rounds 1 ?_
  rw [rounds_succ]
  go_wp2
  go_ret
  exact ⟨rfl, rfl⟩

set_option maxHeartbeats 1000000 in
theorem evAcc_row (b off c : Nat) (A : List A3) (w : World) (hm : A.length ≤ 9223372036854775807)
    (hc : ∀ i, i < A.length → w.cell? ⟨b, off + i * 3, none⟩ = some (.int .i64 (A.getD i a30).1) ∧ w.cell? ⟨b, off + i * 3 + 1, none⟩ = some (.int .i64 (A.getD i a30).2.1) ∧ w.cell? ⟨b, off + i * 3 + 2, none⟩ = some (.int .i64 (A.getD i a30).2.2)) :
    Calls Try.prog 82 #[.slice (some ⟨b, off, none⟩) A.length c, .func (.func 83) #[] #[]] w fun e w' => e = .returned (.bool (A.all (fun x : A3 => acctB x.1 x.2.1 x.2.2))) ∧ Below w.heap.size w w' := by
  go_enter Try.func82, Try.ntmps82
  go_wp2
  go_loopw [9] (fun i wr => ∃ k : Nat, k ≤ A.length ∧ i = .int .i64 k ∧ (A.take k).all (fun x : A3 => acctB x.1 x.2.1 x.2.2) = true ∧ Below w.heap.size w wr) (fun i _ => A.length - (intOf i).toNat)
  case atStart => exact ⟨0, by omega, rfl, by simp, Below.refl _ _⟩
  case round =>
    obtain ⟨k, hk, rfl, ha, hb⟩ := hrel
    have HA : Hid ((A.take k).all (fun x : A3 => acctB x.1 x.2.1 x.2.2) = true) := ha
    have HB : Hid (Below w.heap.size w wr) := hb
    clear ha
    by_cases hlt : k < A.length
    · obtain ⟨p0, p1, p2⟩ := hc k hlt
      have hlb := block_lt_of_cell p0
      replace p0 := (hb.cell (p := ⟨b, off + k * 3, none⟩) hlb).trans p0
      replace p1 := (hb.cell (p := ⟨b, off + k * 3 + 1, none⟩) hlb).trans p1
      replace p2 := (hb.cell (p := ⟨b, off + k * 3 + 2, none⟩) hlb).trans p2
      obtain ⟨x, hx⟩ : ∃ x, A.getD k a30 = x := ⟨_, rfl⟩
      rw [hx] at p0 p1 p2
      obtain ⟨x0, x1, x2⟩ := x
      simp only at p0 p1 p2
      have E := acctIs_any x0 x1 x2
      obtain ⟨q, hq⟩ : ∃ q, acctB x0 x1 x2 = q := ⟨_, rfl⟩
      rw [hq] at E
      have HQ : Hid ((fun x : A3 => acctB x.1 x.2.1 x.2.2) (A.getD k a30) = q) := by rw [hx]; exact hq
      have i1 : (k : Int) < (A.length : Int) := by omega
      clear hx hq hc hb hlb
      go_wp2_with fail
      go_at_call 83
      refine (E _).mono ?_
      rintro e w1 ⟨rfl, hb1⟩
      have HB1 : Hid (Below w.heap.size w w1) := HB.out.trans (((box_below _ _).trans (hb1.mono (by simp))).mono HB.out.size)
      clear hb1 HB E
      cases q
      · go_wp2
        go_ret
        exact ⟨rt_bool (all_no hlt HQ.out), HB1.out⟩
      · go_wp2
        go_roundw
        case rel => exact ⟨k + 1, by omega, by go_num, all_snoc hlt HA.out HQ.out, HB1.out⟩
        case measure => simp [intOf]; omega
    · obtain rfl : k = A.length := by omega
      clear hc hb
      go_wp2
      go_ret
      exact ⟨rt_bool (all_take HA.out), HB.out⟩

theorem evAcc_any (a : Option Addr) (n c : Nat) (A : List A3) (w : World) (h : Accs w a n A) (hm : n ≤ 9223372036854775807) :
    Calls Try.prog 82 #[.slice a n c, .func (.func 83) #[] #[]] w fun e w' => e = .returned (.bool (A.all (fun x : A3 => acctB x.1 x.2.1 x.2.2))) ∧ Below w.heap.size w w' := by
  have l1 := h.1
  subst l1
  rcases h.2 with h0 | ⟨b, off, rfl, hc⟩
  · subst h0
    refine (evAcc_none a c w).mono ?_
    rintro e w' ⟨rfl, rfl⟩
    exact ⟨by simp, Below.refl _ _⟩
  · exact evAcc_row b off c A w hm hc

end Go.Proofs.Ytlackjldopeigaa

/-
  lim.Is: are they books.
-/
namespace Go.Proofs.Ytlackjldopeigaa
open Go.RowKit
set_option linter.unusedVariables false
set_option linter.unusedSimpArgs false

/-- m rows of m numbers, cell by cell. -/
def Sq (w : World) (b off m : Nat) (R : List (List Int)) : Prop :=
  ∀ i, i < m → ∃ g o c, w.cell? ⟨b, off + i, none⟩ = some (.slice (some ⟨g, o, none⟩) m c) ∧ ∀ k, k < m → w.cell? ⟨g, o + k, none⟩ = some (.int .i64 (at2 R i k))
theorem Sq.below {w w' : World} {b off m : Nat} {R : List (List Int)} (h : Sq w b off m R) (hb : Below w.heap.size w w') : Sq w' b off m R := by
  intro i hi
  obtain ⟨g, o, c, h1, h2⟩ := h i hi
  refine ⟨g, o, c, (hb.cell (p := ⟨b, off + i, none⟩) (block_lt_of_cell h1)).trans h1, fun k hk => ?_⟩
  have h3 := h2 k hk
  exact (hb.cell (p := ⟨g, o + k, none⟩) (block_lt_of_cell h3)).trans h3
theorem RowsI.sq {w : World} {a : Option Addr} {n m : Nat} {R : List (List Int)} (h : RowsI w a n R) (hm : 0 < m) (hs : squareB R m = true) : ∃ b off, a = some ⟨b, off, none⟩ ∧ n = m ∧ Sq w b off m R := by
  obtain ⟨hl, hr⟩ := squareB_yes.1 hs
  rcases h.2.2 with h0 | ⟨b, off, ha, hc⟩
  · subst h0; simp at hl; omega
  · refine ⟨b, off, ha, by rw [h.1, hl], fun i hi => ?_⟩
    obtain ⟨x, c, h1, h2, h3⟩ := hc i (by omega)
    have hri := hr i hi
    rw [hri] at h1 h2
    rcases h2.2.2 with h0 | ⟨g, o, rfl, hg⟩
    · rw [h0] at hri; simp at hri; omega
    · exact ⟨g, o, c, h1, fun k hk => hg k (by omega)⟩

theorem turnB_no {R : List (List Int)} {i k : Nat} (hi : i < R.length) (hk : k < R.length) (h : ¬ at2 R i k = -at2 R k i) : false = turnB R := by
  symm
  rw [Bool.eq_false_iff]
  intro ht
  unfold turnB at ht
  rw [range_all] at ht
  have := ht i hi
  rw [range_all] at this
  exact h (of_decide_eq_true (this k hk))
theorem turnB_mk {R : List (List Int)} (h : ∀ i, i < R.length → ∀ k, k < R.length → at2 R i k = -at2 R k i) : true = turnB R := by
  symm
  unfold turnB
  rw [range_all]
  intro i hi
  rw [range_all]
  intro k hk
  exact decide_eq_true (h i hi k hk)
theorem bil_succ {P : Nat → Prop} {k : Nat} (h : ∀ a, a < k → P a) (hk : P k) : ∀ a, a < k + 1 → P a := fun a ha => by
  rcases Nat.lt_or_ge a k with h1 | h1
  · exact h a h1
  · obtain rfl : a = k := by omega
    exact hk

set_option maxHeartbeats 2000000 in
theorem turned_any (b off c m : Nat) (R : List (List Int)) (w : World) (hl : R.length = m) (hm : m ≤ 6) (hc : Sq w b off m R) (hp : ∀ i k, i < m → k < m → posB (at2 R i k) = true) :
    Calls Try.prog 88 #[.slice (some ⟨b, off, none⟩) m c] w fun e w' => e = .returned (.bool (turnB R)) ∧ w' = w := by
  have HL : Hid (R.length = m) := hl
  clear hl
  go_enter Try.func88, Try.ntmps88
  go_wp2
  go_loop [9] (fun t => ∃ i : Nat, i ≤ m ∧ t = .int .i64 i ∧ ∀ a, a < i → ∀ k, k < m → at2 R a k = -at2 R k a) (fun t => m - (intOf t).toNat)
  case atStart => exact ⟨0, by omega, rfl, fun a ha => by omega⟩
  case round =>
    obtain ⟨i, hi, rfl, ha⟩ := hrel
    have HA : Hid (∀ a, a < i → ∀ k, k < m → at2 R a k = -at2 R k a) := ha
    clear ha
    by_cases hlt : i < m
    · obtain ⟨g, o, d, p0, p1⟩ := hc i hlt
      have i1 : (i : Int) < (m : Int) := by omega
      have HC : Hid (∀ k, k < m → w.cell? ⟨g, o + k, none⟩ = some (.int .i64 (at2 R i k))) := p1
      clear p1
      go_wp2
      go_loop [16] (fun t => ∃ k : Nat, k ≤ m ∧ t = .int .i64 k ∧ ∀ a, a < k → at2 R i a = -at2 R a i) (fun t => m - (intOf t).toNat)
      case atStart => exact ⟨0, by omega, rfl, fun a ha => by omega⟩
      case round =>
        obtain ⟨k, hk, rfl, ha⟩ := hrel
        have HK : Hid (∀ a, a < k → at2 R i a = -at2 R a i) := ha
        clear ha
        by_cases hkl : k < m
        · have k1 : (k : Int) < (m : Int) := by omega
          obtain ⟨g2, o2, d2, q0, q1⟩ := hc k hkl
          have c1 := HC.out k hkl
          have c2 := q1 i hlt
          have b2 := posB_yes (hp k i hkl hlt)
          have HX : Hid (at2 R i k = at2 R i k) := rfl
          clear q1
          generalize hx : at2 R i k = x at c1
          generalize hy : at2 R k i = y at c2 b2
          obtain ⟨y0, y1⟩ := b2
          have HXY : Hid (at2 R i k = x ∧ at2 R k i = y) := ⟨hx, hy⟩
          clear hx hy HX
          by_cases hxy : x = -y
          · have e1 : (x == -y) = true := by simp [hxy]
            have HS : Hid (∀ a, a < k + 1 → at2 R i a = -at2 R a i) := bil_succ HK.out (by rw [HXY.out.1, HXY.out.2]; exact hxy)
            clear hxy HXY
            go_wp2
            go_round
            case rel => exact ⟨k + 1, by omega, by go_num, HS.out⟩
            case measure => simp [intOf]; omega
          · have e1 : (x == -y) = false := by simp [hxy]
            have HN : Hid (false = turnB R) := turnB_no (i := i) (k := k) (by rw [HL.out]; exact hlt) (by rw [HL.out]; exact hkl) (by rw [HXY.out.1, HXY.out.2]; exact hxy)
            clear hxy HXY
            go_wp2
            go_ret
            exact ⟨rt_bool HN.out, rfl⟩
        · obtain rfl : k = m := by omega
          have HS : Hid (∀ a, a < i + 1 → ∀ j, j < k → at2 R a j = -at2 R j a) := bil_succ HA.out HK.out
          go_wp2
          go_round
          case rel => exact ⟨i + 1, by omega, by go_num, HS.out⟩
          case measure => simp [intOf]; omega
    · obtain rfl : i = m := by omega
      have HS : Hid (true = turnB R) := turnB_mk (by rw [HL.out]; exact HA.out)
      clear hc
      go_wp2
      go_ret
      exact ⟨rt_bool HS.out, rfl⟩

end Go.Proofs.Ytlackjldopeigaa

/-
  lim.Is: are they books, any four lists.
-/
namespace Go.Proofs.Ytlackjldopeigaa
open Go.RowKit
set_option linter.unusedVariables false
set_option linter.unusedSimpArgs false

theorem rowsAll_pos {R : List (List Int)} {m : Nat} (hs : squareB R m = true) (hp : (R.all fun z => z.all posB) = true) : ∀ i k, i < m → k < m → posB (at2 R i k) = true := by
  obtain ⟨h1, h2⟩ := squareB_yes.1 hs
  rw [all_at (d := [])] at hp
  intro i k hi hk
  have := hp i (by omega)
  rw [all_at (d := 0)] at this
  exact this k (by rw [h2 i hi]; exact hk)

set_option maxHeartbeats 4000000 in
theorem limIs_any (x : BA) (b : Bks) (w : World) (h : Bk w x b) : Calls Try.prog 65 #[x.val] w fun e w' => e = .returned (.bool (booksB b)) ∧ Below w.heap.size w w' := by
  rw [← booksC_eq]
  obtain ⟨aA, nA, cA, aB, nB, cB, aM, nM, cM, aP, nP, cP⟩ := x
  have lA : nA = b.A.length := h.acc.1
  have lM : nM = b.M.length := h.mul.1
  have sA : nA ≤ 9223372036854775807 := h.sA
  obtain ⟨w2, hw2⟩ : ∃ w2, w2 = w.alloc (.cells #[.slice aA nA cA, .slice aB nB cB, .slice aM nM cM, .slice aP nP cP] 27) := ⟨_, rfl⟩
  have B2 : Hid (Below w.heap.size w w2) := by rw [hw2]; exact box_below _ _
  have X2 : Hid (Box4 w2 w.heap.size ⟨aA, nA, cA, aB, nB, cB, aM, nM, cM, aP, nP, cP⟩) := by rw [hw2]; exact Box4.new w ⟨aA, nA, cA, aB, nB, cB, aM, nM, cM, aP, nP, cP⟩ _ _
  have HX : Hid (Bk w2 ⟨aA, nA, cA, aB, nB, cB, aM, nM, cM, aP, nP, cP⟩ b) := h.below B2.out
  clear h
  unfold booksC
  rw [← lA, ← lM]
  have HLA : Hid (nA = b.A.length) := lA
  clear lA lM
  have M := mayHave_any nA
  rcases Nat.eq_zero_or_pos nA with h0 | h0
  · subst h0
    go_enter Try.func65, Try.ntmps65
    go_wp2
    go_ret
    exact ⟨rt_bool (by simp), box_below _ _⟩
  have i0 : 0 < (nA : Int) := by omega
  rw [decide_eq_true i0]
  obtain ⟨q1, hq1⟩ : ∃ q, partB nA = q := ⟨_, rfl⟩
  have HQ1 : Hid (partB nA = q1) := hq1
  rw [hq1] at M ⊢
  clear hq1
  obtain ⟨q2, hq2⟩ : ∃ q, (b.A.all fun x => acctB x.1 x.2.1 x.2.2) = q := ⟨_, rfl⟩
  have HQ2 : Hid ((b.A.all fun x => acctB x.1 x.2.1 x.2.2) = q2) := hq2
  rw [hq2]
  clear hq2
  obtain ⟨q3, hq3⟩ : ∃ q, squareB b.B nA = q := ⟨_, rfl⟩
  have HQ3 : Hid (squareB b.B nA = q3) := hq3
  rw [hq3]
  clear hq3
  obtain ⟨q4, hq4⟩ : ∃ q, (b.B.all fun z => z.all limB) = q := ⟨_, rfl⟩
  have HQ4 : Hid ((b.B.all fun z => z.all limB) = q4) := hq4
  rw [hq4]
  clear hq4
  obtain ⟨q5, hq5⟩ : ∃ q, decide (nM = nA) = q := ⟨_, rfl⟩
  have HQ5 : Hid (decide (nM = nA) = q5) := hq5
  rw [hq5]
  clear hq5
  obtain ⟨q6, hq6⟩ : ∃ q, b.M.all limB = q := ⟨_, rfl⟩
  have HQ6 : Hid (b.M.all limB = q6) := hq6
  rw [hq6]
  clear hq6
  obtain ⟨q7, hq7⟩ : ∃ q, squareB b.P nA = q := ⟨_, rfl⟩
  have HQ7 : Hid (squareB b.P nA = q7) := hq7
  rw [hq7]
  clear hq7
  obtain ⟨q8, hq8⟩ : ∃ q, (b.P.all fun z => z.all posB) = q := ⟨_, rfl⟩
  have HQ8 : Hid ((b.P.all fun z => z.all posB) = q8) := hq8
  rw [hq8]
  clear hq8
  obtain ⟨q9, hq9⟩ : ∃ q, turnB b.P = q := ⟨_, rfl⟩
  have HQ9 : Hid (turnB b.P = q9) := hq9
  rw [hq9]
  clear hq9
  go_enter Try.func65, Try.ntmps65
  go_wp2_with fail
  go_at_call 81
  refine (M _).mono ?_
  rintro e w3 ⟨rfl, hw⟩
  rw [← hw2] at hw
  obtain rfl := hw.symm
  clear M hw2 hw
  cases q1
  · go_wp2
    go_ret
    exact ⟨rt_bool (by simp), B2.out⟩
  have hn6 : nA ≤ 6 := by have := of_decide_eq_true HQ1.out; omega
  obtain ⟨x0, x1, x2, x3⟩ := X2.out
  have E := evAcc_any aA nA cA b.A w2 HX.out.acc sA
  rw [HQ2.out] at E
  go_wp2_with fail
  go_at_call 82
  refine E.mono ?_
  rintro e w3 ⟨rfl, hb⟩
  have B23 : Hid (Below w2.heap.size w2 w3) := hb
  have B3 : Hid (Below w.heap.size w w3) := B2.out.trans (hb.mono B2.out.size)
  have X3 : Hid (Box4 w3 w.heap.size ⟨aA, nA, cA, aB, nB, cB, aM, nM, cM, aP, nP, cP⟩) := X2.out.below hb
  have HX3 : Hid (Bk w3 ⟨aA, nA, cA, aB, nB, cB, aM, nM, cM, aP, nP, cP⟩ b) := HX.out.below hb
  clear hb E x0 x1 x2 x3 X2 HX B2
  cases q2
  · go_wp2
    go_ret
    exact ⟨rt_bool (by simp), B3.out⟩
  obtain ⟨x0, x1, x2, x3⟩ := X3.out
  have E := isSquare_any aB nB cB nA b.B w3 HX3.out.bil HX3.out.sB HX3.out.hB
  rw [HQ3.out] at E
  go_wp2_with fail
  go_at_call 84
  refine E.mono ?_
  rintro e w4 ⟨rfl, hb⟩
  have B4 : Hid (Below w.heap.size w w4) := B3.out.trans (hb.mono B3.out.size)
  have X4 : Hid (Box4 w4 w.heap.size ⟨aA, nA, cA, aB, nB, cB, aM, nM, cM, aP, nP, cP⟩) := X3.out.below hb
  have HX4 : Hid (Bk w4 ⟨aA, nA, cA, aB, nB, cB, aM, nM, cM, aP, nP, cP⟩ b) := HX3.out.below hb
  clear hb E x0 x1 x2 x3 X3 HX3 B3 B23
  cases q3
  · go_wp2
    go_ret
    exact ⟨rt_bool (by simp), B4.out⟩
  obtain ⟨x0, x1, x2, x3⟩ := X4.out
  have E := evLims_any aB nB cB b.B w4 HX4.out.bil HX4.out.sB HX4.out.hB
  rw [HQ4.out] at E
  go_wp2_with fail
  go_at_call 85
  refine E.mono ?_
  rintro e w5 ⟨rfl, hw⟩
  obtain rfl := hw.symm
  clear E hw
  cases q4
  · go_wp2
    go_ret
    exact ⟨rt_bool (by simp), B4.out⟩
  cases q5
  · have h' : ((nM : Int) == (nA : Int)) = false := by have := of_decide_eq_false HQ5.out; rw [beq_eq_false_iff_ne]; omega
    go_wp2
    go_ret
    exact ⟨rt_bool (by simp), B4.out⟩
  have hmn : nM = nA := of_decide_eq_true HQ5.out
  clear HQ5
  subst hmn
  have E := areLimits_any aM nM cM b.M w4 HX4.out.mul sA
  rw [HQ6.out] at E
  go_wp2_with fail
  go_at_call 86
  refine E.mono ?_
  rintro e w5 ⟨rfl, hw⟩
  obtain rfl := hw.symm
  clear E hw
  cases q6
  · go_wp2
    go_ret
    exact ⟨rt_bool (by simp), B4.out⟩
  have E := isSquare_any aP nP cP nM b.P w4 HX4.out.pos HX4.out.sP HX4.out.hP
  rw [HQ7.out] at E
  go_wp2_with fail
  go_at_call 84
  refine E.mono ?_
  rintro e w5 ⟨rfl, hb⟩
  have B5 : Hid (Below w.heap.size w w5) := B4.out.trans (hb.mono B4.out.size)
  have X5 : Hid (Box4 w5 w.heap.size ⟨aA, nM, cA, aB, nB, cB, aM, nM, cM, aP, nP, cP⟩) := X4.out.below hb
  have HX5 : Hid (Bk w5 ⟨aA, nM, cA, aB, nB, cB, aM, nM, cM, aP, nP, cP⟩ b) := HX4.out.below hb
  clear hb E x0 x1 x2 x3 X4 HX4 B4
  cases q7
  · go_wp2
    go_ret
    exact ⟨rt_bool (by simp), B5.out⟩
  obtain ⟨x0, x1, x2, x3⟩ := X5.out
  have E := evPoss_any aP nP cP b.P w5 HX5.out.pos HX5.out.sP HX5.out.hP
  rw [HQ8.out] at E
  go_wp2_with fail
  go_at_call 85
  refine E.mono ?_
  rintro e w6 ⟨rfl, hw⟩
  obtain rfl := hw.symm
  clear E hw
  cases q8
  · go_wp2
    go_ret
    exact ⟨rt_bool (by simp), B5.out⟩
  obtain ⟨bp, op, ha, hn, HS⟩ := RowsI.sq HX5.out.pos h0 HQ7.out
  have hn : nP = nM := hn
  have ha : aP = some ⟨bp, op, none⟩ := ha
  subst hn ha
  have E := turned_any bp op cP nP b.P w5 (squareB_yes.1 HQ7.out).1 hn6 HS (rowsAll_pos HQ7.out HQ8.out)
  rw [HQ9.out] at E
  clear HS
  go_wp2_with fail
  go_at_call 88
  refine E.mono ?_
  rintro e w6 ⟨rfl, hw⟩
  obtain rfl := hw.symm
  clear E hw
  go_wp2
  go_ret
  exact ⟨rt_bool (by simp), B5.out⟩

end Go.Proofs.Ytlackjldopeigaa

/-
  giroref10.Is: are they books, as the document has it.
-/
namespace Go.Proofs.Ytlackjldopeigaa
open Go.RowKit
set_option linter.unusedVariables false
set_option linter.unusedSimpArgs false

theorem refLimit_any (v : Int) (w : World) : Calls Try.prog 40 #[.int .i64 v] w fun e w' => e = .returned (.bool (limB v)) ∧ w' = w := by
  rcases Int.lt_or_le v (-1) with h | h
  · go_enter Try.func40, Try.ntmps40
    go_wp2
    go_ret
    exact ⟨rt_bool (limB_low h), rfl⟩
  · go_enter Try.func40, Try.ntmps40
    go_wp2
    go_ret
    exact ⟨rt_bool (limB_rest' h), rfl⟩

theorem squareB_len {R : List (List Int)} {m : Nat} (h : ¬ R.length = m) : false = squareB R m := by simp [squareB, h]
theorem squareB_all {R : List (List Int)} {m : Nat} (h : R.length = m) : squareB R m = R.all fun z => decide (z.length = m) := by simp [squareB, h]

set_option maxHeartbeats 1000000 in
theorem refSquare2_row (b off c m : Nat) (R : List (List Int)) (w : World) (hl : R.length = m) (hm : m ≤ 6)
    (hc : ∀ i, i < R.length → ∃ x c, w.cell? ⟨b, off + i, none⟩ = some (.slice x (R.getD i []).length c) ∧ Sl .i64 w x (R.getD i []).length (R.getD i []) ∧ (x = none → c = 0)) :
    Calls Try.prog 38 #[.slice (some ⟨b, off, none⟩) m c, .int .i64 m] w fun e w' => e = .returned (.bool (squareB R m)) ∧ w' = w := by
  rw [squareB_all hl]
  have HL : Hid (R.length = m) := hl
  clear hl
  go_enter Try.func38, Try.ntmps38
  go_wp2
  go_loop [5] (fun i => ∃ k : Nat, k ≤ m ∧ i = .int .i64 k ∧ ((R.take k).all fun z => decide (z.length = m)) = true) (fun i => m - (intOf i).toNat)
  case atStart => exact ⟨0, by omega, rfl, by simp⟩
  case round =>
    obtain ⟨k, hk, rfl, ha⟩ := hrel
    have HA : Hid (((R.take k).all fun z => decide (z.length = m)) = true) := ha
    clear ha
    by_cases hlt : k < m
    · have HT : Hid (k < R.length) := by show k < R.length; rw [HL.out]; exact hlt
      obtain ⟨x, d, c1, _, _⟩ := hc k HT.out
      obtain ⟨l, hz⟩ : ∃ l, (R.getD k []).length = l := ⟨_, rfl⟩
      rw [hz] at c1
      have i1 : (k : Int) < (m : Int) := by omega
      have HZ : Hid ((R.getD k []).length = l) := hz
      clear hz hc
      by_cases hlm : l = m
      · have h' : ((l : Int) == (m : Int)) = true := by rw [beq_iff_eq]; omega
        have HS : Hid (((R.take (k + 1)).all fun z => decide (z.length = m)) = true) := all_snoc (d := []) HT.out HA.out (by rw [HZ.out]; exact decide_eq_true hlm)
        clear hlm HZ HA
        go_wp2
        go_round
        case rel => exact ⟨k + 1, by omega, by go_num, HS.out⟩
        case measure => simp [intOf]; omega
      · have h' : ((l : Int) == (m : Int)) = false := by rw [beq_eq_false_iff_ne]; omega
        have HS : Hid (false = R.all fun z => decide (z.length = m)) := all_no (d := []) HT.out (by rw [HZ.out]; exact decide_eq_false hlm)
        clear hlm HZ HA
        go_wp2
        go_ret
        exact ⟨rt_bool HS.out, rfl⟩
    · obtain rfl : k = m := by omega
      have HS : Hid (true = R.all fun z => decide (z.length = k)) := all_take (by rw [HL.out]; exact HA.out)
      clear hc HA
      go_wp2
      go_ret
      exact ⟨rt_bool HS.out, rfl⟩

theorem refSquare2_any (a : Option Addr) (n c m : Nat) (R : List (List Int)) (w : World) (h : RowsI w a n R) (hm : m ≤ 6) (hm0 : 0 < m) :
    Calls Try.prog 38 #[.slice a n c, .int .i64 m] w fun e w' => e = .returned (.bool (squareB R m)) ∧ w' = w := by
  have l1 := h.1
  by_cases he : n = m
  · subst he
    rcases h.2.2 with h0 | ⟨b, off, rfl, hc⟩
    · subst h0; simp at l1; omega
    · exact refSquare2_row b off c n R w l1.symm hm hc
  · have h' : ((n : Int) == (m : Int)) = false := by rw [beq_eq_false_iff_ne]; omega
    rw [← squareB_len (R := R) (m := m) (by omega)]
    clear h l1 he
    go_enter Try.func38, Try.ntmps38
    go_wp2
    go_ret
    exact ⟨rfl, rfl⟩

theorem at2_wf {R : List (List Int)} (h : ∀ z ∈ R, W64 z) (i k : Nat) : -9223372036854775808 ≤ at2 R i k ∧ at2 R i k ≤ 9223372036854775807 := by
  unfold at2
  by_cases hk : k < (R.getD i []).length
  · exact wf_i64 (getD_w64 h i _ (getD_mem hk))
  · have : (R.getD i []).getD k 0 = 0 := by simp only [List.getD_eq_getElem?_getD]; rw [List.getElem?_eq_none (by simpa [List.getD_eq_getElem?_getD] using hk)]; rfl
    rw [this]
    omega
theorem turned_no {p q : Int} (h : (p != IntKind.i64.wrap (-q)) = false) (q0 : -9223372036854775808 ≤ q) (q1 : q ≤ 9223372036854775807) (h0 : -72057594037927936 < p) (h1 : p < 72057594037927936) : p = -q := by
  have h : p = IntKind.i64.wrap (-q) := by simpa [bne] using h
  rw [IntKind.wrap_i64] at h
  omega
theorem turned_yes {p q : Int} (h : (p != IntKind.i64.wrap (-q)) = true) (q0 : -9223372036854775808 ≤ q) (h0 : -72057594037927936 < p) (h1 : p < 72057594037927936) (e : p = -q) : False := by
  have h : ¬ p = IntKind.i64.wrap (-q) := by simpa [bne] using h
  rw [IntKind.wrap_i64] at h
  omega
theorem booksB_no {b : Bks} (h : ¬ Good b) : false = booksB b := by
  symm
  rw [Bool.eq_false_iff]
  intro hb
  exact h (booksB_yes.1 hb)
theorem rowB_snoc {b : Bks} {n i : Nat} (ha : acctAt b.A i = true) (hm : limB (b.M.getD i 0) = true) (hk : ∀ k, k < n → cellB b i k = true) : rowB b n i = true := by
  unfold rowB
  rw [ha, hm]
  simp only [Bool.true_and]
  exact range_all.2 hk
theorem cellB_mk {b : Bks} {i k : Nat} (h1 : limB (at2 b.B i k) = true) (h2 : posB (at2 b.P i k) = true) (h3 : at2 b.P i k = -at2 b.P k i) : cellB b i k = true := by
  unfold cellB
  rw [h1, h2, decide_eq_true h3]
  rfl
theorem booksB_mk {b : Bks} {n : Nat} (hn : n = b.A.length) (h1 : 1 ≤ n) (h6 : n ≤ 6) (sB : squareB b.B n = true) (sP : squareB b.P n = true) (hM : b.M.length = n) (hr : ∀ i, i < n → rowB b n i = true) : true = booksB b := by
  subst hn
  unfold booksB
  rw [sB, sP, decide_eq_true (show 1 ≤ b.A.length ∧ b.A.length ≤ 6 from ⟨h1, h6⟩), decide_eq_true hM, range_all.2 hr]
  rfl

set_option maxHeartbeats 20000000 in
set_option maxRecDepth 100000 in
theorem refBooksIs_any (x : BA) (b : Bks) (w : World) (h : Bk w x b) : Calls Try.prog 17 #[x.val] w fun e w' => e = .returned (.bool (booksB b)) ∧ Below w.heap.size w w' := by
  obtain ⟨aA, nA, cA, aB, nB, cB, aM, nM, cM, aP, nP, cP⟩ := x
  have lA : nA = b.A.length := h.acc.1
  have lM : nM = b.M.length := h.mul.1
  obtain ⟨w2, hw2⟩ : ∃ w2, w2 = w.alloc (.cells #[.slice aA nA cA, .slice aB nB cB, .slice aM nM cM, .slice aP nP cP] 27) := ⟨_, rfl⟩
  have B2 : Hid (Below w.heap.size w w2) := by rw [hw2]; exact box_below _ _
  have X2 : Hid (Box4 w2 w.heap.size ⟨aA, nA, cA, aB, nB, cB, aM, nM, cM, aP, nP, cP⟩) := by rw [hw2]; exact Box4.new w ⟨aA, nA, cA, aB, nB, cB, aM, nM, cM, aP, nP, cP⟩ _ _
  have HX : Hid (Bk w2 ⟨aA, nA, cA, aB, nB, cB, aM, nM, cM, aP, nP, cP⟩ b) := h.below B2.out
  have HLA : Hid (nA = b.A.length) := lA
  have HLM : Hid (nM = b.M.length) := lM
  clear h lA lM
  rcases Nat.lt_or_ge nA 1 with h0 | h0
  · obtain rfl : nA = 0 := by omega
    have HN : Hid (false = booksB b) := booksB_no fun g => by have := g.n1; have := HLA.out; omega
    go_enter Try.func17, Try.ntmps17
    go_wp2
    go_ret
    exact ⟨rt_bool HN.out, box_below _ _⟩
  have i0 : 1 ≤ (nA : Int) := by omega
  rcases Nat.lt_or_ge 6 nA with h6 | h6
  · have HN : Hid (false = booksB b) := booksB_no fun g => by have := g.n6; have := HLA.out; omega
    go_enter Try.func17, Try.ntmps17
    go_wp2
    go_ret
    exact ⟨rt_bool HN.out, box_below _ _⟩
  have i6 : (nA : Int) ≤ 6 := by omega
  have EB := refSquare2_any aB nB cB nA b.B w2 HX.out.bil h6 h0
  have EP := refSquare2_any aP nP cP nA b.P w2 HX.out.pos h6 h0
  rw [hw2] at EB EP
  obtain ⟨q1, hq1⟩ : ∃ q, squareB b.B nA = q := ⟨_, rfl⟩
  have HQ1 : Hid (squareB b.B nA = q1) := hq1
  rw [hq1] at EB
  clear hq1
  obtain ⟨q2, hq2⟩ : ∃ q, squareB b.P nA = q := ⟨_, rfl⟩
  have HQ2 : Hid (squareB b.P nA = q2) := hq2
  rw [hq2] at EP
  clear hq2
  go_enter Try.func17, Try.ntmps17
  go_wp2_with fail
  go_at_call 38
  refine EB.mono ?_
  rintro e w3 ⟨rfl, hw⟩
  obtain rfl := hw.symm
  clear EB hw
  cases q1
  · have HN : Hid (false = booksB b) := booksB_no fun g => by
      have := squareB_yes.2 ⟨g.bil, g.bils⟩
      rw [← HLA.out, HQ1.out] at this
      exact Bool.noConfusion this
    go_wp2
    go_ret
    exact ⟨rt_bool HN.out, box_below _ _⟩
  go_wp2_with fail
  go_at_call 38
  refine EP.mono ?_
  rintro e w3 ⟨rfl, hw⟩
  rw [← hw2] at hw
  obtain rfl := hw.symm
  clear EP hw hw2
  obtain ⟨x0, x1, x2, x3⟩ := X2.out
  cases q2
  · have HN : Hid (false = booksB b) := booksB_no fun g => by
      have := squareB_yes.2 ⟨g.pos, g.poss⟩
      rw [← HLA.out, HQ2.out] at this
      exact Bool.noConfusion this
    go_wp2
    go_ret
    exact ⟨rt_bool HN.out, B2.out⟩
  by_cases hmn : nM = nA
  case neg =>
    have h' : ((nM : Int) == (nA : Int)) = false := by rw [beq_eq_false_iff_ne]; omega
    have h'' : ((nM : Int) != (nA : Int)) = true := by rw [bne, h']; rfl
    have HN : Hid (false = booksB b) := booksB_no fun g => by have := g.mul; have := HLA.out; have := HLM.out; omega
    go_wp2
    go_ret
    exact ⟨rt_bool HN.out, B2.out⟩
  subst hmn
  obtain ⟨bB, oB, ha, hn, SB⟩ := RowsI.sq HX.out.bil h0 HQ1.out
  have hn : nB = nM := hn
  have ha : aB = some ⟨bB, oB, none⟩ := ha
  subst hn ha
  obtain ⟨bP, oP, ha, hn, SP⟩ := RowsI.sq HX.out.pos h0 HQ2.out
  have hn : nP = nB := hn
  have ha : aP = some ⟨bP, oP, none⟩ := ha
  subst hn ha
  have HSB : Hid (Sq w2 bB oB nP b.B) := SB
  have HSP : Hid (Sq w2 bP oP nP b.P) := SP
  obtain ⟨bA, oA, ha, CA⟩ : ∃ bA oA, aA = some ⟨bA, oA, none⟩ ∧ ∀ i, i < nP → w2.cell? ⟨bA, oA + i * 3, none⟩ = some (.int .i64 (b.A.getD i a30).1) ∧ w2.cell? ⟨bA, oA + i * 3 + 1, none⟩ = some (.int .i64 (b.A.getD i a30).2.1) ∧ w2.cell? ⟨bA, oA + i * 3 + 2, none⟩ = some (.int .i64 (b.A.getD i a30).2.2) := by
    rcases HX.out.acc.2 with h1 | ⟨b1, o1, h1, h2⟩
    · have := HLA.out
      rw [h1] at this
      simp at this
      omega
    · exact ⟨b1, o1, h1, fun i hi => h2 i (by have := HLA.out; omega)⟩
  obtain ⟨bM, oM, haM, CM⟩ : ∃ bM oM, aM = some ⟨bM, oM, none⟩ ∧ ∀ i, i < nP → w2.cell? ⟨bM, oM + i, none⟩ = some (.int .i64 (b.M.getD i 0)) := by
    rcases HX.out.mul.2.2 with h1 | ⟨b1, o1, h1, h2⟩
    · have := HLM.out
      rw [h1] at this
      simp at this
      omega
    · exact ⟨b1, o1, h1, fun i hi => h2 i (by have := HLM.out; omega)⟩
  have HCA := show Hid (∀ i, i < nP → w2.cell? ⟨bA, oA + i * 3, none⟩ = some (.int .i64 (b.A.getD i a30).1) ∧ w2.cell? ⟨bA, oA + i * 3 + 1, none⟩ = some (.int .i64 (b.A.getD i a30).2.1) ∧ w2.cell? ⟨bA, oA + i * 3 + 2, none⟩ = some (.int .i64 (b.A.getD i a30).2.2)) from CA
  have HCM := show Hid (∀ i, i < nP → w2.cell? ⟨bM, oM + i, none⟩ = some (.int .i64 (b.M.getD i 0))) from CM
  subst ha haM
  clear CA CM SB SP
  go_wp2
  clear x0 x1 x2 x3
  go_loopw [4] (fun t wr => ∃ i : Nat, i ≤ nP ∧ t = .int .i64 i ∧ (∀ a, a < i → rowB b nP a = true) ∧ Below w2.heap.size w2 wr) (fun t _ => nP - (intOf t).toNat)
  case atStart => exact ⟨0, by omega, rfl, fun a ha => by omega, Below.refl _ _⟩
  case round =>
    obtain ⟨i, hi, rfl, ha, hb⟩ := hrel
    have HA : Hid (∀ a, a < i → rowB b nP a = true) := ha
    have HB : Hid (Below w2.heap.size w2 wr) := hb
    have HBW : Hid (Below w.heap.size w wr) := B2.out.trans (hb.mono B2.out.size)
    obtain ⟨x0, x1, x2, x3⟩ := X2.out.below hb
    clear ha hb
    by_cases hlt : i < nP
    · have i1 : (i : Int) < (nP : Int) := by omega
      obtain ⟨p0, p1, p2⟩ := HCA.out i hlt
      have hlb := block_lt_of_cell p0
      replace p0 := (HB.out.cell (p := ⟨bA, oA + i * 3, none⟩) hlb).trans p0
      replace p1 := (HB.out.cell (p := ⟨bA, oA + i * 3 + 1, none⟩) hlb).trans p1
      replace p2 := (HB.out.cell (p := ⟨bA, oA + i * 3 + 2, none⟩) hlb).trans p2
      obtain ⟨y, hy⟩ : ∃ y, b.A.getD i a30 = y := ⟨_, rfl⟩
      rw [hy] at p0 p1 p2
      obtain ⟨y0, y1, y2⟩ := y
      simp only at p0 p1 p2
      have E := refAcctIs_any y0 y1 y2
      obtain ⟨q, hq⟩ : ∃ q, acctB y0 y1 y2 = q := ⟨_, rfl⟩
      rw [hq] at E
      have HQA : Hid (acctAt b.A i = q) := by
        show acctAt b.A i = q
        unfold acctAt
        rw [hy]
        exact hq
      clear hy hq hlb
      go_wp2_with fail
      go_at_call 39
      refine (E _).mono ?_
      rintro e w4 ⟨rfl, hb⟩
      have HB4 : Hid (Below w2.heap.size w2 w4) := HB.out.trans (hb.mono HB.out.size)
      have HBW4 : Hid (Below w.heap.size w w4) := B2.out.trans (HB4.out.mono B2.out.size)
      clear hb E HB HBW x0 x1 x2 x3 p0 p1 p2
      obtain ⟨x0, x1, x2, x3⟩ := X2.out.below HB4.out
      cases q
      · have HN : Hid (false = booksB b) := booksB_no fun g => by
          have := g.acc i (by rw [← HLA.out]; exact hlt)
          rw [HQA.out] at this
          exact Bool.noConfusion this
        go_wp2
        go_ret
        exact ⟨rt_bool HN.out, HBW4.out⟩
      have m0 := HCM.out i hlt
      replace m0 := (HB4.out.cell (p := ⟨bM, oM + i, none⟩) (block_lt_of_cell m0)).trans m0
      obtain ⟨y, hy⟩ : ∃ y, b.M.getD i 0 = y := ⟨_, rfl⟩
      rw [hy] at m0
      have E := refLimit_any y
      obtain ⟨q, hq⟩ : ∃ q, limB y = q := ⟨_, rfl⟩
      rw [hq] at E
      have HQM : Hid (limB (b.M.getD i 0) = q) := by rw [hy]; exact hq
      clear hy hq
      go_wp2_with fail
      go_at_call 40
      refine (E _).mono ?_
      rintro e w5 ⟨rfl, hw⟩
      obtain rfl := hw.symm
      clear hw E m0
      cases q
      · have HN : Hid (false = booksB b) := booksB_no fun g => by
          have := g.muls i (by rw [← HLA.out]; exact hlt)
          rw [HQM.out] at this
          exact Bool.noConfusion this
        go_wp2
        go_ret
        exact ⟨rt_bool HN.out, HBW4.out⟩
      go_wp2
      clear x0 x1 x2 x3
      go_loopw [5] (fun t wr => ∃ k : Nat, k ≤ nP ∧ t = .int .i64 k ∧ (∀ a, a < k → cellB b i a = true) ∧ Below w2.heap.size w2 wr) (fun t _ => nP - (intOf t).toNat)
      case atStart => exact ⟨0, by omega, rfl, fun a ha => by omega, HB4.out⟩
      case round =>
        obtain ⟨k, hk, rfl, ha, hb⟩ := hrel
        have HK : Hid (∀ a, a < k → cellB b i a = true) := ha
        have HBi : Hid (Below w2.heap.size w2 wr) := hb
        have HBWi : Hid (Below w.heap.size w wr) := B2.out.trans (hb.mono B2.out.size)
        obtain ⟨x0, x1, x2, x3⟩ := X2.out.below hb
        clear ha hb
        by_cases hkl : k < nP
        · have k1 : (k : Int) < (nP : Int) := by omega
          obtain ⟨g1, o1, d1, b0, b1⟩ := (HSB.out.below HBi.out) i hlt
          have bc := b1 k hkl
          obtain ⟨g2, o2, d2, r0, r1⟩ := (HSP.out.below HBi.out) i hlt
          have pc := r1 k hkl
          obtain ⟨g3, o3, d3, s0, s1⟩ := (HSP.out.below HBi.out) k hkl
          have qc := s1 i hlt
          have wq := at2_wf HX.out.pos.2.1 k i
          clear b1 r1 s1
          generalize hx : at2 b.B i k = x at bc
          generalize hp : at2 b.P i k = p at pc
          generalize hq : at2 b.P k i = q' at qc wq
          have HXP : Hid (at2 b.B i k = x ∧ at2 b.P i k = p ∧ at2 b.P k i = q' ∧ -9223372036854775808 ≤ q' ∧ q' ≤ 9223372036854775807) := ⟨hx, hp, hq, wq⟩
          clear hx hp hq wq
          obtain ⟨l, hl⟩ : ∃ l, limB x = l := ⟨_, rfl⟩
          have E : Hid (∀ u, Calls Try.prog 40 #[.int .i64 x] u fun e w' => e = .returned (.bool l) ∧ Below u.heap.size u w') := fun u => (refLimit_any x u).mono fun e w' h => ⟨by rw [h.1, hl], by rw [h.2]; exact Below.refl _ _⟩
          obtain ⟨a, ha⟩ : ∃ a, decide (p ≤ -72057594037927936) = a := ⟨_, rfl⟩
          obtain ⟨c, hc⟩ : ∃ c, decide (72057594037927936 ≤ p) = c := ⟨_, rfl⟩
          obtain ⟨n, hn⟩ : ∃ n, (p != IntKind.i64.wrap (-q')) = n := ⟨_, rfl⟩
          obtain ⟨R, hR⟩ : ∃ R, ((((!l) || a) || c) || n) = R := ⟨_, rfl⟩
          have HL1 : Hid (limB x = l) := hl
          have HA1 : Hid (decide (p ≤ -72057594037927936) = a) := ha
          have HC1 : Hid (decide (72057594037927936 ≤ p) = c) := hc
          have HN1 : Hid ((p != IntKind.i64.wrap (-q')) = n) := hn
          have HR : Hid (((((!l) || a) || c) || n) = R) := hR
          have X4 : Hid (Box4 wr w.heap.size ⟨some ⟨bA, oA, none⟩, nP, cA, some ⟨bB, oB, none⟩, nP, cB, some ⟨bM, oM, none⟩, nP, cM, some ⟨bP, oP, none⟩, nP, cP⟩) := X2.out.below HBi.out
          clear hl ha hc hn hR x0 x1 x2 x3
          cases R with
          | true =>
            have HN : Hid (false = booksB b) := booksB_no fun g => by
              have a1 := g.lim i k (by rw [← HLA.out]; exact hlt) (by rw [← HLA.out]; exact hkl)
              have a2 := posB_yes (g.may i k (by rw [← HLA.out]; exact hlt) (by rw [← HLA.out]; exact hkl))
              have a3 := g.turn i k (by rw [← HLA.out]; exact hlt) (by rw [← HLA.out]; exact hkl)
              obtain ⟨e1, e2, e3, e4, e5⟩ := HXP.out
              rw [e1, HL1.out] at a1
              rw [e2] at a2 a3
              rw [e3] at a3
              have hr := HR.out
              have b1 : a = false := by rw [← HA1.out, decide_eq_false_iff_not]; omega
              have b2 : c = false := by rw [← HC1.out, decide_eq_false_iff_not]; omega
              rw [a1, b1, b2] at hr
              have b3 : n = true := by simpa using hr
              rw [b3] at HN1
              exact turned_yes HN1.out e4 a2.1 a2.2 a3
            go_wp2
            refine region_owes (L := [Fact.is (.pointer (some ⟨w.heap.size, 1, none⟩)),
              Fact.is (.slice (some ⟨bB, oB, none⟩) nP cB),
              Fact.is (.int .i64 i),
              Fact.is (.pointer (some ⟨bB, oB + i, none⟩)),
              Fact.is (.slice (some ⟨g1, o1, none⟩) nP d1),
              Fact.is (.int .i64 k),
              Fact.is (.pointer (some ⟨g1, o1 + k, none⟩)),
              Fact.is (.int .i64 x),
              Fact.is (.bool l),
              Fact.is (.bool (!l)),
              Fact.is (.bool (!l)),
              Fact.when ((!l) == false) (.pointer (some ⟨w.heap.size, 3, none⟩)),
              Fact.when ((!l) == false) (.slice (some ⟨bP, oP, none⟩) nP cP),
              Fact.when ((!l) == false) (.int .i64 i),
              Fact.when ((!l) == false) (.pointer (some ⟨bP, oP + i, none⟩)),
              Fact.when ((!l) == false) (.slice (some ⟨g2, o2, none⟩) nP d2),
              Fact.when ((!l) == false) (.int .i64 k),
              Fact.when ((!l) == false) (.pointer (some ⟨g2, o2 + k, none⟩)),
              Fact.when ((!l) == false) (.int .i64 p),
              Fact.when ((!l) == false) (.bool a),
              Fact.is (.bool ((!l) || a)),
              Fact.is (.bool ((!l) || a)),
              Fact.when (((!l) || a) == false) (.pointer (some ⟨w.heap.size, 3, none⟩)),
              Fact.when (((!l) || a) == false) (.slice (some ⟨bP, oP, none⟩) nP cP),
              Fact.when (((!l) || a) == false) (.int .i64 i),
              Fact.when (((!l) || a) == false) (.pointer (some ⟨bP, oP + i, none⟩)),
              Fact.when (((!l) || a) == false) (.slice (some ⟨g2, o2, none⟩) nP d2),
              Fact.when (((!l) || a) == false) (.int .i64 k),
              Fact.when (((!l) || a) == false) (.pointer (some ⟨g2, o2 + k, none⟩)),
              Fact.when (((!l) || a) == false) (.int .i64 p),
              Fact.when (((!l) || a) == false) (.bool c),
              Fact.is (.bool (((!l) || a) || c)),
              Fact.is (.bool (((!l) || a) || c)),
              Fact.when ((((!l) || a) || c) == false) (.pointer (some ⟨w.heap.size, 3, none⟩)),
              Fact.when ((((!l) || a) || c) == false) (.slice (some ⟨bP, oP, none⟩) nP cP),
              Fact.when ((((!l) || a) || c) == false) (.int .i64 i),
              Fact.when ((((!l) || a) || c) == false) (.pointer (some ⟨bP, oP + i, none⟩)),
              Fact.when ((((!l) || a) || c) == false) (.slice (some ⟨g2, o2, none⟩) nP d2),
              Fact.when ((((!l) || a) || c) == false) (.int .i64 k),
              Fact.when ((((!l) || a) || c) == false) (.pointer (some ⟨g2, o2 + k, none⟩)),
              Fact.when ((((!l) || a) || c) == false) (.int .i64 p),
              Fact.when ((((!l) || a) || c) == false) (.pointer (some ⟨w.heap.size, 3, none⟩)),
              Fact.when ((((!l) || a) || c) == false) (.slice (some ⟨bP, oP, none⟩) nP cP),
              Fact.when ((((!l) || a) || c) == false) (.int .i64 k),
              Fact.when ((((!l) || a) || c) == false) (.pointer (some ⟨bP, oP + k, none⟩)),
              Fact.when ((((!l) || a) || c) == false) (.slice (some ⟨g3, o3, none⟩) nP d3),
              Fact.when ((((!l) || a) || c) == false) (.int .i64 i),
              Fact.when ((((!l) || a) || c) == false) (.pointer (some ⟨g3, o3 + i, none⟩)),
              Fact.when ((((!l) || a) || c) == false) (.int .i64 q'),
              Fact.when ((((!l) || a) || c) == false) (.int .i64 (IntKind.i64.wrap (-q'))),
              Fact.when ((((!l) || a) || c) == false) (.bool n),
              Fact.is (.bool true)])
              (T := [62, 63, 64, 65, 66, 67, 68, 69, 70, 71, 72, 73, 74, 75, 76, 77, 78, 79, 80, 81, 82, 83, 84, 85, 86, 87, 88, 89, 90, 91, 92, 93, 94, 95, 96, 97, 98, 99, 100, 101, 102, 103, 104, 105, 106, 107, 108, 109, 110, 111, 112, 113]) (by kernel_rfl) (by kernel_rfl) rfl ?owes ?_
            case owes =>
              refine .cons (owes_value fun q u lh => ⟨wants_free rfl, .pointer (some ⟨w.heap.size, 1, none⟩), by have e1 : q.tmps.getD 1 undef = .pointer (some ⟨w.heap.size, 0, none⟩) := lh.old 1 rfl; simp [execOp, Act.eval, e1, go_sem], rfl⟩) ?_
              refine .cons (owes_value fun q u lh => ⟨wants_free rfl, .slice (some ⟨bB, oB, none⟩) nP cB, by have e62 : q.tmps.getD 62 undef = .pointer (some ⟨w.heap.size, 1, none⟩) := lh.dep 0 rfl; obtain ⟨p0, p1, p2, p3⟩ := X4.out.below lh.below; simp [execOp, Act.eval, e62, p1, go_sem], rfl⟩) ?_
              refine .cons (owes_move (.tmp 4) (.inl rfl) fun q u lh => ⟨wants_free rfl, lh.old 4 rfl⟩) ?_
              refine .cons (owes_value fun q u lh => ⟨wants_free rfl, .pointer (some ⟨bB, oB + i, none⟩), by have e63 : q.tmps.getD 63 undef = .slice (some ⟨bB, oB, none⟩) nP cB := lh.dep 1 rfl; have e64 : q.tmps.getD 64 undef = .int .i64 i := lh.dep 2 rfl; simp [execOp, Act.eval, e63, e64, i1, go_sem], rfl⟩) ?_
              refine .cons (owes_value fun q u lh => ⟨wants_free rfl, .slice (some ⟨g1, o1, none⟩) nP d1, by have e65 : q.tmps.getD 65 undef = .pointer (some ⟨bB, oB + i, none⟩) := lh.dep 3 rfl; have r1 := (lh.below.cell (p := ⟨bB, oB + i, none⟩) (block_lt_of_cell b0)).trans b0; simp [execOp, Act.eval, e65, r1, go_sem], rfl⟩) ?_
              refine .cons (owes_move (.tmp 5) (.inl rfl) fun q u lh => ⟨wants_free rfl, lh.old 5 rfl⟩) ?_
              refine .cons (owes_value fun q u lh => ⟨wants_free rfl, .pointer (some ⟨g1, o1 + k, none⟩), by have e66 : q.tmps.getD 66 undef = .slice (some ⟨g1, o1, none⟩) nP d1 := lh.dep 4 rfl; have e67 : q.tmps.getD 67 undef = .int .i64 k := lh.dep 5 rfl; simp [execOp, Act.eval, e66, e67, k1, go_sem], rfl⟩) ?_
              refine .cons (owes_value fun q u lh => ⟨wants_free rfl, .int .i64 x, by have e68 : q.tmps.getD 68 undef = .pointer (some ⟨g1, o1 + k, none⟩) := lh.dep 6 rfl; have r1 := (lh.below.cell (p := ⟨g1, o1 + k, none⟩) (block_lt_of_cell bc)).trans bc; simp [execOp, Act.eval, e68, r1, go_sem], rfl⟩) ?_
              refine .cons (owes_call 40 Try.func40 (by kernel_rfl) (by kernel_rfl) [.tmp 69] #[2] rfl fun q u lh => ⟨wants_free rfl, by have e69 : q.tmps.getD 69 undef = .int .i64 x := lh.dep 7 rfl; show Calls Try.prog 40 #[q.tmps.getD 69 undef] u _; rw [e69]; exact bool_fact (E.out u)⟩) ?_
              refine .cons (owes_value fun q u lh => ⟨wants_free rfl, .bool (!l), by have e70 : q.tmps.getD 70 undef = .bool l := lh.dep 8 rfl; simp [execOp, Act.eval, e70, go_sem], rfl⟩) ?_
              refine .cons (owes_move (.tmp 71) (.inl rfl) fun q u lh => ⟨wants_free rfl, lh.dep 9 rfl⟩) ?_
              refine .cons (owes_when 10 false (!l) (.pointer (some ⟨w.heap.size, 3, none⟩)) rfl rfl rfl rfl fun hg q u lh => by have e1 : q.tmps.getD 1 undef = .pointer (some ⟨w.heap.size, 0, none⟩) := lh.old 1 rfl; simp [execOp, Act.eval, e1, go_sem]) ?_
              refine .cons (owes_when 10 false (!l) (.slice (some ⟨bP, oP, none⟩) nP cP) rfl rfl rfl rfl fun hg q u lh => by have e73 : q.tmps.getD 73 undef = .pointer (some ⟨w.heap.size, 3, none⟩) := (lh.dep 11 rfl) hg; obtain ⟨p0, p1, p2, p3⟩ := X4.out.below lh.below; simp [execOp, Act.eval, e73, p3, go_sem]) ?_
              refine .cons (owes_when 10 false (!l) (.int .i64 i) rfl rfl rfl rfl fun hg q u lh => by have e4 : q.tmps.getD 4 undef = .int .i64 i := lh.old 4 rfl; simp [execOp, Act.eval, e4, go_sem]) ?_
              refine .cons (owes_when 10 false (!l) (.pointer (some ⟨bP, oP + i, none⟩)) rfl rfl rfl rfl fun hg q u lh => by have e74 : q.tmps.getD 74 undef = .slice (some ⟨bP, oP, none⟩) nP cP := (lh.dep 12 rfl) hg; have e75 : q.tmps.getD 75 undef = .int .i64 i := (lh.dep 13 rfl) hg; simp [execOp, Act.eval, e74, e75, i1, go_sem]) ?_
              refine .cons (owes_when 10 false (!l) (.slice (some ⟨g2, o2, none⟩) nP d2) rfl rfl rfl rfl fun hg q u lh => by have e76 : q.tmps.getD 76 undef = .pointer (some ⟨bP, oP + i, none⟩) := (lh.dep 14 rfl) hg; have r1 := (lh.below.cell (p := ⟨bP, oP + i, none⟩) (block_lt_of_cell r0)).trans r0; simp [execOp, Act.eval, e76, r1, go_sem]) ?_
              refine .cons (owes_when 10 false (!l) (.int .i64 k) rfl rfl rfl rfl fun hg q u lh => by have e5 : q.tmps.getD 5 undef = .int .i64 k := lh.old 5 rfl; simp [execOp, Act.eval, e5, go_sem]) ?_
              refine .cons (owes_when 10 false (!l) (.pointer (some ⟨g2, o2 + k, none⟩)) rfl rfl rfl rfl fun hg q u lh => by have e77 : q.tmps.getD 77 undef = .slice (some ⟨g2, o2, none⟩) nP d2 := (lh.dep 15 rfl) hg; have e78 : q.tmps.getD 78 undef = .int .i64 k := (lh.dep 16 rfl) hg; simp [execOp, Act.eval, e77, e78, k1, go_sem]) ?_
              refine .cons (owes_when 10 false (!l) (.int .i64 p) rfl rfl rfl rfl fun hg q u lh => by have e79 : q.tmps.getD 79 undef = .pointer (some ⟨g2, o2 + k, none⟩) := (lh.dep 17 rfl) hg; have r1 := (lh.below.cell (p := ⟨g2, o2 + k, none⟩) (block_lt_of_cell pc)).trans pc; simp [execOp, Act.eval, e79, r1, go_sem]) ?_
              refine .cons (owes_when 10 false (!l) (.bool a) rfl rfl rfl rfl fun hg q u lh => by have e80 : q.tmps.getD 80 undef = .int .i64 p := (lh.dep 18 rfl) hg; simp [execOp, Act.eval, e80, HA1.out, go_sem]) ?_
              refine .cons (owes_or 72 81 10 19 (!l) a rfl rfl rfl rfl rfl rfl rfl rfl (rfl)) ?_
              refine .cons (owes_move (.tmp 82) (.inl rfl) fun q u lh => ⟨wants_free rfl, lh.dep 20 rfl⟩) ?_
              refine .cons (owes_when 21 false ((!l) || a) (.pointer (some ⟨w.heap.size, 3, none⟩)) rfl rfl rfl rfl fun hg q u lh => by have e1 : q.tmps.getD 1 undef = .pointer (some ⟨w.heap.size, 0, none⟩) := lh.old 1 rfl; simp [execOp, Act.eval, e1, go_sem]) ?_
              refine .cons (owes_when 21 false ((!l) || a) (.slice (some ⟨bP, oP, none⟩) nP cP) rfl rfl rfl rfl fun hg q u lh => by have e84 : q.tmps.getD 84 undef = .pointer (some ⟨w.heap.size, 3, none⟩) := (lh.dep 22 rfl) hg; obtain ⟨p0, p1, p2, p3⟩ := X4.out.below lh.below; simp [execOp, Act.eval, e84, p3, go_sem]) ?_
              refine .cons (owes_when 21 false ((!l) || a) (.int .i64 i) rfl rfl rfl rfl fun hg q u lh => by have e4 : q.tmps.getD 4 undef = .int .i64 i := lh.old 4 rfl; simp [execOp, Act.eval, e4, go_sem]) ?_
              refine .cons (owes_when 21 false ((!l) || a) (.pointer (some ⟨bP, oP + i, none⟩)) rfl rfl rfl rfl fun hg q u lh => by have e85 : q.tmps.getD 85 undef = .slice (some ⟨bP, oP, none⟩) nP cP := (lh.dep 23 rfl) hg; have e86 : q.tmps.getD 86 undef = .int .i64 i := (lh.dep 24 rfl) hg; simp [execOp, Act.eval, e85, e86, i1, go_sem]) ?_
              refine .cons (owes_when 21 false ((!l) || a) (.slice (some ⟨g2, o2, none⟩) nP d2) rfl rfl rfl rfl fun hg q u lh => by have e87 : q.tmps.getD 87 undef = .pointer (some ⟨bP, oP + i, none⟩) := (lh.dep 25 rfl) hg; have r1 := (lh.below.cell (p := ⟨bP, oP + i, none⟩) (block_lt_of_cell r0)).trans r0; simp [execOp, Act.eval, e87, r1, go_sem]) ?_
              refine .cons (owes_when 21 false ((!l) || a) (.int .i64 k) rfl rfl rfl rfl fun hg q u lh => by have e5 : q.tmps.getD 5 undef = .int .i64 k := lh.old 5 rfl; simp [execOp, Act.eval, e5, go_sem]) ?_
              refine .cons (owes_when 21 false ((!l) || a) (.pointer (some ⟨g2, o2 + k, none⟩)) rfl rfl rfl rfl fun hg q u lh => by have e88 : q.tmps.getD 88 undef = .slice (some ⟨g2, o2, none⟩) nP d2 := (lh.dep 26 rfl) hg; have e89 : q.tmps.getD 89 undef = .int .i64 k := (lh.dep 27 rfl) hg; simp [execOp, Act.eval, e88, e89, k1, go_sem]) ?_
              refine .cons (owes_when 21 false ((!l) || a) (.int .i64 p) rfl rfl rfl rfl fun hg q u lh => by have e90 : q.tmps.getD 90 undef = .pointer (some ⟨g2, o2 + k, none⟩) := (lh.dep 28 rfl) hg; have r1 := (lh.below.cell (p := ⟨g2, o2 + k, none⟩) (block_lt_of_cell pc)).trans pc; simp [execOp, Act.eval, e90, r1, go_sem]) ?_
              refine .cons (owes_when 21 false ((!l) || a) (.bool c) rfl rfl rfl rfl fun hg q u lh => by have e91 : q.tmps.getD 91 undef = .int .i64 p := (lh.dep 29 rfl) hg; simp [execOp, Act.eval, e91, HC1.out, go_sem]) ?_
              refine .cons (owes_or 83 92 21 30 ((!l) || a) c rfl rfl rfl rfl rfl rfl rfl rfl (rfl)) ?_
              refine .cons (owes_move (.tmp 93) (.inl rfl) fun q u lh => ⟨wants_free rfl, lh.dep 31 rfl⟩) ?_
              refine .cons (owes_when 32 false (((!l) || a) || c) (.pointer (some ⟨w.heap.size, 3, none⟩)) rfl rfl rfl rfl fun hg q u lh => by have e1 : q.tmps.getD 1 undef = .pointer (some ⟨w.heap.size, 0, none⟩) := lh.old 1 rfl; simp [execOp, Act.eval, e1, go_sem]) ?_
              refine .cons (owes_when 32 false (((!l) || a) || c) (.slice (some ⟨bP, oP, none⟩) nP cP) rfl rfl rfl rfl fun hg q u lh => by have e95 : q.tmps.getD 95 undef = .pointer (some ⟨w.heap.size, 3, none⟩) := (lh.dep 33 rfl) hg; obtain ⟨p0, p1, p2, p3⟩ := X4.out.below lh.below; simp [execOp, Act.eval, e95, p3, go_sem]) ?_
              refine .cons (owes_when 32 false (((!l) || a) || c) (.int .i64 i) rfl rfl rfl rfl fun hg q u lh => by have e4 : q.tmps.getD 4 undef = .int .i64 i := lh.old 4 rfl; simp [execOp, Act.eval, e4, go_sem]) ?_
              refine .cons (owes_when 32 false (((!l) || a) || c) (.pointer (some ⟨bP, oP + i, none⟩)) rfl rfl rfl rfl fun hg q u lh => by have e96 : q.tmps.getD 96 undef = .slice (some ⟨bP, oP, none⟩) nP cP := (lh.dep 34 rfl) hg; have e97 : q.tmps.getD 97 undef = .int .i64 i := (lh.dep 35 rfl) hg; simp [execOp, Act.eval, e96, e97, i1, go_sem]) ?_
              refine .cons (owes_when 32 false (((!l) || a) || c) (.slice (some ⟨g2, o2, none⟩) nP d2) rfl rfl rfl rfl fun hg q u lh => by have e98 : q.tmps.getD 98 undef = .pointer (some ⟨bP, oP + i, none⟩) := (lh.dep 36 rfl) hg; have r1 := (lh.below.cell (p := ⟨bP, oP + i, none⟩) (block_lt_of_cell r0)).trans r0; simp [execOp, Act.eval, e98, r1, go_sem]) ?_
              refine .cons (owes_when 32 false (((!l) || a) || c) (.int .i64 k) rfl rfl rfl rfl fun hg q u lh => by have e5 : q.tmps.getD 5 undef = .int .i64 k := lh.old 5 rfl; simp [execOp, Act.eval, e5, go_sem]) ?_
              refine .cons (owes_when 32 false (((!l) || a) || c) (.pointer (some ⟨g2, o2 + k, none⟩)) rfl rfl rfl rfl fun hg q u lh => by have e99 : q.tmps.getD 99 undef = .slice (some ⟨g2, o2, none⟩) nP d2 := (lh.dep 37 rfl) hg; have e100 : q.tmps.getD 100 undef = .int .i64 k := (lh.dep 38 rfl) hg; simp [execOp, Act.eval, e99, e100, k1, go_sem]) ?_
              refine .cons (owes_when 32 false (((!l) || a) || c) (.int .i64 p) rfl rfl rfl rfl fun hg q u lh => by have e101 : q.tmps.getD 101 undef = .pointer (some ⟨g2, o2 + k, none⟩) := (lh.dep 39 rfl) hg; have r1 := (lh.below.cell (p := ⟨g2, o2 + k, none⟩) (block_lt_of_cell pc)).trans pc; simp [execOp, Act.eval, e101, r1, go_sem]) ?_
              refine .cons (owes_when 32 false (((!l) || a) || c) (.pointer (some ⟨w.heap.size, 3, none⟩)) rfl rfl rfl rfl fun hg q u lh => by have e1 : q.tmps.getD 1 undef = .pointer (some ⟨w.heap.size, 0, none⟩) := lh.old 1 rfl; simp [execOp, Act.eval, e1, go_sem]) ?_
              refine .cons (owes_when 32 false (((!l) || a) || c) (.slice (some ⟨bP, oP, none⟩) nP cP) rfl rfl rfl rfl fun hg q u lh => by have e103 : q.tmps.getD 103 undef = .pointer (some ⟨w.heap.size, 3, none⟩) := (lh.dep 41 rfl) hg; obtain ⟨p0, p1, p2, p3⟩ := X4.out.below lh.below; simp [execOp, Act.eval, e103, p3, go_sem]) ?_
              refine .cons (owes_when 32 false (((!l) || a) || c) (.int .i64 k) rfl rfl rfl rfl fun hg q u lh => by have e5 : q.tmps.getD 5 undef = .int .i64 k := lh.old 5 rfl; simp [execOp, Act.eval, e5, go_sem]) ?_
              refine .cons (owes_when 32 false (((!l) || a) || c) (.pointer (some ⟨bP, oP + k, none⟩)) rfl rfl rfl rfl fun hg q u lh => by have e104 : q.tmps.getD 104 undef = .slice (some ⟨bP, oP, none⟩) nP cP := (lh.dep 42 rfl) hg; have e105 : q.tmps.getD 105 undef = .int .i64 k := (lh.dep 43 rfl) hg; simp [execOp, Act.eval, e104, e105, k1, go_sem]) ?_
              refine .cons (owes_when 32 false (((!l) || a) || c) (.slice (some ⟨g3, o3, none⟩) nP d3) rfl rfl rfl rfl fun hg q u lh => by have e106 : q.tmps.getD 106 undef = .pointer (some ⟨bP, oP + k, none⟩) := (lh.dep 44 rfl) hg; have r1 := (lh.below.cell (p := ⟨bP, oP + k, none⟩) (block_lt_of_cell s0)).trans s0; simp [execOp, Act.eval, e106, r1, go_sem]) ?_
              refine .cons (owes_when 32 false (((!l) || a) || c) (.int .i64 i) rfl rfl rfl rfl fun hg q u lh => by have e4 : q.tmps.getD 4 undef = .int .i64 i := lh.old 4 rfl; simp [execOp, Act.eval, e4, go_sem]) ?_
              refine .cons (owes_when 32 false (((!l) || a) || c) (.pointer (some ⟨g3, o3 + i, none⟩)) rfl rfl rfl rfl fun hg q u lh => by have e107 : q.tmps.getD 107 undef = .slice (some ⟨g3, o3, none⟩) nP d3 := (lh.dep 45 rfl) hg; have e108 : q.tmps.getD 108 undef = .int .i64 i := (lh.dep 46 rfl) hg; simp [execOp, Act.eval, e107, e108, i1, go_sem]) ?_
              refine .cons (owes_when 32 false (((!l) || a) || c) (.int .i64 q') rfl rfl rfl rfl fun hg q u lh => by have e109 : q.tmps.getD 109 undef = .pointer (some ⟨g3, o3 + i, none⟩) := (lh.dep 47 rfl) hg; have r1 := (lh.below.cell (p := ⟨g3, o3 + i, none⟩) (block_lt_of_cell qc)).trans qc; simp [execOp, Act.eval, e109, r1, go_sem]) ?_
              refine .cons (owes_when 32 false (((!l) || a) || c) (.int .i64 (IntKind.i64.wrap (-q'))) rfl rfl rfl rfl fun hg q u lh => by have e110 : q.tmps.getD 110 undef = .int .i64 q' := (lh.dep 48 rfl) hg; simp [execOp, Act.eval, e110, go_sem]) ?_
              refine .cons (owes_when 32 false (((!l) || a) || c) (.bool n) rfl rfl rfl rfl fun hg q u lh => by have e102 : q.tmps.getD 102 undef = .int .i64 p := (lh.dep 40 rfl) hg; have e111 : q.tmps.getD 111 undef = .int .i64 (IntKind.i64.wrap (-q')) := (lh.dep 49 rfl) hg; simp [execOp, Act.eval, e102, e111, HN1.out, go_sem]) ?_
              refine .cons (owes_or 94 112 32 50 (((!l) || a) || c) n rfl rfl rfl rfl rfl rfl rfl rfl (congrArg (fun b => Fact.is (.bool b)) HR.out.symm)) ?_
              exact .nil _
            intro q u hb hsz hdf hold hfact
            obtain ⟨v73, e73⟩ : ∃ v, q.tmps.getD 73 undef = v := ⟨_, rfl⟩
            obtain ⟨v74, e74⟩ : ∃ v, q.tmps.getD 74 undef = v := ⟨_, rfl⟩
            obtain ⟨v75, e75⟩ : ∃ v, q.tmps.getD 75 undef = v := ⟨_, rfl⟩
            obtain ⟨v76, e76⟩ : ∃ v, q.tmps.getD 76 undef = v := ⟨_, rfl⟩
            obtain ⟨v77, e77⟩ : ∃ v, q.tmps.getD 77 undef = v := ⟨_, rfl⟩
            obtain ⟨v78, e78⟩ : ∃ v, q.tmps.getD 78 undef = v := ⟨_, rfl⟩
            obtain ⟨v79, e79⟩ : ∃ v, q.tmps.getD 79 undef = v := ⟨_, rfl⟩
            obtain ⟨v80, e80⟩ : ∃ v, q.tmps.getD 80 undef = v := ⟨_, rfl⟩
            obtain ⟨v81, e81⟩ : ∃ v, q.tmps.getD 81 undef = v := ⟨_, rfl⟩
            obtain ⟨v84, e84⟩ : ∃ v, q.tmps.getD 84 undef = v := ⟨_, rfl⟩
            obtain ⟨v85, e85⟩ : ∃ v, q.tmps.getD 85 undef = v := ⟨_, rfl⟩
            obtain ⟨v86, e86⟩ : ∃ v, q.tmps.getD 86 undef = v := ⟨_, rfl⟩
            obtain ⟨v87, e87⟩ : ∃ v, q.tmps.getD 87 undef = v := ⟨_, rfl⟩
            obtain ⟨v88, e88⟩ : ∃ v, q.tmps.getD 88 undef = v := ⟨_, rfl⟩
            obtain ⟨v89, e89⟩ : ∃ v, q.tmps.getD 89 undef = v := ⟨_, rfl⟩
            obtain ⟨v90, e90⟩ : ∃ v, q.tmps.getD 90 undef = v := ⟨_, rfl⟩
            obtain ⟨v91, e91⟩ : ∃ v, q.tmps.getD 91 undef = v := ⟨_, rfl⟩
            obtain ⟨v92, e92⟩ : ∃ v, q.tmps.getD 92 undef = v := ⟨_, rfl⟩
            obtain ⟨v95, e95⟩ : ∃ v, q.tmps.getD 95 undef = v := ⟨_, rfl⟩
            obtain ⟨v96, e96⟩ : ∃ v, q.tmps.getD 96 undef = v := ⟨_, rfl⟩
            obtain ⟨v97, e97⟩ : ∃ v, q.tmps.getD 97 undef = v := ⟨_, rfl⟩
            obtain ⟨v98, e98⟩ : ∃ v, q.tmps.getD 98 undef = v := ⟨_, rfl⟩
            obtain ⟨v99, e99⟩ : ∃ v, q.tmps.getD 99 undef = v := ⟨_, rfl⟩
            obtain ⟨v100, e100⟩ : ∃ v, q.tmps.getD 100 undef = v := ⟨_, rfl⟩
            obtain ⟨v101, e101⟩ : ∃ v, q.tmps.getD 101 undef = v := ⟨_, rfl⟩
            obtain ⟨v102, e102⟩ : ∃ v, q.tmps.getD 102 undef = v := ⟨_, rfl⟩
            obtain ⟨v103, e103⟩ : ∃ v, q.tmps.getD 103 undef = v := ⟨_, rfl⟩
            obtain ⟨v104, e104⟩ : ∃ v, q.tmps.getD 104 undef = v := ⟨_, rfl⟩
            obtain ⟨v105, e105⟩ : ∃ v, q.tmps.getD 105 undef = v := ⟨_, rfl⟩
            obtain ⟨v106, e106⟩ : ∃ v, q.tmps.getD 106 undef = v := ⟨_, rfl⟩
            obtain ⟨v107, e107⟩ : ∃ v, q.tmps.getD 107 undef = v := ⟨_, rfl⟩
            obtain ⟨v108, e108⟩ : ∃ v, q.tmps.getD 108 undef = v := ⟨_, rfl⟩
            obtain ⟨v109, e109⟩ : ∃ v, q.tmps.getD 109 undef = v := ⟨_, rfl⟩
            obtain ⟨v110, e110⟩ : ∃ v, q.tmps.getD 110 undef = v := ⟨_, rfl⟩
            obtain ⟨v111, e111⟩ : ∃ v, q.tmps.getD 111 undef = v := ⟨_, rfl⟩
            obtain ⟨v112, e112⟩ : ∃ v, q.tmps.getD 112 undef = v := ⟨_, rfl⟩
            obtain rfl := frame_puts hsz hdf [62, 63, 64, 65, 66, 67, 68, 69, 70, 71, 72, 73, 74, 75, 76, 77, 78, 79, 80, 81, 82, 83, 84, 85, 86, 87, 88, 89, 90, 91, 92, 93, 94, 95, 96, 97, 98, 99, 100, 101, 102, 103, 104, 105, 106, 107, 108, 109, 110, 111, 112, 113] hold [(62, Value.pointer (some ⟨w.heap.size, 1, none⟩)), (63, Value.slice (some ⟨bB, oB, none⟩) nP cB), (64, Value.int .i64 i), (65, Value.pointer (some ⟨bB, oB + i, none⟩)), (66, Value.slice (some ⟨g1, o1, none⟩) nP d1), (67, Value.int .i64 k), (68, Value.pointer (some ⟨g1, o1 + k, none⟩)), (69, Value.int .i64 x), (70, Value.bool l), (71, Value.bool (!l)), (72, Value.bool (!l)), (73, v73), (74, v74), (75, v75), (76, v76), (77, v77), (78, v78), (79, v79), (80, v80), (81, v81), (82, Value.bool ((!l) || a)), (83, Value.bool ((!l) || a)), (84, v84), (85, v85), (86, v86), (87, v87), (88, v88), (89, v89), (90, v90), (91, v91), (92, v92), (93, Value.bool (((!l) || a) || c)), (94, Value.bool (((!l) || a) || c)), (95, v95), (96, v96), (97, v97), (98, v98), (99, v99), (100, v100), (101, v101), (102, v102), (103, v103), (104, v104), (105, v105), (106, v106), (107, v107), (108, v108), (109, v109), (110, v110), (111, v111), (112, v112), (113, Value.bool true)] ⟨hfact 0 (by decide), hfact 1 (by decide), hfact 2 (by decide), hfact 3 (by decide), hfact 4 (by decide), hfact 5 (by decide), hfact 6 (by decide), hfact 7 (by decide), hfact 8 (by decide), hfact 9 (by decide), hfact 10 (by decide), e73, e74, e75, e76, e77, e78, e79, e80, e81, hfact 20 (by decide), hfact 21 (by decide), e84, e85, e86, e87, e88, e89, e90, e91, e92, hfact 31 (by decide), hfact 32 (by decide), e95, e96, e97, e98, e99, e100, e101, e102, e103, e104, e105, e106, e107, e108, e109, e110, e111, e112, hfact 51 (by decide), trivial⟩ rfl
            clear hsz hdf hold hfact
            simp only [puts, Act.put, List.setIfInBounds_toArray, List.set_cons_zero, List.set_cons_succ]
            have HBu : Hid (Below w.heap.size w u) := HBWi.out.trans (hb.mono HBWi.out.size)
            clear hb
            go_wp2
            go_ret
            exact ⟨rt_bool HN.out, HBu.out⟩
          | false =>
            have HS : Hid (∀ a, a < k + 1 → cellB b i a = true) := bil_succ HK.out (by
              obtain ⟨e1, e2, e3, e4, e5⟩ := HXP.out
              have hr := HR.out
              simp only [Bool.or_eq_false_iff, Bool.not_eq_false'] at hr
              obtain ⟨⟨⟨h1, h2⟩, h3⟩, h4⟩ := hr
              have b1 := HA1.out
              have b2 := HC1.out
              rw [h2, decide_eq_false_iff_not] at b1
              rw [h3, decide_eq_false_iff_not] at b2
              have b3 := HN1.out
              rw [h4] at b3
              exact cellB_mk (by rw [e1, HL1.out]; exact h1) (by rw [e2]; exact posB_mk (by omega) (by omega)) (by rw [e2, e3]; exact turned_no b3 e4 e5 (by omega) (by omega)))
            go_wp2
            refine region_owes (L := [Fact.is (.pointer (some ⟨w.heap.size, 1, none⟩)),
              Fact.is (.slice (some ⟨bB, oB, none⟩) nP cB),
              Fact.is (.int .i64 i),
              Fact.is (.pointer (some ⟨bB, oB + i, none⟩)),
              Fact.is (.slice (some ⟨g1, o1, none⟩) nP d1),
              Fact.is (.int .i64 k),
              Fact.is (.pointer (some ⟨g1, o1 + k, none⟩)),
              Fact.is (.int .i64 x),
              Fact.is (.bool l),
              Fact.is (.bool (!l)),
              Fact.is (.bool (!l)),
              Fact.when ((!l) == false) (.pointer (some ⟨w.heap.size, 3, none⟩)),
              Fact.when ((!l) == false) (.slice (some ⟨bP, oP, none⟩) nP cP),
              Fact.when ((!l) == false) (.int .i64 i),
              Fact.when ((!l) == false) (.pointer (some ⟨bP, oP + i, none⟩)),
              Fact.when ((!l) == false) (.slice (some ⟨g2, o2, none⟩) nP d2),
              Fact.when ((!l) == false) (.int .i64 k),
              Fact.when ((!l) == false) (.pointer (some ⟨g2, o2 + k, none⟩)),
              Fact.when ((!l) == false) (.int .i64 p),
              Fact.when ((!l) == false) (.bool a),
              Fact.is (.bool ((!l) || a)),
              Fact.is (.bool ((!l) || a)),
              Fact.when (((!l) || a) == false) (.pointer (some ⟨w.heap.size, 3, none⟩)),
              Fact.when (((!l) || a) == false) (.slice (some ⟨bP, oP, none⟩) nP cP),
              Fact.when (((!l) || a) == false) (.int .i64 i),
              Fact.when (((!l) || a) == false) (.pointer (some ⟨bP, oP + i, none⟩)),
              Fact.when (((!l) || a) == false) (.slice (some ⟨g2, o2, none⟩) nP d2),
              Fact.when (((!l) || a) == false) (.int .i64 k),
              Fact.when (((!l) || a) == false) (.pointer (some ⟨g2, o2 + k, none⟩)),
              Fact.when (((!l) || a) == false) (.int .i64 p),
              Fact.when (((!l) || a) == false) (.bool c),
              Fact.is (.bool (((!l) || a) || c)),
              Fact.is (.bool (((!l) || a) || c)),
              Fact.when ((((!l) || a) || c) == false) (.pointer (some ⟨w.heap.size, 3, none⟩)),
              Fact.when ((((!l) || a) || c) == false) (.slice (some ⟨bP, oP, none⟩) nP cP),
              Fact.when ((((!l) || a) || c) == false) (.int .i64 i),
              Fact.when ((((!l) || a) || c) == false) (.pointer (some ⟨bP, oP + i, none⟩)),
              Fact.when ((((!l) || a) || c) == false) (.slice (some ⟨g2, o2, none⟩) nP d2),
              Fact.when ((((!l) || a) || c) == false) (.int .i64 k),
              Fact.when ((((!l) || a) || c) == false) (.pointer (some ⟨g2, o2 + k, none⟩)),
              Fact.when ((((!l) || a) || c) == false) (.int .i64 p),
              Fact.when ((((!l) || a) || c) == false) (.pointer (some ⟨w.heap.size, 3, none⟩)),
              Fact.when ((((!l) || a) || c) == false) (.slice (some ⟨bP, oP, none⟩) nP cP),
              Fact.when ((((!l) || a) || c) == false) (.int .i64 k),
              Fact.when ((((!l) || a) || c) == false) (.pointer (some ⟨bP, oP + k, none⟩)),
              Fact.when ((((!l) || a) || c) == false) (.slice (some ⟨g3, o3, none⟩) nP d3),
              Fact.when ((((!l) || a) || c) == false) (.int .i64 i),
              Fact.when ((((!l) || a) || c) == false) (.pointer (some ⟨g3, o3 + i, none⟩)),
              Fact.when ((((!l) || a) || c) == false) (.int .i64 q'),
              Fact.when ((((!l) || a) || c) == false) (.int .i64 (IntKind.i64.wrap (-q'))),
              Fact.when ((((!l) || a) || c) == false) (.bool n),
              Fact.is (.bool false)])
              (T := [62, 63, 64, 65, 66, 67, 68, 69, 70, 71, 72, 73, 74, 75, 76, 77, 78, 79, 80, 81, 82, 83, 84, 85, 86, 87, 88, 89, 90, 91, 92, 93, 94, 95, 96, 97, 98, 99, 100, 101, 102, 103, 104, 105, 106, 107, 108, 109, 110, 111, 112, 113]) (by kernel_rfl) (by kernel_rfl) rfl ?owes ?_
            case owes =>
              refine .cons (owes_value fun q u lh => ⟨wants_free rfl, .pointer (some ⟨w.heap.size, 1, none⟩), by have e1 : q.tmps.getD 1 undef = .pointer (some ⟨w.heap.size, 0, none⟩) := lh.old 1 rfl; simp [execOp, Act.eval, e1, go_sem], rfl⟩) ?_
              refine .cons (owes_value fun q u lh => ⟨wants_free rfl, .slice (some ⟨bB, oB, none⟩) nP cB, by have e62 : q.tmps.getD 62 undef = .pointer (some ⟨w.heap.size, 1, none⟩) := lh.dep 0 rfl; obtain ⟨p0, p1, p2, p3⟩ := X4.out.below lh.below; simp [execOp, Act.eval, e62, p1, go_sem], rfl⟩) ?_
              refine .cons (owes_move (.tmp 4) (.inl rfl) fun q u lh => ⟨wants_free rfl, lh.old 4 rfl⟩) ?_
              refine .cons (owes_value fun q u lh => ⟨wants_free rfl, .pointer (some ⟨bB, oB + i, none⟩), by have e63 : q.tmps.getD 63 undef = .slice (some ⟨bB, oB, none⟩) nP cB := lh.dep 1 rfl; have e64 : q.tmps.getD 64 undef = .int .i64 i := lh.dep 2 rfl; simp [execOp, Act.eval, e63, e64, i1, go_sem], rfl⟩) ?_
              refine .cons (owes_value fun q u lh => ⟨wants_free rfl, .slice (some ⟨g1, o1, none⟩) nP d1, by have e65 : q.tmps.getD 65 undef = .pointer (some ⟨bB, oB + i, none⟩) := lh.dep 3 rfl; have r1 := (lh.below.cell (p := ⟨bB, oB + i, none⟩) (block_lt_of_cell b0)).trans b0; simp [execOp, Act.eval, e65, r1, go_sem], rfl⟩) ?_
              refine .cons (owes_move (.tmp 5) (.inl rfl) fun q u lh => ⟨wants_free rfl, lh.old 5 rfl⟩) ?_
              refine .cons (owes_value fun q u lh => ⟨wants_free rfl, .pointer (some ⟨g1, o1 + k, none⟩), by have e66 : q.tmps.getD 66 undef = .slice (some ⟨g1, o1, none⟩) nP d1 := lh.dep 4 rfl; have e67 : q.tmps.getD 67 undef = .int .i64 k := lh.dep 5 rfl; simp [execOp, Act.eval, e66, e67, k1, go_sem], rfl⟩) ?_
              refine .cons (owes_value fun q u lh => ⟨wants_free rfl, .int .i64 x, by have e68 : q.tmps.getD 68 undef = .pointer (some ⟨g1, o1 + k, none⟩) := lh.dep 6 rfl; have r1 := (lh.below.cell (p := ⟨g1, o1 + k, none⟩) (block_lt_of_cell bc)).trans bc; simp [execOp, Act.eval, e68, r1, go_sem], rfl⟩) ?_
              refine .cons (owes_call 40 Try.func40 (by kernel_rfl) (by kernel_rfl) [.tmp 69] #[2] rfl fun q u lh => ⟨wants_free rfl, by have e69 : q.tmps.getD 69 undef = .int .i64 x := lh.dep 7 rfl; show Calls Try.prog 40 #[q.tmps.getD 69 undef] u _; rw [e69]; exact bool_fact (E.out u)⟩) ?_
              refine .cons (owes_value fun q u lh => ⟨wants_free rfl, .bool (!l), by have e70 : q.tmps.getD 70 undef = .bool l := lh.dep 8 rfl; simp [execOp, Act.eval, e70, go_sem], rfl⟩) ?_
              refine .cons (owes_move (.tmp 71) (.inl rfl) fun q u lh => ⟨wants_free rfl, lh.dep 9 rfl⟩) ?_
              refine .cons (owes_when 10 false (!l) (.pointer (some ⟨w.heap.size, 3, none⟩)) rfl rfl rfl rfl fun hg q u lh => by have e1 : q.tmps.getD 1 undef = .pointer (some ⟨w.heap.size, 0, none⟩) := lh.old 1 rfl; simp [execOp, Act.eval, e1, go_sem]) ?_
              refine .cons (owes_when 10 false (!l) (.slice (some ⟨bP, oP, none⟩) nP cP) rfl rfl rfl rfl fun hg q u lh => by have e73 : q.tmps.getD 73 undef = .pointer (some ⟨w.heap.size, 3, none⟩) := (lh.dep 11 rfl) hg; obtain ⟨p0, p1, p2, p3⟩ := X4.out.below lh.below; simp [execOp, Act.eval, e73, p3, go_sem]) ?_
              refine .cons (owes_when 10 false (!l) (.int .i64 i) rfl rfl rfl rfl fun hg q u lh => by have e4 : q.tmps.getD 4 undef = .int .i64 i := lh.old 4 rfl; simp [execOp, Act.eval, e4, go_sem]) ?_
              refine .cons (owes_when 10 false (!l) (.pointer (some ⟨bP, oP + i, none⟩)) rfl rfl rfl rfl fun hg q u lh => by have e74 : q.tmps.getD 74 undef = .slice (some ⟨bP, oP, none⟩) nP cP := (lh.dep 12 rfl) hg; have e75 : q.tmps.getD 75 undef = .int .i64 i := (lh.dep 13 rfl) hg; simp [execOp, Act.eval, e74, e75, i1, go_sem]) ?_
              refine .cons (owes_when 10 false (!l) (.slice (some ⟨g2, o2, none⟩) nP d2) rfl rfl rfl rfl fun hg q u lh => by have e76 : q.tmps.getD 76 undef = .pointer (some ⟨bP, oP + i, none⟩) := (lh.dep 14 rfl) hg; have r1 := (lh.below.cell (p := ⟨bP, oP + i, none⟩) (block_lt_of_cell r0)).trans r0; simp [execOp, Act.eval, e76, r1, go_sem]) ?_
              refine .cons (owes_when 10 false (!l) (.int .i64 k) rfl rfl rfl rfl fun hg q u lh => by have e5 : q.tmps.getD 5 undef = .int .i64 k := lh.old 5 rfl; simp [execOp, Act.eval, e5, go_sem]) ?_
              refine .cons (owes_when 10 false (!l) (.pointer (some ⟨g2, o2 + k, none⟩)) rfl rfl rfl rfl fun hg q u lh => by have e77 : q.tmps.getD 77 undef = .slice (some ⟨g2, o2, none⟩) nP d2 := (lh.dep 15 rfl) hg; have e78 : q.tmps.getD 78 undef = .int .i64 k := (lh.dep 16 rfl) hg; simp [execOp, Act.eval, e77, e78, k1, go_sem]) ?_
              refine .cons (owes_when 10 false (!l) (.int .i64 p) rfl rfl rfl rfl fun hg q u lh => by have e79 : q.tmps.getD 79 undef = .pointer (some ⟨g2, o2 + k, none⟩) := (lh.dep 17 rfl) hg; have r1 := (lh.below.cell (p := ⟨g2, o2 + k, none⟩) (block_lt_of_cell pc)).trans pc; simp [execOp, Act.eval, e79, r1, go_sem]) ?_
              refine .cons (owes_when 10 false (!l) (.bool a) rfl rfl rfl rfl fun hg q u lh => by have e80 : q.tmps.getD 80 undef = .int .i64 p := (lh.dep 18 rfl) hg; simp [execOp, Act.eval, e80, HA1.out, go_sem]) ?_
              refine .cons (owes_or 72 81 10 19 (!l) a rfl rfl rfl rfl rfl rfl rfl rfl (rfl)) ?_
              refine .cons (owes_move (.tmp 82) (.inl rfl) fun q u lh => ⟨wants_free rfl, lh.dep 20 rfl⟩) ?_
              refine .cons (owes_when 21 false ((!l) || a) (.pointer (some ⟨w.heap.size, 3, none⟩)) rfl rfl rfl rfl fun hg q u lh => by have e1 : q.tmps.getD 1 undef = .pointer (some ⟨w.heap.size, 0, none⟩) := lh.old 1 rfl; simp [execOp, Act.eval, e1, go_sem]) ?_
              refine .cons (owes_when 21 false ((!l) || a) (.slice (some ⟨bP, oP, none⟩) nP cP) rfl rfl rfl rfl fun hg q u lh => by have e84 : q.tmps.getD 84 undef = .pointer (some ⟨w.heap.size, 3, none⟩) := (lh.dep 22 rfl) hg; obtain ⟨p0, p1, p2, p3⟩ := X4.out.below lh.below; simp [execOp, Act.eval, e84, p3, go_sem]) ?_
              refine .cons (owes_when 21 false ((!l) || a) (.int .i64 i) rfl rfl rfl rfl fun hg q u lh => by have e4 : q.tmps.getD 4 undef = .int .i64 i := lh.old 4 rfl; simp [execOp, Act.eval, e4, go_sem]) ?_
              refine .cons (owes_when 21 false ((!l) || a) (.pointer (some ⟨bP, oP + i, none⟩)) rfl rfl rfl rfl fun hg q u lh => by have e85 : q.tmps.getD 85 undef = .slice (some ⟨bP, oP, none⟩) nP cP := (lh.dep 23 rfl) hg; have e86 : q.tmps.getD 86 undef = .int .i64 i := (lh.dep 24 rfl) hg; simp [execOp, Act.eval, e85, e86, i1, go_sem]) ?_
              refine .cons (owes_when 21 false ((!l) || a) (.slice (some ⟨g2, o2, none⟩) nP d2) rfl rfl rfl rfl fun hg q u lh => by have e87 : q.tmps.getD 87 undef = .pointer (some ⟨bP, oP + i, none⟩) := (lh.dep 25 rfl) hg; have r1 := (lh.below.cell (p := ⟨bP, oP + i, none⟩) (block_lt_of_cell r0)).trans r0; simp [execOp, Act.eval, e87, r1, go_sem]) ?_
              refine .cons (owes_when 21 false ((!l) || a) (.int .i64 k) rfl rfl rfl rfl fun hg q u lh => by have e5 : q.tmps.getD 5 undef = .int .i64 k := lh.old 5 rfl; simp [execOp, Act.eval, e5, go_sem]) ?_
              refine .cons (owes_when 21 false ((!l) || a) (.pointer (some ⟨g2, o2 + k, none⟩)) rfl rfl rfl rfl fun hg q u lh => by have e88 : q.tmps.getD 88 undef = .slice (some ⟨g2, o2, none⟩) nP d2 := (lh.dep 26 rfl) hg; have e89 : q.tmps.getD 89 undef = .int .i64 k := (lh.dep 27 rfl) hg; simp [execOp, Act.eval, e88, e89, k1, go_sem]) ?_
              refine .cons (owes_when 21 false ((!l) || a) (.int .i64 p) rfl rfl rfl rfl fun hg q u lh => by have e90 : q.tmps.getD 90 undef = .pointer (some ⟨g2, o2 + k, none⟩) := (lh.dep 28 rfl) hg; have r1 := (lh.below.cell (p := ⟨g2, o2 + k, none⟩) (block_lt_of_cell pc)).trans pc; simp [execOp, Act.eval, e90, r1, go_sem]) ?_
              refine .cons (owes_when 21 false ((!l) || a) (.bool c) rfl rfl rfl rfl fun hg q u lh => by have e91 : q.tmps.getD 91 undef = .int .i64 p := (lh.dep 29 rfl) hg; simp [execOp, Act.eval, e91, HC1.out, go_sem]) ?_
              refine .cons (owes_or 83 92 21 30 ((!l) || a) c rfl rfl rfl rfl rfl rfl rfl rfl (rfl)) ?_
              refine .cons (owes_move (.tmp 93) (.inl rfl) fun q u lh => ⟨wants_free rfl, lh.dep 31 rfl⟩) ?_
              refine .cons (owes_when 32 false (((!l) || a) || c) (.pointer (some ⟨w.heap.size, 3, none⟩)) rfl rfl rfl rfl fun hg q u lh => by have e1 : q.tmps.getD 1 undef = .pointer (some ⟨w.heap.size, 0, none⟩) := lh.old 1 rfl; simp [execOp, Act.eval, e1, go_sem]) ?_
              refine .cons (owes_when 32 false (((!l) || a) || c) (.slice (some ⟨bP, oP, none⟩) nP cP) rfl rfl rfl rfl fun hg q u lh => by have e95 : q.tmps.getD 95 undef = .pointer (some ⟨w.heap.size, 3, none⟩) := (lh.dep 33 rfl) hg; obtain ⟨p0, p1, p2, p3⟩ := X4.out.below lh.below; simp [execOp, Act.eval, e95, p3, go_sem]) ?_
              refine .cons (owes_when 32 false (((!l) || a) || c) (.int .i64 i) rfl rfl rfl rfl fun hg q u lh => by have e4 : q.tmps.getD 4 undef = .int .i64 i := lh.old 4 rfl; simp [execOp, Act.eval, e4, go_sem]) ?_
              refine .cons (owes_when 32 false (((!l) || a) || c) (.pointer (some ⟨bP, oP + i, none⟩)) rfl rfl rfl rfl fun hg q u lh => by have e96 : q.tmps.getD 96 undef = .slice (some ⟨bP, oP, none⟩) nP cP := (lh.dep 34 rfl) hg; have e97 : q.tmps.getD 97 undef = .int .i64 i := (lh.dep 35 rfl) hg; simp [execOp, Act.eval, e96, e97, i1, go_sem]) ?_
              refine .cons (owes_when 32 false (((!l) || a) || c) (.slice (some ⟨g2, o2, none⟩) nP d2) rfl rfl rfl rfl fun hg q u lh => by have e98 : q.tmps.getD 98 undef = .pointer (some ⟨bP, oP + i, none⟩) := (lh.dep 36 rfl) hg; have r1 := (lh.below.cell (p := ⟨bP, oP + i, none⟩) (block_lt_of_cell r0)).trans r0; simp [execOp, Act.eval, e98, r1, go_sem]) ?_
              refine .cons (owes_when 32 false (((!l) || a) || c) (.int .i64 k) rfl rfl rfl rfl fun hg q u lh => by have e5 : q.tmps.getD 5 undef = .int .i64 k := lh.old 5 rfl; simp [execOp, Act.eval, e5, go_sem]) ?_
              refine .cons (owes_when 32 false (((!l) || a) || c) (.pointer (some ⟨g2, o2 + k, none⟩)) rfl rfl rfl rfl fun hg q u lh => by have e99 : q.tmps.getD 99 undef = .slice (some ⟨g2, o2, none⟩) nP d2 := (lh.dep 37 rfl) hg; have e100 : q.tmps.getD 100 undef = .int .i64 k := (lh.dep 38 rfl) hg; simp [execOp, Act.eval, e99, e100, k1, go_sem]) ?_
              refine .cons (owes_when 32 false (((!l) || a) || c) (.int .i64 p) rfl rfl rfl rfl fun hg q u lh => by have e101 : q.tmps.getD 101 undef = .pointer (some ⟨g2, o2 + k, none⟩) := (lh.dep 39 rfl) hg; have r1 := (lh.below.cell (p := ⟨g2, o2 + k, none⟩) (block_lt_of_cell pc)).trans pc; simp [execOp, Act.eval, e101, r1, go_sem]) ?_
              refine .cons (owes_when 32 false (((!l) || a) || c) (.pointer (some ⟨w.heap.size, 3, none⟩)) rfl rfl rfl rfl fun hg q u lh => by have e1 : q.tmps.getD 1 undef = .pointer (some ⟨w.heap.size, 0, none⟩) := lh.old 1 rfl; simp [execOp, Act.eval, e1, go_sem]) ?_
              refine .cons (owes_when 32 false (((!l) || a) || c) (.slice (some ⟨bP, oP, none⟩) nP cP) rfl rfl rfl rfl fun hg q u lh => by have e103 : q.tmps.getD 103 undef = .pointer (some ⟨w.heap.size, 3, none⟩) := (lh.dep 41 rfl) hg; obtain ⟨p0, p1, p2, p3⟩ := X4.out.below lh.below; simp [execOp, Act.eval, e103, p3, go_sem]) ?_
              refine .cons (owes_when 32 false (((!l) || a) || c) (.int .i64 k) rfl rfl rfl rfl fun hg q u lh => by have e5 : q.tmps.getD 5 undef = .int .i64 k := lh.old 5 rfl; simp [execOp, Act.eval, e5, go_sem]) ?_
              refine .cons (owes_when 32 false (((!l) || a) || c) (.pointer (some ⟨bP, oP + k, none⟩)) rfl rfl rfl rfl fun hg q u lh => by have e104 : q.tmps.getD 104 undef = .slice (some ⟨bP, oP, none⟩) nP cP := (lh.dep 42 rfl) hg; have e105 : q.tmps.getD 105 undef = .int .i64 k := (lh.dep 43 rfl) hg; simp [execOp, Act.eval, e104, e105, k1, go_sem]) ?_
              refine .cons (owes_when 32 false (((!l) || a) || c) (.slice (some ⟨g3, o3, none⟩) nP d3) rfl rfl rfl rfl fun hg q u lh => by have e106 : q.tmps.getD 106 undef = .pointer (some ⟨bP, oP + k, none⟩) := (lh.dep 44 rfl) hg; have r1 := (lh.below.cell (p := ⟨bP, oP + k, none⟩) (block_lt_of_cell s0)).trans s0; simp [execOp, Act.eval, e106, r1, go_sem]) ?_
              refine .cons (owes_when 32 false (((!l) || a) || c) (.int .i64 i) rfl rfl rfl rfl fun hg q u lh => by have e4 : q.tmps.getD 4 undef = .int .i64 i := lh.old 4 rfl; simp [execOp, Act.eval, e4, go_sem]) ?_
              refine .cons (owes_when 32 false (((!l) || a) || c) (.pointer (some ⟨g3, o3 + i, none⟩)) rfl rfl rfl rfl fun hg q u lh => by have e107 : q.tmps.getD 107 undef = .slice (some ⟨g3, o3, none⟩) nP d3 := (lh.dep 45 rfl) hg; have e108 : q.tmps.getD 108 undef = .int .i64 i := (lh.dep 46 rfl) hg; simp [execOp, Act.eval, e107, e108, i1, go_sem]) ?_
              refine .cons (owes_when 32 false (((!l) || a) || c) (.int .i64 q') rfl rfl rfl rfl fun hg q u lh => by have e109 : q.tmps.getD 109 undef = .pointer (some ⟨g3, o3 + i, none⟩) := (lh.dep 47 rfl) hg; have r1 := (lh.below.cell (p := ⟨g3, o3 + i, none⟩) (block_lt_of_cell qc)).trans qc; simp [execOp, Act.eval, e109, r1, go_sem]) ?_
              refine .cons (owes_when 32 false (((!l) || a) || c) (.int .i64 (IntKind.i64.wrap (-q'))) rfl rfl rfl rfl fun hg q u lh => by have e110 : q.tmps.getD 110 undef = .int .i64 q' := (lh.dep 48 rfl) hg; simp [execOp, Act.eval, e110, go_sem]) ?_
              refine .cons (owes_when 32 false (((!l) || a) || c) (.bool n) rfl rfl rfl rfl fun hg q u lh => by have e102 : q.tmps.getD 102 undef = .int .i64 p := (lh.dep 40 rfl) hg; have e111 : q.tmps.getD 111 undef = .int .i64 (IntKind.i64.wrap (-q')) := (lh.dep 49 rfl) hg; simp [execOp, Act.eval, e102, e111, HN1.out, go_sem]) ?_
              refine .cons (owes_or 94 112 32 50 (((!l) || a) || c) n rfl rfl rfl rfl rfl rfl rfl rfl (congrArg (fun b => Fact.is (.bool b)) HR.out.symm)) ?_
              exact .nil _
            intro q u hb hsz hdf hold hfact
            obtain ⟨v73, e73⟩ : ∃ v, q.tmps.getD 73 undef = v := ⟨_, rfl⟩
            obtain ⟨v74, e74⟩ : ∃ v, q.tmps.getD 74 undef = v := ⟨_, rfl⟩
            obtain ⟨v75, e75⟩ : ∃ v, q.tmps.getD 75 undef = v := ⟨_, rfl⟩
            obtain ⟨v76, e76⟩ : ∃ v, q.tmps.getD 76 undef = v := ⟨_, rfl⟩
            obtain ⟨v77, e77⟩ : ∃ v, q.tmps.getD 77 undef = v := ⟨_, rfl⟩
            obtain ⟨v78, e78⟩ : ∃ v, q.tmps.getD 78 undef = v := ⟨_, rfl⟩
            obtain ⟨v79, e79⟩ : ∃ v, q.tmps.getD 79 undef = v := ⟨_, rfl⟩
            obtain ⟨v80, e80⟩ : ∃ v, q.tmps.getD 80 undef = v := ⟨_, rfl⟩
            obtain ⟨v81, e81⟩ : ∃ v, q.tmps.getD 81 undef = v := ⟨_, rfl⟩
            obtain ⟨v84, e84⟩ : ∃ v, q.tmps.getD 84 undef = v := ⟨_, rfl⟩
            obtain ⟨v85, e85⟩ : ∃ v, q.tmps.getD 85 undef = v := ⟨_, rfl⟩
            obtain ⟨v86, e86⟩ : ∃ v, q.tmps.getD 86 undef = v := ⟨_, rfl⟩
            obtain ⟨v87, e87⟩ : ∃ v, q.tmps.getD 87 undef = v := ⟨_, rfl⟩
            obtain ⟨v88, e88⟩ : ∃ v, q.tmps.getD 88 undef = v := ⟨_, rfl⟩
            obtain ⟨v89, e89⟩ : ∃ v, q.tmps.getD 89 undef = v := ⟨_, rfl⟩
            obtain ⟨v90, e90⟩ : ∃ v, q.tmps.getD 90 undef = v := ⟨_, rfl⟩
            obtain ⟨v91, e91⟩ : ∃ v, q.tmps.getD 91 undef = v := ⟨_, rfl⟩
            obtain ⟨v92, e92⟩ : ∃ v, q.tmps.getD 92 undef = v := ⟨_, rfl⟩
            obtain ⟨v95, e95⟩ : ∃ v, q.tmps.getD 95 undef = v := ⟨_, rfl⟩
            obtain ⟨v96, e96⟩ : ∃ v, q.tmps.getD 96 undef = v := ⟨_, rfl⟩
            obtain ⟨v97, e97⟩ : ∃ v, q.tmps.getD 97 undef = v := ⟨_, rfl⟩
            obtain ⟨v98, e98⟩ : ∃ v, q.tmps.getD 98 undef = v := ⟨_, rfl⟩
            obtain ⟨v99, e99⟩ : ∃ v, q.tmps.getD 99 undef = v := ⟨_, rfl⟩
            obtain ⟨v100, e100⟩ : ∃ v, q.tmps.getD 100 undef = v := ⟨_, rfl⟩
            obtain ⟨v101, e101⟩ : ∃ v, q.tmps.getD 101 undef = v := ⟨_, rfl⟩
            obtain ⟨v102, e102⟩ : ∃ v, q.tmps.getD 102 undef = v := ⟨_, rfl⟩
            obtain ⟨v103, e103⟩ : ∃ v, q.tmps.getD 103 undef = v := ⟨_, rfl⟩
            obtain ⟨v104, e104⟩ : ∃ v, q.tmps.getD 104 undef = v := ⟨_, rfl⟩
            obtain ⟨v105, e105⟩ : ∃ v, q.tmps.getD 105 undef = v := ⟨_, rfl⟩
            obtain ⟨v106, e106⟩ : ∃ v, q.tmps.getD 106 undef = v := ⟨_, rfl⟩
            obtain ⟨v107, e107⟩ : ∃ v, q.tmps.getD 107 undef = v := ⟨_, rfl⟩
            obtain ⟨v108, e108⟩ : ∃ v, q.tmps.getD 108 undef = v := ⟨_, rfl⟩
            obtain ⟨v109, e109⟩ : ∃ v, q.tmps.getD 109 undef = v := ⟨_, rfl⟩
            obtain ⟨v110, e110⟩ : ∃ v, q.tmps.getD 110 undef = v := ⟨_, rfl⟩
            obtain ⟨v111, e111⟩ : ∃ v, q.tmps.getD 111 undef = v := ⟨_, rfl⟩
            obtain ⟨v112, e112⟩ : ∃ v, q.tmps.getD 112 undef = v := ⟨_, rfl⟩
            obtain rfl := frame_puts hsz hdf [62, 63, 64, 65, 66, 67, 68, 69, 70, 71, 72, 73, 74, 75, 76, 77, 78, 79, 80, 81, 82, 83, 84, 85, 86, 87, 88, 89, 90, 91, 92, 93, 94, 95, 96, 97, 98, 99, 100, 101, 102, 103, 104, 105, 106, 107, 108, 109, 110, 111, 112, 113] hold [(62, Value.pointer (some ⟨w.heap.size, 1, none⟩)), (63, Value.slice (some ⟨bB, oB, none⟩) nP cB), (64, Value.int .i64 i), (65, Value.pointer (some ⟨bB, oB + i, none⟩)), (66, Value.slice (some ⟨g1, o1, none⟩) nP d1), (67, Value.int .i64 k), (68, Value.pointer (some ⟨g1, o1 + k, none⟩)), (69, Value.int .i64 x), (70, Value.bool l), (71, Value.bool (!l)), (72, Value.bool (!l)), (73, v73), (74, v74), (75, v75), (76, v76), (77, v77), (78, v78), (79, v79), (80, v80), (81, v81), (82, Value.bool ((!l) || a)), (83, Value.bool ((!l) || a)), (84, v84), (85, v85), (86, v86), (87, v87), (88, v88), (89, v89), (90, v90), (91, v91), (92, v92), (93, Value.bool (((!l) || a) || c)), (94, Value.bool (((!l) || a) || c)), (95, v95), (96, v96), (97, v97), (98, v98), (99, v99), (100, v100), (101, v101), (102, v102), (103, v103), (104, v104), (105, v105), (106, v106), (107, v107), (108, v108), (109, v109), (110, v110), (111, v111), (112, v112), (113, Value.bool false)] ⟨hfact 0 (by decide), hfact 1 (by decide), hfact 2 (by decide), hfact 3 (by decide), hfact 4 (by decide), hfact 5 (by decide), hfact 6 (by decide), hfact 7 (by decide), hfact 8 (by decide), hfact 9 (by decide), hfact 10 (by decide), e73, e74, e75, e76, e77, e78, e79, e80, e81, hfact 20 (by decide), hfact 21 (by decide), e84, e85, e86, e87, e88, e89, e90, e91, e92, hfact 31 (by decide), hfact 32 (by decide), e95, e96, e97, e98, e99, e100, e101, e102, e103, e104, e105, e106, e107, e108, e109, e110, e111, e112, hfact 51 (by decide), trivial⟩ rfl
            clear hsz hdf hold hfact
            simp only [puts, Act.put, List.setIfInBounds_toArray, List.set_cons_zero, List.set_cons_succ]
            have HBu : Hid (Below w2.heap.size w2 u) := HBi.out.trans (hb.mono HBi.out.size)
            clear hb
            go_wp2
            go_roundw
            case rel => exact ⟨k + 1, by omega, by go_num, HS.out, HBu.out⟩
            case measure => simp [intOf]; omega
        · obtain rfl : k = nP := by omega
          have HS : Hid (∀ a, a < i + 1 → rowB b k a = true) := bil_succ HA.out (rowB_snoc HQA.out HQM.out HK.out)
          go_wp2
          go_roundw
          case rel => exact ⟨i + 1, by omega, by go_num, HS.out, HBi.out⟩
          case measure => simp [intOf]; omega
    · obtain rfl : i = nP := by omega
      have HN : Hid (true = booksB b) := booksB_mk HLA.out h0 h6 HQ1.out HQ2.out (by rw [← HLM.out]) HA.out
      go_wp2
      go_ret
      exact ⟨rt_bool HN.out, HBW.out⟩

end Go.Proofs.Ytlackjldopeigaa

/-
  lim.Net, giroref10.Net: what one sent, less what it got.
-/
namespace Go.Proofs.Ytlackjldopeigaa
open Go.RowKit
set_option linter.unusedVariables false
set_option linter.unusedSimpArgs false

/-- The sum of the first k of row i. -/
def netTo (R : List (List Int)) (i : Nat) : Nat → Int
  | 0 => 0
  | k + 1 => netTo R i k + at2 R i k
theorem netTo_bound {R : List (List Int)} {m i : Nat} (hp : ∀ k, k < m → posB (at2 R i k) = true) : ∀ k, k ≤ m → -(k * 72057594037927936 : Int) ≤ netTo R i k ∧ netTo R i k ≤ (k * 72057594037927936 : Int) := by
  intro k
  induction k with
  | zero => intro _; simp [netTo]
  | succ k ih =>
    intro hk
    have h1 := ih (by omega)
    have h2 := posB_yes (hp k (by omega))
    unfold netTo
    omega

set_option maxHeartbeats 2000000 in
theorem limNet_any (x : BA) (b : Bks) (i m : Nat) (w : World) (h : Bk w x b) (hm : m ≤ 6) (hs : squareB b.P m = true) (hi : i < m) (hp : ∀ k, k < m → posB (at2 b.P i k) = true) :
    Calls Try.prog 95 #[x.val, .int .i64 i] w fun e w' => e = .returned (.int .i64 (netTo b.P i m)) ∧ Below w.heap.size w w' := by
  obtain ⟨bP, oP, ha, hn, SP⟩ := RowsI.sq h.pos (by omega : 0 < m) hs
  obtain ⟨aA, nA, cA, aB, nB, cB, aM, nM, cM, aP, nP, cP⟩ := x
  have hn : nP = m := hn
  have ha : aP = some ⟨bP, oP, none⟩ := ha
  subst hn ha
  obtain ⟨g, o, d, r0, r1⟩ := (SP.below (box_below w (.cells #[.slice aA nA cA, .slice aB nB cB, .slice aM nM cM, .slice (some ⟨bP, oP, none⟩) nP cP] 27))) i hi
  have i1 : (i : Int) < (nP : Int) := by omega
  have HB : Hid (∀ k, k ≤ nP → -(k * 72057594037927936 : Int) ≤ netTo b.P i k ∧ netTo b.P i k ≤ (k * 72057594037927936 : Int)) := netTo_bound hp
  have HP : Hid (∀ k, k < nP → posB (at2 b.P i k) = true) := hp
  have HR : Hid (∀ k, k < nP → (w.alloc (.cells #[.slice aA nA cA, .slice aB nB cB, .slice aM nM cM, .slice (some ⟨bP, oP, none⟩) nP cP] 27)).cell? ⟨g, o + k, none⟩ = some (.int .i64 (at2 b.P i k))) := r1
  clear h hs SP hp r1
  go_enter Try.func95, Try.ntmps95
  go_wp2
  go_loop [5, 23] (fun s t => ∃ k : Nat, k ≤ nP ∧ t = .int .i64 k ∧ s = .int .i64 (netTo b.P i k)) (fun _ t => nP - (intOf t).toNat)
  case atStart => exact ⟨0, by omega, rfl, rfl⟩
  case round =>
    obtain ⟨k, hk, rfl, rfl⟩ := hrel
    by_cases hlt : k < nP
    · have k1 : (k : Int) < (nP : Int) := by omega
      have c1 := HR.out k hlt
      have n1 : -432345564227567616 ≤ netTo b.P i k ∧ netTo b.P i k ≤ 432345564227567616 := by have := HB.out k hk; omega
      have n2 := posB_yes (HP.out k hlt)
      have HE : Hid (netTo b.P i (k + 1) = netTo b.P i k + at2 b.P i k) := rfl
      generalize at2 b.P i k = v at c1 n2 HE
      generalize netTo b.P i k = s at n1 HE ⊢
      obtain ⟨n10, n11⟩ := n1
      obtain ⟨n20, n21⟩ := n2
      go_wp2
      go_round
      case rel => exact ⟨k + 1, by omega, by go_num, by rw [HE.out]⟩
      case measure => simp [intOf]; omega
    · obtain rfl : k = nP := by omega
      go_wp2
      go_ret
      exact ⟨rfl, box_below _ _⟩

set_option maxHeartbeats 2000000 in
theorem refNet_any (x : BA) (b : Bks) (i m : Nat) (w : World) (h : Bk w x b) (hm : m ≤ 6) (hs : squareB b.P m = true) (hi : i < m) (hp : ∀ k, k < m → posB (at2 b.P i k) = true) :
    Calls Try.prog 75 #[x.val, .int .i64 i] w fun e w' => e = .returned (.int .i64 (netTo b.P i m)) ∧ Below w.heap.size w w' := by
  obtain ⟨bP, oP, ha, hn, SP⟩ := RowsI.sq h.pos (by omega : 0 < m) hs
  obtain ⟨aA, nA, cA, aB, nB, cB, aM, nM, cM, aP, nP, cP⟩ := x
  have hn : nP = m := hn
  have ha : aP = some ⟨bP, oP, none⟩ := ha
  subst hn ha
  obtain ⟨g, o, d, r0, r1⟩ := (SP.below (box_below w (.cells #[.slice aA nA cA, .slice aB nB cB, .slice aM nM cM, .slice (some ⟨bP, oP, none⟩) nP cP] 27))) i hi
  have i1 : (i : Int) < (nP : Int) := by omega
  have HB : Hid (∀ k, k ≤ nP → -(k * 72057594037927936 : Int) ≤ netTo b.P i k ∧ netTo b.P i k ≤ (k * 72057594037927936 : Int)) := netTo_bound hp
  have HP : Hid (∀ k, k < nP → posB (at2 b.P i k) = true) := hp
  have HR : Hid (∀ k, k < nP → (w.alloc (.cells #[.slice aA nA cA, .slice aB nB cB, .slice aM nM cM, .slice (some ⟨bP, oP, none⟩) nP cP] 27)).cell? ⟨g, o + k, none⟩ = some (.int .i64 (at2 b.P i k))) := r1
  clear h hs SP hp r1
  go_enter Try.func75, Try.ntmps75
  go_wp2
  go_loop [5, 6] (fun s t => ∃ k : Nat, k ≤ nP ∧ t = .int .i64 k ∧ s = .int .i64 (netTo b.P i k)) (fun _ t => nP - (intOf t).toNat)
  case atStart => exact ⟨0, by omega, rfl, rfl⟩
  case round =>
    obtain ⟨k, hk, rfl, rfl⟩ := hrel
    by_cases hlt : k < nP
    · have k1 : (k : Int) < (nP : Int) := by omega
      have c1 := HR.out k hlt
      have n1 : -432345564227567616 ≤ netTo b.P i k ∧ netTo b.P i k ≤ 432345564227567616 := by have := HB.out k hk; omega
      have n2 := posB_yes (HP.out k hlt)
      have HE : Hid (netTo b.P i (k + 1) = netTo b.P i k + at2 b.P i k) := rfl
      generalize at2 b.P i k = v at c1 n2 HE
      generalize netTo b.P i k = s at n1 HE ⊢
      obtain ⟨n10, n11⟩ := n1
      obtain ⟨n20, n21⟩ := n2
      go_wp2
      go_round
      case rel => exact ⟨k + 1, by omega, by go_num, by rw [HE.out]⟩
      case measure => simp [intOf]; omega
    · obtain rfl : k = nP := by omega
      go_wp2
      go_ret
      exact ⟨rfl, box_below _ _⟩

/-- What the first i have sent together. -/
def netSum (R : List (List Int)) (m : Nat) : Nat → Int
  | 0 => 0
  | i + 1 => netSum R m i + netTo R i m
theorem netSum_bound {R : List (List Int)} {m : Nat} (hm : m ≤ 6) (hp : ∀ i k, i < m → k < m → posB (at2 R i k) = true) : ∀ i, i ≤ m → -(i * 432345564227567616 : Int) ≤ netSum R m i ∧ netSum R m i ≤ (i * 432345564227567616 : Int) := by
  intro i
  induction i with
  | zero => intro _; simp [netSum]
  | succ i ih =>
    intro hi
    have h1 := ih (by omega)
    have h2 := netTo_bound (hp i · (by omega)) m (Nat.le_refl _)
    unfold netSum
    omega
/-- The sum of a column's first i. -/
def colTo (R : List (List Int)) (k : Nat) : Nat → Int
  | 0 => 0
  | i + 1 => colTo R k i + at2 R i k
theorem netSum_col (R : List (List Int)) (m i : Nat) : netSum R m i = ((List.range m).map fun k => colTo R k i).sum := by
  induction i with
  | zero =>
    have z : ∀ l : List Nat, (l.map fun _ => (0 : Int)).sum = 0 := by
      intro l
      induction l with
      | nil => rfl
      | cons a l ih => simp only [List.map_cons, List.sum_cons, ih]; rfl
    exact (z _).symm
  | succ i ih =>
    have key : ∀ n, netTo R i n = ((List.range n).map fun k => at2 R i k).sum := by
      intro n
      induction n with
      | zero => rfl
      | succ n ih => simp [netTo, List.range_succ, ih]
    have add : ∀ (l : List Nat) (f g : Nat → Int), (l.map fun k => f k + g k).sum = (l.map f).sum + (l.map g).sum := by
      intro l f g
      induction l with
      | nil => rfl
      | cons a l ih => simp only [List.map_cons, List.sum_cons, ih]; omega
    rw [netSum, ih, key m]
    simp only [colTo]
    rw [add]
theorem col_neg {R : List (List Int)} {m k : Nat} (hk : k < m) (ht : ∀ i k, i < m → k < m → at2 R i k = -at2 R k i) : ∀ i, i ≤ m → colTo R k i = -netTo R k i := by
  intro i
  induction i with
  | zero => intro _; rfl
  | succ i ih =>
    intro hi
    have h1 := ih (by omega)
    have h2 := ht i k (by omega) hk
    unfold colTo netTo
    omega
theorem netSum_zero {R : List (List Int)} {m : Nat} (ht : ∀ i k, i < m → k < m → at2 R i k = -at2 R k i) : netSum R m m = 0 := by
  have h1 := netSum_col R m m
  have h2 : ((List.range m).map fun k => colTo R k m) = (List.range m).map fun k => -netTo R k m := by
    apply List.map_congr_left
    intro k hk
    exact col_neg (List.mem_range.1 hk) ht m (Nat.le_refl _)
  have h3 : ∀ n, netSum R m n = ((List.range n).map fun k => netTo R k m).sum := by
    intro n
    induction n with
    | zero => rfl
    | succ n ih => simp [netSum, List.range_succ, ih]
  have neg : ∀ (l : List Nat) (f : Nat → Int), (l.map fun k => -f k).sum = -(l.map f).sum := by
    intro l f
    induction l with
    | nil => rfl
    | cons a l ih => simp only [List.map_cons, List.sum_cons, ih]; omega
  rw [h2, neg, ← h3 m] at h1
  omega

end Go.Proofs.Ytlackjldopeigaa

/-
  Books as a law is handed them.
-/
namespace Go.Proofs.Ytlackjldopeigaa
open Go.ChangeShapes Go.WideShapes Go.ChangeAt Go.RowKit
set_option linter.unusedVariables false

theorem wf_of_lit {n : Int} (h : (Lit.int .i64 n).wf = true) : IntKind.i64.wrap n = n := by
  simp only [Lit.wf, Bool.and_eq_true, decide_eq_true_eq] at h
  exact i64_wf h.1 h.2
/-- Accounts, out of rows of three. -/
theorem accs_plain {w : World} {a : Option Addr} {len : Nat} {Z : Nat → Nat → Int} (h : PlainRows w a len 3 Z) : Accs w a len ((List.range len).map fun i => (Z i 0, Z i 1, Z i 2)) := by
  refine ⟨by simp, ?_⟩
  rcases h with rfl | ⟨b, off, ha, _, hc⟩
  · exact .inl rfl
  · refine .inr ⟨b, off, ha, fun i hi => ?_⟩
    have hi' : i < len := by simpa using hi
    have e : ((List.range len).map fun i => ((Z i 0, Z i 1, Z i 2) : A3)).getD i a30 = (Z i 0, Z i 1, Z i 2) := by simp [List.getD_eq_getElem?_getD, hi']
    rw [e]
    exact ⟨(hc i hi' 0 (by omega)).1, (hc i hi' 1 (by omega)).1, (hc i hi' 2 (by omega)).1⟩

/-- A row, out of what is read of it. -/
theorem sl_read {w : World} {A : Option Addr} {L C : Nat} {Z : List Int} (h1 : L ≤ C) (h2 : C ≤ maxLen) (h3 : Z.length = C) (h4 : ∀ n ∈ Z, (Lit.int .i64 n).wf = true) (h5 : A = none → C = 0)
    (h6 : ∀ a', A = some a' → ∀ c, c < C → w.cell? (a'.add c) = some (.int .i64 (Z.getD c 0))) : Sl .i64 w A L (Z.take L) := by
  refine (Walk.IsRow.sl (k := .i64) (w := w) (a := A) (len := L) (cap := C) (zs := Z) ?_ fun n => wf_of_lit).1
  cases A with
  | none =>
    have h0 := h5 rfl
    subst h0
    exact .inl ⟨rfl, by omega, rfl, List.length_eq_zero_iff.mp h3⟩
  | some x => exact .inr ⟨x, rfl, h1, h2, h3, fun i hi => h6 x rfl i (by omega), h4⟩

section
variable {H : Type} {enc : TypeId × Value → H} {W : World} {base : Nat}

theorem open_rows64 {fuel : Nat} {v : Value} {x : DataW H × List MemPlace} (h : DataW.trod enc Try.prog W base (fun _ => true) true fuel 25 [v] = some x) :
    ∃ a n c R, v = .slice a n c ∧ RowsI W a n R ∧ n ≤ 9223372036854775807 ∧ Short R := by
  rcases Go.Deep.open_int_rows Try.underlying25 Try.underlying22 Try.underlying2 (by kernel_rfl) (by kernel_rfl) h with ⟨hcs, _⟩ | ⟨ad, l, c, A, L, C, Z, hcs, _, hl, hm, _, hr⟩
  · simp at hcs
    exact ⟨none, 0, 0, [], hcs, ⟨rfl, fun z hz => by simp at hz, .inl rfl⟩, by omega, fun z hz => by simp at hz⟩
  · simp at hcs
    have hm' := hm
    unfold maxLen at hm'
    have row : ∀ r, r < l → Sl .i64 W (A r) (L r) ((Z r).take (L r)) ∧ ((Z r).take (L r)).length = L r ∧ L r ≤ 9223372036854775807 := fun r hrl => by
      obtain ⟨_, h2, h3, h4, h5, h6, h7⟩ := hr r (by omega)
      refine ⟨sl_read h2 h3 h4 h5 h6 (fun a' ha => (h7 a' ha).2), by simp; omega, by unfold maxLen at h3; omega⟩
    have gd : ∀ r, r < l → ((List.range l).map fun r => (Z r).take (L r)).getD r [] = (Z r).take (L r) := fun r hrl => by simp [List.getD_eq_getElem?_getD, hrl]
    refine ⟨some ad, l, c, (List.range l).map fun r => (Z r).take (L r), hcs, ⟨by simp, ?_, ?_⟩, by omega, ?_⟩
    · intro z hz
      obtain ⟨r, hrl, rfl⟩ := List.mem_map.1 hz
      exact (row r (List.mem_range.1 hrl)).1.2.1
    · by_cases h0 : l = 0
      · subst h0; exact .inl rfl
      · obtain ⟨b, off, spot⟩ := ad
        have hs := (hr 0 (by omega)).1
        have hspot : spot = none := by simpa [Addr.add] using World.cell?_spot hs
        subst hspot
        refine .inr ⟨b, off, rfl, fun i hi => ?_⟩
        have hi' : i < l := by simpa using hi
        obtain ⟨s1, s2, s3⟩ := row i hi'
        obtain ⟨h1, _, _, _, _, h6, _⟩ := hr i (by omega)
        rw [Addr.add_flat] at h1
        rw [gd i hi', s2]
        exact ⟨A i, C i, h1, s1, h6⟩
    · intro z hz
      obtain ⟨r, hrl, rfl⟩ := List.mem_map.1 hz
      obtain ⟨_, s2, s3⟩ := row r (List.mem_range.1 hrl)
      omega

set_option maxRecDepth 100000 in
theorem open_books {fuel : Nat} {cs : List Value} {x : DataW H × List MemPlace} (h : DataW.trod enc Try.prog W base (fun _ => true) true fuel 27 cs = some x) :
    ∃ (y : BA) (b : Bks), cs = [.slice y.aA y.nA y.cA, .slice y.aB y.nB y.cB, .slice y.aM y.nM y.cM, .slice y.aP y.nP y.cP] ∧ Bk W y b := by
  obtain ⟨xs, n, _, _, hl, hx, hf⟩ := DataW.trod_struct Try.underlying27 h
  have c1 : Try.prog.cellsOf 24 = 1 := by kernel_rfl
  have c2 : Try.prog.cellsOf 25 = 1 := by kernel_rfl
  have c3 : Try.prog.cellsOf 22 = 1 := by kernel_rfl
  have c4 : Try.prog.cellsOf 27 = 4 := by kernel_rfl
  rw [c4] at hl
  match cs, hl with
  | [v0, v1, v2, v3], _ =>
    match xs, hx with
    | [x0, x1, x2, x3], _ =>
      have f0 : DataW.trod enc Try.prog W base (fun _ => true) true n 24 ((([v0, v1, v2, v3] : List Value).drop 0).take (Try.prog.cellsOf 24)) = some x0 := hf 0 _ rfl
      have f1 : DataW.trod enc Try.prog W base (fun _ => true) true n 25 ((([v0, v1, v2, v3] : List Value).drop 1).take (Try.prog.cellsOf 25)) = some x1 := hf 1 _ rfl
      have f2 : DataW.trod enc Try.prog W base (fun _ => true) true n 22 ((([v0, v1, v2, v3] : List Value).drop 2).take (Try.prog.cellsOf 22)) = some x2 := hf 2 _ rfl
      have f3 : DataW.trod enc Try.prog W base (fun _ => true) true n 25 ((([v0, v1, v2, v3] : List Value).drop 3).take (Try.prog.cellsOf 25)) = some x3 := hf 3 _ rfl
      rw [c1] at f0
      rw [c2] at f1 f3
      rw [c3] at f2
      have f0 : DataW.trod enc Try.prog W base (fun _ => true) true n 24 [v0] = some x0 := f0
      have f1 : DataW.trod enc Try.prog W base (fun _ => true) true n 25 [v1] = some x1 := f1
      have f2 : DataW.trod enc Try.prog W base (fun _ => true) true n 22 [v2] = some x2 := f2
      have f3 : DataW.trod enc Try.prog W base (fun _ => true) true n 25 [v3] = some x3 := f3
      obtain ⟨aA, nA, cA, rfl⟩ : ∃ a len cap, v0 = .slice a len cap := by
        rcases Go.Deep.open_slice Try.underlying24 f0 with ⟨hcs, _⟩ | ⟨ad, len', cap', m, n', D, Pl, hcs, _⟩
        · simp at hcs
          exact ⟨_, _, _, hcs⟩
        · simp at hcs
          exact ⟨_, _, _, hcs⟩
      obtain ⟨Z, hZ, hAc, hAm, hAn⟩ := open_plain_slice (d := 3) (c := 3) Try.underlying24 (by kernel_rfl) (by kernel_rfl) (by omega) f0
      obtain ⟨aB, nB, cB, RB, rfl, rB, mB, sB⟩ := open_rows64 f1
      obtain ⟨aP, nP, cP, RP, rfl, rP, mP, sP⟩ := open_rows64 f3
      obtain ⟨aM, nM, cM, zs, rfl, hM, mM, oM⟩ : ∃ a len cap zs, v2 = .slice a len cap ∧ Sl .i64 W a len zs ∧ len ≤ 9223372036854775807 ∧ (a = none → cap = 0) := by
        rcases open_ints Try.underlying22 Try.underlying2 (by kernel_rfl) f2 with ⟨hcs, _⟩ | ⟨ad, l, c, zs, hcs, _, hl, hm, hz, _, hcell, hwz⟩
        · simp at hcs
          exact ⟨none, 0, 0, [], hcs, Sl.nil _ _ _, by omega, fun _ => rfl⟩
        · simp at hcs
          simp only [if_true] at hz
          have hm' := hm
          unfold maxLen at hm'
          exact ⟨some ad, l, c, zs.take l, hcs, sl_read hl hm hz hwz (fun h => by simp at h) (fun a' ha c' hc' => by simp at ha; subst ha; exact hcell c' (by omega)), by omega, fun h => by simp at h⟩
      unfold maxLen at hAm
      exact ⟨⟨aA, nA, cA, aB, nB, cB, aM, nM, cM, aP, nP, cP⟩, ⟨_, RB, zs, RP⟩, rfl, ⟨accs_plain hZ, rB, hM, rP, by show nA ≤ _; omega, mB, mM, mP, sB, sP, hAn, oM⟩⟩
end

end Go.Proofs.Ytlackjldopeigaa
