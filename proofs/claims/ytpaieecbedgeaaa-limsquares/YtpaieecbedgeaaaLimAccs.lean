/-
  Accounts that a call makes: a copy of them; what lies there.
-/
import Derived.Test.YtpaieecbedgeaaaLimCopy
import Derived.Test.YtpaieecbedgeaaaLimSame
namespace Go.Proofs.Ytpaieecbedgeaaa
open Go.RowKit
set_option linter.unusedVariables false
set_option linter.unusedSimpArgs false

theorem infoAcct : (Try.prog.info? 34).map (fun i => (i.zero, i.size, i.bytes)) = some (some (.agg #[.int .i64 0, .int .i64 0, .int .i64 0]), 3, 24) := by kernel_rfl
theorem sizeAcct : (Try.prog.info? 34).map (·.size) = some 3 := by kernel_rfl

/-- The cells of accounts. -/
def accL : List A3 → List Value
  | [] => []
  | x :: l => .int .i64 x.1 :: .int .i64 x.2.1 :: .int .i64 x.2.2 :: accL l
theorem accL_length (A : List A3) : (accL A).length = A.length * 3 := by
  induction A with
  | nil => rfl
  | cons x l ih => simp only [accL, List.length_cons, ih]; omega
theorem accL_at (A : List A3) (i : Nat) (h : i < A.length) : (accL A)[i * 3]? = some (.int .i64 (A.getD i a30).1) ∧ (accL A)[i * 3 + 1]? = some (.int .i64 (A.getD i a30).2.1) ∧ (accL A)[i * 3 + 2]? = some (.int .i64 (A.getD i a30).2.2) := by
  induction A generalizing i with
  | nil => simp at h
  | cons x l ih =>
    cases i with
    | zero => exact ⟨rfl, rfl, rfl⟩
    | succ i =>
      have := ih i (by simpa using h)
      rw [show (i + 1) * 3 = i * 3 + 3 by omega, show i * 3 + 3 + 1 = i * 3 + 1 + 3 by omega, show i * 3 + 3 + 2 = i * 3 + 2 + 3 by omega]
      simpa [accL] using this
theorem accL_append (A B : List A3) : accL (A ++ B) = accL A ++ accL B := by
  induction A with
  | nil => rfl
  | cons x l ih => simp [accL, ih]
theorem accL_one (A : List A3) : ∀ v ∈ accL A, v.oneCell' = true := by
  induction A with
  | nil => intro v hv; simp [accL] at hv
  | cons x l ih =>
    intro v hv
    simp only [accL, List.mem_cons] at hv
    rcases hv with rfl | rfl | rfl | hv
    · rfl
    · rfl
    · rfl
    · exact ih v hv

theorem Accs.own {w : World} {B : Nat} {v : Value} {A : List A3} (h : w.ownsRow B 34 3 v A.length (accL A)) : ∃ a cap, v = .slice a A.length cap ∧ Accs w a A.length A ∧ (a = none → cap = 0) ∧ cap ≤ 9223372036854775807 := by
  rcases h.2 with ⟨rfl, h0⟩ | ⟨g, cap, cur, rfl, _, _, _, hm, _⟩
  · have : A = [] := List.length_eq_zero_iff.mp h0
    subst this
    exact ⟨none, 0, rfl, ⟨rfl, .inl rfl⟩, fun _ => rfl, by omega⟩
  · refine ⟨some ⟨g, 0, none⟩, cap, rfl, ⟨rfl, .inr ⟨g, 0, rfl, fun i hi => ?_⟩⟩, fun h => by simp at h, by unfold maxLen at hm; omega⟩
    obtain ⟨c0, c1, c2⟩ := accL_at A i hi
    refine ⟨?_, ?_, ?_⟩
    · rw [Nat.zero_add, h.cellAt (i * 3) (by omega), c0]
    · rw [Nat.zero_add, h.cellAt (i * 3 + 1) (by omega), c1]
    · rw [Nat.zero_add, h.cellAt (i * 3 + 2) (by omega), c2]

theorem Accs.src {w : World} {a : Option Addr} {n : Nat} {A : List A3} (h : Accs w a n A) (h0 : 0 < n) : ∃ x, a = some x ∧ ∀ j v, (accL A)[j]? = some v → w.cell? (x.add j) = some v := by
  have hl := h.1
  rcases h.2 with hz | ⟨b, off, ha, hc⟩
  · subst hz; simp at hl; omega
  · refine ⟨_, ha, ?_⟩
    intro j v hj
    have hjl : j < A.length * 3 := by rw [← accL_length]; exact (List.getElem?_eq_some_iff.1 hj).1
    obtain ⟨c0, c1, c2⟩ := accL_at A (j / 3) (by omega)
    obtain ⟨d0, d1, d2⟩ := hc (j / 3) (by omega)
    rw [Addr.add_flat]
    rcases (by omega : j % 3 = 0 ∨ j % 3 = 1 ∨ j % 3 = 2) with e | e | e
    · have ej : j = j / 3 * 3 := by omega
      rw [ej] at hj
      rw [hj] at c0
      rw [show off + j = off + j / 3 * 3 by omega, d0, ← c0]
    · have ej : j = j / 3 * 3 + 1 := by omega
      rw [ej] at hj
      rw [hj] at c1
      rw [show off + j = off + j / 3 * 3 + 1 by omega, d1, ← c1]
    · have ej : j = j / 3 * 3 + 2 := by omega
      rw [ej] at hj
      rw [hj] at c2
      rw [show off + j = off + j / 3 * 3 + 2 by omega, d2, ← c2]

/-- copy of n elements of three cells each, over all of a row. -/
theorem wpList_copy3 {P : Program} {w : World} {ops : Array Oper} {rest : List Oper} {o : Oper} {a : Act} {Q : Exit → Act → World → Prop} (hgd : o.guard = none) (d s : Operand) (dT sT : TypeId)
    (ho : o.op = .call { callee := .builtin .copy, args := #[d, s], argTypes := #[dT, sT] }) (elem : TypeId) (hu : P.underlying dT = some (.slice elem)) (hsz : (P.info? elem).map (·.size) = some 3)
    (g n cap : Nat) (ad : Option Addr) (sCap : Nat) (hd : a.eval d = .slice (some ⟨g, 0, none⟩) n cap) (hs : a.eval s = .slice ad n sCap)
    (cur : Array Value) (t : TypeId) (hg : w.heap[g]? = some (.cells cur t (0, 0))) (cs : List Value) (hn : cs.length = n * 3) (hc : cur.size = n * 3)
    (hpos : 0 < n → ∃ x, ad = some x ∧ ∀ j v, cs[j]? = some v → w.cell? (x.add j) = some v) (h1 : ∀ v ∈ cs, v.oneCell' = true) (B : Nat) (w0 : World) (hb : Below B w0 w) (hBg : B ≤ g)
    (h : ∀ w', Hid (w'.heap[g]? = some (.cells cs.toArray t (0, 0))) → Below B w0 w' → wpList P ops Q rest (a.put o.dst (goInt n)) w') : wpList P ops Q (o :: rest) a w := by
  refine wpList_plain hgd fun K hK => ?_
  cases hq : P.info? elem with
  | none => simp [hq] at hsz
  | some i =>
    have hi : i.size = 3 := by simpa [hq] using hsz
    have hrun : (Builtin.copy_ #[dT, sT] o.type #[.slice (some ⟨g, 0, none⟩) n cap, .slice ad n sCap]).run P w = .ok (goInt n) (w.setRow g cs.toArray) := by
      have hst := run_storeCells_at P g 0 t cs 0 cur w hg (by rw [hn, hc]; omega) h1
      have hrow : (cur.toList.take (0 + 0) ++ cs ++ cur.toList.drop (0 + 0 + cs.length)).toArray = cs.toArray := by
        have : cur.toList.drop (0 + 0 + cs.length) = [] := List.drop_eq_nil_of_le (by simp; omega)
        rw [this]
        simp
      rw [hrow] at hst
      by_cases h0 : n = 0
      · subst h0
        have e : cs = [] := List.length_eq_zero_iff.mp (by simpa using hn)
        subst e
        cases ad with
        | none =>
          simp only [List.toArray] at hst ⊢
          simp [Builtin.copy_, run_underlying hu, Builtin.lenOf, Builtin.firstCells, sizeOf, typeInfo, hq, hi, hst]
        | some x =>
          have hl := run_loadCells_list (P := P) w x [] (fun j v hj => by simp at hj)
          simp only [List.length_nil] at hl
          simp [Builtin.copy_, run_underlying hu, Builtin.lenOf, Builtin.firstCells, sizeOf, typeInfo, hq, hi, hl, hst]
      · obtain ⟨x, rfl, hsrc⟩ := hpos (by omega)
        have hl := run_loadCells_list (P := P) w x cs hsrc
        rw [hn] at hl
        simp [Builtin.copy_, run_underlying hu, Builtin.lenOf, Builtin.firstCells, sizeOf, typeInfo, hq, hi, hl, hst]
    unfold Oper.wp
    simp [execOp, ho, resolve, invoke, builtin, hd, hs, hrun, Result.andThen]
    exact hK _ _ (h _ (setRow_heap w g cur _ t _ hg) (below_setRow hb hBg _))

/-- What a copy of accounts leaves. -/
def AccsEnd (w : World) (A : List A3) (e : Ending) (w' : World) : Prop :=
  ∃ v, e = .returned v ∧ w'.ownsRow w.heap.size 34 3 v A.length (accL A) ∧ Below w.heap.size w w'

theorem makeAccs (w : World) (n : Nat) (h : n ≤ 1000000) :
    ∃ w' cur, (Instr.makeSlice 22 (.int .i64 n) (.int .i64 n)).run Try.prog w = .ok (.slice (some ⟨w.heap.size, 0, none⟩) n n) w' ∧ w'.heap[w.heap.size]? = some (.cells cur 34 (0, 0)) ∧ cur.size = n * 3 ∧ Below w.heap.size w w' := by
  obtain ⟨i, hi, hz0, hz1, hz2⟩ := info_parts infoAcct
  have hr := run_make (P := Try.prog) w 22 34 i _ Try.underlying22 hi hz0 .i64 .i64 n n (by omega) (Int.le_refl _) (by rw [hz2]; omega) (by omega)
  simp only [Int.toNat_natCast, hz1] at hr
  exact ⟨_, _, hr, heap_alloc_new w _, size_madeCells _ _, (Below.refl _ _).alloc (Nat.le_refl _) _⟩

set_option maxHeartbeats 2000000 in
theorem copyAccs_any (a : Option Addr) (n c : Nat) (A : List A3) (w : World) (h : Accs w a n A) (hr : n ≤ 1000000) : Calls Try.prog 23 #[.slice a n c] w (AccsEnd w A) := by
  have HN : Hid (n = A.length) := h.1
  obtain ⟨w1, cur, hmk, hh1, hcs, hB1⟩ := makeAccs w n hr
  have hsrc : Hid (0 < n → ∃ x, a = some x ∧ ∀ j v, (accL A)[j]? = some v → w1.cell? (x.add j) = some v) := fun h0 => (h.below hB1).src h0
  have HB1 : Hid (Below w.heap.size w w1) := hB1
  obtain ⟨cs, hcs'⟩ : ∃ cs, accL A = cs := ⟨_, rfl⟩
  rw [hcs'] at hsrc
  have HC : Hid (accL A = cs ∧ cs.length = n * 3 ∧ cur.size = n * 3 ∧ ∀ v ∈ cs, v.oneCell' = true) := ⟨hcs', by rw [← hcs', accL_length, HN.out], hcs, by rw [← hcs']; exact accL_one A⟩
  clear h hB1 hcs hcs'
  go_enter Try.func23, Try.ntmps23
  go_wp2_with (refine wpList_copy3 rfl _ _ 22 22 rfl 34 Try.underlying22 sizeAcct w.heap.size n n a c rfl rfl cur 34 hh1 cs HC.out.2.1 HC.out.2.2.1 hsrc.out HC.out.2.2.2 w.heap.size w HB1.out (Nat.le_refl _) ?_)
  intro w2 hw2 hb2
  have HO : Hid (w2.ownsRow w.heap.size 34 3 (.slice (some ⟨w.heap.size, 0, none⟩) n n) A.length (accL A)) := by
    rw [HC.out.1, ← HN.out]
    refine ⟨HC.out.2.1, .inr ⟨w.heap.size, n, cs.toArray, rfl, Nat.le_refl _, ?_, Nat.le_refl _, by unfold maxLen; omega, by simp [HC.out.2.1], ?_⟩⟩
    · exact hw2.out
    · rw [← HC.out.2.1]
      simp
  have HB2 : Hid (Below w.heap.size w w2) := hb2
  clear hw2 hb2 hmk hh1 hsrc HB1 HC
  go_wp2
  go_ret
  exact ⟨_, rfl, HO.out, HB2.out⟩

end Go.Proofs.Ytpaieecbedgeaaa
