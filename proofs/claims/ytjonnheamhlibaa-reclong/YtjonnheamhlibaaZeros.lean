/-
  Bytes that are made: all of them 0; and append of a count of them ('append(s, make([]T, n)...)' is one operation with a number).
-/
import Derived.Test.YtjonnheamhlibaaRecRows
namespace Go.Proofs.Ytjonnheamhlibaa
open Go.RowKit
set_option linter.unusedVariables false
set_option linter.unusedSimpArgs false

def zeros (n : Nat) : List Int := List.replicate n 0
theorem zeros_len (n : Nat) : (zeros n).length = n := by simp [zeros]
theorem zeros_bs (n : Nat) : Bs (zeros n) := fun x hx => by simp [zeros] at hx; rw [hx.2]; decide

theorem make_any (w : World) (n : Nat) (h : n ≤ 1000000) :
    ∃ w', (Instr.makeSlice 22 (.int .i64 n) (.int .i64 n)).run Try.prog w = .ok (.slice (some ⟨w.heap.size, 0, none⟩) n n) w' ∧ Sl .u8 w' (some ⟨w.heap.size, 0, none⟩) n (zeros n) ∧ Below w.heap.size w w' := by
  obtain ⟨i, hi, hz0, hz1, hz2⟩ := info_parts infoU8
  obtain ⟨w', hr, ho, hg⟩ := run_make_full (P := Try.prog) w w.heap.size 22 5 i (.int .u8 0) 1 Try.underlying22 hi hz0 hz1 .i64 .i64 n (by rw [hz2]; omega) (by unfold maxLen; omega) (Nat.le_refl _)
  refine ⟨w', hr, ?_, (Below.refl _ _).grown hg (Nat.le_refl _) (fun k hk => by simp at hk)⟩
  have e : (madeCells (Value.int .u8 0).cells (n * 1)).toList = (zeros n).map (Value.int .u8) := by
    rw [Nat.mul_one]
    show (madeCells #[Value.int .u8 0] n).toList = _
    rw [toList_madeCells_one]
    simp [zeros]
  rw [e] at ho
  have ho' : w'.ownsRow w.heap.size 5 1 (.slice (some ⟨w.heap.size, 0, none⟩) n n) (zeros n).length ((zeros n).map (Value.int .u8)) := by rw [zeros_len]; exact ho
  obtain ⟨a, c, hv, hs, _⟩ := Sl.own ho' (fun x hx => by simp [zeros] at hx; rw [hx.2]; decide)
  simp at hv
  rw [zeros_len] at hs
  rw [hv.1]
  exact hs

theorem zeros_map (n : Nat) : (zeros n).map (Value.int .u8) = List.replicate n (Value.int .u8 0) := by simp [zeros]

theorem zeroCells_one (z : Value) (m : Nat) (hz : z.cells = #[z]) : (Builtin.zeroCells z.cells m).toList = List.replicate m z := by
  rw [hz]
  apply List.ext_getElem
  · simp [Builtin.zeroCells]
  · intro n h1 h2
    simp [Builtin.zeroCells, Nat.mod_one]

theorem run_append_made {P : Program} (w : World) (t u ty e : TypeId) (i : TypeInfo) (z : Value) (ht : P.underlying t = some (.slice e)) (hu : P.underlying u = some (.int .i64)) (hi : P.info? e = some i) (hz : i.zero = some z) (h1 : i.size = 1) (h2 : i.bytes = 1)
    (b : Addr) (n cap : Nat) (olds : List Value) (hlo : olds.length = n) (holds : ∀ j v, olds[j]? = some v → w.cell? (b.add j) = some v) (m : Nat) (hm : 0 < m) (hg : cap < n + m) (hb : n + m ≤ 1000000) :
    (Builtin.append_ #[t, u] ty #[.slice (some b) n cap, .int .i64 m]).run P w =
      .ok (.slice (some ⟨w.heap.size, 0, none⟩) (n + m) (grownCap w (n + m) cap e))
        (w.drew.alloc (.cells (olds.toArray ++ Builtin.zeroCells z.cells m ++ Builtin.zeroCells z.cells (grownCap w (n + m) cap e - (n + m))) e)) := by
  have hn : ¬ (n + m ≤ cap) := by omega
  have h63' : ¬ (9223372036854775807 < ((n : Int) + (m : Int))) := by omega
  have h48' : ¬ (281474976710656 < Builtin.nextslicecap (n + m) cap) := by
    have := growslice_fits (need := n + m) (old := cap) (bytes := 1) (by omega) (by omega)
    omega
  have hw : IntKind.i64.wrap (m : Int) = m := i64_wf (by omega) (by omega)
  have hneg : ¬ ((m : Int) < 0) := by omega
  have hbig : ¬ ((281474976710656 : Int) < (m : Int)) := by omega
  have hm0 : m ≠ 0 := by omega
  have hfo := run_firstCells_some (P := P) w.drew i.size n b n cap olds (by rw [h1]; omega) (by simpa using holds)
  rw [h1] at hfo
  simp [Builtin.append_, run_underlying ht, run_underlying hu, sizeOf, typeInfo, zeroValue, hi, hz, h1, h2, Builtin.lenOf, asInt, asIntOf, hw, hneg, hbig, hm0, hn, h63', h48', Question.forced, hfo, newRow, grownCap]

theorem wpList_append_made {P : Program} {w : World} {ops : Array Oper} {rest : List Oper} {o : Oper} {a : Act} {Q : Exit → Act → World → Prop} (hgd : o.guard = none) (s x : Operand) (t u : TypeId)
    (ho : o.op = .call { callee := .builtin .append, args := #[s, x], argTypes := #[t, u] }) (e : TypeId) (i : TypeInfo) (z : Value) (ht : P.underlying t = some (.slice e)) (hu : P.underlying u = some (.int .i64)) (hi : P.info? e = some i) (hz : i.zero = some z) (h1 : i.size = 1) (h2 : i.bytes = 1) (hzc : z.cells = #[z])
    (b : Addr) (n cap : Nat) (olds : List Value) (hs : a.eval s = .slice (some b) n cap) (hlo : olds.length = n) (holds : ∀ j v, olds[j]? = some v → w.cell? (b.add j) = some v) (m : Nat) (hx : a.eval x = .int .i64 m) (hm : 0 < m) (hg : cap < n + m) (hb : n + m ≤ 1000000) (news : List Value) (hw : news = List.replicate m z)
    (h : ∀ c w', w'.ownsRow w.heap.size e 1 (.slice (some ⟨w.heap.size, 0, none⟩) (n + m) c) (n + m) (olds ++ news) → w.grownBy w' none → wpList P ops Q rest (a.put o.dst (.slice (some ⟨w.heap.size, 0, none⟩) (n + m) c)) w') : wpList P ops Q (o :: rest) a w := by
  subst hw
  refine wpList_plain hgd fun K hK => ?_
  have hr := run_append_made (P := P) w t u o.type e i z ht hu hi hz h1 h2 b n cap olds hlo holds m hm hg hb
  unfold Oper.wp execOp
  simp only [ho, resolve, invoke, builtin, Sem.run_bind, Sem.run_pure, Result.andThen_ok, List.map_toArray, List.map_cons, List.map_nil, hs, hx, hr]
  have hge := grownCap_ge w (n + m) cap e
  have hcm : grownCap w (n + m) cap e ≤ maxLen := grownCap_le_maxLen w (n + m) cap e (by unfold maxLen; omega)
  refine hK _ _ (h _ _ ⟨by simp; omega, .inr ⟨w.heap.size, _, _, rfl, Nat.le_refl _, heap_alloc_new w.drew _, hge, hcm, ?_, ?_⟩⟩ ⟨rfl, rfl, rfl, by simp, fun k hk _ => heap_alloc_old w.drew _ hk⟩)
  · simp [size_zeroCells, hzc]
    omega
  · simp only [Array.toList_append, zeroCells_one z _ hzc]
    rw [List.take_append_of_le_length (by simp; omega), List.take_of_length_le (by simp; omega)]

end Go.Proofs.Ytjonnheamhlibaa
