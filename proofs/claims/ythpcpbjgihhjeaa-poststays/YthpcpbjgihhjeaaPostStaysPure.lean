/-
  What all have together, as sums of lists; append in a region that draws: where the new slice lies.
-/
import Derived.Test.YthpcpbjgihhjeaaPostPure
import Derived.Test.YthpcpbjgihhjeaaPostDo
import Derived.Test.YthpcpbjgihhjeaaRefSum
import Derived.Test.YthpcpbjgihhjeaaStepSl
import Derived.Maps.AppendAt
namespace Go.Proofs.Ythpcpbjgihhjeaa
open Go.RowKit
set_option linter.unusedVariables false
set_option linter.unusedSimpArgs false

def bals (A : List A3) : List Int := A.map fun a => a.1
theorem bals_take {A : List A3} {k : Nat} (h : k < A.length) : bals (A.take (k + 1)) = bals (A.take k) ++ [(A.getD k a30).1] := by
  unfold bals
  rw [take_snocA A a30 k h, List.map_append]
  rfl
theorem tot_bals (A : List A3) : ∀ k, k ≤ A.length → tot (bals (A.take k)) = balTo A k := by
  intro k
  induction k with
  | zero => intro _; rfl
  | succ k ih =>
    intro hk
    rw [bals_take (by omega), tot_append, ih (by omega)]
    simp [tot, balTo]
theorem stays_tot (b : Bks) (L : List P7) : tot (bals (postR b L).A) = tot (bals b.A) := by
  unfold postR
  split
  · have h1 := tot_bals (postB b L).A b.A.length (by rw [postB_len]; exact Nat.le_refl _)
    have h2 := tot_bals b.A b.A.length (Nat.le_refl _)
    rw [List.take_length] at h2
    rw [show (postB b L).A.take b.A.length = (postB b L).A from by rw [← postB_len b L, List.take_length]] at h1
    rw [h1, h2, balTo_stays]
  · rfl
theorem stays_good {b : Bks} (g : Good b) (L : List P7) : Good (postR b L) := by
  unfold postR
  split
  · rename_i h
    rw [Bool.and_eq_true] at h
    exact booksB_yes.1 h.2
  · exact g
theorem stays_len (b : Bks) (L : List P7) : (postR b L).A.length = b.A.length := by
  unfold postR
  split
  · exact postB_len b L
  · rfl
theorem stays_err {b : Bks} {L : List P7} (h : ¬ postE b L = 0) : postR b L = b := by
  unfold postE at h
  unfold postR
  cases h1 : allB b L with
  | false => rfl
  | true =>
    cases h2 : booksB (postB b L) with
    | false => rfl
    | true => rw [h1, h2] at h; exact absurd rfl h
theorem bals_rng {b : Bks} (g : Good b) : ∀ n ∈ bals b.A, -9223372036854775808 ≤ n ∧ n ≤ 9223372036854775807 := by
  intro n hn
  obtain ⟨x, hx, rfl⟩ := List.mem_map.1 hn
  obtain ⟨i, hi, rfl⟩ := List.getElem_of_mem hx
  have := g.reserve i hi
  simp [hi] at this
  omega
/-- What the call owns is a slice with just these numbers. -/
theorem sum_has {w : World} {base : Nat} {v : Value} {ys : List Int} (h : w.ownsRow base 2 1 v ys.length (ys.map (Value.int .i64))) (hl : ys.length ≤ 140737488355328)
    (hwf : ∀ n ∈ ys, -9223372036854775808 ≤ n ∧ n ≤ 9223372036854775807) : ∃ a cap, v = .slice a ys.length cap ∧ Has w a ys.length ys := by
  have hc := h.2
  rcases hc with ⟨rfl, h0⟩ | ⟨g, cap, cur, rfl, _, _, _, _, _, _⟩
  · have : ys = [] := List.length_eq_zero_iff.mp h0
    subst this
    exact ⟨none, 0, rfl, rfl, hl, hwf, .inl rfl⟩
  · refine ⟨some ⟨g, 0, none⟩, cap, rfl, rfl, hl, hwf, .inr ⟨g, 0, rfl, ?_⟩⟩
    intro i hi
    rw [Nat.zero_add, h.cellAt i (by omega)]
    simp [hi]

theorem has_below {w w' : World} {a : Option Addr} {n : Nat} {zs : List Int} (h : Has w a n zs) (k : Below w.heap.size w w') : Has w' a n zs := by
  refine ⟨h.1, h.2.1, h.2.2.1, ?_⟩
  rcases h.2.2.2 with h0 | ⟨b, off, ha, hc⟩
  · exact .inl h0
  · refine .inr ⟨b, off, ha, fun i hi => ?_⟩
    have := hc i hi
    rw [k.cell (p := ⟨b, off + i, none⟩) (block_lt_of_cell this)]
    exact this

/-- append of one number, as one step of a region that draws, and where the new slice lies. -/
theorem step_one_at {w : World} {ops : Array Oper} {o : Oper} {a : Act} {K : Act → World → Prop} {Q : Exit → Act → World → Prop} {E : Prop} (hgd : o.guard = none) (s x : Operand)
    (ho : o.op = .call { callee := .builtin .append, args := #[s, x], argTypes := #[24, 24] })
    (base : Nat) (v : Value) (n : Nat) (xs : List Int) (hs : a.eval s = v) (hown : w.ownsRow base 2 1 v n (xs.map (Value.int .i64))) (g : Nat) (y : Int) (hx : a.eval x = .slice (some ⟨g, 0, none⟩) 1 1) (hS : Sl .i64 w (some ⟨g, 0, none⟩) 1 [y]) (h63 : n ≤ 1000) (hbase : base ≤ w.heap.size)
    (h : ∀ v' w', w'.ownsRow base 2 1 v' (n + 1) ((xs ++ [y]).map (Value.int .i64)) → w.grownBy w' v.ownBlock → (v'.ownBlock = v.ownBlock ∨ v'.ownBlock = some w.heap.size) → K (a.put o.dst v') w') :
    if Region.wanted o (yielded ops a.tmps) = true then Oper.wp Try.prog o a w K Q else E := by
  have hw : Region.wanted o (yielded ops a.tmps) = true := by simp [Region.wanted, hgd]
  rw [if_pos hw]
  obtain ⟨i0, hi, hz0, hz1, hz2⟩ := info_parts infoI64
  obtain ⟨v', w', hrun, h1, h2, _, h4⟩ := run_append_own_at (P := Try.prog) w base 24 o.type 2 i0 _ 1 8 Try.underlying24 hi hz0 hz1 hz2 rfl (by decide) v n (xs.map (Value.int .i64)) hown ⟨g, 0, none⟩ 1 1 [Value.int .i64 y] rfl (by
      intro j u hj
      obtain ⟨b, off, ha, hc⟩ := hS.2.2.resolve_left (by simp)
      simp at ha
      obtain ⟨rfl, rfl⟩ := ha
      have hj0 : j = 0 := by
        have := (List.getElem?_eq_some_iff.1 hj).1
        simpa using this
      subst hj0
      simp at hj
      subst hj
      have := hc 0 (by simp)
      rw [Addr.add_flat]
      simpa using this) (by intro u hu; simp at hu; subst hu; rfl) (by unfold maxLen; omega) (by omega) hbase
  unfold Oper.wp
  simp [execOp, ho, resolve, invoke, builtin, hs, hx, hrun, Result.andThen]
  refine h v' w' ?_ h2 h4
  rw [List.map_append]
  exact h1

theorem ap_symm {x y : Option Nat} (h : x = none ∨ x ≠ y) : y = none ∨ y ≠ x := by
  cases y with
  | none => exact .inl rfl
  | some j =>
    right
    intro e
    rcases h with h | h
    · rw [h] at e; cases e
    · exact h e.symm
theorem sl_kept1 {w w' : World} {g : Nat} {o : Option Nat} {y : Int} (h : Sl .i64 w (some ⟨g, 0, none⟩) 1 [y]) (hg : w.grownBy w' o) (hne : some g ≠ o) (hlt : g < w.heap.size) : Sl .i64 w' (some ⟨g, 0, none⟩) 1 [y] := by
  refine ⟨h.1, h.2.1, ?_⟩
  rcases h.2.2 with h0 | ⟨b, off, ha, hc⟩
  · exact .inl h0
  · simp at ha
    obtain ⟨rfl, rfl⟩ := ha
    refine .inr ⟨g, 0, rfl, fun i hi => ?_⟩
    have := hc i hi
    unfold World.cell? at this ⊢
    rw [hg.block g hlt hne]
    exact this
theorem ap_left {x y z : Option Nat} {m : Nat} (h : x = none ∨ x ≠ y) (hz : z = x ∨ z = some m) (hy : ∀ j, y = some j → j < m) : z = none ∨ z ≠ y := by
  rcases hz with rfl | rfl
  · exact h
  · exact .inr fun e => by have := hy m e.symm; omega
theorem ap_right {x y z : Option Nat} {m : Nat} (h : x = none ∨ x ≠ y) (hz : z = y ∨ z = some m) (hx : ∀ j, x = some j → j < m) : x = none ∨ x ≠ z := by
  rcases hz with rfl | rfl
  · exact h
  · cases x with
    | none => exact .inl rfl
    | some j => exact .inr fun e => by have := hx j rfl; simp at e; omega

end Go.Proofs.Ythpcpbjgihhjeaa
