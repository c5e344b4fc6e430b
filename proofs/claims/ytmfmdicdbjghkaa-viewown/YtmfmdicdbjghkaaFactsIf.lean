/-
  Regions that draw their order (Facts): operations whose guard hangs on a letter.
-/
import Derived.Test.YtmfmdicdbjghkaaFacts3
namespace Go.Proofs.Ytmfmdicdbjghkaa
open Go.RowKit
set_option linter.unusedVariables false

/-- It holds v, if g. -/
def Fact.when (g : Bool) (v : Value) : Fact := ⟨fun _ y => g = true → y = v, fun _ _ _ _ h => h⟩

section
variable {P : Program} {Q : Exit → Act → World → Prop} {L : List Fact} {T : List Nat} {a0 : Act} {w0 : World} {i : Nat} {o : Oper}

/-- A guarded operation that only reads. -/
theorem owes_when (j : Nat) (b c : Bool) (v : Value) (hg : o.guard = some (j, b)) (hd : (o.after.toList.any fun e => e.on == j && Region.binds .any e) = true) (hLj : L.getD j Fact.any = Fact.is (.bool c)) (hL : L.getD i Fact.any = Fact.when (c == b) v)
    (h : (c == b) = true → ∀ a w, Leans L T a0 w0 o a w → (execOp a.eval o).run P w = .ok (.value v) w) : OwesT P Q L T a0 w0 i o := by
  intro a w h1 h2 h3
  have hv := h3 j hd
  rw [hLj] at hv
  have hv : a.tmps.getD (T.getD j 0) undef = .bool c := hv
  cases hcb : (c == b) with
  | false =>
    refine .inr ⟨⟨(j, b), hg, ?_⟩, ?_⟩
    · rw [hv]
      intro hh
      injection hh with hh
      rw [hh] at hcb
      simp at hcb
    · rw [hL, hcb]
      intro hh
      exact Bool.noConfusion hh
  | true =>
    refine .inl ⟨?_, ?_⟩
    · intro g hgd
      rw [hg] at hgd
      simp at hgd
      subst hgd
      rw [hv]
      have : c = b := by simpa using hcb
      rw [this]
    · unfold Oper.wp
      rw [h hcb a w ⟨h1, h2, h3⟩]
      exact ⟨Below.refl _ _, v, rfl, by rw [hL]; intro _; rfl⟩

/-- A guarded call. -/
theorem owes_when_call (j : Nat) (b c : Bool) (v0 : Value) (hg : o.guard = some (j, b)) (hd : (o.after.toList.any fun e => e.on == j && Region.binds .any e) = true) (hLj : L.getD j Fact.any = Fact.is (.bool c)) (hL : L.getD i Fact.any = Fact.when (c == b) v0)
    (f : FuncId) {fn : Func} (hfn : P.funcs[f]? = some fn) (hname : (fn.name == "runtime.NumGoroutine") = false) (hbody : fn.body.isNone = false) (xs : List Operand) (ts : Array TypeId) (ho : o.op = .call { callee := .value (.func f), args := xs.toArray, argTypes := ts })
    (h : (c == b) = true → ∀ a w, Leans L T a0 w0 o a w → Calls P f (xs.map a.eval).toArray w fun e w' => e = .returned v0 ∧ Below w.heap.size w w') : OwesT P Q L T a0 w0 i o := by
  intro a w h1 h2 h3
  have hv := h3 j hd
  rw [hLj] at hv
  have hv : a.tmps.getD (T.getD j 0) undef = .bool c := hv
  cases hcb : (c == b) with
  | false =>
    refine .inr ⟨⟨(j, b), hg, ?_⟩, ?_⟩
    · rw [hv]
      intro hh
      injection hh with hh
      rw [hh] at hcb
      simp at hcb
    · rw [hL, hcb]
      intro hh
      exact Bool.noConfusion hh
  | true =>
    have hc := h hcb a w ⟨h1, h2, h3⟩
    refine .inl ⟨?_, ?_⟩
    · intro g hgd
      rw [hg] at hgd
      simp at hgd
      subst hgd
      rw [hv]
      have : c = b := by simpa using hcb
      rw [this]
    · unfold Oper.wp
      have hr : (execOp a.eval o).run P w = (.ok (.enter f (xs.map a.eval).toArray) w) := by
        unfold execOp
        rw [ho]
        simp [resolve, invoke, Act.eval, Deferred.ofValue, run_enter hfn hname hbody]
      rw [hr]
      refine hc.mono ?_
      rintro e w' ⟨rfl, hb⟩
      exact ⟨hb, v0, rfl, by rw [hL]; intro _; rfl⟩

/-- c || y. -/
theorem owes_or (c y jc jy : Nat) (C Y : Bool) (ho : o.op = .pick (.tmp c) (.const (.bool true)) (.tmp y)) (hg : o.guard = none)
    (hc : T.getD jc 0 = c) (hdc : (o.after.toList.any fun e => e.on == jc && Region.binds .any e) = true) (hLc : L.getD jc Fact.any = Fact.is (.bool C))
    (hy : T.getD jy 0 = y) (hdy : (o.after.toList.any fun e => e.on == jy && Region.binds .any e) = true) (hLy : L.getD jy Fact.any = Fact.when (C == false) (.bool Y)) (hL : L.getD i Fact.any = Fact.is (.bool (C || Y))) : OwesT P Q L T a0 w0 i o := by
  refine owes_pick (.tmp c) (.const (.bool true)) (.tmp y) ho fun a w lh => ⟨wants_free hg, C, ?_, ?_⟩
  · have := lh.dep jc hdc
    rw [hLc, hc] at this
    exact this
  · rw [hL]
    cases C with
    | true => rfl
    | false =>
      have := lh.dep jy hdy
      rw [hLy, hy] at this
      have : a.tmps.getD y undef = .bool Y := this rfl
      exact this
/-- c && y. -/
theorem owes_and (c y jc jy : Nat) (C Y : Bool) (ho : o.op = .pick (.tmp c) (.tmp y) (.const (.bool false))) (hg : o.guard = none)
    (hc : T.getD jc 0 = c) (hdc : (o.after.toList.any fun e => e.on == jc && Region.binds .any e) = true) (hLc : L.getD jc Fact.any = Fact.is (.bool C))
    (hy : T.getD jy 0 = y) (hdy : (o.after.toList.any fun e => e.on == jy && Region.binds .any e) = true) (hLy : L.getD jy Fact.any = Fact.when (C == true) (.bool Y)) (hL : L.getD i Fact.any = Fact.is (.bool (C && Y))) : OwesT P Q L T a0 w0 i o := by
  refine owes_pick (.tmp c) (.tmp y) (.const (.bool false)) ho fun a w lh => ⟨wants_free hg, C, ?_, ?_⟩
  · have := lh.dep jc hdc
    rw [hLc, hc] at this
    exact this
  · rw [hL]
    cases C with
    | false => rfl
    | true =>
      have := lh.dep jy hdy
      rw [hLy, hy] at this
      have : a.tmps.getD y undef = .bool Y := this rfl
      exact this
end

end Go.Proofs.Ytmfmdicdbjghkaa
