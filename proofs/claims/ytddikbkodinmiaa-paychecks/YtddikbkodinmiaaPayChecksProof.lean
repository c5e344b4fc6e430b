/-
  Whatever rules, tick and payment are handed in, PayChecks answers true: Check, Ready and Late answer as the document says. No conditions.
-/
import Derived.Test.YtddikbkodinmiaaRows
import Derived.Test.YtddikbkodinmiaaWalkPayChecks
import Derived.WalkKit
import Derived.ProofKit
import Derived.OpenShut
import Derived.ShutString
import Derived.ChangeOld
import Derived.Below
namespace Go.Proofs.Ytddikbkodinmiaa
namespace payChecks
open Go.ChangeShapes Go.WideShapes Go.ChangeAt Go.RowKit
open Go.ChangeMaps (open_string shut_string)
set_option linter.unusedVariables false

theorem own : ownKnob Try.prog.godebug = none := by kernel_rfl
theorem laidOut : laidOutB Try.prog = true := by kernel_rfl

set_option maxRecDepth 100000 in
theorem lifted (os : Os) (started : os.Started) (H : Type) (enc : TypeId × Value → H) :
    ReturnsInHanded {} Try.checked os 3 .any (Rows.payChecksSpec.pre6 enc Try.prog Try.f3 Rows.payChecksRow.domain false) (Rows.payChecksSpec.post enc Try.prog Try.f3 false true false false) := by
  refine returnsInHanded_of_change (C := Try.checked) own started (by kernel_rfl) Try.func3
    (ChangeSpec.witness6 (enc := enc) (C := Try.checked) false ⟨#[], #[.agg #[.int .i64 0, .slice none 0 0, .int .i64 0, .int .i64 0, .int .i64 0], .int .i64 0, .agg #[.int .i64 0, .int .i64 0, .int .i64 0, .int .i64 0, .int .i64 0, .int .i64 0, .int .i64 0]], []⟩ 8 (by kernel_rfl) (by kernel_rfl) (by kernel_rfl) (by kernel_rfl)) ?_
  intro W base args ds gs before hval0 hW hcnd _
  have hval : ∀ (j : Nat) t v, Try.f3.params[j]? = some t → args[j]? = some v → Value.okWide Try.prog W .any base t v := hval0
  have hW' := hW
  obtain ⟨p, q, hA0, hV, rfl, hfz, hnd⟩ := hW
  have hA : DataW.TrodAll enc Try.prog W 0 (fun _ => true) true Try.f3.params.toList args.toList ds p := hA0
  rw [Try.params3] at hA hval
  obtain ⟨v0, vs0, d0, ds0, p0, q0, hargs, rfl, rfl, h0, r0⟩ := trodAll_cons hA
  obtain ⟨v1, vs1, d1, ds1, p1, q1, rfl, rfl, rfl, h1, r1⟩ := trodAll_cons r0
  obtain ⟨v2, vs2, d2, ds2, p2, q2, rfl, rfl, rfl, h2, r2⟩ := trodAll_cons r1
  obtain ⟨rfl, rfl, rfl⟩ := trodAll_nil r2
  obtain rfl : args = #[v0, v1, v2] := by cases args; simp_all
  obtain ⟨rfl, rfl⟩ := trodVars_none hV
  obtain ⟨cs0, rfl, hs0⟩ := okWide_agg Try.underlying24 (hval 0 24 v0 rfl rfl)
  have k0 := h0
  have lt0 : ∀ x ∈ p0, x.block < W.heap.size := by obtain ⟨m, hm⟩ := k0; exact DataW.trod_lt m _ _ _ hm
  obtain ⟨rp0, ra0, rl0, rc0, rP0, rC0, cut0, cl0, per0, he0, w0⟩ : ∃ p a len cap P C cut cl per, cs0 = #[.int .i64 p, .slice a len cap, .int .i64 cut, .int .i64 cl, .int .i64 per] ∧ Asts W a len P C := by
    obtain ⟨fuel, hf⟩ := h0
    obtain ⟨p, a, len, cap, P, C, cut, cl, per, h1, h2⟩ := open_rules hf
    exact ⟨p, a, len, cap, P, C, cut, cl, per, by apply Array.toList_inj.1; simpa [Value.cells] using h1, h2⟩
  subst he0
  obtain ⟨a1, rfl, rfl, rfl, w1⟩ := open_int Try.underlying2 (hval 1 2 v1 rfl rfl) h1
  obtain ⟨cs2, rfl, hs2⟩ := okWide_agg Try.underlying26 (hval 2 26 v2 rfl rfl)
  have k2 := h2
  have lt2 : ∀ x ∈ p2, x.block < W.heap.size := by obtain ⟨m, hm⟩ := k2; exact DataW.trod_lt m _ _ _ hm
  obtain ⟨pi2, pf2, po2, pm2, pc2, ps2, pv2, he2, w2⟩ : ∃ i f o m c s v, cs2 = #[.int .i64 i, .int .i64 f, .int .i64 o, .int .i64 m, .int .i64 c, .int .i64 s, .int .i64 v] ∧ Wf7 (i, f, o, m, c, s, v) := by
    obtain ⟨fuel, hf⟩ := h2
    exact plain7 (open_plain 3 fuel 26 _ _ (by kernel_rfl) hf) (hs2.trans (by kernel_rfl))
  subst he2
  clear hA0 hval0
  refine (Walk.payChecks rp0 ra0 rl0 rc0 rP0 rC0 cut0 cl0 per0 a1 pi2 pf2 po2 pm2 pc2 ps2 pv2 W w0 w1 w2).mono fun e W' ⟨he, bel⟩ => ?_
  subst he
  exact ⟨_, rfl, _, _, _, [], _, [], hW', trodAll_mk1 (shut_bool Try.underlying4 _), (trodAll_cons_mk (Below.trod laidOut (by kernel_rfl) (of_decide_eq_true (by kernel_rfl)) k0 bel lt0) (trodAll_cons_mk (shut_int Try.underlying2 w1) (trodAll_cons_mk (Below.trod laidOut (by kernel_rfl) (of_decide_eq_true (by kernel_rfl)) k2 bel lt2) trodAll_mk0))), rfl, bel.frame _, fun h => by cases h⟩

theorem over : Rows.payChecksRow.holds Try.pinned (OpenSpec.ofChange Rows.payChecksSpec) :=
  OpenClaim.holds_of_wide 3 Try.f3 rfl rfl rfl rfl rfl rfl rfl ⟨rfl, rfl, rfl, rfl, rfl⟩ rfl rfl rfl rfl rfl (by kernel_rfl) Try.func3 (by kernel_rfl)
    (of_decide_eq_true (by kernel_rfl)) (by unfold Func.isWrapper; first | (rw [if_pos (by decide +kernel)]; kernel_rfl) | (rw [if_neg (by decide +kernel)]; exact ⟨rfl, rfl⟩))
    (fun os started H enc _ => lifted os started H enc)

end payChecks

theorem payChecks_holds : Rows.PayChecksSaid := payChecks.over
#print axioms payChecks_holds
end Go.Proofs.Ytddikbkodinmiaa
