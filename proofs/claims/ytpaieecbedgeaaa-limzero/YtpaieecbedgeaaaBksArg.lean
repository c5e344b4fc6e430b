/-
  Books as a law is handed them.
-/
import Derived.Test.YtpaieecbedgeaaaLimNew
import Derived.Test.YtpaieecbedgeaaaPlainSl
import Derived.Test.YtpaieecbedgeaaaArgs
import Derived.Deep.Matrix
namespace Go.Proofs.Ytpaieecbedgeaaa
open Go.ChangeShapes Go.WideShapes Go.ChangeAt Go.RowKit
set_option linter.unusedVariables false

theorem wf_of_lit {n : Int} (h : (Lit.int .i64 n).wf = true) : IntKind.i64.wrap n = n := by
  simp only [Lit.wf, Bool.and_eq_true, decide_eq_true_eq] at h
  exact i64_wf h.1 h.2
/-- Accounts, out of rows of three. -/
theorem accs_plain {w : World} {a : Option Addr} {len : Nat} {Z : Nat → Nat → Int} (h : PlainRows w a len 3 Z) : Accs w a len ((List.range len).map fun i => (Z i 0, Z i 1, Z i 2)) := by
  refine ⟨by simp, ?_⟩
  rcases h with rfl | ⟨b, off, ha, _, hc⟩
  · exact .inl rfl
  · refine .inr ⟨b, off, ha, fun i hi => ?_⟩
    have hi' : i < len := by simpa using hi
    have e : ((List.range len).map fun i => ((Z i 0, Z i 1, Z i 2) : A3)).getD i a30 = (Z i 0, Z i 1, Z i 2) := by simp [List.getD_eq_getElem?_getD, hi']
    rw [e]
    exact ⟨(hc i hi' 0 (by omega)).1, (hc i hi' 1 (by omega)).1, (hc i hi' 2 (by omega)).1⟩

/-- A row, out of what is read of it. -/
theorem sl_read {w : World} {A : Option Addr} {L C : Nat} {Z : List Int} (h1 : L ≤ C) (h2 : C ≤ maxLen) (h3 : Z.length = C) (h4 : ∀ n ∈ Z, (Lit.int .i64 n).wf = true) (h5 : A = none → C = 0)
    (h6 : ∀ a', A = some a' → ∀ c, c < C → w.cell? (a'.add c) = some (.int .i64 (Z.getD c 0))) : Sl .i64 w A L (Z.take L) := by
  refine (Walk.IsRow.sl (k := .i64) (w := w) (a := A) (len := L) (cap := C) (zs := Z) ?_ fun n => wf_of_lit).1
  cases A with
  | none =>
    have h0 := h5 rfl
    subst h0
    exact .inl ⟨rfl, by omega, rfl, List.length_eq_zero_iff.mp h3⟩
  | some x => exact .inr ⟨x, rfl, h1, h2, h3, fun i hi => h6 x rfl i (by omega), h4⟩

section
variable {H : Type} {enc : TypeId × Value → H} {W : World} {base : Nat}

theorem open_rows64 {fuel : Nat} {v : Value} {x : DataW H × List MemPlace} (h : DataW.trod enc Try.prog W base (fun _ => true) true fuel 23 [v] = some x) :
    ∃ a n c R, v = .slice a n c ∧ RowsI W a n R ∧ n ≤ 9223372036854775807 ∧ Short R := by
  rcases Go.Deep.open_int_rows Try.underlying23 Try.underlying24 Try.underlying2 (by kernel_rfl) (by kernel_rfl) h with ⟨hcs, _⟩ | ⟨ad, l, c, A, L, C, Z, hcs, _, hl, hm, _, hr⟩
  · simp at hcs
    exact ⟨none, 0, 0, [], hcs, ⟨rfl, fun z hz => by simp at hz, .inl rfl⟩, by omega, fun z hz => by simp at hz⟩
  · simp at hcs
    have hm' := hm
    unfold maxLen at hm'
    have row : ∀ r, r < l → Sl .i64 W (A r) (L r) ((Z r).take (L r)) ∧ ((Z r).take (L r)).length = L r ∧ L r ≤ 9223372036854775807 := fun r hrl => by
      obtain ⟨_, h2, h3, h4, h5, h6, h7⟩ := hr r (by omega)
      refine ⟨sl_read h2 h3 h4 h5 h6 (fun a' ha => (h7 a' ha).2), by simp; omega, by unfold maxLen at h3; omega⟩
    have gd : ∀ r, r < l → ((List.range l).map fun r => (Z r).take (L r)).getD r [] = (Z r).take (L r) := fun r hrl => by simp [List.getD_eq_getElem?_getD, hrl]
    refine ⟨some ad, l, c, (List.range l).map fun r => (Z r).take (L r), hcs, ⟨by simp, ?_, ?_⟩, by omega, ?_⟩
    · intro z hz
      obtain ⟨r, hrl, rfl⟩ := List.mem_map.1 hz
      exact (row r (List.mem_range.1 hrl)).1.2.1
    · by_cases h0 : l = 0
      · subst h0; exact .inl rfl
      · obtain ⟨b, off, spot⟩ := ad
        have hs := (hr 0 (by omega)).1
        have hspot : spot = none := by simpa [Addr.add] using World.cell?_spot hs
        subst hspot
        refine .inr ⟨b, off, rfl, fun i hi => ?_⟩
        have hi' : i < l := by simpa using hi
        obtain ⟨s1, s2, s3⟩ := row i hi'
        obtain ⟨h1, _, _, _, _, h6, _⟩ := hr i (by omega)
        rw [Addr.add_flat] at h1
        rw [gd i hi', s2]
        exact ⟨A i, C i, h1, s1, h6⟩
    · intro z hz
      obtain ⟨r, hrl, rfl⟩ := List.mem_map.1 hz
      obtain ⟨_, s2, s3⟩ := row r (List.mem_range.1 hrl)
      omega

theorem open_books {fuel : Nat} {cs : List Value} {x : DataW H × List MemPlace} (h : DataW.trod enc Try.prog W base (fun _ => true) true fuel 26 cs = some x) :
    ∃ (y : BA) (b : Bks), cs = [.slice y.aA y.nA y.cA, .slice y.aB y.nB y.cB, .slice y.aM y.nM y.cM, .slice y.aP y.nP y.cP] ∧ Bk W y b := by
  obtain ⟨xs, n, _, _, hl, hx, hf⟩ := DataW.trod_struct Try.underlying26 h
  have c1 : Try.prog.cellsOf 22 = 1 := by kernel_rfl
  have c2 : Try.prog.cellsOf 23 = 1 := by kernel_rfl
  have c3 : Try.prog.cellsOf 24 = 1 := by kernel_rfl
  have c4 : Try.prog.cellsOf 26 = 4 := by kernel_rfl
  rw [c4] at hl
  match cs, hl with
  | [v0, v1, v2, v3], _ =>
    match xs, hx with
    | [x0, x1, x2, x3], _ =>
      have f0 : DataW.trod enc Try.prog W base (fun _ => true) true n 22 ((([v0, v1, v2, v3] : List Value).drop 0).take (Try.prog.cellsOf 22)) = some x0 := hf 0 _ rfl
      have f1 : DataW.trod enc Try.prog W base (fun _ => true) true n 23 ((([v0, v1, v2, v3] : List Value).drop 1).take (Try.prog.cellsOf 23)) = some x1 := hf 1 _ rfl
      have f2 : DataW.trod enc Try.prog W base (fun _ => true) true n 24 ((([v0, v1, v2, v3] : List Value).drop 2).take (Try.prog.cellsOf 24)) = some x2 := hf 2 _ rfl
      have f3 : DataW.trod enc Try.prog W base (fun _ => true) true n 23 ((([v0, v1, v2, v3] : List Value).drop 3).take (Try.prog.cellsOf 23)) = some x3 := hf 3 _ rfl
      rw [c1] at f0
      rw [c2] at f1 f3
      rw [c3] at f2
      have f0 : DataW.trod enc Try.prog W base (fun _ => true) true n 22 [v0] = some x0 := f0
      have f1 : DataW.trod enc Try.prog W base (fun _ => true) true n 23 [v1] = some x1 := f1
      have f2 : DataW.trod enc Try.prog W base (fun _ => true) true n 24 [v2] = some x2 := f2
      have f3 : DataW.trod enc Try.prog W base (fun _ => true) true n 23 [v3] = some x3 := f3
      obtain ⟨aA, nA, cA, rfl⟩ : ∃ a len cap, v0 = .slice a len cap := by
        rcases Go.Deep.open_slice Try.underlying22 f0 with ⟨hcs, _⟩ | ⟨ad, len', cap', m, n', D, Pl, hcs, _⟩
        · simp at hcs
          exact ⟨_, _, _, hcs⟩
        · simp at hcs
          exact ⟨_, _, _, hcs⟩
      obtain ⟨Z, hZ, hAc, hAm, hAn⟩ := open_plain_slice (d := 3) (c := 3) Try.underlying22 (by kernel_rfl) (by kernel_rfl) (by omega) f0
      obtain ⟨aB, nB, cB, RB, rfl, rB, mB, sB⟩ := open_rows64 f1
      obtain ⟨aP, nP, cP, RP, rfl, rP, mP, sP⟩ := open_rows64 f3
      obtain ⟨aM, nM, cM, zs, rfl, hM, mM, oM⟩ : ∃ a len cap zs, v2 = .slice a len cap ∧ Sl .i64 W a len zs ∧ len ≤ 9223372036854775807 ∧ (a = none → cap = 0) := by
        rcases open_ints Try.underlying24 Try.underlying2 (by kernel_rfl) f2 with ⟨hcs, _⟩ | ⟨ad, l, c, zs, hcs, _, hl, hm, hz, _, hcell, hwz⟩
        · simp at hcs
          exact ⟨none, 0, 0, [], hcs, Sl.nil _ _ _, by omega, fun _ => rfl⟩
        · simp at hcs
          simp only [if_true] at hz
          have hm' := hm
          unfold maxLen at hm'
          exact ⟨some ad, l, c, zs.take l, hcs, sl_read hl hm hz hwz (fun h => by simp at h) (fun a' ha c' hc' => by simp at ha; subst ha; exact hcell c' (by omega)), by omega, fun h => by simp at h⟩
      unfold maxLen at hAm
      exact ⟨⟨aA, nA, cA, aB, nB, cB, aM, nM, cM, aP, nP, cP⟩, ⟨_, RB, zs, RP⟩, rfl, ⟨accs_plain hZ, rB, hM, rP, by show nA ≤ _; omega, mB, mM, mP, sB, sP, hAn, oM⟩⟩
end

end Go.Proofs.Ytpaieecbedgeaaa
