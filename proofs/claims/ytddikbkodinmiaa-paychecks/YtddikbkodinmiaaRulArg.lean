/-
  Rules as a law is handed them.
-/
import Derived.Test.YtddikbkodinmiaaDayRul
import Derived.Test.YtddikbkodinmiaaAstArg
namespace Go.Proofs.Ytddikbkodinmiaa
open Go.ChangeShapes Go.WideShapes Go.ChangeAt Go.RowKit

section
variable {H : Type} {enc : TypeId × Value → H} {W : World} {base : Nat}

theorem open_rules {fuel : Nat} {cs : List Value} {x : DataW H × List MemPlace} (h : DataW.trod enc Try.prog W base (fun _ => true) true fuel 24 cs = some x) :
    ∃ p a len cap P C cut cl per, cs = [.int .i64 p, .slice a len cap, .int .i64 cut, .int .i64 cl, .int .i64 per] ∧ Asts W a len P C := by
  obtain ⟨xs, n, _, _, hl, hx, hf⟩ := DataW.trod_struct Try.underlying24 h
  have c1 : Try.prog.cellsOf 3 = 1 := by kernel_rfl
  have c2 : Try.prog.cellsOf 22 = 1 := by kernel_rfl
  have c3 : Try.prog.cellsOf 2 = 1 := by kernel_rfl
  have c4 : Try.prog.cellsOf 24 = 5 := by kernel_rfl
  rw [c4] at hl
  match cs, hl with
  | [v0, v1, v2, v3, v4], _ =>
    match xs, hx with
    | [x0, x1, x2, x3, x4], _ =>
      have f0 : DataW.trod enc Try.prog W base (fun _ => true) true n 3 ((([v0, v1, v2, v3, v4] : List Value).drop 0).take (Try.prog.cellsOf 3)) = some x0 := hf 0 _ rfl
      have f1 : DataW.trod enc Try.prog W base (fun _ => true) true n 22 ((([v0, v1, v2, v3, v4] : List Value).drop 1).take (Try.prog.cellsOf 22)) = some x1 := hf 1 _ rfl
      have f2 : DataW.trod enc Try.prog W base (fun _ => true) true n 2 ((([v0, v1, v2, v3, v4] : List Value).drop 2).take (Try.prog.cellsOf 2)) = some x2 := hf 2 _ rfl
      have f3 : DataW.trod enc Try.prog W base (fun _ => true) true n 2 ((([v0, v1, v2, v3, v4] : List Value).drop 3).take (Try.prog.cellsOf 2)) = some x3 := hf 3 _ rfl
      have f4 : DataW.trod enc Try.prog W base (fun _ => true) true n 2 ((([v0, v1, v2, v3, v4] : List Value).drop 4).take (Try.prog.cellsOf 2)) = some x4 := hf 4 _ rfl
      rw [c1] at f0
      rw [c2] at f1
      rw [c3] at f2 f3 f4
      obtain ⟨p, hp, _⟩ := trod_i64 Try.underlying3 f0
      obtain ⟨cut, hcut, _⟩ := trod_i64 Try.underlying2 f2
      obtain ⟨cl, hcl, _⟩ := trod_i64 Try.underlying2 f3
      obtain ⟨per, hper, _⟩ := trod_i64 Try.underlying2 f4
      simp at hp hcut hcl hper
      obtain ⟨a, len, cap, hs⟩ : ∃ a len cap, v1 = .slice a len cap := by
        rcases Go.Deep.open_slice Try.underlying22 f1 with ⟨hcs, _⟩ | ⟨ad, len', cap', m, n', D, Pl, hcs, _⟩
        · simp at hcs
          exact ⟨_, _, _, hcs⟩
        · simp at hcs
          exact ⟨_, _, _, hcs⟩
      subst hs
      obtain ⟨Z, hZ, _⟩ := open_plain_slice (d := 3) (c := 2) Try.underlying22 (by kernel_rfl) (by kernel_rfl) (by omega) (by simpa using f1)
      exact ⟨p, a, len, cap, _, _, cut, cl, per, by rw [hp, hcut, hcl, hper], asts_of hZ⟩
end

end Go.Proofs.Ytddikbkodinmiaa
