/-
  free: goes, Next.
-/
import Derived.Test.YtajmbcbochjfmaaFreeRef
import Derived.Test.YtajmbcbochjfmaaViewAll
import Derived.Test.YtajmbcbochjfmaaFitsAll
namespace Go.Proofs.Ytajmbcbochjfmaa
open Go.RowKit
set_option linter.unusedVariables false
set_option linter.unusedSimpArgs false

/-- Of no payments all stays. -/
theorem postB_nil {b : Bks} (g : Good b) : postB b [] = b := by
  have eA : (List.range b.A.length).map (postA b [] b.A.length) = b.A := by
    refine List.ext_getElem (by simp) fun i h1 h2 => ?_
    have := postA_nil b b.A.length (fun i hi => (g.reserve i hi).1) i h2
    rw [List.getD_eq_getElem?_getD, List.getElem?_eq_getElem h2] at this
    simpa using this.symm
  have eP : (List.range b.A.length).map (postP b [] b.A.length) = b.P := by
    have hp := g.pos
    refine List.ext_getElem (by simp [hp]) fun i h1 h2 => ?_
    have hl := g.poss i (by omega)
    rw [List.getD_eq_getElem?_getD, List.getElem?_eq_getElem h2] at hl
    simp only [Option.getD_some] at hl
    refine List.ext_getElem (by simp [postP, hl]) fun k k1 k2 => ?_
    have e := postP_nil b i k
    have e2 : at2 b.P i k = b.P[i][k] := by
      unfold at2
      rw [List.getD_eq_getElem?_getD, List.getD_eq_getElem?_getD, List.getElem?_eq_getElem h2]
      simp [k2]
    simp only [List.getElem_map, List.getElem_range, postP]
    rw [← e, e2]
  show Bks.mk _ _ _ _ = _
  rw [eA, eP]
theorem postR_nil {b : Bks} (g : Good b) : postR b [] = b := by
  unfold postR
  split
  · exact postB_nil g
  · rfl
theorem FrOk.drop {l : List P7} (h : FrOk l) (x : Int) : FrOk (qDrop l x) := by
  unfold qDrop
  split
  · exact fun p hp => h p (qRest_mem hp)
  · exact h



end Go.Proofs.Ytajmbcbochjfmaa
