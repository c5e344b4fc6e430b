/-
  FreeKnown: what each run comes to.
-/
import Derived.Test.YtgcofidkgohogaaFreeSame
import Derived.Test.YtgcofidkgohogaaFreeLits
import Derived.Test.YtgcofidkgohogaaRowRefs
namespace Go.Proofs.Ytgcofidkgohogaa
open Go.RowKit
set_option linter.unusedVariables false
set_option linter.unusedSimpArgs false

theorem fk0_0_good : Good ⟨[(4, 0, 0), (0, 0, 0), (0, 0, 0)], [[-1, -1, -1], [-1, -1, -1], [-1, -1, -1]], [-1, -1, -1], [[0, 0, 0], [0, 0, 0], [0, 0, 0]]⟩ := booksB_yes.1 (by decide +kernel)
theorem fk0_0_que : Que [(1, 0, 1, 9, 2, 0, 9), (2, 0, 1, 2, 3, 0, 9), (3, 0, 2, 3, 3, 0, 9)] := qIs_iff.1 (by decide +kernel)
theorem fk0_0_fr : FrOk [(1, 0, 1, 9, 2, 0, 9), (2, 0, 1, 2, 3, 0, 9), (3, 0, 2, 3, 3, 0, 9)] := by intro p hp; simp at hp; rcases hp with rfl | rfl | rfl <;> rfl
theorem fk0_0_done : (runF ⟨[(4, 0, 0), (0, 0, 0), (0, 0, 0)], [[-1, -1, -1], [-1, -1, -1], [-1, -1, -1]], [-1, -1, -1], [[0, 0, 0], [0, 0, 0], [0, 0, 0]]⟩ [(1, 0, 1, 9, 2, 0, 9), (2, 0, 1, 2, 3, 0, 9), (3, 0, 2, 3, 3, 0, 9)] 1).2.2.length = 0 := by decide +kernel
theorem fk1_0_good : Good ⟨[(4, 0, 0), (0, 0, 0), (0, 0, 0)], [[-1, -1, -1], [-1, -1, -1], [-1, -1, -1]], [-1, -1, -1], [[0, 0, 0], [0, 0, 0], [0, 0, 0]]⟩ := booksB_yes.1 (by decide +kernel)
theorem fk1_0_que : Que [(1, 0, 1, 9, 2, 5, 9), (2, 0, 1, 2, 3, 0, 9), (3, 0, 2, 3, 3, 0, 9)] := qIs_iff.1 (by decide +kernel)
theorem fk1_0_fr : FrOk [(1, 0, 1, 9, 2, 5, 9), (2, 0, 1, 2, 3, 0, 9), (3, 0, 2, 3, 3, 0, 9)] := by intro p hp; simp at hp; rcases hp with rfl | rfl | rfl <;> rfl
theorem fk1_0_done : (runF ⟨[(4, 0, 0), (0, 0, 0), (0, 0, 0)], [[-1, -1, -1], [-1, -1, -1], [-1, -1, -1]], [-1, -1, -1], [[0, 0, 0], [0, 0, 0], [0, 0, 0]]⟩ [(1, 0, 1, 9, 2, 5, 9), (2, 0, 1, 2, 3, 0, 9), (3, 0, 2, 3, 3, 0, 9)] 1).2.2 = [(2, 0, 1, 2, 3, 0, 9)] := eqP_iff.1 (by decide +kernel)
theorem fk2_0_good : Good ⟨[(4, 0, 0), (0, 0, 0), (0, 0, 0)], [[-1, -1, -1], [-1, -1, -1], [-1, -1, -1]], [-1, -1, -1], [[0, 0, 0], [0, 0, 0], [0, 0, 0]]⟩ := booksB_yes.1 (by decide +kernel)
theorem fk2_0_que : Que [(2, 0, 1, 7, 3, 0, 9), (3, 0, 2, 3, 3, 0, 9)] := qIs_iff.1 (by decide +kernel)
theorem fk2_0_fr : FrOk [(2, 0, 1, 7, 3, 0, 9), (3, 0, 2, 3, 3, 0, 9)] := by intro p hp; simp at hp; rcases hp with rfl | rfl <;> rfl
theorem fk2_0_done : (runF ⟨[(4, 0, 0), (0, 0, 0), (0, 0, 0)], [[-1, -1, -1], [-1, -1, -1], [-1, -1, -1]], [-1, -1, -1], [[0, 0, 0], [0, 0, 0], [0, 0, 0]]⟩ [(2, 0, 1, 7, 3, 0, 9), (3, 0, 2, 3, 3, 0, 9)] 1).2.2 = [(3, 0, 2, 3, 3, 0, 9)] := eqP_iff.1 (by decide +kernel)
theorem fk3_0_good : Good ⟨[(4, 0, 0), (0, 0, 0), (0, 0, 0)], [[-1, -1, -1], [-1, -1, -1], [-1, -1, -1]], [-1, -1, -1], [[0, 0, 0], [0, 0, 0], [0, 0, 0]]⟩ := booksB_yes.1 (by decide +kernel)
theorem fk3_0_que : Que [(2, 0, 1, 2, 3, 0, 9), (3, 1, 0, 3, 3, 0, 9)] := qIs_iff.1 (by decide +kernel)
theorem fk3_0_fr : FrOk [(2, 0, 1, 2, 3, 0, 9), (3, 1, 0, 3, 3, 0, 9)] := by intro p hp; simp at hp; rcases hp with rfl | rfl <;> rfl
theorem fk3_0_done : (runF ⟨[(4, 0, 0), (0, 0, 0), (0, 0, 0)], [[-1, -1, -1], [-1, -1, -1], [-1, -1, -1]], [-1, -1, -1], [[0, 0, 0], [0, 0, 0], [0, 0, 0]]⟩ [(2, 0, 1, 2, 3, 0, 9), (3, 1, 0, 3, 3, 0, 9)] 1).2.2.length = 1 := by decide +kernel
theorem fk3_1_good : Good ⟨[(2, 0, 0), (0, 0, 0), (0, 0, 0)], [[-1, -1, -1], [-1, -1, -1], [-1, -1, -1]], [-1, -1, -1], [[0, 0, 0], [0, 0, 0], [0, 0, 0]]⟩ := booksB_yes.1 (by decide +kernel)
theorem fk3_1_que : Que [(2, 0, 1, 4, 3, 0, 9), (3, 1, 0, 3, 3, 0, 9)] := qIs_iff.1 (by decide +kernel)
theorem fk3_1_fr : FrOk [(2, 0, 1, 4, 3, 0, 9), (3, 1, 0, 3, 3, 0, 9)] := by intro p hp; simp at hp; rcases hp with rfl | rfl <;> rfl
theorem fk3_1_done : (runF ⟨[(2, 0, 0), (0, 0, 0), (0, 0, 0)], [[-1, -1, -1], [-1, -1, -1], [-1, -1, -1]], [-1, -1, -1], [[0, 0, 0], [0, 0, 0], [0, 0, 0]]⟩ [(2, 0, 1, 4, 3, 0, 9), (3, 1, 0, 3, 3, 0, 9)] 1).2.2.length = 0 := by decide +kernel
theorem fk3_1_left : (runF ⟨[(2, 0, 0), (0, 0, 0), (0, 0, 0)], [[-1, -1, -1], [-1, -1, -1], [-1, -1, -1]], [-1, -1, -1], [[0, 0, 0], [0, 0, 0], [0, 0, 0]]⟩ [(2, 0, 1, 4, 3, 0, 9), (3, 1, 0, 3, 3, 0, 9)] 1).2.1.length = 2 := by decide +kernel
theorem fk4_0_good : Good ⟨[(4, 0, 3), (0, 0, 0), (0, 0, 0)], [[-1, -1, -1], [-1, -1, -1], [-1, -1, -1]], [-1, -1, -1], [[0, 0, 0], [0, 0, 0], [0, 0, 0]]⟩ := booksB_yes.1 (by decide +kernel)
theorem fk4_0_que : Que [(2, 0, 1, 2, 3, 0, 9), (3, 0, 2, 3, 3, 0, 9)] := qIs_iff.1 (by decide +kernel)
theorem fk4_0_fr : FrOk [(2, 0, 1, 2, 3, 0, 9), (3, 0, 2, 3, 3, 0, 9)] := by intro p hp; simp at hp; rcases hp with rfl | rfl <;> rfl
theorem fk4_0_done : (runF ⟨[(4, 0, 3), (0, 0, 0), (0, 0, 0)], [[-1, -1, -1], [-1, -1, -1], [-1, -1, -1]], [-1, -1, -1], [[0, 0, 0], [0, 0, 0], [0, 0, 0]]⟩ [(2, 0, 1, 2, 3, 0, 9), (3, 0, 2, 3, 3, 0, 9)] 1).2.2.length = 0 := by decide +kernel

end Go.Proofs.Ytgcofidkgohogaa
