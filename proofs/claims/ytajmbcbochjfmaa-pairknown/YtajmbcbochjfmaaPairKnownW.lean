/-
  PairKnown: what each run comes to.
-/
import Derived.Test.YtajmbcbochjfmaaPairSt
import Derived.Test.YtajmbcbochjfmaaFreeLits
import Derived.Test.YtajmbcbochjfmaaRowRefs
namespace Go.Proofs.Ytajmbcbochjfmaa
open Go.RowKit
set_option linter.unusedVariables false
set_option linter.unusedSimpArgs false

theorem pk0_good : Good ⟨[(0, 0, 0), (0, 0, 0), (0, 0, 0)], [[-1, -1, -1], [-1, -1, -1], [-1, -1, -1]], [-1, -1, -1], [[0, 0, 0], [0, 0, 0], [0, 0, 0]]⟩ := booksB_yes.1 (by decide +kernel)
theorem pk0_que : Que [(1, 0, 1, 5, 3, 0, 9), (3, 1, 2, 50, 2, 0, 9), (2, 1, 0, 5, 3, 0, 9)] := qIs_iff.1 (by decide +kernel)
theorem pk0_fr : FrOk [(1, 0, 1, 5, 3, 0, 9), (3, 1, 2, 50, 2, 0, 9), (2, 1, 0, 5, 3, 0, 9)] := by intro p hp; simp at hp; rcases hp with rfl | rfl | rfl <;> rfl
theorem pk0_done : (runQ ⟨[(0, 0, 0), (0, 0, 0), (0, 0, 0)], [[-1, -1, -1], [-1, -1, -1], [-1, -1, -1]], [-1, -1, -1], [[0, 0, 0], [0, 0, 0], [0, 0, 0]]⟩ [(1, 0, 1, 5, 3, 0, 9), (3, 1, 2, 50, 2, 0, 9), (2, 1, 0, 5, 3, 0, 9)] 1).2.2 = [] := eqP_iff.1 (by decide +kernel)
theorem pk1_good : Good ⟨[(0, 0, 0), (0, 0, 0), (0, 0, 0)], [[-1, -1, -1], [-1, -1, -1], [-1, -1, -1]], [-1, -1, -1], [[0, 0, 0], [0, 0, 0], [0, 0, 0]]⟩ := booksB_yes.1 (by decide +kernel)
theorem pk1_que : Que [(1, 0, 1, 5, 3, 0, 9), (4, 1, 0, 6, 3, 0, 9), (2, 1, 0, 5, 3, 0, 9)] := qIs_iff.1 (by decide +kernel)
theorem pk1_fr : FrOk [(1, 0, 1, 5, 3, 0, 9), (4, 1, 0, 6, 3, 0, 9), (2, 1, 0, 5, 3, 0, 9)] := by intro p hp; simp at hp; rcases hp with rfl | rfl | rfl <;> rfl
theorem pk1_done : (runQ ⟨[(0, 0, 0), (0, 0, 0), (0, 0, 0)], [[-1, -1, -1], [-1, -1, -1], [-1, -1, -1]], [-1, -1, -1], [[0, 0, 0], [0, 0, 0], [0, 0, 0]]⟩ [(1, 0, 1, 5, 3, 0, 9), (4, 1, 0, 6, 3, 0, 9), (2, 1, 0, 5, 3, 0, 9)] 1).2.2 = [(1, 0, 1, 5, 3, 0, 9), (2, 1, 0, 5, 3, 0, 9)] := eqP_iff.1 (by decide +kernel)
theorem pk2_good : Good ⟨[(0, 0, 0), (0, 0, 0), (0, 0, 0)], [[-1, 3, -1], [-1, -1, -1], [-1, -1, -1]], [-1, -1, -1], [[0, 4, 0], [-4, 0, 0], [0, 0, 0]]⟩ := booksB_yes.1 (by decide +kernel)
theorem pk2_que : Que [(1, 0, 1, 5, 3, 0, 9), (2, 1, 0, 5, 3, 0, 9)] := qIs_iff.1 (by decide +kernel)
theorem pk2_fr : FrOk [(1, 0, 1, 5, 3, 0, 9), (2, 1, 0, 5, 3, 0, 9)] := by intro p hp; simp at hp; rcases hp with rfl | rfl <;> rfl
theorem pk2_done : (runQ ⟨[(0, 0, 0), (0, 0, 0), (0, 0, 0)], [[-1, 3, -1], [-1, -1, -1], [-1, -1, -1]], [-1, -1, -1], [[0, 4, 0], [-4, 0, 0], [0, 0, 0]]⟩ [(1, 0, 1, 5, 3, 0, 9), (2, 1, 0, 5, 3, 0, 9)] 1).2.2 = [] := eqP_iff.1 (by decide +kernel)
theorem pk3_good : Good ⟨[(0, 0, 0), (0, 0, 0), (0, 0, 0)], [[-1, -1, -1], [-1, -1, -1], [-1, -1, -1]], [-1, -1, -1], [[0, 0, 0], [0, 0, 0], [0, 0, 0]]⟩ := booksB_yes.1 (by decide +kernel)
theorem pk3_que : Que [(1, 0, 1, 5, 3, 0, 9), (2, 1, 0, 5, 3, 0, 9)] := qIs_iff.1 (by decide +kernel)
theorem pk3_fr : FrOk [(1, 0, 1, 5, 3, 0, 9), (2, 1, 0, 5, 3, 0, 9)] := by intro p hp; simp at hp; rcases hp with rfl | rfl <;> rfl
theorem pk3_done : (runQ ⟨[(0, 0, 0), (0, 0, 0), (0, 0, 0)], [[-1, -1, -1], [-1, -1, -1], [-1, -1, -1]], [-1, -1, -1], [[0, 0, 0], [0, 0, 0], [0, 0, 0]]⟩ [(1, 0, 1, 5, 3, 0, 9), (2, 1, 0, 5, 3, 0, 9)] 10).2.2 = [] := eqP_iff.1 (by decide +kernel)

end Go.Proofs.Ytajmbcbochjfmaa
