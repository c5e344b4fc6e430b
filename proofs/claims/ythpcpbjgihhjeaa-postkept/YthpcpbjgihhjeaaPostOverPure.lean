/-
  PostOver: books with one balance and one position, as plain lists.
-/
import Derived.Test.YthpcpbjgihhjeaaPostPure
namespace Go.Proofs.Ythpcpbjgihhjeaa
open Go.RowKit
set_option linter.unusedVariables false
set_option linter.unusedSimpArgs false

def overK (bal pos : Int) : Bks := ⟨[(0, 0, 0), (bal, 0, 0), (0, 0, 0)], [[-1, -1, -1], [-1, -1, -1], [-1, -1, -1]], [-1, -1, -1], [[0, pos, 0], [-pos, 0, 0], [0, 0, 0]]⟩
theorem three {i : Nat} (h : i < 3) : i = 0 ∨ i = 1 ∨ i = 2 := by omega
theorem over_good {bal pos : Int} (b0 : 0 ≤ bal) (b1 : bal < 4611686018427387904) (p0 : 0 ≤ pos) (p1 : pos < 72057594037927936) : Good (overK bal pos) := by
  have e3 : (overK bal pos).A.length = 3 := rfl
  refine ⟨by rw [e3]; omega, by rw [e3]; omega, fun i hi => ?_, rfl, fun i hi => ?_, fun i k hi hk => ?_, rfl, fun i hi => ?_, rfl, fun i hi => ?_, fun i k hi hk => ?_, fun i k hi hk => ?_⟩
  · rw [e3] at hi
    unfold acctAt
    rw [acctB_yes]
    rcases three hi with rfl | rfl | rfl
    · show -4611686018427387904 < (0 : Int) ∧ (0 : Int) < 4611686018427387904 ∧ (0 : Int) ≤ 0 ∧ (0 : Int) ≤ 2305843009213693952 ∧ (0 : Int) ≤ 0 ∧ (0 : Int) ≤ 2305843009213693952
      omega
    · show -4611686018427387904 < bal ∧ bal < 4611686018427387904 ∧ (0 : Int) ≤ 0 ∧ (0 : Int) ≤ 2305843009213693952 ∧ (0 : Int) ≤ 0 ∧ (0 : Int) ≤ 2305843009213693952
      omega
    · show -4611686018427387904 < (0 : Int) ∧ (0 : Int) < 4611686018427387904 ∧ (0 : Int) ≤ 0 ∧ (0 : Int) ≤ 2305843009213693952 ∧ (0 : Int) ≤ 0 ∧ (0 : Int) ≤ 2305843009213693952
      omega
  · rcases three hi with rfl | rfl | rfl <;> rfl
  · rcases three hi with rfl | rfl | rfl <;> rcases three hk with rfl | rfl | rfl <;> rfl
  · rcases three hi with rfl | rfl | rfl <;> rfl
  · rcases three hi with rfl | rfl | rfl <;> rfl
  · rcases three hi with rfl | rfl | rfl <;> rcases three hk with rfl | rfl | rfl
    · rfl
    · exact posB_mk (by show _ < pos; omega) (by show pos < _; omega)
    · rfl
    · exact posB_mk (by show _ < -pos; omega) (by show -pos < _; omega)
    · rfl
    · rfl
    · rfl
    · rfl
    · rfl
  · rcases three hi with rfl | rfl | rfl <;> rcases three hk with rfl | rfl | rfl
    · rfl
    · show pos = - -pos; omega
    · rfl
    · rfl
    · rfl
    · rfl
    · rfl
    · rfl
    · rfl
theorem over_one (bal pos am : Int) : postB (overK bal pos) [(1, 0, 1, am, 3, 0, 0)] = ⟨[(0 - am, 0, 0), (bal + am, 0, 0), (0, 0, 0)], [[-1, -1, -1], [-1, -1, -1], [-1, -1, -1]], [-1, -1, -1], [[0, pos + am, 0], [-pos - am, 0, 0], [0, 0, 0]]⟩ := by
  have d : ∀ i, dTo [((1, 0, 1, am, 3, 0, 0) : P7)] ((i : Nat) : Int) 3 = (if i = 0 ∧ 1 < 3 then am else 0) - (if i = 1 ∧ 0 < 3 then am else 0) := fun i => dTo_one (p := (1, 0, 1, am, 3, 0, 0)) (f := 0) (t := 1) rfl rfl (by omega) i 3
  have s : ∀ i : Int, spentS [((1, 0, 1, am, 3, 0, 0) : P7)] i = 0 := fun i => by rw [spentS_one]; unfold spentG; rw [if_neg (fun h => h.2 rfl)]
  have nt : ∀ i k : Int, netS [((1, 0, 1, am, 3, 0, 0) : P7)] i k = sentG i k (1, 0, 1, am, 3, 0, 0) - sentG k i (1, 0, 1, am, 3, 0, 0) := fun i k => netS_one _ i k
  have e3 : (overK bal pos).A.length = 3 := rfl
  have eA : ∀ i, i < 3 → postA (overK bal pos) [(1, 0, 1, am, 3, 0, 0)] 3 i = (((overK bal pos).A.getD i a30).1 - ((if i = 0 ∧ 1 < 3 then am else 0) - (if i = 1 ∧ 0 < 3 then am else 0)), 0, 0) := fun i hi => by
    unfold postA
    rw [d, s]
    rcases three hi with rfl | rfl | rfl <;> rfl
  have eP : ∀ i k, i < 3 → k < 3 → at2 (overK bal pos).P i k + netS [((1, 0, 1, am, 3, 0, 0) : P7)] i k = at2 [[0, pos + am, 0], [-pos - am, 0, 0], [0, 0, 0]] i k := fun i k hi hk => by
    rw [nt]
    rcases three hi with rfl | rfl | rfl <;> rcases three hk with rfl | rfl | rfl <;> simp [sentG, at2, overK, P7.fr, P7.to, P7.am] <;> omega
  rw [postB_mk, e3]
  have hA : mkA 3 (postA (overK bal pos) [(1, 0, 1, am, 3, 0, 0)] 3) = [(0 - am, 0, 0), (bal + am, 0, 0), (0, 0, 0)] := by
    show [_, _, _] = _
    rw [eA 0 (by omega), eA 1 (by omega), eA 2 (by omega)]
    have z0 : ((overK bal pos).A.getD 0 a30).1 = 0 := rfl
    have z1 : ((overK bal pos).A.getD 1 a30).1 = bal := rfl
    have z2 : ((overK bal pos).A.getD 2 a30).1 = 0 := rfl
    rw [z0, z1, z2]
    simp
  have hP : mkP 3 (fun i k => at2 (overK bal pos).P i k + netS [((1, 0, 1, am, 3, 0, 0) : P7)] i k) = [[0, pos + am, 0], [-pos - am, 0, 0], [0, 0, 0]] := by
    rw [mkP_congr (g := at2 [[0, pos + am, 0], [-pos - am, 0, 0], [0, 0, 0]]) (fun i k hi hk => eP i k hi hk)]
    rfl
  rw [hA, hP]
  rfl
def wellB (bal pos am : Int) : Bool := decide (bal < 4611686018427387904 - am) && decide (pos < 72057594037927936 - am)
theorem over_well {bal pos am : Int} (b0 : 0 ≤ bal) (p0 : 0 ≤ pos) (a0 : 1 ≤ am) (a1 : am ≤ 1099511627776) : booksB (postB (overK bal pos) [(1, 0, 1, am, 3, 0, 0)]) = wellB bal pos am := by
  rw [over_one]
  rw [Bool.eq_iff_iff, booksB_yes]
  unfold wellB
  rw [Bool.and_eq_true, decide_eq_true_eq, decide_eq_true_eq]
  constructor
  · intro g
    have h1 := g.acc 1 (by show 1 < 3; omega)
    have h2 := posB_yes (g.may 0 1 (by show 0 < 3; omega) (by show 1 < 3; omega))
    unfold acctAt at h1
    rw [acctB_yes] at h1
    have h1 : -4611686018427387904 < bal + am ∧ bal + am < 4611686018427387904 ∧ _ := h1
    have h2 : -72057594037927936 < pos + am ∧ pos + am < 72057594037927936 := h2
    omega
  · rintro ⟨h1, h2⟩
    refine ⟨by show 1 ≤ 3; omega, by show 3 ≤ 6; omega, fun i hi => ?_, rfl, fun i hi => ?_, fun i k hi hk => ?_, rfl, fun i hi => ?_, rfl, fun i hi => ?_, fun i k hi hk => ?_, fun i k hi hk => ?_⟩
    · unfold acctAt
      rw [acctB_yes]
      rcases three hi with rfl | rfl | rfl
      · show -4611686018427387904 < 0 - am ∧ 0 - am < 4611686018427387904 ∧ (0 : Int) ≤ 0 ∧ (0 : Int) ≤ 2305843009213693952 ∧ (0 : Int) ≤ 0 ∧ (0 : Int) ≤ 2305843009213693952
        omega
      · show -4611686018427387904 < bal + am ∧ bal + am < 4611686018427387904 ∧ (0 : Int) ≤ 0 ∧ (0 : Int) ≤ 2305843009213693952 ∧ (0 : Int) ≤ 0 ∧ (0 : Int) ≤ 2305843009213693952
        omega
      · show -4611686018427387904 < (0 : Int) ∧ (0 : Int) < 4611686018427387904 ∧ (0 : Int) ≤ 0 ∧ (0 : Int) ≤ 2305843009213693952 ∧ (0 : Int) ≤ 0 ∧ (0 : Int) ≤ 2305843009213693952
        omega
    · rcases three hi with rfl | rfl | rfl <;> rfl
    · rcases three hi with rfl | rfl | rfl <;> rcases three hk with rfl | rfl | rfl <;> rfl
    · rcases three hi with rfl | rfl | rfl <;> rfl
    · rcases three hi with rfl | rfl | rfl <;> rfl
    · rcases three hi with rfl | rfl | rfl <;> rcases three hk with rfl | rfl | rfl
      · rfl
      · exact posB_mk (by show _ < pos + am; omega) (by show pos + am < _; omega)
      · rfl
      · exact posB_mk (by show _ < -pos - am; omega) (by show -pos - am < _; omega)
      · rfl
      · rfl
      · rfl
      · rfl
      · rfl
    · rcases three hi with rfl | rfl | rfl <;> rcases three hk with rfl | rfl | rfl
      · rfl
      · show pos + am = -(-pos - am); omega
      · rfl
      · show -pos - am = -(pos + am); omega
      · rfl
      · rfl
      · rfl
      · rfl
      · rfl
theorem over_all {bal pos am : Int} (a0 : 1 ≤ am) (a1 : am ≤ 1099511627776) : allB (overK bal pos) [(1, 0, 1, am, 3, 0, 0)] = true := by
  unfold allB
  rw [Bool.and_eq_true, decide_eq_true_eq, List.all_eq_true]
  refine ⟨fun p hp => ?_, by show 1 ≤ 64; omega⟩
  obtain rfl := List.mem_singleton.1 hp
  show mayB 3 _ = true
  refine mayB_yes.2 ⟨?_, ?_, ?_, ?_, ?_⟩
  · show (0 : Int) ≤ 0 ∧ (0 : Int) < 3; omega
  · show (0 : Int) ≤ 1 ∧ (1 : Int) < 3; omega
  · show ¬ (0 : Int) = 1; omega
  · exact ⟨a0, a1⟩
  · show (1 : Int) ≤ 3 ∧ (3 : Int) ≤ 3; omega
theorem over_self (bal pos : Int) : allB (overK bal pos) [(1, 0, 0, 1, 3, 0, 0)] = false := by
  unfold allB
  rw [show [((1, 0, 0, 1, 3, 0, 0) : P7)].all (mayB (overK bal pos).A.length) = false from by show (mayB 3 _ && true) = false; rfl, Bool.false_and]

end Go.Proofs.Ythpcpbjgihhjeaa
