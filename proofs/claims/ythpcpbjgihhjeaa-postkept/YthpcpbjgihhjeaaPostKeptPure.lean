/-
  PostKept: the payments that it makes, as plain lists.
-/
import Derived.Test.YthpcpbjgihhjeaaPostOverPure
import Derived.Test.YthpcpbjgihhjeaaPostDo
namespace Go.Proofs.Ythpcpbjgihhjeaa
open Go.RowKit
set_option linter.unusedVariables false
set_option linter.unusedSimpArgs false

def pk (Z : List Int) (i : Nat) : P7 := ((i : Int) + 1, 0, 1 + ((i % 2 : Nat) : Int), 1 + bits .and .i64 (Z.getD i 0) 63, 1 + ((i % 3 : Nat) : Int), 0, 0)
def mk (Z : List Int) (k : Nat) : List P7 := (List.range k).map (pk Z)
theorem mk_zero (Z : List Int) : mk Z 0 = [] := rfl
theorem mk_len (Z : List Int) (k : Nat) : (mk Z k).length = k := by simp [mk]
theorem mk_succ (Z : List Int) (k : Nat) : mk Z (k + 1) = mk Z k ++ [pk Z k] := by simp [mk, List.range_succ]
theorem mk_may (Z : List Int) (k : Nat) : ∀ p ∈ mk Z k, mayB 3 p = true ∧ 0 ≤ p.am ∧ p.am ≤ 64 ∧ p.fr = 0 := by
  intro p hp
  obtain ⟨i, _, rfl⟩ := List.mem_map.1 hp
  have h := and63_rng (Z.getD i 0)
  have h2 : i % 2 < 2 := Nat.mod_lt _ (by omega)
  have h3 : i % 3 < 3 := Nat.mod_lt _ (by omega)
  refine ⟨mayB_yes.2 ⟨?_, ?_, ?_, ?_, ?_⟩, ?_, ?_, rfl⟩
  · show (0 : Int) ≤ 0 ∧ (0 : Int) < 3; omega
  · show (0 : Int) ≤ 1 + ((i % 2 : Nat) : Int) ∧ 1 + ((i % 2 : Nat) : Int) < 3; omega
  · show ¬ (0 : Int) = 1 + ((i % 2 : Nat) : Int); omega
  · show 1 ≤ 1 + bits .and .i64 (Z.getD i 0) 63 ∧ 1 + bits .and .i64 (Z.getD i 0) 63 ≤ 1099511627776; omega
  · show 1 ≤ 1 + ((i % 3 : Nat) : Int) ∧ 1 + ((i % 3 : Nat) : Int) ≤ 3; omega
  · show 0 ≤ 1 + bits .and .i64 (Z.getD i 0) 63; omega
  · show 1 + bits .and .i64 (Z.getD i 0) 63 ≤ 64; omega
def keptK (Z : List Int) (r : Int) (k : Nat) : Int := keptV r (spentS (mk Z k) 0)
theorem keptK_zero (Z : List Int) {r : Int} (h : 0 ≤ r) : keptK Z r 0 = r := keptV_zero h
theorem keptK_range (Z : List Int) {r : Int} (h : 0 ≤ r) (k : Nat) : 0 ≤ keptK Z r k ∧ keptK Z r k ≤ r := keptV_range h (spent_nonneg (fun p hp => (mk_may Z k p hp).2.1) 0)
theorem keptK_less (Z : List Int) {r : Int} (h : 0 ≤ r) (k : Nat) (hc : k % 3 < 2) : keptK Z r (k + 1) = keptV (keptK Z r k) (1 + bits .and .i64 (Z.getD k 0) 63) := by
  have hb := and63_rng (Z.getD k 0)
  unfold keptK
  rw [mk_succ, spentS_append, spentS_one, keptV_twice (spent_nonneg (fun p hp => (mk_may Z k p hp).2.1) 0) (by omega)]
  unfold spentG
  have q : (pk Z k).fr = 0 ∧ ¬ (pk Z k).cl = 3 := ⟨rfl, by show ¬ (1 + ((k % 3 : Nat) : Int)) = 3; omega⟩
  rw [if_pos q]
  rfl
theorem keptK_same (Z : List Int) (r : Int) (k : Nat) (hc : ¬ k % 3 < 2) : keptK Z r (k + 1) = keptK Z r k := by
  have h3 : k % 3 < 3 := Nat.mod_lt _ (by omega)
  unfold keptK
  rw [mk_succ, spentS_append, spentS_one]
  unfold spentG
  have q : ¬ ((pk Z k).fr = 0 ∧ ¬ (pk Z k).cl = 3) := fun h => h.2 (by show (1 + ((k % 3 : Nat) : Int)) = 3; omega)
  rw [if_neg q, Int.add_zero]

def keptB (r : Int) : Bks := ⟨[(0, 0, r), (0, 0, 0), (0, 0, 0)], [[-1, -1, -1], [-1, -1, -1], [-1, -1, -1]], [-1, -1, -1], [[0, 0, 0], [0, 0, 0], [0, 0, 0]]⟩
theorem kept_good {r : Int} (r0 : 0 ≤ r) (r1 : r ≤ 1000) : Good (keptB r) := by
  refine ⟨by show 1 ≤ 3; omega, by show 3 ≤ 6; omega, fun i hi => ?_, rfl, fun i hi => ?_, fun i k hi hk => ?_, rfl, fun i hi => ?_, rfl, fun i hi => ?_, fun i k hi hk => ?_, fun i k hi hk => ?_⟩
  · unfold acctAt
    rw [acctB_yes]
    rcases three hi with rfl | rfl | rfl
    · show -4611686018427387904 < (0 : Int) ∧ (0 : Int) < 4611686018427387904 ∧ (0 : Int) ≤ 0 ∧ (0 : Int) ≤ 2305843009213693952 ∧ 0 ≤ r ∧ r ≤ 2305843009213693952
      omega
    · show -4611686018427387904 < (0 : Int) ∧ (0 : Int) < 4611686018427387904 ∧ (0 : Int) ≤ 0 ∧ (0 : Int) ≤ 2305843009213693952 ∧ (0 : Int) ≤ 0 ∧ (0 : Int) ≤ 2305843009213693952
      omega
    · show -4611686018427387904 < (0 : Int) ∧ (0 : Int) < 4611686018427387904 ∧ (0 : Int) ≤ 0 ∧ (0 : Int) ≤ 2305843009213693952 ∧ (0 : Int) ≤ 0 ∧ (0 : Int) ≤ 2305843009213693952
      omega
  · rcases three hi with rfl | rfl | rfl <;> rfl
  · rcases three hi with rfl | rfl | rfl <;> rcases three hk with rfl | rfl | rfl <;> rfl
  · rcases three hi with rfl | rfl | rfl <;> rfl
  · rcases three hi with rfl | rfl | rfl <;> rfl
  · rcases three hi with rfl | rfl | rfl <;> rcases three hk with rfl | rfl | rfl <;> rfl
  · rcases three hi with rfl | rfl | rfl <;> rcases three hk with rfl | rfl | rfl <;> rfl
/-- What is posted of them. -/
theorem kept_post {r : Int} (r0 : 0 ≤ r) (r1 : r ≤ 1000) (Z : List Int) {k : Nat} (hk : k ≤ 20) :
    postE (keptB r) (mk Z k) = 0 ∧ postR (keptB r) (mk Z k) = postB (keptB r) (mk Z k) ∧ ((postB (keptB r) (mk Z k)).A.getD 0 a30).2.2 = keptK Z r k ∧ ((postB (keptB r) (mk Z k)).A.getD 1 a30).2.2 = 0 ∧ (postB (keptB r) (mk Z k)).A.length = 3 := by
  have hA : allB (keptB r) (mk Z k) = true := by
    unfold allB
    rw [Bool.and_eq_true, decide_eq_true_eq, List.all_eq_true]
    exact ⟨fun p hp => (mk_may Z k p hp).1, by rw [mk_len]; omega⟩
  have g := post_three (kept_good r0 r1) rfl (fun i hi => by rcases three hi with rfl | rfl | rfl <;> (show (-1000000 : Int) ≤ 0 ∧ (0 : Int) ≤ 1000000; omega)) (fun i j hi hj => by rcases three hi with rfl | rfl | rfl <;> rcases three hj with rfl | rfl | rfl <;> (show (-1000000 : Int) ≤ 0 ∧ (0 : Int) ≤ 1000000; omega)) (L := mk Z k) (M := 64) (fun p hp => ⟨(mk_may Z k p hp).2.1, (mk_may Z k p hp).2.2.1⟩) (by rw [mk_len]; omega)
  have gB := booksB_yes.2 g
  refine ⟨(post_yes hA gB).1, (post_yes hA gB).2, ?_, ?_, postB_len _ _⟩
  · rw [postB_acct _ _ (by show 0 < 3; omega)]
    rfl
  · rw [postB_acct _ _ (by show 1 < 3; omega)]
    show keptV 0 (spentS _ _) = 0
    exact (kept_none (spent_nonneg (fun p hp => (mk_may Z k p hp).2.1) _)).symm

end Go.Proofs.Ythpcpbjgihhjeaa
