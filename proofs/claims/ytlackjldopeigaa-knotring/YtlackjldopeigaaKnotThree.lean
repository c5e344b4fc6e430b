/-
  knot: on books of three without limits, of plain payments (plain lists).
-/
import Derived.Test.YtlackjldopeigaaKnotPure
import Derived.Test.YtlackjldopeigaaSomeGood
import Derived.Test.YtlackjldopeigaaPostPure
namespace Go.Proofs.Ytlackjldopeigaa
open Go.RowKit
set_option linter.unusedVariables false
set_option linter.unusedSimpArgs false

def threeK (x y z : Int) : Bks := ⟨[(x, 0, 0), (y, 0, 0), (z, 0, 0)], [[-1, -1, -1], [-1, -1, -1], [-1, -1, -1]], [-1, -1, -1], [[0, 0, 0], [0, 0, 0], [0, 0, 0]]⟩
theorem someK_three (zs : List Int) : someK zs (bitB 0 1) (bitB 0 2) (bitB 0 4) = threeK (balV zs 0) (balV zs 1) (balV zs 2) := by
  rw [show bitB 0 1 = false from by decide, show bitB 0 2 = false from by decide, show bitB 0 4 = false from by decide]
  rfl
theorem three_short (x y z : Int) (L : List P7) (h0 : ∀ i : Int, spentS L i = 0) {i : Nat} (hi : i < 3) : shortB (threeK x y z) L 3 i = (decide (¬ plainS L i = 0) && decide ([x, y, z].getD i 0 < dTo L i 3)) := by
  have ov : ∀ k : Nat, k < 3 → overB (threeK x y z) L i k = false := fun k hk => by
    have hb : at2 (threeK x y z).B i k = -1 := by rcases (by omega : i = 0 ∨ i = 1 ∨ i = 2) with rfl | rfl | rfl <;> rcases (by omega : k = 0 ∨ k = 1 ∨ k = 2) with rfl | rfl | rfl <;> rfl
    unfold overB
    rw [hb]
    simp
  have hany : (List.range 3).any (overB (threeK x y z) L i) = false := by
    rw [List.any_eq_false]
    intro k hk
    rw [ov k (by simpa using hk)]
    simp
  have hwide : wideB (threeK x y z) L 3 i = false := by
    have hm : (threeK x y z).M.getD i 0 = -1 := by rcases (by omega : i = 0 ∨ i = 1 ∨ i = 2) with rfl | rfl | rfl <;> rfl
    unfold wideB
    rw [hm]
    simp
  have hlow : lowB (threeK x y z) L 3 i = decide ([x, y, z].getD i 0 < dTo L i 3) := by
    unfold lowB
    rw [h0]
    have e1 : ((threeK x y z).A.getD i a30).1 + ((threeK x y z).A.getD i a30).2.1 = [x, y, z].getD i 0 := by
      rcases (by omega : i = 0 ∨ i = 1 ∨ i = 2) with rfl | rfl | rfl
      · show x + 0 = x; omega
      · show y + 0 = y; omega
      · show z + 0 = z; omega
    have e2 : keptV ((threeK x y z).A.getD i a30).2.2 0 = 0 := by
      rcases (by omega : i = 0 ∨ i = 1 ∨ i = 2) with rfl | rfl | rfl <;> (show keptV 0 0 = 0; rfl)
    rw [e1, e2, Bool.eq_iff_iff]
    simp
    omega
  unfold shortB
  rw [hany, hwide, hlow, h0, Int.add_zero]
  simp
theorem three_list (b : Bks) (L : List P7) (h3 : b.A.length = 3) (s0 s1 s2 : Bool) (h0 : shortB b L 3 0 = s0) (h1 : shortB b L 3 1 = s1) (h2 : shortB b L 3 2 = s2) : shortL b L = (if s0 then [0] else []) ++ ((if s1 then [1] else []) ++ (if s2 then [2] else [])) := by
  unfold shortL
  rw [h3, show List.range 3 = [0, 1, 2] from rfl, List.filter_cons, List.filter_cons, List.filter_cons, h0, h1, h2]
  cases s0 <;> cases s1 <;> cases s2 <;> rfl
/-- All that is sent can be posted, and may be. -/
theorem three_post (zs : List Int) {L : List P7} (ha : allB (someK zs false false false) L = true) (h : ∀ p ∈ L, 0 ≤ p.am ∧ p.am ≤ 100) (hl : L.length ≤ 40) : postE (someK zs false false false) L = 0 := by
  have g := post_three (M := 100) (good_some zs false false false) rfl (someK_small zs false false false).1 (someK_small zs false false false).2 h (by omega)
  unfold postE
  rw [if_pos ha, if_pos (booksB_yes.2 g)]
theorem pair_may {i j : Int} {am : Int} (hi : 0 ≤ i ∧ i < 3) (hj : 0 ≤ j ∧ j < 3) (hne : ¬ i = j) (ha : 1 ≤ am ∧ am ≤ 100) (d : Int) : mayB 3 (d, i, j, am, 3, 0, 9) = true :=
  mayB_yes.2 ⟨by show 0 ≤ i ∧ i < ((3 : Nat) : Int); omega, by show 0 ≤ j ∧ j < ((3 : Nat) : Int); omega, by show ¬ i = j; exact hne, by show 1 ≤ am ∧ am ≤ 1099511627776; omega, by show (1 : Int) ≤ 3 ∧ (3 : Int) ≤ 3; omega⟩

/-- Two of one to another. -/
def pfP (n : Int) : P7 := (1, 0, 1, n, 3, 0, 9)
def pfQ (m : Int) : P7 := (2, 0, 1, m, 3, 0, 9)
theorem pf_short {L : List P7} {s : Int} (hs : (∀ i k : Int, sentS L i k = if i = 0 ∧ k = 1 then s else 0) ∧ (∀ i : Int, plainS L i = if i = 0 then s else 0) ∧ ∀ i : Int, spentS L i = 0) : shortL (threeK 50 0 0) L = if ¬ s = 0 ∧ 50 < s then [0] else [] := by
  obtain ⟨sent, plain, spent⟩ := hs
  have d0 : dTo L ((0 : Nat) : Int) 3 = s := by simp [dTo, netS, sent]
  have e0 : shortB (threeK 50 0 0) L 3 0 = decide (¬ s = 0 ∧ 50 < s) := by
    rw [three_short _ _ _ _ spent (by omega), plain, d0, if_pos (show ((0 : Nat) : Int) = 0 from rfl)]
    show (decide (¬ s = 0) && decide ((50 : Int) < s)) = _
    rw [Bool.eq_iff_iff]
    simp
  have e1 : shortB (threeK 50 0 0) L 3 1 = false := by
    rw [three_short _ _ _ _ spent (by omega), plain, if_neg (by omega)]
    rfl
  have e2 : shortB (threeK 50 0 0) L 3 2 = false := by
    rw [three_short _ _ _ _ spent (by omega), plain, if_neg (by omega)]
    rfl
  rw [three_list _ _ rfl _ _ _ e0 e1 e2]
  by_cases h : ¬ s = 0 ∧ 50 < s
  · rw [if_pos h, if_pos (decide_eq_true h)]; rfl
  · rw [if_neg h, decide_eq_false h]; rfl
theorem pf_two (n m : Int) : (∀ i k : Int, sentS [pfP n, pfQ m] i k = if i = 0 ∧ k = 1 then n + m else 0) ∧ (∀ i : Int, plainS [pfP n, pfQ m] i = if i = 0 then n + m else 0) ∧ ∀ i : Int, spentS [pfP n, pfQ m] i = 0 := by
  refine ⟨fun i k => ?_, fun i => ?_, fun i => ?_⟩
  · show sentG i k (pfP n) + (sentG i k (pfQ m) + 0) = _
    unfold sentG
    show (if (0 : Int) = i ∧ (1 : Int) = k then n else 0) + ((if (0 : Int) = i ∧ (1 : Int) = k then m else 0) + 0) = _
    omega
  · show plainG i (pfP n) + (plainG i (pfQ m) + 0) = _
    unfold plainG
    show (if (0 : Int) = i ∧ (3 : Int) = 3 then n else 0) + ((if (0 : Int) = i ∧ (3 : Int) = 3 then m else 0) + 0) = _
    by_cases h : i = 0
    · rw [if_pos ⟨h.symm, rfl⟩, if_pos ⟨h.symm, rfl⟩, if_pos h]; omega
    · rw [if_neg (fun k => h k.1.symm), if_neg (fun k => h k.1.symm), if_neg h]; omega
  · show spentG i (pfP n) + (spentG i (pfQ m) + 0) = _
    unfold spentG
    show (if (0 : Int) = i ∧ ¬ (3 : Int) = 3 then n else 0) + ((if (0 : Int) = i ∧ ¬ (3 : Int) = 3 then m else 0) + 0) = _
    rw [if_neg (fun k => k.2 rfl), if_neg (fun k => k.2 rfl)]
    omega
theorem pf_one (n : Int) : (∀ i k : Int, sentS [pfP n] i k = if i = 0 ∧ k = 1 then n else 0) ∧ (∀ i : Int, plainS [pfP n] i = if i = 0 then n else 0) ∧ ∀ i : Int, spentS [pfP n] i = 0 := by
  refine ⟨fun i k => ?_, fun i => ?_, fun i => ?_⟩
  · show sentG i k (pfP n) + 0 = _
    unfold sentG
    show (if (0 : Int) = i ∧ (1 : Int) = k then n else 0) + 0 = _
    omega
  · show plainG i (pfP n) + 0 = _
    unfold plainG
    show (if (0 : Int) = i ∧ (3 : Int) = 3 then n else 0) + 0 = _
    by_cases h : i = 0
    · rw [if_pos ⟨h.symm, rfl⟩, if_pos h]; omega
    · rw [if_neg (fun k => h k.1.symm), if_neg h]; omega
  · show spentG i (pfP n) + 0 = _
    unfold spentG
    show (if (0 : Int) = i ∧ ¬ (3 : Int) = 3 then n else 0) + 0 = _
    rw [if_neg (fun k => k.2 rfl)]
    omega
theorem pf_all {n m : Int} (hn : 1 ≤ n ∧ n ≤ 100) (hm : 1 ≤ m ∧ m ≤ 100) : allB (threeK 50 0 0) [pfP n, pfQ m] = true := by
  unfold allB
  rw [show (threeK 50 0 0).A.length = 3 from rfl, Bool.and_eq_true, decide_eq_true_eq, List.all_eq_true]
  refine ⟨fun p hp => ?_, by simp⟩
  have hp : p = pfP n ∨ p = pfQ m := by simpa using hp
  rcases hp with rfl | rfl
  · exact pair_may (by omega) (by omega) (by omega) hn 1
  · exact pair_may (by omega) (by omega) (by omega) hm 2
theorem pf_que (n m : Int) : Que [pfP n, pfQ m] := by
  refine ⟨by simp, List.Pairwise.cons (fun p hp => ?_) (List.Pairwise.cons (fun p hp => by simp at hp) List.Pairwise.nil)⟩
  obtain rfl := List.mem_singleton.1 hp
  exact ⟨rfl, by show ¬ (1 : Int) = 2; omega⟩
theorem pf_knot {n m : Int} (hn : 1 ≤ n ∧ n ≤ 100) (hm : 1 ≤ m ∧ m ≤ 100) : knotM (threeK 50 0 0) [pfP n, pfQ m] 1 = if n + m ≤ 50 then [pfP n, pfQ m] else if n ≤ 50 then [pfP n] else [] := by
  have hr : vReady [pfP n, pfQ m] 1 = [pfP n, pfQ m] := rfl
  have hc : cnts (threeK 50 0 0) [pfP n, pfQ m] = [2, 0, 0] := rfl
  have k2 : headsN [pfP n, pfQ m] [2, 0, 0] = [pfP n, pfQ m] := rfl
  have k1 : headsN [pfP n, pfQ m] [1, 0, 0] = [pfP n] := rfl
  have k0 : headsN [pfP n, pfQ m] [0, 0, 0] = [] := rfl
  have l1 : lessAll [2, 0, 0] [0] = [1, 0, 0] := rfl
  have l0 : lessAll [1, 0, 0] [0] = [0, 0, 0] := rfl
  have s2 := pf_short (pf_two n m)
  have s1 := pf_short (pf_one n)
  have s0 : shortL (threeK 50 0 0) [] = [] := rfl
  have hs : (cnts (threeK 50 0 0) [pfP n, pfQ m]).sum = 2 := rfl
  unfold knotM mostK
  rw [hr, hs, hc]
  by_cases h : n + m ≤ 50
  · rw [if_neg (by omega)] at s2
    simp only [sweepA, k2, s2, if_true, if_pos h]
  · rw [if_pos (by omega)] at s2
    rw [if_neg h]
    by_cases h1 : n ≤ 50
    · rw [if_neg (by omega)] at s1
      rw [if_pos h1]
      simp only [sweepA, k2, s2, l1, k1, s1, if_true]
      rfl
    · rw [if_pos (by omega)] at s1
      rw [if_neg h1]
      simp only [sweepA, k2, s2, l1, k1, s1, l0, k0, s0, if_true]
      rfl
theorem pf_run {n m : Int} (hn : 1 ≤ n ∧ n ≤ 100) (hm : 1 ≤ m ∧ m ≤ 100) : (knotR (threeK 50 0 0) [pfP n, pfQ m] 1).2 = if n + m ≤ 50 then ([], [pfP n, pfQ m]) else if n ≤ 50 then ([pfQ m], [pfP n]) else ([pfP n, pfQ m], []) := by
  have e := pf_knot hn hm
  have hK : someK [50] false false false = threeK 50 0 0 := rfl
  have hp : postE (threeK 50 0 0) (knotM (threeK 50 0 0) [pfP n, pfQ m] 1) = 0 := by
    rw [← hK]
    refine three_post [50] ?_ (fun p hp => ?_) (by have := knotM_len (someK [50] false false false) [pfP n, pfQ m] 1; simp at this; omega)
    · exact headsN_all _ (ready_all 1 (pf_all hn hm))
    · have hp : p = pfP n ∨ p = pfQ m := by simpa using knotM_mem hp
      rcases hp with rfl | rfl
      · show 0 ≤ n ∧ n ≤ 100; omega
      · show 0 ≤ m ∧ m ≤ 100; omega
  rw [knotR_yes hp, e]
  by_cases h : n + m ≤ 50
  · rw [if_pos h, if_pos h]
    show (dropAll [pfP n, pfQ m] [pfP n, pfQ m], _) = _
    rfl
  · rw [if_neg h, if_neg h]
    by_cases h1 : n ≤ 50
    · rw [if_pos h1, if_pos h1]; rfl
    · rw [if_neg h1, if_neg h1]; rfl

end Go.Proofs.Ytlackjldopeigaa
