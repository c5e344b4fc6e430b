/-
  pair: two that owe each other, on books without limits (plain lists).
-/
import Derived.Test.YtajmbcbochjfmaaPairSpec
import Derived.Test.YtajmbcbochjfmaaSomeGood
import Derived.Test.YtajmbcbochjfmaaPostPure
namespace Go.Proofs.Ytajmbcbochjfmaa
open Go.RowKit
set_option linter.unusedVariables false
set_option linter.unusedSimpArgs false

def twoK (a b : Int) : Bks := ⟨[(a, 0, 0), (b, 0, 0), (0, 0, 0)], [[-1, -1, -1], [-1, -1, -1], [-1, -1, -1]], [-1, -1, -1], [[0, 0, 0], [0, 0, 0], [0, 0, 0]]⟩
def twoP (x : Int) : P7 := (1, 0, 1, x, 3, 0, 9)
def twoQ (y : Int) : P7 := (2, 1, 0, y, 1, 0, 9)
theorem and63_self {n : Int} (h0 : 0 ≤ n) (h1 : n < 64) : bits .and .i64 n 63 = n := by
  rcases (show n = 0 ∨ n = 1 ∨ n = 2 ∨ n = 3 ∨ n = 4 ∨ n = 5 ∨ n = 6 ∨ n = 7 ∨ n = 8 ∨ n = 9 ∨ n = 10 ∨ n = 11 ∨ n = 12 ∨ n = 13 ∨ n = 14 ∨ n = 15 ∨ n = 16 ∨ n = 17 ∨ n = 18 ∨ n = 19 ∨ n = 20 ∨ n = 21 ∨ n = 22 ∨ n = 23 ∨ n = 24 ∨ n = 25 ∨ n = 26 ∨ n = 27 ∨ n = 28 ∨ n = 29 ∨ n = 30 ∨ n = 31 ∨ (32 ≤ n ∧ n < 64) from by omega) with h | h | h | h | h | h | h | h | h | h | h | h | h | h | h | h | h | h | h | h | h | h | h | h | h | h | h | h | h | h | h | h | h
  all_goals first | (subst h; decide) | skip
  rcases (show n = 32 ∨ n = 33 ∨ n = 34 ∨ n = 35 ∨ n = 36 ∨ n = 37 ∨ n = 38 ∨ n = 39 ∨ n = 40 ∨ n = 41 ∨ n = 42 ∨ n = 43 ∨ n = 44 ∨ n = 45 ∨ n = 46 ∨ n = 47 ∨ n = 48 ∨ n = 49 ∨ n = 50 ∨ n = 51 ∨ n = 52 ∨ n = 53 ∨ n = 54 ∨ n = 55 ∨ n = 56 ∨ n = 57 ∨ n = 58 ∨ n = 59 ∨ n = 60 ∨ n = 61 ∨ n = 62 ∨ n = 63 from by omega) with h | h | h | h | h | h | h | h | h | h | h | h | h | h | h | h | h | h | h | h | h | h | h | h | h | h | h | h | h | h | h | h
  all_goals (subst h; decide)
theorem someK_two {a b : Int} (ha : 0 ≤ a ∧ a ≤ 60) (hb : 0 ≤ b ∧ b ≤ 60) : someK [a, b] (bitB 0 1) (bitB 0 2) (bitB 0 4) = twoK a b := by
  have h0 : balV [a, b] 0 = a := by
    show (if 0 < [a, b].length then bits .and .i64 ([a, b].getD 0 0) 63 else 0) = a
    rw [if_pos (by simp)]
    show bits .and .i64 a 63 = a
    exact and63_self ha.1 (by omega)
  have h1 : balV [a, b] 1 = b := by
    show (if 1 < [a, b].length then bits .and .i64 ([a, b].getD 1 0) 63 else 0) = b
    rw [if_pos (by simp)]
    show bits .and .i64 b 63 = b
    exact and63_self hb.1 (by omega)
  have h2 : balV [a, b] 2 = 0 := rfl
  rw [show bitB 0 1 = false from by decide, show bitB 0 2 = false from by decide, show bitB 0 4 = false from by decide]
  unfold someK someA
  rw [h0, h1, h2]
  rfl
theorem two_sums {x y : Int} : (∀ i k : Int, sentS [twoP x, twoQ y] i k = (if (0 : Int) = i ∧ (1 : Int) = k then x else 0) + (if (1 : Int) = i ∧ (0 : Int) = k then y else 0)) ∧ (∀ i : Int, plainS [twoP x, twoQ y] i = if (0 : Int) = i then x else 0) ∧ (∀ i : Int, spentS [twoP x, twoQ y] i = if (1 : Int) = i then y else 0) := by
  refine ⟨fun i k => ?_, fun i => ?_, fun i => ?_⟩
  · show sentG i k (twoP x) + (sentG i k (twoQ y) + 0) = _
    unfold sentG
    show (if (0 : Int) = i ∧ (1 : Int) = k then x else 0) + ((if (1 : Int) = i ∧ (0 : Int) = k then y else 0) + 0) = _
    omega
  · show plainG i (twoP x) + (plainG i (twoQ y) + 0) = _
    unfold plainG
    show (if (0 : Int) = i ∧ (3 : Int) = 3 then x else 0) + ((if (1 : Int) = i ∧ (1 : Int) = 3 then y else 0) + 0) = _
    by_cases h : (0 : Int) = i
    · rw [if_pos ⟨h, rfl⟩, if_neg (fun h => by omega), if_pos h]; omega
    · rw [if_neg (fun k => h k.1), if_neg (fun h => by omega), if_neg h]; omega
  · show spentG i (twoP x) + (spentG i (twoQ y) + 0) = _
    unfold spentG
    show (if (0 : Int) = i ∧ ¬ (3 : Int) = 3 then x else 0) + ((if (1 : Int) = i ∧ ¬ (1 : Int) = 3 then y else 0) + 0) = _
    by_cases h : (1 : Int) = i
    · rw [if_neg (fun h => by omega), if_pos ⟨h, by omega⟩, if_pos h]; omega
    · rw [if_neg (fun h => by omega), if_neg (fun k => h k.1), if_neg h]; omega
theorem two_all {a b x y : Int} (hx : 1 ≤ x ∧ x ≤ 200) (hy : 1 ≤ y ∧ y ≤ 200) : allB (twoK a b) [twoP x, twoQ y] = true := by
  unfold allB
  rw [show (twoK a b).A.length = 3 from rfl, Bool.and_eq_true, decide_eq_true_eq, List.all_eq_true]
  refine ⟨fun p hp => ?_, by simp⟩
  have hp : p = twoP x ∨ p = twoQ y := by simpa using hp
  rcases hp with rfl | rfl
  · exact mayB_yes.2 ⟨by show (0 : Int) ≤ 0 ∧ (0 : Int) < ((3 : Nat) : Int); omega, by show (0 : Int) ≤ 1 ∧ (1 : Int) < ((3 : Nat) : Int); omega, by show ¬ (0 : Int) = 1; omega, by show 1 ≤ x ∧ x ≤ 1099511627776; omega, by show (1 : Int) ≤ 3 ∧ (3 : Int) ≤ 3; omega⟩
  · exact mayB_yes.2 ⟨by show (0 : Int) ≤ 1 ∧ (1 : Int) < ((3 : Nat) : Int); omega, by show (0 : Int) ≤ 0 ∧ (0 : Int) < ((3 : Nat) : Int); omega, by show ¬ (1 : Int) = 0; omega, by show 1 ≤ y ∧ y ≤ 1099511627776; omega, by show (1 : Int) ≤ 1 ∧ (1 : Int) ≤ 3; omega⟩
theorem two_fits {a b x y : Int} (ha : 0 ≤ a ∧ a ≤ 60) (hb : 0 ≤ b ∧ b ≤ 60) (hx : 1 ≤ x ∧ x ≤ 200) (hy : 1 ≤ y ∧ y ≤ 200) : fitsB (twoK a b) [twoP x, twoQ y] = (decide (x ≤ a + y) && decide (y ≤ b + x)) := by
  obtain ⟨sent, plain, spent⟩ := two_sums (x := x) (y := y)
  have e3 : (twoK a b).A.length = 3 := rfl
  have d : ∀ i : Nat, dTo [twoP x, twoQ y] (i : Int) 3 = (if i = 0 then x - y else 0) + (if i = 1 then y - x else 0) := fun i => by
    simp only [dTo, netS, sent]
    by_cases h0 : i = 0
    · subst h0; simp
    · by_cases h1 : i = 1
      · subst h1; simp
      · have i0 : ¬ (0 : Int) = (i : Int) := by omega
        have i1 : ¬ (1 : Int) = (i : Int) := by omega
        simp [h0, h1, i0, i1]
  have ov : ∀ i k : Nat, i < 3 → k < 3 → overB (twoK a b) [twoP x, twoQ y] i k = false := fun i k hi hk => by
    have hb : at2 (twoK a b).B i k = -1 := by rcases (by omega : i = 0 ∨ i = 1 ∨ i = 2) with rfl | rfl | rfl <;> rcases (by omega : k = 0 ∨ k = 1 ∨ k = 2) with rfl | rfl | rfl <;> rfl
    unfold overB
    rw [hb]
    simp
  have hany : ∀ i, i < 3 → (List.range 3).any (overB (twoK a b) [twoP x, twoQ y] i) = false := fun i hi => by
    rw [List.any_eq_false]
    intro k hk
    rw [ov i k hi (by simpa using hk)]
    simp
  have hwide : ∀ i, i < 3 → wideB (twoK a b) [twoP x, twoQ y] 3 i = false := fun i hi => by
    have hm : (twoK a b).M.getD i 0 = -1 := by rcases (by omega : i = 0 ∨ i = 1 ∨ i = 2) with rfl | rfl | rfl <;> rfl
    unfold wideB
    rw [hm]
    simp
  have s0 : shortB (twoK a b) [twoP x, twoQ y] 3 0 = !decide (x ≤ a + y) := by
    unfold shortB lowB
    rw [hany 0 (by omega), hwide 0 (by omega), d 0, plain, spent]
    have ek : keptV ((twoK a b).A.getD 0 a30).2.2 (if (1 : Int) = ((0 : Nat) : Int) then y else 0) = 0 := by rw [if_neg (by omega)]; show keptV 0 0 = 0; rfl
    rw [ek]
    have e1 : ((twoK a b).A.getD 0 a30).1 + ((twoK a b).A.getD 0 a30).2.1 = a := by show a + 0 = a; omega
    rw [e1, Bool.eq_iff_iff]
    simp
    omega
  have s1 : shortB (twoK a b) [twoP x, twoQ y] 3 1 = !decide (y ≤ b + x) := by
    unfold shortB lowB
    rw [hany 1 (by omega), hwide 1 (by omega), d 1, plain, spent]
    have e1 : ((twoK a b).A.getD 1 a30).1 + ((twoK a b).A.getD 1 a30).2.1 = b := by show b + 0 = b; omega
    rw [e1, Bool.eq_iff_iff]
    simp
    omega
  have s2 : shortB (twoK a b) [twoP x, twoQ y] 3 2 = false := by
    unfold shortB
    rw [plain, spent, if_neg (by omega), if_neg (by omega)]
    simp
  have hsl : decide ((shortL (twoK a b) [twoP x, twoQ y]).length = 0) = (decide (x ≤ a + y) && decide (y ≤ b + x)) := by
    unfold shortL
    rw [e3, show List.range 3 = [0, 1, 2] from rfl, List.filter_cons, List.filter_cons, List.filter_cons, s0, s1, s2]
    by_cases h1 : x ≤ a + y <;> by_cases h2 : y ≤ b + x <;> simp [h1, h2]
  unfold fitsB
  rw [two_all hx hy, hsl, Bool.true_and]
theorem two_post {a b x y : Int} (ha : 0 ≤ a ∧ a ≤ 60) (hb : 0 ≤ b ∧ b ≤ 60) (hx : 1 ≤ x ∧ x ≤ 200) (hy : 1 ≤ y ∧ y ≤ 200) : postE (twoK a b) [twoP x, twoQ y] = 0 := by
  have g : Good (postB (twoK a b) [twoP x, twoQ y]) := by
    rw [← someK_two ha hb]
    refine post_three (M := 200) (good_some _ _ _ _) rfl (someK_small _ _ _ _).1 (someK_small _ _ _ _).2 (fun p hp => ?_) (by show (2 : Int) * 200 ≤ 1000000; omega)
    have hp : p = twoP x ∨ p = twoQ y := by simpa using hp
    rcases hp with rfl | rfl
    · show 0 ≤ x ∧ x ≤ 200; omega
    · show 0 ≤ y ∧ y ≤ 200; omega
  unfold postE
  rw [if_pos (two_all hx hy), if_pos (booksB_yes.2 g)]
theorem two_que (x y : Int) : Que [twoP x, twoQ y] := by
  refine ⟨by simp, List.Pairwise.cons (fun p hp => ?_) (List.Pairwise.cons (fun p hp => by simp at hp) List.Pairwise.nil)⟩
  obtain rfl := List.mem_singleton.1 hp
  exact ⟨rfl, by show ¬ (1 : Int) = 2; omega⟩
theorem two_fr (x y : Int) : FrOk [twoP x, twoQ y] := by
  intro p hp
  have hp : p = twoP x ∨ p = twoQ y := by simpa using hp
  rcases hp with rfl | rfl <;> rfl
/-- Both go, just if nobody falls short by the difference. -/
theorem two_done {a b x y : Int} (ha : 0 ≤ a ∧ a ≤ 60) (hb : 0 ≤ b ∧ b ≤ 60) (hx : 1 ≤ x ∧ x ≤ 200) (hy : 1 ≤ y ∧ y ≤ 200) : (runQ (twoK a b) [twoP x, twoQ y] 3).2.2.length = if x ≤ a + y ∧ y ≤ b + x then 2 else 0 := by
  have hmay : vMay [twoP x, twoQ y] 3 = [twoP x, twoQ y] := rfl
  have hg : goesB (twoK a b) [twoP x, twoQ y] = (decide (x ≤ a + y) && decide (y ≤ b + x)) := by
    unfold goesB
    rw [two_fits ha hb hx hy, two_post ha hb hx hy]
    simp
  have bpp : backB (twoP x) (twoP x) = false := rfl
  have bpq : backB (twoP x) (twoQ y) = true := rfl
  have bqp : backB (twoQ y) (twoP x) = false := rfl
  have bqq : backB (twoQ y) (twoQ y) = false := rfl
  have fq : firstQ (twoK a b) [twoP x, twoQ y] (twoQ y) = none := by simp [firstQ, isPair, bqp, bqq]
  by_cases h : x ≤ a + y ∧ y ≤ b + x
  · have hg : goesB (twoK a b) [twoP x, twoQ y] = true := by rw [hg]; simp [h.1, h.2]
    have fp : firstQ (twoK a b) [twoP x, twoQ y] (twoP x) = some (twoQ y) := by simp [firstQ, isPair, bpp, bpq, hg]
    have hn : nextQ (twoK a b) [twoP x, twoQ y] 3 = some (twoP x, twoQ y) := by
      unfold nextQ
      rw [hmay]
      simp only [pairL, fp]
    have hd : drop2 [twoP x, twoQ y] (twoP x) (twoQ y) = [] := rfl
    have k1 : runQA 1 (postR (twoK a b) [twoP x, twoQ y]) [] 3 [twoP x, twoQ y] = (postR (twoK a b) [twoP x, twoQ y], [], [twoP x, twoQ y]) := by
      simp only [runQA, nextQ_nil]
    rw [if_pos h]
    unfold runQ
    show (runQA 2 _ _ _ _).2.2.length = 2
    simp only [runQA, hn, hd, List.nil_append, nextQ_nil]
    rfl
  · have hg : goesB (twoK a b) [twoP x, twoQ y] = false := by
      rw [hg]
      by_cases h1 : x ≤ a + y
      · have : ¬ y ≤ b + x := fun k => h ⟨h1, k⟩
        simp [this]
      · simp [h1]
    have fp : firstQ (twoK a b) [twoP x, twoQ y] (twoP x) = none := by simp [firstQ, isPair, bpp, bpq, hg]
    have hn : nextQ (twoK a b) [twoP x, twoQ y] 3 = none := by
      unfold nextQ
      rw [hmay]
      simp only [pairL, fp, fq]
    rw [if_neg h]
    unfold runQ
    show (runQA 2 _ _ _ _).2.2.length = 0
    simp only [runQA, hn]
    rfl

end Go.Proofs.Ytajmbcbochjfmaa
