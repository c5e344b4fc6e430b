/-
  knot: a ring of any numbers (plain lists).
-/
import Derived.Test.YtlackjldopeigaaKnotThree
namespace Go.Proofs.Ytlackjldopeigaa
open Go.RowKit
set_option linter.unusedVariables false
set_option linter.unusedSimpArgs false

def rp0 (a : Int) : P7 := (1, 0, 1, a, 3, 0, 9)
def rp1 (b : Int) : P7 := (2, 1, 2, b, 3, 0, 9)
def rp2 (c : Int) : P7 := (3, 2, 0, c, 3, 0, 9)
def bN (f : Bool) : Nat := if f then 1 else 0
def ringF (a b c : Int) (f0 f1 f2 : Bool) : List P7 := (if f0 then [rp0 a] else []) ++ ((if f1 then [rp1 b] else []) ++ (if f2 then [rp2 c] else []))
def ringR (a b c : Int) : List P7 := [rp0 a, rp1 b, rp2 c]
theorem ring_heads (a b c : Int) (f0 f1 f2 : Bool) : headsN (ringR a b c) [bN f0, bN f1, bN f2] = ringF a b c f0 f1 f2 := by
  cases f0 <;> cases f1 <;> cases f2 <;> rfl
theorem ringF_all (a b c : Int) : ringF a b c true true true = ringR a b c := rfl
theorem ring_sent (a b c : Int) (f0 f1 f2 : Bool) (i k : Int) : sentS (ringF a b c f0 f1 f2) i k = (if 0 = i ∧ 1 = k then (if f0 then a else 0) else 0) + ((if 1 = i ∧ 2 = k then (if f1 then b else 0) else 0) + (if 2 = i ∧ 0 = k then (if f2 then c else 0) else 0)) := by
  have e0 : sentG i k (rp0 a) = if 0 = i ∧ 1 = k then a else 0 := rfl
  have e1 : sentG i k (rp1 b) = if 1 = i ∧ 2 = k then b else 0 := rfl
  have e2 : sentG i k (rp2 c) = if 2 = i ∧ 0 = k then c else 0 := rfl
  unfold sentS
  cases f0 <;> cases f1 <;> cases f2 <;> simp [ringF, sumS, e0, e1, e2]
theorem ring_plain (a b c : Int) (f0 f1 f2 : Bool) (i : Int) : plainS (ringF a b c f0 f1 f2) i = (if 0 = i then (if f0 then a else 0) else 0) + ((if 1 = i then (if f1 then b else 0) else 0) + (if 2 = i then (if f2 then c else 0) else 0)) := by
  have e0 : plainG i (rp0 a) = if 0 = i ∧ (3 : Int) = 3 then a else 0 := rfl
  have e1 : plainG i (rp1 b) = if 1 = i ∧ (3 : Int) = 3 then b else 0 := rfl
  have e2 : plainG i (rp2 c) = if 2 = i ∧ (3 : Int) = 3 then c else 0 := rfl
  unfold plainS
  cases f0 <;> cases f1 <;> cases f2 <;> simp [ringF, sumS, e0, e1, e2]
theorem ring_spent (a b c : Int) (f0 f1 f2 : Bool) (i : Int) : spentS (ringF a b c f0 f1 f2) i = 0 := by
  have e0 : spentG i (rp0 a) = if 0 = i ∧ ¬ (3 : Int) = 3 then a else 0 := rfl
  have e1 : spentG i (rp1 b) = if 1 = i ∧ ¬ (3 : Int) = 3 then b else 0 := rfl
  have e2 : spentG i (rp2 c) = if 2 = i ∧ ¬ (3 : Int) = 3 then c else 0 := rfl
  unfold spentS
  cases f0 <;> cases f1 <;> cases f2 <;> simp [ringF, sumS, e0, e1, e2]
/-- Who falls short, if the one ahead pays and if it doesn't. -/
def shF (f g u v : Bool) : Bool := f && (if g then u else v)
theorem ring_short {a b c x y z : Int} (ha : 1 ≤ a) (hb : 1 ≤ b) (hc : 1 ≤ c) (f0 f1 f2 : Bool) :
    shortL (threeK x y z) (ringF a b c f0 f1 f2) = (if shF f0 f2 (decide (x + c < a)) (decide (x < a)) then [0] else []) ++ ((if shF f1 f0 (decide (y + a < b)) (decide (y < b)) then [1] else []) ++ (if shF f2 f1 (decide (z + b < c)) (decide (z < c)) then [2] else [])) := by
  have sp := ring_spent a b c f0 f1 f2
  refine three_list _ _ rfl _ _ _ ?_ ?_ ?_
  · rw [three_short _ _ _ _ sp (by omega), ring_plain]
    simp only [dTo, netS, ring_sent, shF, List.getD_cons_zero]
    cases f0 <;> cases f1 <;> cases f2 <;> (rw [Bool.eq_iff_iff]; simp <;> omega)
  · rw [three_short _ _ _ _ sp (by omega), ring_plain]
    simp only [dTo, netS, ring_sent, shF, List.getD_cons_zero, List.getD_cons_succ]
    cases f0 <;> cases f1 <;> cases f2 <;> (rw [Bool.eq_iff_iff]; simp <;> omega)
  · rw [three_short _ _ _ _ sp (by omega), ring_plain]
    simp only [dTo, netS, ring_sent, shF, List.getD_cons_zero, List.getD_cons_succ]
    cases f0 <;> cases f1 <;> cases f2 <;> (rw [Bool.eq_iff_iff]; simp <;> omega)
/-- The sweeps, on three flags. -/
def swF (u0 u1 u2 v0 v1 v2 : Bool) : Nat → Bool → Bool → Bool → Bool × Bool × Bool
  | 0, f0, f1, f2 => (f0, f1, f2)
  | n + 1, f0, f1, f2 => if (shF f0 f2 u0 v0 || (shF f1 f0 u1 v1 || shF f2 f1 u2 v2)) then swF u0 u1 u2 v0 v1 v2 n (f0 && !shF f0 f2 u0 v0) (f1 && !shF f1 f0 u1 v1) (f2 && !shF f2 f1 u2 v2) else (f0, f1, f2)
theorem ring_less {f0 f1 f2 : Bool} (s0 s1 s2 : Bool) (h0 : s0 = true → f0 = true) (h1 : s1 = true → f1 = true) (h2 : s2 = true → f2 = true) :
    lessAll [bN f0, bN f1, bN f2] ((if s0 then [0] else []) ++ ((if s1 then [1] else []) ++ (if s2 then [2] else []))) = [bN (f0 && !s0), bN (f1 && !s1), bN (f2 && !s2)] := by
  cases s0 <;> cases s1 <;> cases s2 <;> simp at h0 h1 h2 <;> subst_vars <;> simp [lessAll, lessAt, bN]
theorem ring_sweep {a b c x y z : Int} (ha : 1 ≤ a) (hb : 1 ≤ b) (hc : 1 ≤ c) : ∀ (n : Nat) (f0 f1 f2 : Bool) (s : Nat),
    (sweepA (threeK x y z) (ringR a b c) n [bN f0, bN f1, bN f2] s).1 = (fun m : Bool × Bool × Bool => [bN m.1, bN m.2.1, bN m.2.2]) (swF (decide (x + c < a)) (decide (y + a < b)) (decide (z + b < c)) (decide (x < a)) (decide (y < b)) (decide (z < c)) n f0 f1 f2) := by
  intro n
  induction n with
  | zero => intro f0 f1 f2 s; rfl
  | succ n ih =>
    intro f0 f1 f2 s
    have hs := ring_short (x := x) (y := y) (z := z) ha hb hc f0 f1 f2
    have g0 : shF f0 f2 (decide (x + c < a)) (decide (x < a)) = true → f0 = true := by cases f0 <;> simp [shF]
    have g1 : shF f1 f0 (decide (y + a < b)) (decide (y < b)) = true → f1 = true := by cases f1 <;> simp [shF]
    have g2 : shF f2 f1 (decide (z + b < c)) (decide (z < c)) = true → f2 = true := by cases f2 <;> simp [shF]
    unfold sweepA swF
    rw [ring_heads, hs, ring_less _ _ _ g0 g1 g2]
    generalize shF f0 f2 (decide (x + c < a)) (decide (x < a)) = s0
    generalize shF f1 f0 (decide (y + a < b)) (decide (y < b)) = s1
    generalize shF f2 f1 (decide (z + b < c)) (decide (z < c)) = s2
    cases s0 <;> cases s1 <;> cases s2 <;> first | rfl | exact ih _ _ _ _
/-- The program's nine steps: who is out. -/
def outO (u v : Nat → Bool) : Nat → Nat → Bool
  | 0, _ => false
  | t + 1, k => if k = t % 3 then (outO u v t k || (if outO u v t ((k + 2) % 3) then v k else u k)) else outO u v t k
theorem out_sweep : ∀ u0 u1 u2 v0 v1 v2 : Bool, (u0 = true → v0 = true) → (u1 = true → v1 = true) → (u2 = true → v2 = true) →
    (fun m : Bool × Bool × Bool => [bN m.1, bN m.2.1, bN m.2.2]) (swF u0 u1 u2 v0 v1 v2 4 true true true) = [bN (!outO (fun k => [u0, u1, u2].getD k false) (fun k => [v0, v1, v2].getD k false) 9 0), bN (!outO (fun k => [u0, u1, u2].getD k false) (fun k => [v0, v1, v2].getD k false) 9 1), bN (!outO (fun k => [u0, u1, u2].getD k false) (fun k => [v0, v1, v2].getD k false) 9 2)] := by
  intro u0 u1 u2 v0 v1 v2
  cases u0 <;> cases u1 <;> cases u2 <;> cases v0 <;> cases v1 <;> cases v2 <;> simp only [Bool.false_eq_true, false_imp_iff, true_imp_iff, reduceCtorEq] <;> first | exact fun _ h => h.elim | exact fun h => h.elim | (intros; rfl) | (intros; contradiction)
def hav (x y z : Int) (k : Nat) : Int := [x, y, z].getD k 0
/-- Who is out by the program's steps: of what each has and owes. -/
def ringU (x y z a b c : Int) (k : Nat) : Bool := decide (hav x y z k + hav a b c ((k + 2) % 3) < hav a b c k)
def ringV (x y z a b c : Int) (k : Nat) : Bool := decide (hav x y z k < hav a b c k)
theorem out_congr {u v u' v' : Nat → Bool} (hu : ∀ k, k < 3 → u k = u' k) (hv : ∀ k, k < 3 → v k = v' k) : ∀ t k, k < 3 → outO u v t k = outO u' v' t k := by
  intro t
  induction t with
  | zero => intro k _; rfl
  | succ t ih =>
    intro k hk
    unfold outO
    rw [ih k hk, ih ((k + 2) % 3) (by omega), hu k hk, hv k hk]
theorem ring_most {x y z a b c : Int} (ha : 1 ≤ a) (hb : 1 ≤ b) (hc : 1 ≤ c) : (mostK (threeK x y z) (vReady (ringR a b c) 1)).1 = [bN (!outO (ringU x y z a b c) (ringV x y z a b c) 9 0), bN (!outO (ringU x y z a b c) (ringV x y z a b c) 9 1), bN (!outO (ringU x y z a b c) (ringV x y z a b c) 9 2)] := by
  have hr : vReady (ringR a b c) 1 = ringR a b c := rfl
  have hc1 : cnts (threeK x y z) (ringR a b c) = [bN true, bN true, bN true] := rfl
  rw [hr]
  unfold mostK
  rw [hc1, ring_sweep ha hb hc, show ([bN true, bN true, bN true].sum + 1) = 4 from rfl]
  have hu : ∀ k, k < 3 → [decide (x + c < a), decide (y + a < b), decide (z + b < c)].getD k false = ringU x y z a b c k := fun k hk => by
    rcases (by omega : k = 0 ∨ k = 1 ∨ k = 2) with rfl | rfl | rfl <;> rfl
  have hv : ∀ k, k < 3 → [decide (x < a), decide (y < b), decide (z < c)].getD k false = ringV x y z a b c k := fun k hk => by
    rcases (by omega : k = 0 ∨ k = 1 ∨ k = 2) with rfl | rfl | rfl <;> rfl
  rw [out_sweep _ _ _ _ _ _ (by simp; omega) (by simp; omega) (by simp; omega), out_congr hu hv 9 0 (by omega), out_congr hu hv 9 1 (by omega), out_congr hu hv 9 2 (by omega)]
theorem ring_all {a b c : Int} (ha : 1 ≤ a ∧ a ≤ 100) (hb : 1 ≤ b ∧ b ≤ 100) (hc : 1 ≤ c ∧ c ≤ 100) (x y z : Int) : allB (threeK x y z) (ringR a b c) = true := by
  unfold allB
  rw [show (threeK x y z).A.length = 3 from rfl, Bool.and_eq_true, decide_eq_true_eq, List.all_eq_true]
  refine ⟨fun p hp => ?_, by simp [ringR]⟩
  have hp : p = rp0 a ∨ p = rp1 b ∨ p = rp2 c := by simpa [ringR] using hp
  rcases hp with rfl | rfl | rfl
  · exact pair_may (by omega) (by omega) (by omega) ha 1
  · exact pair_may (by omega) (by omega) (by omega) hb 2
  · exact pair_may (by omega) (by omega) (by omega) hc 3

end Go.Proofs.Ytlackjldopeigaa
