/-
  lim.Net, giroref10.Net: what one sent, less what it got.
-/
import Derived.Test.YtpaieecbedgeaaaLimIs
namespace Go.Proofs.Ytpaieecbedgeaaa
open Go.RowKit
set_option linter.unusedVariables false
set_option linter.unusedSimpArgs false

/-- The sum of the first k of row i. -/
def netTo (R : List (List Int)) (i : Nat) : Nat → Int
  | 0 => 0
  | k + 1 => netTo R i k + at2 R i k
theorem netTo_bound {R : List (List Int)} {m i : Nat} (hp : ∀ k, k < m → posB (at2 R i k) = true) : ∀ k, k ≤ m → -(k * 72057594037927936 : Int) ≤ netTo R i k ∧ netTo R i k ≤ (k * 72057594037927936 : Int) := by
  intro k
  induction k with
  | zero => intro _; simp [netTo]
  | succ k ih =>
    intro hk
    have h1 := ih (by omega)
    have h2 := posB_yes (hp k (by omega))
    unfold netTo
    omega

set_option maxHeartbeats 2000000 in
theorem limNet_any (x : BA) (b : Bks) (i m : Nat) (w : World) (h : Bk w x b) (hm : m ≤ 6) (hs : squareB b.P m = true) (hi : i < m) (hp : ∀ k, k < m → posB (at2 b.P i k) = true) :
    Calls Try.prog 7 #[x.val, .int .i64 i] w fun e w' => e = .returned (.int .i64 (netTo b.P i m)) ∧ Below w.heap.size w w' := by
  obtain ⟨bP, oP, ha, hn, SP⟩ := RowsI.sq h.pos (by omega : 0 < m) hs
  obtain ⟨aA, nA, cA, aB, nB, cB, aM, nM, cM, aP, nP, cP⟩ := x
  have hn : nP = m := hn
  have ha : aP = some ⟨bP, oP, none⟩ := ha
  subst hn ha
  obtain ⟨g, o, d, r0, r1⟩ := (SP.below (box_below w (.cells #[.slice aA nA cA, .slice aB nB cB, .slice aM nM cM, .slice (some ⟨bP, oP, none⟩) nP cP] 26))) i hi
  have i1 : (i : Int) < (nP : Int) := by omega
  have HB : Hid (∀ k, k ≤ nP → -(k * 72057594037927936 : Int) ≤ netTo b.P i k ∧ netTo b.P i k ≤ (k * 72057594037927936 : Int)) := netTo_bound hp
  have HP : Hid (∀ k, k < nP → posB (at2 b.P i k) = true) := hp
  have HR : Hid (∀ k, k < nP → (w.alloc (.cells #[.slice aA nA cA, .slice aB nB cB, .slice aM nM cM, .slice (some ⟨bP, oP, none⟩) nP cP] 26)).cell? ⟨g, o + k, none⟩ = some (.int .i64 (at2 b.P i k))) := r1
  clear h hs SP hp r1
  go_enter Try.func7, Try.ntmps7
  go_wp2
  go_loop [5, 23] (fun s t => ∃ k : Nat, k ≤ nP ∧ t = .int .i64 k ∧ s = .int .i64 (netTo b.P i k)) (fun _ t => nP - (intOf t).toNat)
  case atStart => exact ⟨0, by omega, rfl, rfl⟩
  case round =>
    obtain ⟨k, hk, rfl, rfl⟩ := hrel
    by_cases hlt : k < nP
    · have k1 : (k : Int) < (nP : Int) := by omega
      have c1 := HR.out k hlt
      have n1 : -432345564227567616 ≤ netTo b.P i k ∧ netTo b.P i k ≤ 432345564227567616 := by have := HB.out k hk; omega
      have n2 := posB_yes (HP.out k hlt)
      have HE : Hid (netTo b.P i (k + 1) = netTo b.P i k + at2 b.P i k) := rfl
      generalize at2 b.P i k = v at c1 n2 HE
      generalize netTo b.P i k = s at n1 HE ⊢
      obtain ⟨n10, n11⟩ := n1
      obtain ⟨n20, n21⟩ := n2
      go_wp2
      go_round
      case rel => exact ⟨k + 1, by omega, by go_num, by rw [HE.out]⟩
      case measure => simp [intOf]; omega
    · obtain rfl : k = nP := by omega
      go_wp2
      go_ret
      exact ⟨rfl, box_below _ _⟩

set_option maxHeartbeats 2000000 in
theorem refNet_any (x : BA) (b : Bks) (i m : Nat) (w : World) (h : Bk w x b) (hm : m ≤ 6) (hs : squareB b.P m = true) (hi : i < m) (hp : ∀ k, k < m → posB (at2 b.P i k) = true) :
    Calls Try.prog 8 #[x.val, .int .i64 i] w fun e w' => e = .returned (.int .i64 (netTo b.P i m)) ∧ Below w.heap.size w w' := by
  obtain ⟨bP, oP, ha, hn, SP⟩ := RowsI.sq h.pos (by omega : 0 < m) hs
  obtain ⟨aA, nA, cA, aB, nB, cB, aM, nM, cM, aP, nP, cP⟩ := x
  have hn : nP = m := hn
  have ha : aP = some ⟨bP, oP, none⟩ := ha
  subst hn ha
  obtain ⟨g, o, d, r0, r1⟩ := (SP.below (box_below w (.cells #[.slice aA nA cA, .slice aB nB cB, .slice aM nM cM, .slice (some ⟨bP, oP, none⟩) nP cP] 26))) i hi
  have i1 : (i : Int) < (nP : Int) := by omega
  have HB : Hid (∀ k, k ≤ nP → -(k * 72057594037927936 : Int) ≤ netTo b.P i k ∧ netTo b.P i k ≤ (k * 72057594037927936 : Int)) := netTo_bound hp
  have HP : Hid (∀ k, k < nP → posB (at2 b.P i k) = true) := hp
  have HR : Hid (∀ k, k < nP → (w.alloc (.cells #[.slice aA nA cA, .slice aB nB cB, .slice aM nM cM, .slice (some ⟨bP, oP, none⟩) nP cP] 26)).cell? ⟨g, o + k, none⟩ = some (.int .i64 (at2 b.P i k))) := r1
  clear h hs SP hp r1
  go_enter Try.func8, Try.ntmps8
  go_wp2
  go_loop [5, 6] (fun s t => ∃ k : Nat, k ≤ nP ∧ t = .int .i64 k ∧ s = .int .i64 (netTo b.P i k)) (fun _ t => nP - (intOf t).toNat)
  case atStart => exact ⟨0, by omega, rfl, rfl⟩
  case round =>
    obtain ⟨k, hk, rfl, rfl⟩ := hrel
    by_cases hlt : k < nP
    · have k1 : (k : Int) < (nP : Int) := by omega
      have c1 := HR.out k hlt
      have n1 : -432345564227567616 ≤ netTo b.P i k ∧ netTo b.P i k ≤ 432345564227567616 := by have := HB.out k hk; omega
      have n2 := posB_yes (HP.out k hlt)
      have HE : Hid (netTo b.P i (k + 1) = netTo b.P i k + at2 b.P i k) := rfl
      generalize at2 b.P i k = v at c1 n2 HE
      generalize netTo b.P i k = s at n1 HE ⊢
      obtain ⟨n10, n11⟩ := n1
      obtain ⟨n20, n21⟩ := n2
      go_wp2
      go_round
      case rel => exact ⟨k + 1, by omega, by go_num, by rw [HE.out]⟩
      case measure => simp [intOf]; omega
    · obtain rfl : k = nP := by omega
      go_wp2
      go_ret
      exact ⟨rfl, box_below _ _⟩

/-- What the first i have sent together. -/
def netSum (R : List (List Int)) (m : Nat) : Nat → Int
  | 0 => 0
  | i + 1 => netSum R m i + netTo R i m
theorem netSum_bound {R : List (List Int)} {m : Nat} (hm : m ≤ 6) (hp : ∀ i k, i < m → k < m → posB (at2 R i k) = true) : ∀ i, i ≤ m → -(i * 432345564227567616 : Int) ≤ netSum R m i ∧ netSum R m i ≤ (i * 432345564227567616 : Int) := by
  intro i
  induction i with
  | zero => intro _; simp [netSum]
  | succ i ih =>
    intro hi
    have h1 := ih (by omega)
    have h2 := netTo_bound (hp i · (by omega)) m (Nat.le_refl _)
    unfold netSum
    omega
/-- The sum of a column's first i. -/
def colTo (R : List (List Int)) (k : Nat) : Nat → Int
  | 0 => 0
  | i + 1 => colTo R k i + at2 R i k
theorem netSum_col (R : List (List Int)) (m i : Nat) : netSum R m i = ((List.range m).map fun k => colTo R k i).sum := by
  induction i with
  | zero =>
    have z : ∀ l : List Nat, (l.map fun _ => (0 : Int)).sum = 0 := by
      intro l
      induction l with
      | nil => rfl
      | cons a l ih => simp only [List.map_cons, List.sum_cons, ih]; rfl
    exact (z _).symm
  | succ i ih =>
    have key : ∀ n, netTo R i n = ((List.range n).map fun k => at2 R i k).sum := by
      intro n
      induction n with
      | zero => rfl
      | succ n ih => simp [netTo, List.range_succ, ih]
    have add : ∀ (l : List Nat) (f g : Nat → Int), (l.map fun k => f k + g k).sum = (l.map f).sum + (l.map g).sum := by
      intro l f g
      induction l with
      | nil => rfl
      | cons a l ih => simp only [List.map_cons, List.sum_cons, ih]; omega
    rw [netSum, ih, key m]
    simp only [colTo]
    rw [add]
theorem col_neg {R : List (List Int)} {m k : Nat} (hk : k < m) (ht : ∀ i k, i < m → k < m → at2 R i k = -at2 R k i) : ∀ i, i ≤ m → colTo R k i = -netTo R k i := by
  intro i
  induction i with
  | zero => intro _; rfl
  | succ i ih =>
    intro hi
    have h1 := ih (by omega)
    have h2 := ht i k (by omega) hk
    unfold colTo netTo
    omega
theorem netSum_zero {R : List (List Int)} {m : Nat} (ht : ∀ i k, i < m → k < m → at2 R i k = -at2 R k i) : netSum R m m = 0 := by
  have h1 := netSum_col R m m
  have h2 : ((List.range m).map fun k => colTo R k m) = (List.range m).map fun k => -netTo R k m := by
    apply List.map_congr_left
    intro k hk
    exact col_neg (List.mem_range.1 hk) ht m (Nat.le_refl _)
  have h3 : ∀ n, netSum R m n = ((List.range n).map fun k => netTo R k m).sum := by
    intro n
    induction n with
    | zero => rfl
    | succ n ih => simp [netSum, List.range_succ, ih]
  have neg : ∀ (l : List Nat) (f : Nat → Int), (l.map fun k => -f k).sum = -(l.map f).sum := by
    intro l f
    induction l with
    | nil => rfl
    | cons a l ih => simp only [List.map_cons, List.sum_cons, ih]; omega
  rw [h2, neg, ← h3 m] at h1
  omega

end Go.Proofs.Ytpaieecbedgeaaa
