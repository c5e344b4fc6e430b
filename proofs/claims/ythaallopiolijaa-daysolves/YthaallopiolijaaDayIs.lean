/-
  day: are rules such: the program's answer and the document's.
-/
import Derived.Test.YthaallopiolijaaSl
namespace Go.Proofs.Ythaallopiolijaa
open Go.RowKit
set_option linter.unusedVariables false
set_option linter.unusedSimpArgs false

/-- A number lies between two. -/
def inB (n l h : Int) : Bool := decide (l ≤ n ∧ n ≤ h)

theorem inB_no {n l h : Int} (k : n < l) : false = inB n l h := by unfold inB; symm; rw [decide_eq_false_iff_not]; omega
theorem inB_yes {n l h : Int} (k : l ≤ n) : decide (n ≤ h) = inB n l h := by simp [inB, k]

theorem within_any (n l h : Int) (w : World) : Calls Try.prog 18 #[.int .i64 n, .int .i64 l, .int .i64 h] w fun e w' => e = .returned (.bool (inB n l h)) ∧ w' = w := by
  by_cases k : l ≤ n
  · go_enter Try.func18, Try.ntmps18
    go_wp2
    go_ret
    exact ⟨rt_bool (inB_yes k), rfl⟩
  · go_enter Try.func18, Try.ntmps18
    go_wp2
    go_ret
    exact ⟨rt_bool (inB_no k), rfl⟩

theorem in_any (n l h : Int) (w : World) : Calls Try.prog 20 #[.int .i64 n, .int .i64 l, .int .i64 h] w fun e w' => e = .returned (.bool (inB n l h)) ∧ w' = w := by
  by_cases k : l ≤ n
  · go_enter Try.func20, Try.ntmps20
    go_wp2
    go_ret
    exact ⟨rt_bool (inB_yes k), rfl⟩
  · go_enter Try.func20, Try.ntmps20
    go_wp2
    go_ret
    exact ⟨rt_bool (inB_no k), rfl⟩

theorem cell_new (w : World) (cs : Array Value) (t : TypeId) (fr : Nat × Nat) (i : Nat) : (w.alloc (.cells cs t fr)).cell? ⟨w.heap.size, i, none⟩ = cs[i]? := by
  exact cell_of_row (w.alloc (.cells cs t fr)) w.heap.size i _ _ _ (heap_alloc_new w _)

/-- A slice of assets: their prices and their cuts. -/
def Asts (w : World) (a : Option Addr) (len : Nat) (P C : Nat → Int) : Prop :=
  len = 0 ∨ ∃ b off, a = some ⟨b, off, none⟩ ∧ b < w.heap.size ∧ ∀ r, r < len → w.cell? ⟨b, off + r * 2, none⟩ = some (.int .i64 (P r)) ∧ w.cell? ⟨b, off + r * 2 + 1, none⟩ = some (.int .i64 (C r))

theorem Asts.below {w w' : World} {a : Option Addr} {len : Nat} {P C : Nat → Int} (h : Asts w a len P C) (hb : Below w.heap.size w w') : Asts w' a len P C := by
  rcases h with h | ⟨b, off, ha, hlt, hc⟩
  · exact .inl h
  · refine .inr ⟨b, off, ha, Nat.lt_of_lt_of_le hlt hb.size, fun r hr => ?_⟩
    rw [hb.cell (p := ⟨b, off + r * 2, none⟩) hlt, hb.cell (p := ⟨b, off + r * 2 + 1, none⟩) hlt]
    exact hc r hr

/-- The assets of rules that may be. -/
def astOk (P C : Nat → Int) (i : Nat) : Bool := inB (P i) 0 1048576 && inB (C i) 0 10000
def astS (len : Nat) (P C : Nat → Int) : Bool := decide (len ≤ 3 ∧ ∀ i, i < len → astOk P C i = true)

theorem astS_many {len : Nat} {P C : Nat → Int} (h : ¬ len ≤ 3) : false = astS len P C := by simp [astS, h]
theorem astS_bad {len k : Nat} {P C : Nat → Int} (h : k < len) (hk : astOk P C k = false) : false = astS len P C := by
  unfold astS
  symm
  rw [decide_eq_false_iff_not]
  rintro ⟨_, h2⟩
  rw [h2 k h] at hk
  cases hk
theorem astS_all {len : Nat} {P C : Nat → Int} (h : len ≤ 3) (hk : ∀ j, j < len → astOk P C j = true) : true = astS len P C := by
  unfold astS
  symm
  rw [decide_eq_true_iff]
  exact ⟨h, hk⟩
theorem astOk_p {P C : Nat → Int} {k : Nat} (h : inB (P k) 0 1048576 = false) : astOk P C k = false := by simp [astOk, h]
theorem astOk_c {P C : Nat → Int} {k : Nat} (h : inB (C k) 0 10000 = false) : astOk P C k = false := by simp [astOk, h]
theorem astOk_all {P C : Nat → Int} {k : Nat} (h : inB (P k) 0 1048576 = true) (h' : inB (C k) 0 10000 = true) : astOk P C k = true := by simp [astOk, h, h']
theorem ok_snoc {P C : Nat → Int} {k : Nat} (h : ∀ j, j < k → astOk P C j = true) (hk : astOk P C k = true) : ∀ j, j < k + 1 → astOk P C j = true := by
  intro j hj
  by_cases e : j = k
  · rw [e]; exact hk
  · exact h j (by omega)

set_option maxHeartbeats 1000000 in
theorem areAssets_any (a : Option Addr) (len cap : Nat) (P C : Nat → Int) (w : World) (h : Asts w a len P C) (hl : len ≤ 9223372036854775807) : Calls Try.prog 19 #[.slice a len cap] w fun e w' => e = .returned (.bool (astS len P C)) ∧ Below w.heap.size w w' := by
  by_cases h3 : 3 < len
  · go_enter Try.func19, Try.ntmps19
    go_wp2
    go_ret
    exact ⟨rt_bool (astS_many (by omega)), Below.refl _ _⟩
  · have HA : Hid (Asts w a len P C) := h
    clear h
    go_enter Try.func19, Try.ntmps19
    go_wp2
    go_loopw [10] (fun i wr => ∃ k : Nat, k ≤ len ∧ i = .int .i64 k ∧ Below w.heap.size w wr ∧ ∀ j, j < k → astOk P C j = true) (fun i _ => len - (intOf i).toNat)
    case atStart => exact ⟨0, Nat.zero_le _, rfl, Below.refl _ _, fun j hj => by omega⟩
    case round =>
      obtain ⟨k, hk, rfl, bel, ok⟩ := hrel
      have OK : Hid (∀ j, j < k → astOk P C j = true) := ok
      have HB : Hid (Below w.heap.size w wr) := bel
      have HA' := HA.out.below bel
      clear ok bel
      by_cases hlt : k < len
      · rcases HA' with h0 | ⟨b, off, rfl, hbs, hc⟩
        · omega
        · obtain ⟨c0, c1⟩ := hc k hlt
          clear hc
          obtain ⟨x, hx⟩ : ∃ x, P k = x := ⟨_, rfl⟩
          obtain ⟨y, hy⟩ : ∃ y, C k = y := ⟨_, rfl⟩
          rw [hx] at c0
          rw [hy] at c1
          have HX : Hid (P k = x) := hx
          have HY : Hid (C k = y) := hy
          clear hx hy
          have W1 := within_any x 0 1048576
          have W2 := within_any y 0 10000
          obtain ⟨p, hp⟩ : ∃ p, inB x 0 1048576 = p := ⟨_, rfl⟩
          obtain ⟨q, hq⟩ : ∃ q, inB y 0 10000 = q := ⟨_, rfl⟩
          rw [hp] at W1
          rw [hq] at W2
          have HP : Hid (inB (P k) 0 1048576 = p) := by show inB (P k) 0 1048576 = p; rw [HX.out]; exact hp
          have HQ : Hid (inB (C k) 0 10000 = q) := by show inB (C k) 0 10000 = q; rw [HY.out]; exact hq
          clear hp hq
          go_wp2_with fail
          go_at_call 18
          refine (W1 _).mono ?_
          rintro e w1 ⟨rfl, hw⟩
          have b1 : Below w.heap.size w w1 := by rw [hw]; exact HB.out.alloc HB.out.size _
          have p1 : w1.cell? ⟨wr.heap.size, 1, none⟩ = some (.int .i64 y) := by rw [hw, cell_new]; rfl
          have B1 : Hid (Below w.heap.size w w1) := b1
          clear hw W1 b1 c0 c1
          cases p
          · go_wp2
            go_ret
            exact ⟨rt_bool (astS_bad hlt (astOk_p HP.out)), B1.out⟩
          · go_wp2_with fail
            go_at_call 18
            refine (W2 _).mono ?_
            rintro e w2 ⟨rfl, hw⟩
            obtain rfl := hw.symm
            clear W2
            cases q
            · go_wp2
              go_ret
              exact ⟨rt_bool (astS_bad hlt (astOk_c HQ.out)), B1.out⟩
            · go_wp2
              go_roundw
              case rel => exact ⟨k + 1, by omega, by go_num, B1.out, ok_snoc OK.out (astOk_all HP.out HQ.out)⟩
              case measure => simp [intOf]; omega
      · go_wp2
        go_ret
        exact ⟨rt_bool (astS_all (by omega) (fun j hj => OK.out j (by omega))), HB.out⟩

end Go.Proofs.Ythaallopiolijaa
