/-
  pool.Value over this seat's program.
-/
import Derived.Test.YtbnhpehobadebaaPoolSpec
namespace Go.Proofs.Ytbnhpehobadebaa
open Go.RowKit
set_option linter.unusedVariables false
set_option linter.unusedSimpArgs false

theorem value_not (a pa ha : Option Addr) (la ca pl pc hl hc : Nat) (w : World) (h : pl ≠ la ∨ hl ≠ la) :
    Calls Try.prog 7 #[.slice a la ca, .slice pa pl pc, .slice ha hl hc] w fun e w' => e = .returned (.tuple #[.int .i64 0, .bool false]) ∧ w' = w := by
  by_cases h1 : pl = la
  · subst h1
    have h2 : ((hl : Int) == (pl : Int)) = false := by rw [beq_eq_false_iff_ne]; omega
    clear h
    go_enter Try.func7, Try.ntmps7
    go_wp2
    go_ret2
    exact ⟨rfl, rfl⟩
  · have h2 : ((pl : Int) == (la : Int)) = false := by rw [beq_eq_false_iff_ne]; omega
    clear h h1
    go_enter Try.func7, Try.ntmps7
    go_wp2
    go_ret2
    exact ⟨rfl, rfl⟩

set_option maxHeartbeats 4000000 in
theorem value_row (a pa ha : Option Addr) (n ca pc hc : Nat) (A C : Nat → Int) (ps hs : List Int) (w : World) (HA : Hid (Asts w a n A C)) (HP : Hid (Sl .i64 w pa n ps)) (HH : Hid (Sl .i64 w ha n hs)) (hn : n ≤ 9223372036854775807) :
    Calls Try.prog 7 #[.slice a n ca, .slice pa n pc, .slice ha n hc] w fun e w' =>
      e = .returned (.tuple #[.int .i64 (valueV n n n (fun i => ps.getD i 0) (fun i => hs.getD i 0) C), .bool (valueB n n n (fun i => ps.getD i 0) (fun i => hs.getD i 0) C)]) ∧ Below w.heap.size w w' := by
  go_enter Try.func7, Try.ntmps7
  go_wp2
  go_loopw [8, 27] (fun s i wr => ∃ (k : Nat) (S : Int), k ≤ n ∧ s = .int .i64 S ∧ i = .int .i64 k ∧ Hid (vV (fun i => ps.getD i 0) (fun i => hs.getD i 0) C k = S) ∧ Hid (vOk (fun i => ps.getD i 0) (fun i => hs.getD i 0) C k = true) ∧ Below w.heap.size w wr) (fun _ i _ => n - (intOf i).toNat)
  case atStart => exact ⟨0, 0, Nat.zero_le _, rfl, rfl, rfl, rfl, Below.refl _ _⟩
  case round =>
    obtain ⟨k, S, hk, rfl, rfl, HV, HO, bel⟩ := hrel
    have HB : Hid (Below w.heap.size w wr) := bel
    clear bel
    by_cases hlt : k < n
    · obtain ⟨b1, o1, rfl, c1, l1, p0, p1⟩ := (HP.out.below HB.out).at64 hlt
      obtain ⟨b2, o2, rfl, c2, l2, h0, h1⟩ := (HH.out.below HB.out).at64 hlt
      rcases HA.out.below HB.out with e0 | ⟨b3, o3, rfl, l3, c34⟩
      · omega
      obtain ⟨c3, c4⟩ := c34 k hlt
      clear c34
      obtain ⟨x, hx⟩ : ∃ x, ps.getD k 0 = x := ⟨_, rfl⟩
      obtain ⟨y, hy⟩ : ∃ y, hs.getD k 0 = y := ⟨_, rfl⟩
      obtain ⟨z, hz⟩ : ∃ z, C k = z := ⟨_, rfl⟩
      obtain ⟨t, ht⟩ : ∃ t, A k = t := ⟨_, rfl⟩
      rw [hx] at c1 p0 p1
      rw [hy] at c2 h0 h1
      rw [ht] at c3
      rw [hz] at c4
      have EX : Hid (ps.getD k 0 = x) := hx
      have EY : Hid (hs.getD k 0 = y) := hy
      have EZ : Hid (C k = z) := hz
      clear hx hy hz ht
      have W := worth_any x y z p1 h1
      obtain ⟨v, hv⟩ : ∃ v, worthV x y z = v := ⟨_, rfl⟩
      obtain ⟨q, hq⟩ : ∃ q, worthB x y z = q := ⟨_, rfl⟩
      have vb := worthV_bound x y z
      rw [hv] at vb
      rw [hv, hq] at W
      obtain ⟨v0, v1⟩ := vb
      have sb := vV_bound HO.out
      rw [HV.out] at sb
      obtain ⟨s0, s1⟩ := sb
      have EV : Hid (worthV x y z = v) := hv
      have EQ : Hid (worthB x y z = q) := hq
      clear hv hq
      have A1 := add_any S v s0 s1 v0 v1
      obtain ⟨s, hs'⟩ : ∃ s, heldV (S + v) = s := ⟨_, rfl⟩
      obtain ⟨r, hr⟩ : ∃ r, heldB (S + v) = r := ⟨_, rfl⟩
      rw [hs', hr] at A1
      have ES : Hid (heldV (S + v) = s) := hs'
      have ER : Hid (heldB (S + v) = r) := hr
      clear hs' hr
      go_upto_region 7 with fail
      obtain ⟨w1, hw1⟩ : ∃ w1, w1 = wr.alloc (Obj.cells #[Value.int IntKind.i64 t, Value.int IntKind.i64 z] 31) := ⟨_, rfl⟩
      rw [← hw1]
      have B1 : Hid (Below w.heap.size w w1) := by rw [hw1]; exact HB.out.alloc HB.out.size _
      have bw : Below wr.heap.size wr w1 := by rw [hw1]; exact (Below.refl _ _).alloc (Nat.le_refl _) _
      have d1 : w1.cell? ⟨b1, o1 + k, none⟩ = some (.int .i64 x) := by rw [bw.cell (p := ⟨b1, o1 + k, none⟩) l1]; exact c1
      have d2 : w1.cell? ⟨b2, o2 + k, none⟩ = some (.int .i64 y) := by rw [bw.cell (p := ⟨b2, o2 + k, none⟩) l2]; exact c2
      have d3 : w1.cell? ⟨wr.heap.size, 1, none⟩ = some (.int .i64 z) := by rw [hw1, cell_new]; rfl
      clear hw1 bw c1 c2 c3 c4 l1 l2 l3
      go_quiet ((go_at_call 14; exact Calls.quiet_of (W _)))
      clear d1 d2 d3 W
      cases q
      · go_wp2
        go_ret2
        obtain ⟨e1, e2⟩ := value_bad (n := n) (k := k) (p := fun i => ps.getD i 0) (h := fun i => hs.getD i 0) (c := C) hlt (vOk_w (by show worthB (ps.getD k 0) (hs.getD k 0) (C k) = false; rw [EX.out, EY.out, EZ.out]; exact EQ.out))
        exact ⟨ret_ib e1 e2, below_drewN B1.out _⟩
      · go_wp2_with fail
        go_at_call 15
        refine (A1 _).mono ?_
        rintro e w2 ⟨rfl, hb2⟩
        have B2 : Hid (Below w.heap.size w w2) := (below_drewN B1.out nq).trans (hb2.mono (below_drewN B1.out nq).size)
        clear hb2 A1 B1
        have HS : Hid (heldB (vV (fun i => ps.getD i 0) (fun i => hs.getD i 0) C k + worthV (ps.getD k 0) (hs.getD k 0) (C k)) = r) := by
          show heldB (vV (fun i => ps.getD i 0) (fun i => hs.getD i 0) C k + worthV (ps.getD k 0) (hs.getD k 0) (C k)) = r
          rw [HV.out, EX.out, EY.out, EZ.out, EV.out]; exact ER.out
        have HW : Hid (worthB (ps.getD k 0) (hs.getD k 0) (C k) = true) := by
          show worthB (ps.getD k 0) (hs.getD k 0) (C k) = true
          rw [EX.out, EY.out, EZ.out]; exact EQ.out
        cases r
        · go_wp2
          go_ret2
          obtain ⟨e1, e2⟩ := value_bad (n := n) (k := k) (p := fun i => ps.getD i 0) (h := fun i => hs.getD i 0) (c := C) hlt (vOk_s HS.out)
          exact ⟨ret_ib e1 e2, B2.out⟩
        · go_wp2
          go_roundw
          case rel =>
            refine ⟨k + 1, s, by omega, rfl, by go_num, ?_, vOk_all HO.out HW.out HS.out, B2.out⟩
            show vV (fun i => ps.getD i 0) (fun i => hs.getD i 0) C k + worthV (ps.getD k 0) (hs.getD k 0) (C k) = s
            rw [HV.out, EX.out, EY.out, EZ.out, EV.out, ← ES.out, held_is ER.out]
          case measure => simp [intOf]; omega
    · obtain rfl : k = n := by omega
      obtain ⟨e1, e2⟩ := value_all (n := k) (p := fun i => ps.getD i 0) (h := fun i => hs.getD i 0) (c := C) HO.out
      have E1 : Hid (S = valueV k k k (fun i => ps.getD i 0) (fun i => hs.getD i 0) C) := HV.out.symm.trans e1
      have E2 : Hid (true = valueB k k k (fun i => ps.getD i 0) (fun i => hs.getD i 0) C) := e2
      clear e1 e2 HA HP HH
      go_wp2
      go_ret2
      exact ⟨ret_ib E1.out E2.out, HB.out⟩

/-- Value. -/
theorem value_any (a pa ha : Option Addr) (la ca pl pc hl hc : Nat) (A C : Nat → Int) (ps hs : List Int) (w : World) (HA : Asts w a la A C) (HP : Sl .i64 w pa pl ps) (HH : Sl .i64 w ha hl hs) (hn : la ≤ 9223372036854775807) :
    Calls Try.prog 7 #[.slice a la ca, .slice pa pl pc, .slice ha hl hc] w fun e w' =>
      e = .returned (.tuple #[.int .i64 (valueV la pl hl (fun i => ps.getD i 0) (fun i => hs.getD i 0) C), .bool (valueB la pl hl (fun i => ps.getD i 0) (fun i => hs.getD i 0) C)]) ∧ Below w.heap.size w w' := by
  by_cases h1 : pl = la
  · by_cases h2 : hl = la
    · subst h1 h2
      exact value_row a pa ha _ ca pc hc A C ps hs w HA HP HH hn
    · refine (value_not a pa ha la ca pl pc hl hc w (.inr h2)).mono ?_
      rintro e w' ⟨rfl, rfl⟩
      obtain ⟨e1, e2⟩ := value_h (np := pl) (p := fun i => ps.getD i 0) (h := fun i => hs.getD i 0) (c := C) h2
      exact ⟨ret_ib e1 e2, Below.refl _ _⟩
  · refine (value_not a pa ha la ca pl pc hl hc w (.inl h1)).mono ?_
    rintro e w' ⟨rfl, rfl⟩
    obtain ⟨e1, e2⟩ := value_p (nh := hl) (p := fun i => ps.getD i 0) (h := fun i => hs.getD i 0) (c := C) h1
    exact ⟨ret_ib e1 e2, Below.refl _ _⟩

end Go.Proofs.Ytbnhpehobadebaa
