/-
  The contracts of giroref1's product and Worth over this seat's program.
-/
import Derived.Test.YtbnhpehobadebaaBy
namespace Go.Proofs.Ytbnhpehobadebaa
open Go.RowKit
set_option linter.unusedVariables false

theorem val_take (l : List Int) (k : Nat) (h : k < l.length) : val (l.take (k + 1)) = val (l.take k) + l.getD k 0 * 65536 ^ k := by
  induction l generalizing k with
  | nil => simp at h
  | cons y l ih =>
    cases k with
    | zero => simp [val]
    | succ k =>
      simp only [List.take_succ_cons, val]
      rw [ih k (by simpa using h)]
      simp only [List.getD_cons_succ, Int.pow_succ]
      rw [Int.mul_add, Int.mul_comm 65536 (l.getD k 0 * 65536 ^ k), Int.mul_assoc]
      omega

/-- A number's four digits. -/
def four (a : Int) : List Int := [a % 65536, a / 65536 % 65536, a / 4294967296 % 65536, a / 281474976710656 % 65536]
theorem val_four (a : Int) (a0 : 0 ≤ a) (a1 : a ≤ 9223372036854775807) : val (four a) = a := by simp only [four, val]; omega
theorem four_get (a : Int) (j : Nat) : 0 ≤ (four a).getD j 0 ∧ (four a).getD j 0 < 65536 := by
  match j with
  | 0 => simp [four]; omega
  | 1 => simp [four]; omega
  | 2 => simp [four]; omega
  | 3 => simp [four]; omega
  | j + 4 => simp [four]

/-- What a round of product's inner loop does to the number. -/
theorem product_step (ys xs yd : List Int) (i k : Nat) (x y o : Int) (hi : i < xs.length) (hk : k < yd.length) (hl : i + k < ys.length)
    (hx : xs.getD i 0 = x) (hy : yd.getD k 0 = y) (ho : ys.getD (i + k) 0 = o)
    (hv : val ys = val (xs.take i) * val yd + x * 65536 ^ i * val (yd.take k)) :
    val (ys.set (i + k) (o + x * y)) = val (xs.take i) * val yd + x * 65536 ^ i * val (yd.take (k + 1)) := by
  rw [val_set _ _ _ hl, ho, hv, val_take yd k hk, hy]
  have e1 : o + x * y - o = x * y := by omega
  rw [e1, Int.mul_add, Int.pow_add]
  have e2 : x * y * (65536 ^ i * 65536 ^ k) = x * 65536 ^ i * (y * 65536 ^ k) := by
    rw [Int.mul_assoc x y, Int.mul_assoc x (65536 ^ i), Int.mul_left_comm y]
  rw [e2]
  omega

theorem Try.info2 : (Try.prog.info? 2).map (fun i => (i.zero, i.size, i.bytes)) = some (some (.int .i64 0), 1, 8) := by kernel_rfl

/-- make([]int64, 9). -/
theorem make9 (w : World) : (Instr.makeSlice 23 (.int .i64 9) (.int .i64 9)).run Try.prog w =
    .ok (.slice (some ⟨w.heap.size, 0, none⟩) 9 9) (w.alloc (.cells (([0, 0, 0, 0, 0, 0, 0, 0, 0] : List Int).map (Value.int .i64)).toArray 2)) := by
  obtain ⟨i, hi, hz0, hz1, hz2⟩ := info_parts Try.info2
  have h := run_make (P := Try.prog) w 23 2 i (.int .i64 0) Try.underlying23 hi hz0 .i64 .i64 9 9 (by decide) (by decide) (by rw [hz2]; decide) (by decide)
  have hc : madeCells #[Value.int .i64 0] 9 = (([0, 0, 0, 0, 0, 0, 0, 0, 0] : List Int).map (Value.int .i64)).toArray := by
    apply Array.toList_inj.mp
    rw [toList_madeCells_one]
    rfl
  rw [h, hz1, ← hc]
  rfl

set_option maxHeartbeats 4000000 in
theorem product_any (a b : Int) (a0 : 0 ≤ a) (a1 : a ≤ 9223372036854775807) (b0 : 0 ≤ b) (b1 : b ≤ 9223372036854775807) (w : World) :
    Calls Try.prog 17 #[.int .i64 a, .int .i64 b] w fun e w' => ∃ blk cap : Nat, e = .returned (.slice (some ⟨blk, 0, none⟩) 9 cap) ∧ w.heap.size ≤ blk ∧ Below w.heap.size w w' ∧
      ∃ ys : List Int, Blk w' blk ys ∧ ys.length = 9 ∧ val ys = a * b ∧ (∀ j, j < 8 → 0 ≤ ys.getD j 0 ∧ ys.getD j 0 < 65536) ∧ 0 ≤ ys.getD 8 0 ∧ ys.getD 8 0 ≤ 1099511627776 := by
  have hmk := make9
  go_enter Try.func17, Try.ntmps17
  go_wp2_with (first
    | (go_at_call 23; refine (digits_any a a0 a1 _).mono ?_; rintro e w' ⟨rfl, rfl⟩))
  have hA : Blk ((w.alloc (.cells ((four a).map (Value.int .i64)).toArray 2)).alloc (.cells (([0, 0, 0, 0, 0, 0, 0, 0, 0] : List Int).map (Value.int .i64)).toArray 2)) w.heap.size (four a) := (Blk.made w (four a)).alloc _
  have hO : Blk ((w.alloc (.cells ((four a).map (Value.int .i64)).toArray 2)).alloc (.cells (([0, 0, 0, 0, 0, 0, 0, 0, 0] : List Int).map (Value.int .i64)).toArray 2)) (w.heap.size + 1) [0, 0, 0, 0, 0, 0, 0, 0, 0] := by
    have h := Blk.made (w.alloc (.cells ((four a).map (Value.int .i64)).toArray 2)) [0, 0, 0, 0, 0, 0, 0, 0, 0]
    simpa using h
  have HA := show Hid _ from hA
  have HO := show Hid _ from hO
  clear hA hO hmk
  go_loopw [7] (fun s wr => ∃ (i : Nat) (ys : List Int), i ≤ 4 ∧ s = .int .i64 i ∧ Blk wr (w.heap.size + 1) ys ∧ Blk wr w.heap.size (four a) ∧ ys.length = 9 ∧ val ys = val ((four a).take i) * val (four b) ∧
      (∀ j, 0 ≤ ys.getD j 0 ∧ ys.getD j 0 ≤ (4 * i) * 4294967296) ∧ Below w.heap.size w wr) (fun s _ => 4 - (intOf s).toNat)
  case atStart =>
    refine ⟨0, [0, 0, 0, 0, 0, 0, 0, 0, 0], by omega, rfl, HO.out, HA.out, rfl, by simp [val], ?_, ((Below.refl _ _).alloc (Nat.le_refl _) _).alloc (by simp) _⟩
    intro j
    match j with
    | 0 | 1 | 2 | 3 | 4 | 5 | 6 | 7 | 8 => simp
    | j + 9 => simp
  case round =>
    clear HA HO
    obtain ⟨i, ys, hi, rfl, hbl, hxb, hyl, hv, hbd, hbel⟩ := hrel
    by_cases hlt : i < 4
    · obtain ⟨x, hx⟩ : ∃ x, (four a).getD i 0 = x := ⟨_, rfl⟩
      have xb := four_get a i
      rw [hx] at xb
      obtain ⟨x0, x1⟩ := xb
      have Hx : Hid ((four a).getD i 0 = x) := hx
      have Hi : Hid (Blk wr (w.heap.size + 1) ys ∧ Blk wr w.heap.size (four a) ∧ ys.length = 9 ∧ val ys = val ((four a).take i) * val (four b) ∧
        (∀ j, 0 ≤ ys.getD j 0 ∧ ys.getD j 0 ≤ (4 * i) * 4294967296) ∧ Below w.heap.size w wr) := ⟨hbl, hxb, hyl, hv, hbd, hbel⟩
      clear hbl hxb hyl hv hbd hbel hx
      have i1 : (i : Int) < 4 := by omega
      go_wp2
      go_loopw [8] (fun s wr => ∃ (k : Nat) (ys : List Int), k ≤ 4 ∧ s = .int .i64 k ∧ Blk wr (w.heap.size + 1) ys ∧ Blk wr w.heap.size (four a) ∧ ys.length = 9 ∧
          val ys = val ((four a).take i) * val (four b) + x * 65536 ^ i * val ((four b).take k) ∧
          (∀ j, 0 ≤ ys.getD j 0 ∧ ys.getD j 0 ≤ (4 * i + k) * 4294967296) ∧ Below w.heap.size w wr) (fun s _ => 4 - (intOf s).toNat)
      case atStart =>
        obtain ⟨hbl, hxb, hyl, hv, hbd, hbel⟩ := Hi.out
        exact ⟨0, ys, by omega, rfl, hbl, hxb, hyl, by rw [hv]; simp [val], fun j => by have := hbd j; omega, hbel⟩
      case round =>
        clear Hi
        obtain ⟨k, ys, hk, rfl, hbl, hxb, hyl, hv, hbd, hbel⟩ := hrel
        by_cases hlk : k < 4
        · have c0 := hbl.cell (i := i + k) (by omega)
          have f0 := hbl.free (i + k)
          have c1 := hxb.cell (i := i) (by simp [four]; omega)
          rw [Hx.out] at c1
          obtain ⟨o, ho⟩ : ∃ o, ys.getD (i + k) 0 = o := ⟨_, rfl⟩
          have ob := hbd (i + k)
          rw [ho] at c0 ob
          obtain ⟨ob0, ob1⟩ := ob
          obtain ⟨y, hyy⟩ : ∃ y, (four b).getD k 0 = y := ⟨_, rfl⟩
          have yb := four_get b k
          rw [hyy] at yb
          obtain ⟨y0, y1⟩ := yb
          obtain ⟨p, hp⟩ : ∃ p, x * y = p := ⟨_, rfl⟩
          have p0 : 0 ≤ p := by rw [← hp]; exact Int.mul_nonneg x0 y0
          have p1 : p ≤ 4294836225 := by
            have h := Int.mul_le_mul (show x ≤ 65535 by omega) (show y ≤ 65535 by omega) y0 (by decide : (0 : Int) ≤ 65535)
            omega
          have R : Hid (Blk wr (w.heap.size + 1) ys ∧ Blk wr w.heap.size (four a) ∧ ys.length = 9 ∧ val ys = val ((four a).take i) * val (four b) + x * 65536 ^ i * val ((four b).take k) ∧
            (∀ j, 0 ≤ ys.getD j 0 ∧ ys.getD j 0 ≤ (4 * i + k) * 4294967296) ∧ Below w.heap.size w wr ∧ (four a).getD i 0 = x ∧ (four b).getD k 0 = y ∧ ys.getD (i + k) 0 = o) := ⟨hbl, hxb, hyl, hv, hbd, hbel, Hx.out, hyy, ho⟩
          clear hbl hxb hyl hv hbd hbel ho
          have hk4 : k = 0 ∨ k = 1 ∨ k = 2 ∨ k = 3 := by omega
          have o1 : o ≤ 68719476736 := by omega
          clear ob1
          rcases hk4 with rfl | rfl | rfl | rfl
          · have hy : b % 65536 = y := hyy
            simp only [Nat.add_zero] at c0 f0
            have eY : bits .and .i64 (b) 65535 = y := (Ar.low16_i64 _).trans hy
            clear hy hyy
            go_wp2
            go_region
            all_goals go_wp2
            go_roundw
            case rel =>
              obtain ⟨hbl, hxb, hyl, hv, hbd, hbel, hx, hyy, ho⟩ := R.out
              refine ⟨0 + 1, ys.set (i + 0) (o + p), by omega, by go_num, hbl.set _ _, hxb.other (by simp) _, by simp [hyl], ?_, ?_, (hbel.setCell (p := ⟨w.heap.size + 1, i + 0, none⟩) (by simp) _).drew⟩
              · have h := product_step ys (four a) (four b) i 0 x y o (by simp [four]; omega) (by simp [four]) (by omega) hx hyy ho hv
                rw [hp] at h
                exact h
              · intro j
                by_cases e : j = i + 0
                · rw [e, getD_set_self _ _ _ (by omega)]; have := hbd (i + 0); rw [ho] at this; omega
                · rw [getD_set_ne _ _ _ _ (by omega)]; have := hbd j; omega
            case measure => simp [intOf]
          · have hy : b / 65536 % 65536 = y := hyy
            have eY : bits .and .i64 (b / 65536) 65535 = y := (Ar.low16_i64 _).trans hy
            clear hy hyy
            go_wp2
            go_region
            all_goals go_wp2
            go_roundw
            case rel =>
              obtain ⟨hbl, hxb, hyl, hv, hbd, hbel, hx, hyy, ho⟩ := R.out
              refine ⟨1 + 1, ys.set (i + 1) (o + p), by omega, by go_num, hbl.set _ _, hxb.other (by simp) _, by simp [hyl], ?_, ?_, (hbel.setCell (p := ⟨w.heap.size + 1, i + 1, none⟩) (by simp) _).drew⟩
              · have h := product_step ys (four a) (four b) i 1 x y o (by simp [four]; omega) (by simp [four]) (by omega) hx hyy ho hv
                rw [hp] at h
                exact h
              · intro j
                by_cases e : j = i + 1
                · rw [e, getD_set_self _ _ _ (by omega)]; have := hbd (i + 1); rw [ho] at this; omega
                · rw [getD_set_ne _ _ _ _ (by omega)]; have := hbd j; omega
            case measure => simp [intOf]
          · have hy : b / 4294967296 % 65536 = y := hyy
            have eY : bits .and .i64 (b / 4294967296) 65535 = y := (Ar.low16_i64 _).trans hy
            clear hy hyy
            go_wp2
            go_region
            all_goals go_wp2
            go_roundw
            case rel =>
              obtain ⟨hbl, hxb, hyl, hv, hbd, hbel, hx, hyy, ho⟩ := R.out
              refine ⟨2 + 1, ys.set (i + 2) (o + p), by omega, by go_num, hbl.set _ _, hxb.other (by simp) _, by simp [hyl], ?_, ?_, (hbel.setCell (p := ⟨w.heap.size + 1, i + 2, none⟩) (by simp) _).drew⟩
              · have h := product_step ys (four a) (four b) i 2 x y o (by simp [four]; omega) (by simp [four]) (by omega) hx hyy ho hv
                rw [hp] at h
                exact h
              · intro j
                by_cases e : j = i + 2
                · rw [e, getD_set_self _ _ _ (by omega)]; have := hbd (i + 2); rw [ho] at this; omega
                · rw [getD_set_ne _ _ _ _ (by omega)]; have := hbd j; omega
            case measure => simp [intOf]
          · have hy : b / 281474976710656 % 65536 = y := hyy
            have eY : bits .and .i64 (b / 281474976710656) 65535 = y := (Ar.low16_i64 _).trans hy
            clear hy hyy
            go_wp2
            go_region
            all_goals go_wp2
            go_roundw
            case rel =>
              obtain ⟨hbl, hxb, hyl, hv, hbd, hbel, hx, hyy, ho⟩ := R.out
              refine ⟨3 + 1, ys.set (i + 3) (o + p), by omega, by go_num, hbl.set _ _, hxb.other (by simp) _, by simp [hyl], ?_, ?_, (hbel.setCell (p := ⟨w.heap.size + 1, i + 3, none⟩) (by simp) _).drew⟩
              · have h := product_step ys (four a) (four b) i 3 x y o (by simp [four]; omega) (by simp [four]) (by omega) hx hyy ho hv
                rw [hp] at h
                exact h
              · intro j
                by_cases e : j = i + 3
                · rw [e, getD_set_self _ _ _ (by omega)]; have := hbd (i + 3); rw [ho] at this; omega
                · rw [getD_set_ne _ _ _ _ (by omega)]; have := hbd j; omega
            case measure => simp [intOf]
        · obtain rfl : k = 4 := by omega
          have Hv : Hid (val ys = val ((four a).take (i + 1)) * val (four b)) := by
            show _ = _
            rw [hv, val_take (four a) i (by simp [four]; omega), Hx.out, show (four b).take 4 = four b from rfl, Int.add_mul]
          have R : Hid (Blk wr (w.heap.size + 1) ys ∧ Blk wr w.heap.size (four a) ∧ ys.length = 9 ∧ (∀ j, 0 ≤ ys.getD j 0 ∧ ys.getD j 0 ≤ (4 * i + (4 : Nat)) * 4294967296) ∧ Below w.heap.size w wr) := ⟨hbl, hxb, hyl, hbd, hbel⟩
          clear hbl hxb hyl hv hbd hbel
          go_wp2
          go_roundw
          case rel =>
            obtain ⟨hbl, hxb, hyl, hbd, hbel⟩ := R.out
            exact ⟨i + 1, ys, by omega, by go_num, hbl, hxb, hyl, Hv.out, fun j => by have := hbd j; omega, hbel⟩
          case measure => simp [intOf]; omega
    · obtain rfl : i = 4 := by omega
      have hv' : val ys = a * b := by rw [hv, show (four a).take 4 = four a from rfl, val_four a a0 a1, val_four b b0 b1]
      have C := carried_any (w.heap.size + 1) 9 w.heap.size ys 68719476736 (by decide) hyl (fun j => by have := hbd j; omega) wr hbl (by omega)
      have Hv : Hid (val ys = a * b) := hv'
      have Hbel : Hid (Below w.heap.size w wr) := hbel
      have HC : Hid (Calls Try.prog 24 #[.slice (some ⟨w.heap.size + 1, 0, none⟩) 9 9] wr fun e w' => e = .returned (.slice (some ⟨w.heap.size + 1, 0, none⟩) 9 9) ∧ Below w.heap.size wr w' ∧ w'.heap.size = wr.heap.size ∧
        ∃ xs : List Int, Blk w' (w.heap.size + 1) xs ∧ xs.length = 9 ∧ val xs = val ys ∧ (∀ j, j < 8 → 0 ≤ xs.getD j 0 ∧ xs.getD j 0 < 65536) ∧ 0 ≤ xs.getD 8 0 ∧ xs.getD 8 0 ≤ 2 * 68719476736) := C
      clear hbl hxb hyl hv hv' hbd hbel C
      go_wp2_with (go_at_call 24; refine (HC.out).mono ?_; rintro e w' ⟨rfl, bel, hsz, xs, X1, X2, X3, X4, X5, X6⟩)
      go_ret
      exact ⟨w.heap.size + 1, 9, rfl, by omega, Hbel.out.trans bel, xs, X1, X2, X3.trans Hv.out, X4, X5, by omega⟩

/-! ### Worth -/
set_option maxHeartbeats 1000000 in
theorem refWorth_no (p m c : Int) (h : ¬ (0 ≤ p ∧ 0 ≤ m ∧ 0 ≤ c ∧ c ≤ 10000)) (w : World) :
    Calls Try.prog 13 #[.int .i64 p, .int .i64 m, .int .i64 c] w fun e w' => e = .returned (.tuple #[.int .i64 0, .bool false]) ∧ w' = w := by
  by_cases h1 : p < 0
  · clear h
    go_enter Try.func13, Try.ntmps13
    go_wp2
    go_ret2
    exact ⟨rfl, rfl⟩
  by_cases h2 : m < 0
  · clear h
    go_enter Try.func13, Try.ntmps13
    go_wp2
    go_ret2
    exact ⟨rfl, rfl⟩
  by_cases h3 : c < 0
  · clear h
    go_enter Try.func13, Try.ntmps13
    go_wp2
    go_ret2
    exact ⟨rfl, rfl⟩
  · have h4 : 10000 < c := by omega
    clear h
    go_enter Try.func13, Try.ntmps13
    go_wp2
    go_ret2
    exact ⟨rfl, rfl⟩

/-- The highest digit is no greater than the number allows. -/
theorem top_digit (ys : List Int) (hl : ys.length = 9) (hd : ∀ j, j < 8 → 0 ≤ ys.getD j 0 ∧ ys.getD j 0 < 65536) (h8 : 0 ≤ ys.getD 8 0) (hv : val ys < 22300745198530623141535718272648361505980416) : ∀ j, j < 9 → 0 ≤ ys.getD j 0 ∧ ys.getD j 0 < 65536 := by
  intro j hj
  by_cases e : j < 8
  · exact hd j e
  · obtain rfl : j = 8 := by omega
    refine ⟨h8, ?_⟩
    match ys, hl with
    | [y0, y1, y2, y3, y4, y5, y6, y7, y8], _ =>
      have d0 := hd 0 (by omega); have d1 := hd 1 (by omega); have d2 := hd 2 (by omega); have d3 := hd 3 (by omega); have d4 := hd 4 (by omega)
      have d5 := hd 5 (by omega); have d6 := hd 6 (by omega); have d7 := hd 7 (by omega)
      simp at d0 d1 d2 d3 d4 d5 d6 d7
      simp only [val] at hv
      simp
      omega

set_option maxHeartbeats 2000000 in
theorem refWorth_yes (p m c : Int) (h1 : 0 ≤ p) (p1 : p ≤ 9223372036854775807) (h2 : 0 ≤ m) (m1 : m ≤ 9223372036854775807) (h3 : 0 ≤ c) (h4 : c ≤ 10000) (w : World) :
    Calls Try.prog 13 #[.int .i64 p, .int .i64 m, .int .i64 c] w fun e w' =>
      e = .returned (.tuple #[.int .i64 (heldV (p * m * (10000 - c) / 10000)), .bool (heldB (p * m * (10000 - c) / 10000))]) ∧ Below w.heap.size w w' := by
  go_enter Try.func13, Try.ntmps13
  go_wp2_with fail
  refine (product_any p m h1 p1 h2 m1 _).mono ?_
  rintro e w1 ⟨blk, cap, rfl, hblk, bel1, ys, Y1, Y2, Y3, Y4, Y5, Y6⟩
  have T := times_any blk cap w.heap.size ys (10000 - c) 1099511627776 (by omega) (by omega) (by decide) Y2 (fun j => by
    by_cases e : j < 8
    · have := Y4 j e; omega
    · by_cases e : j = 8
      · subst e; omega
      · simp [List.getD_eq_getElem?_getD, show ys.length ≤ j by omega]) w1 Y1 hblk
  have Hbel : Hid (Below w.heap.size w w1) := bel1
  have HV : Hid (val ys = p * m) := Y3
  clear Y1 Y2 Y3 Y4 Y5 Y6 bel1
  go_wp2_with fail
  refine T.mono ?_
  rintro e w2 ⟨rfl, bel2, hsz2, xs, X1, X2, X3, X4, X5, X6⟩
  have hpm : p * m ≤ 9223372036854775807 * 9223372036854775807 := Int.mul_le_mul p1 m1 h2 (by decide)
  have hpmc : p * m * (10000 - c) ≤ 9223372036854775807 * 9223372036854775807 * 10000 := Int.mul_le_mul hpm (by omega) (by omega) (by decide)
  have hX : val xs = p * m * (10000 - c) := by rw [X3, HV.out]
  have Bq := by_any blk cap w.heap.size xs X2 (top_digit xs X2 X4 X5 (by rw [hX]; omega)) w2 X1 hblk
  rw [hX] at Bq
  have Hbel2 : Hid (Below w.heap.size w1 w2) := bel2
  clear X1 X2 X3 X4 X5 X6 hpm hpmc hX bel2 T HV hsz2
  go_wp2_with fail
  refine Bq.mono ?_
  rintro e w3 ⟨rfl, bel3⟩
  go_wp2
  go_ret2
  exact ⟨rfl, (Hbel.out.trans Hbel2.out).trans bel3⟩

/-- The reference's Worth. -/
theorem refWorth_any (p m c : Int) (p1 : p ≤ 9223372036854775807) (m1 : m ≤ 9223372036854775807) (w : World) :
    Calls Try.prog 13 #[.int .i64 p, .int .i64 m, .int .i64 c] w fun e w' => e = .returned (.tuple #[.int .i64 (worthV p m c), .bool (worthB p m c)]) ∧ Below w.heap.size w w' := by
  by_cases h : 0 ≤ p ∧ 0 ≤ m ∧ 0 ≤ c ∧ c ≤ 10000
  · obtain ⟨h1, h2, h3, h4⟩ := h
    rw [worthV_yes h1 h2 h3 h4, worthB_yes h1 h2 h3 h4]
    exact refWorth_yes p m c h1 p1 h2 m1 h3 h4 w
  · rw [worthV_no h, worthB_no h]
    refine (refWorth_no p m c h w).mono ?_
    rintro e w' ⟨rfl, rfl⟩
    exact ⟨rfl, Below.refl _ _⟩

end Go.Proofs.Ytbnhpehobadebaa
