/-
  acct: Room, Kept, become, In, Out.
-/
import Derived.Test.YtnmldnokoihajaaAcctIs
namespace Go.Proofs.Ytnmldnokoihajaa
open Go.RowKit
set_option linter.unusedVariables false
set_option linter.unusedSimpArgs false

/-- An account that lies at g by itself. -/
def Acc (w : World) (g : Nat) (b c r : Int) : Prop := w.heap[g]? = some (.cells #[.int .i64 b, .int .i64 c, .int .i64 r] 23 (0, 0))

theorem Acc.at3 {w : World} {g : Nat} {b c r : Int} (h : Acc w g b c r) : At3 w g b c r := ⟨cell_of_row w g 0 _ _ _ h, cell_of_row w g 1 _ _ _ h, cell_of_row w g 2 _ _ _ h⟩
theorem Acc.below {w w' : World} {g : Nat} {b c r : Int} (h : Acc w g b c r) (hb : Below w.heap.size w w') : Acc w' g b c r := by
  unfold Acc; rw [hb.block g h.at3.lt]; exact h
theorem Acc.new (w : World) (b c r : Int) : Acc (w.alloc (.cells #[.int .i64 b, .int .i64 c, .int .i64 r] 23)) w.heap.size b c r := heap_alloc_new w _
theorem Acc.set {w : World} {g : Nat} {b c r : Int} (h : Acc w g b c r) (x y z : Int) : Acc (w.setRow g #[.int .i64 x, .int .i64 y, .int .i64 z]) g x y z := setRow_heap w g _ _ _ _ h
theorem Acc.far {w : World} {g k : Nat} {b c r : Int} (h : Acc w g b c r) (hk : g ≠ k) (cs : Array Value) : Acc (w.setRow k cs) g b c r := by unfold Acc; rw [setRow_other _ _ _ _ hk]; exact h
theorem acctSize : (Try.prog.info? 23).map (·.size) = some 3 := by kernel_rfl

/-- An account is laid over another one. -/
theorem store_acct {ops : Array Oper} {rest : List Oper} {o : Oper} {a : Act} {w : World} {Q : Exit → Act → World → Prop} (hgd : o.guard = none) (x y : Operand) (ho : o.op = .store 23 x y)
    (g : Nat) (b c r : Int) (hx : a.eval x = .pointer (some ⟨g, 0, none⟩)) (hy : a.eval y = .agg #[.int .i64 b, .int .i64 c, .int .i64 r])
    (b0 c0 r0 : Int) (hg : Acc w g b0 c0 r0)
    (h : wpList Try.prog ops Q rest (a.put o.dst undef) (w.setRow g #[.int .i64 b, .int .i64 c, .int .i64 r])) : wpList Try.prog ops Q (o :: rest) a w :=
  wpList_store_row hgd 23 x y ho g _ hx hy _ _ hg acctSize (by simp) (by simp [Value.oneCell']) h

/-- How much a payment of a class may take; what of a reserve is kept. -/
def roomV (b c r k : Int) : Int := if k = 3 then b + c - r else b + c
def keptV (r n : Int) : Int := if r ≤ n then 0 else r - n

theorem room_normal {b c r : Int} : b + c - r = roomV b c r 3 := by simp [roomV]
theorem room_other {b c r k : Int} (h : ¬ k = 3) : b + c = roomV b c r k := by simp [roomV, h]
theorem kept_none {r n : Int} (h : r ≤ n) : 0 = keptV r n := by simp [keptV, h]
theorem kept_some {r n : Int} (h : n < r) : r - n = keptV r n := by unfold keptV; rw [if_neg (by omega)]
theorem keptV_range {r n : Int} (hr : 0 ≤ r) (hn : 0 ≤ n) : 0 ≤ keptV r n ∧ keptV r n ≤ r := by unfold keptV; split <;> omega

set_option maxHeartbeats 1000000 in
theorem room_any (b c r k : Int) (h : acctB b c r = true) (w : World) : Calls Try.prog 14 #[.agg #[.int .i64 b, .int .i64 c, .int .i64 r], .int .i64 k] w fun e w' => e = .returned (.int .i64 (roomV b c r k)) ∧ Below w.heap.size w w' := by
  obtain ⟨b0, b1, c0, c1, r0, r1⟩ := acctB_yes.1 h
  have A := add_any b c (by omega) (by omega) (by omega) (by omega)
  have L := aless_any (b + c) r (by omega) (by omega) (by omega) (by omega)
  rw [heldV_yes (by omega) (by omega), heldB_yes (by omega) (by omega)] at A L
  clear h b0 b1 c0 c1 r0 r1
  by_cases hk : k = 3
  · subst hk
    go_enter Try.func14, Try.ntmps14
    go_wp2_with fail
    go_at_call 19
    refine (A _).mono ?_
    rintro e w1 ⟨rfl, hb1⟩
    have R1 : Hid (Acc w1 w.heap.size b c r) := (Acc.new w b c r).below hb1
    have B1 : Hid (Below w.heap.size w w1) := (box_below _ _).trans (hb1.mono (box_below _ _).size)
    obtain ⟨p0, p1, p2⟩ := R1.out.at3
    clear hb1 A
    go_wp2_with fail
    go_at_call 22
    refine (L _).mono ?_
    rintro e w2 ⟨rfl, hb2⟩
    have B2 : Hid (Below w.heap.size w w2) := B1.out.trans (hb2.mono B1.out.size)
    clear hb2 L p0 p1 p2
    go_wp2
    go_ret
    exact ⟨rt_int room_normal, B2.out⟩
  · have hk' : (k == 3) = false := by simpa using hk
    have HK : Hid (¬ k = 3) := hk
    clear L
    go_enter Try.func14, Try.ntmps14
    go_wp2_with fail
    go_at_call 19
    refine (A _).mono ?_
    rintro e w1 ⟨rfl, hb1⟩
    have B1 : Hid (Below w.heap.size w w1) := (box_below _ _).trans (hb1.mono (box_below _ _).size)
    clear hb1 A
    go_wp2
    go_ret
    exact ⟨rt_int (room_other HK.out), B1.out⟩

set_option maxHeartbeats 1000000 in
theorem kept_any (b c r n : Int) (r0 : 0 ≤ r) (r1 : r ≤ 9223372036854775807) (n0 : 0 ≤ n) (n1 : n ≤ 9223372036854775807) (w : World) :
    Calls Try.prog 16 #[.agg #[.int .i64 b, .int .i64 c, .int .i64 r], .int .i64 n] w fun e w' => e = .returned (.int .i64 (keptV r n)) ∧ Below w.heap.size w w' := by
  have L := aless_any r n (by omega) (by omega) (by omega) (by omega)
  rw [heldV_yes (by omega) (by omega), heldB_yes (by omega) (by omega)] at L
  obtain ⟨d, hd⟩ : ∃ d, r - n = d := ⟨_, rfl⟩
  rw [hd] at L
  have HD : Hid (r - n = d) := hd
  rcases Int.lt_or_le d 0 with h | h
  · have K : Hid (0 = keptV r n) := kept_none (by omega)
    clear r0 r1 n0 n1 hd
    go_enter Try.func16, Try.ntmps16
    go_wp2_with fail
    go_at_call 22
    refine (L _).mono ?_
    rintro e w1 ⟨rfl, hb1⟩
    have B1 : Hid (Below w.heap.size w w1) := (box_below _ _).trans (hb1.mono (box_below _ _).size)
    clear hb1 L
    go_wp2
    go_ret
    exact ⟨rt_int K.out, B1.out⟩
  · have K : Hid (d = keptV r n) := by
      show d = keptV r n
      unfold keptV
      split <;> omega
    clear r0 r1 n0 n1 hd
    go_enter Try.func16, Try.ntmps16
    go_wp2_with fail
    go_at_call 22
    refine (L _).mono ?_
    rintro e w1 ⟨rfl, hb1⟩
    have B1 : Hid (Below w.heap.size w w1) := (box_below _ _).trans (hb1.mono (box_below _ _).size)
    clear hb1 L
    go_wp2
    go_ret
    exact ⟨rt_int K.out, B1.out⟩

/-- An account and an error are answered. -/
def AccEnd (w : World) (b c r er : Int) (e : Ending) (w' : World) : Prop := e = .returned (.tuple #[.agg #[.int .i64 b, .int .i64 c, .int .i64 r], .int .i64 er]) ∧ Below w.heap.size w w'

/-- Two accounts, three, laid one behind the other. -/
theorem acc2 (w : World) (b c r x y z : Int) : let u := (w.alloc (.cells #[.int .i64 b, .int .i64 c, .int .i64 r] 23)).alloc (.cells #[.int .i64 x, .int .i64 y, .int .i64 z] 23)
    Acc u w.heap.size b c r ∧ Acc u (w.heap.size + 1) x y z ∧ Below w.heap.size w u := by
  refine ⟨(Acc.new w b c r).below (box_below _ _), ?_, (box_below _ _).alloc (by simp) _⟩
  have := Acc.new (w.alloc (.cells #[.int .i64 b, .int .i64 c, .int .i64 r] 23)) x y z
  rw [size_alloc] at this
  exact this
theorem acc3 (w : World) (b c r x y z i j k : Int) : let u := ((w.alloc (.cells #[.int .i64 b, .int .i64 c, .int .i64 r] 23)).alloc (.cells #[.int .i64 x, .int .i64 y, .int .i64 z] 23)).alloc (.cells #[.int .i64 i, .int .i64 j, .int .i64 k] 23)
    Acc u w.heap.size b c r ∧ Acc u (w.heap.size + 1) x y z ∧ Acc u (w.heap.size + 1 + 1) i j k ∧ Below w.heap.size w u := by
  obtain ⟨h1, h2, h3⟩ := acc2 w b c r x y z
  refine ⟨h1.below (box_below _ _), h2.below (box_below _ _), ?_, h3.alloc (by simp; omega) _⟩
  have := Acc.new ((w.alloc (.cells #[.int .i64 b, .int .i64 c, .int .i64 r] 23)).alloc (.cells #[.int .i64 x, .int .i64 y, .int .i64 z] 23)) i j k
  rw [size_alloc, size_alloc] at this
  exact this

set_option maxHeartbeats 2000000 in
theorem become_any (b c r x y z : Int) (held : Bool) (w : World) :
    Calls Try.prog 20 #[.agg #[.int .i64 b, .int .i64 c, .int .i64 r], .agg #[.int .i64 x, .int .i64 y, .int .i64 z], .bool held] w
      (AccEnd w (cond (held && acctB x y z) x b) (cond (held && acctB x y z) y c) (cond (held && acctB x y z) z r) (cond (held && acctB x y z) 0 8)) := by
  have I := acctIs_any x y z
  generalize acctB x y z = v at I ⊢
  cases held
  · clear I
    go_enter Try.func20, Try.ntmps20
    go_wp2
    exact bodyPost_ret (v := .tuple #[.agg #[.int .i64 b, .int .i64 c, .int .i64 r], .int .i64 8]) (by simp [results, Try.results20, go_sem]) rfl ⟨rfl, (acc3 _ _ _ _ _ _ _ _ _ _).2.2.2⟩
  · go_enter Try.func20, Try.ntmps20
    go_wp2_with fail
    go_at_call 8
    refine (I _).mono ?_
    rintro e w1 ⟨rfl, hb1⟩
    obtain ⟨h1, h2, h3, h4⟩ := acc3 w b c r x y z 0 0 0
    have B1 : Hid (Below w.heap.size w w1) := h4.trans (hb1.mono h4.size)
    have R3 : Hid (Acc w1 (w.heap.size + 1 + 1) 0 0 0) := h3.below hb1
    obtain ⟨p0, p1, p2⟩ := (h1.below hb1).at3
    obtain ⟨q0, q1, q2⟩ := (h2.below hb1).at3
    clear hb1 h1 h2 h3 h4 I
    cases v
    · go_wp2_with (refine store_acct rfl _ _ rfl (w.heap.size + 1 + 1) b c r rfl rfl _ _ _ R3.out ?_)
      obtain ⟨d0, d1, d2⟩ := (R3.out.set b c r).at3
      have B2 := Below.setRow B1.out (g := w.heap.size + 1 + 1) (by omega) #[.int .i64 b, .int .i64 c, .int .i64 r]
      generalize w1.setRow (w.heap.size + 1 + 1) #[.int .i64 b, .int .i64 c, .int .i64 r] = w2 at *
      exact bodyPost_ret (v := .tuple #[.agg #[.int .i64 b, .int .i64 c, .int .i64 r], .int .i64 8]) (by simp [results, Try.results20, d0, d1, d2, go_sem]) rfl ⟨rfl, B2⟩
    · go_wp2_with (refine store_acct rfl _ _ rfl (w.heap.size + 1 + 1) x y z rfl rfl _ _ _ R3.out ?_)
      obtain ⟨d0, d1, d2⟩ := (R3.out.set x y z).at3
      have B2 := Below.setRow B1.out (g := w.heap.size + 1 + 1) (by omega) #[.int .i64 x, .int .i64 y, .int .i64 z]
      generalize w1.setRow (w.heap.size + 1 + 1) #[.int .i64 x, .int .i64 y, .int .i64 z] = w2 at *
      exact bodyPost_ret (v := .tuple #[.agg #[.int .i64 x, .int .i64 y, .int .i64 z], .int .i64 0]) (by simp [results, Try.results20, d0, d1, d2, go_sem]) rfl ⟨rfl, B2⟩

theorem held_acct {t c r : Int} (hc : setB c = true) (hr : setB r = true) : (heldB t && acctB (heldV t) c r) = balB t := by
  unfold acctB
  rw [hc, hr]
  by_cases h : -9223372036854775808 ≤ t ∧ t ≤ 9223372036854775807
  · rw [heldB_yes h.1 h.2, heldV_yes h.1 h.2]; simp
  · have e : balB t = false := by unfold balB; rw [decide_eq_false_iff_not]; omega
    rw [heldB_no h, e]
    rfl
theorem held_cond {t b : Int} : cond (balB t) (heldV t) b = cond (balB t) t b := by
  cases h : balB t
  · rfl
  · unfold balB at h
    rw [decide_eq_true_iff] at h
    rw [heldV_yes (by omega) (by omega)]
theorem cond_same {α : Type} (q : Bool) (a : α) : cond q a a = a := by cases q <;> rfl
theorem acctB_sets {b c r : Int} (h : acctB b c r = true) : setB c = true ∧ setB r = true := by
  simp only [acctB, Bool.and_eq_true] at h; exact h.2
theorem setB_of {n : Int} (h0 : 0 ≤ n) (h1 : n ≤ 2305843009213693952) : setB n = true := decide_eq_true ⟨h0, h1⟩

set_option maxHeartbeats 2000000 in
theorem accIn_any (b c r n : Int) (h : acctB b c r = true) (n0 : -9223372036854775808 ≤ n) (n1 : n ≤ 9223372036854775807) (w : World) :
    Calls Try.prog 10 #[.agg #[.int .i64 b, .int .i64 c, .int .i64 r], .int .i64 n] w (AccEnd w (cond (balB (b + n)) (b + n) b) c r (cond (balB (b + n)) 0 8)) := by
  obtain ⟨b0, b1, c0, c1, r0, r1⟩ := acctB_yes.1 h
  have A := add_any b n (by omega) (by omega) n0 n1
  have J := fun w => become_any b c r (heldV (b + n)) c r (heldB (b + n)) w
  rw [held_acct (acctB_sets h).1 (acctB_sets h).2, held_cond, cond_same, cond_same] at J
  generalize heldV (b + n) = s at A J
  generalize heldB (b + n) = q at A J
  generalize cond (balB (b + n)) (b + n) b = x at J ⊢
  generalize cond (balB (b + n)) (0 : Int) 8 = er at J ⊢
  clear h b0 b1 c0 c1 r0 r1 n0 n1
  go_enter Try.func10, Try.ntmps10
  go_wp2_with fail
  go_at_call 19
  refine (A _).mono ?_
  rintro e w1 ⟨rfl, hb1⟩
  obtain ⟨h1, h2, h3⟩ := acc2 w b c r 0 0 0
  have B1 : Hid (Below w.heap.size w w1) := h3.trans (hb1.mono h3.size)
  have R1 : Hid (Acc w1 (w.heap.size + 1) 0 0 0) := h2.below hb1
  obtain ⟨p0, p1, p2⟩ := (h1.below hb1).at3
  clear hb1 h1 h2 h3 A
  go_wp2_with fail
  go_at_call 20
  refine (J _).mono ?_
  rintro e w2 ⟨rfl, hb2⟩
  have B2 : Hid (Below w.heap.size w w2) := B1.out.trans (hb2.mono B1.out.size)
  have R2 : Hid (Acc w2 (w.heap.size + 1) 0 0 0) := R1.out.below hb2
  clear hb2 J B1 R1 p0 p1 p2
  go_wp2_with (refine store_acct rfl _ _ rfl (w.heap.size + 1) x c r rfl rfl _ _ _ R2.out ?_)
  obtain ⟨d0, d1, d2⟩ := (R2.out.set x c r).at3
  have B3 := Below.setRow B2.out (g := w.heap.size + 1) (by omega) #[.int .i64 x, .int .i64 c, .int .i64 r]
  generalize w2.setRow (w.heap.size + 1) #[.int .i64 x, .int .i64 c, .int .i64 r] = w3 at *
  exact bodyPost_ret (v := .tuple #[.agg #[.int .i64 x, .int .i64 c, .int .i64 r], .int .i64 er]) (by simp [results, Try.results10, d0, d1, d2, go_sem]) rfl ⟨rfl, B3⟩

/-- What a reserve is, behind a payment of a class. -/
def outR (r n k : Int) : Int := if k = 1 ∨ k = 2 then keptV r n else r

theorem outR_range {r n : Int} (k : Int) (hr : 0 ≤ r) (hn : 0 ≤ n) : 0 ≤ outR r n k ∧ outR r n k ≤ r := by
  unfold outR
  split
  · exact keptV_range hr hn
  · omega

set_option maxHeartbeats 4000000 in
/-- Out, but for the reserve. -/
theorem accOut_rest (b c r n k R : Int) (h : acctB b c r = true) (n0 : 0 ≤ n) (n1 : n ≤ 9223372036854775807) (hR : setB R = true)
    (HR : (R = r ∧ k ≠ 1 ∧ k ≠ 2) ∨ ((k = 1 ∨ k = 2) ∧ ∀ w, Calls Try.prog 16 #[.agg #[.int .i64 b, .int .i64 c, .int .i64 r], .int .i64 n] w fun e w' => e = .returned (.int .i64 R) ∧ Below w.heap.size w w')) (w : World) :
    Calls Try.prog 12 #[.agg #[.int .i64 b, .int .i64 c, .int .i64 r], .int .i64 n, .int .i64 k] w (AccEnd w (cond (balB (b - n)) (b - n) b) c (cond (balB (b - n)) R r) (cond (balB (b - n)) 0 8)) := by
  obtain ⟨b0, b1, c0, c1, r0, r1⟩ := acctB_yes.1 h
  have A := aless_any b n (by omega) (by omega) (by omega) n1
  have J := fun w => become_any b c r (heldV (b - n)) c R (heldB (b - n)) w
  rw [held_acct (acctB_sets h).1 hR, held_cond, cond_same] at J
  generalize heldV (b - n) = s at A J
  generalize heldB (b - n) = q at A J
  generalize cond (balB (b - n)) (b - n) b = x at J ⊢
  generalize cond (balB (b - n)) R r = y at J ⊢
  generalize cond (balB (b - n)) (0 : Int) 8 = er at J ⊢
  clear h b0 b1 c0 c1 r0 r1 n0 n1 hR
  obtain ⟨h1, h2, h3⟩ := acc2 w b c r 0 0 0
  rcases HR with ⟨rfl, k1, k2⟩ | ⟨hk, K⟩
  · have k1' : (k == 1) = false := by simpa using k1
    have k2' : (k == 2) = false := by simpa using k2
    clear k1 k2
    go_enter Try.func12, Try.ntmps12
    go_wp2_with fail
    go_at_call 22
    refine (A _).mono ?_
    rintro e w1 ⟨rfl, hb1⟩
    have B1 : Hid (Below w.heap.size w w1) := h3.trans (hb1.mono h3.size)
    have R1 : Hid (Acc w1 (w.heap.size + 1) 0 0 0) := h2.below hb1
    obtain ⟨p0, p1, p2⟩ := (h1.below hb1).at3
    clear hb1 h1 h2 h3 A
    go_wp2_with fail
    go_at_call 20
    refine (J _).mono ?_
    rintro e w2 ⟨rfl, hb2⟩
    have B2 : Hid (Below w.heap.size w w2) := B1.out.trans (hb2.mono B1.out.size)
    have R2 : Hid (Acc w2 (w.heap.size + 1) 0 0 0) := R1.out.below hb2
    clear hb2 J B1 R1 p0 p1 p2
    go_wp2_with (refine store_acct rfl _ _ rfl (w.heap.size + 1) x c y rfl rfl _ _ _ R2.out ?_)
    obtain ⟨d0, d1, d2⟩ := (R2.out.set x c y).at3
    have B3 := Below.setRow B2.out (g := w.heap.size + 1) (by omega) #[.int .i64 x, .int .i64 c, .int .i64 y]
    generalize w2.setRow (w.heap.size + 1) #[.int .i64 x, .int .i64 c, .int .i64 y] = w3 at *
    exact bodyPost_ret (v := .tuple #[.agg #[.int .i64 x, .int .i64 c, .int .i64 y], .int .i64 er]) (by simp [results, Try.results12, d0, d1, d2, go_sem]) rfl ⟨rfl, B3⟩
  · rcases hk with rfl | rfl
    all_goals
      go_enter Try.func12, Try.ntmps12
      go_wp2_with fail
      go_at_call 16
      refine (K _).mono ?_
      rintro e w0 ⟨rfl, hb0⟩
      have B0 : Hid (Below w.heap.size w w0) := h3.trans (hb0.mono h3.size)
      have R0 : Hid (Acc w0 (w.heap.size + 1) 0 0 0) := h2.below hb0
      have Q0 : Hid (Acc w0 w.heap.size b c r) := h1.below hb0
      obtain ⟨o0, o1, o2⟩ := Q0.out.at3
      clear hb0 h1 h2 h3 K
      go_wp2_with fail
      go_at_call 22
      refine (A _).mono ?_
      rintro e w1 ⟨rfl, hb1⟩
      have B1 : Hid (Below w.heap.size w w1) := B0.out.trans (hb1.mono B0.out.size)
      have R1 : Hid (Acc w1 (w.heap.size + 1) 0 0 0) := R0.out.below hb1
      obtain ⟨p0, p1, p2⟩ := (Q0.out.below hb1).at3
      clear hb1 A B0 R0 Q0 o0 o1 o2
      go_wp2_with fail
      go_at_call 20
      refine (J _).mono ?_
      rintro e w2 ⟨rfl, hb2⟩
      have B2 : Hid (Below w.heap.size w w2) := B1.out.trans (hb2.mono B1.out.size)
      have R2 : Hid (Acc w2 (w.heap.size + 1) 0 0 0) := R1.out.below hb2
      clear hb2 J B1 R1 p0 p1 p2
      go_wp2_with (refine store_acct rfl _ _ rfl (w.heap.size + 1) x c y rfl rfl _ _ _ R2.out ?_)
      obtain ⟨d0, d1, d2⟩ := (R2.out.set x c y).at3
      have B3 := Below.setRow B2.out (g := w.heap.size + 1) (by omega) #[.int .i64 x, .int .i64 c, .int .i64 y]
      generalize w2.setRow (w.heap.size + 1) #[.int .i64 x, .int .i64 c, .int .i64 y] = w3 at *
      exact bodyPost_ret (v := .tuple #[.agg #[.int .i64 x, .int .i64 c, .int .i64 y], .int .i64 er]) (by simp [results, Try.results12, d0, d1, d2, go_sem]) rfl ⟨rfl, B3⟩

theorem accOut_any (b c r n k : Int) (h : acctB b c r = true) (n0 : 0 ≤ n) (n1 : n ≤ 9223372036854775807) (w : World) :
    Calls Try.prog 12 #[.agg #[.int .i64 b, .int .i64 c, .int .i64 r], .int .i64 n, .int .i64 k] w (AccEnd w (cond (balB (b - n)) (b - n) b) c (cond (balB (b - n)) (outR r n k) r) (cond (balB (b - n)) 0 8)) := by
  obtain ⟨b0, b1, c0, c1, r0, r1⟩ := acctB_yes.1 h
  have hr := outR_range k r0 n0
  refine accOut_rest b c r n k (outR r n k) h n0 n1 (setB_of hr.1 (by omega)) ?_ w
  by_cases hk : k = 1 ∨ k = 2
  · have e : outR r n k = keptV r n := if_pos hk
    rw [e]
    exact .inr ⟨hk, fun w => kept_any b c r n r0 (by omega) n0 n1 w⟩
  · exact .inl ⟨if_neg hk, by omega, by omega⟩

end Go.Proofs.Ytnmldnokoihajaa
