/-
  tape: the cells of a deck; keep, isSide, Down, Ops, Room, may.
-/
import Derived.Test.YtdecdjjknbbolaaArith
import Derived.Test.YtdecdjjknbbolaaSl
namespace Go.Proofs.Ytdecdjjknbbolaa
open Go.RowKit
set_option linter.unusedVariables false

/-- The cells of a deck. -/
def dk (room : Int) (v0 : Value) (s0 : Nat) (v1 : Value) (s1 : Nat) (ops : Nat) (ar : Bool) (at' kp : Int) (dn : Bool) : Array Value :=
  #[.int .i64 room, v0, .int .i64 s0, v1, .int .i64 s1, .int .i64 ops, .bool ar, .int .i64 at', .int .i64 kp, .bool dn]

/-- A deck lies in block b. -/
def Dk (w : World) (b : Nat) (room : Int) (v0 : Value) (s0 : Nat) (v1 : Value) (s1 : Nat) (ops : Nat) (ar : Bool) (at' kp : Int) (dn : Bool) : Prop :=
  w.heap[b]? = some (.cells (dk room v0 s0 v1 s1 ops ar at' kp dn) 65 (0, 0))

/-- Its cells, one by one. -/
theorem Dk.ten {w : World} {b : Nat} {room : Int} {v0 : Value} {s0 : Nat} {v1 : Value} {s1 : Nat} {ops : Nat} {ar : Bool} {at' kp : Int} {dn : Bool} (h : Dk w b room v0 s0 v1 s1 ops ar at' kp dn) :
    (w.cell? ⟨b, 0, none⟩ = some (.int .i64 room) ∧ w.cell? ⟨b, 1, none⟩ = some v0 ∧ w.cell? ⟨b, 2, none⟩ = some (.int .i64 s0) ∧ w.cell? ⟨b, 3, none⟩ = some v1 ∧ w.cell? ⟨b, 4, none⟩ = some (.int .i64 s1)) ∧
    (w.cell? ⟨b, 5, none⟩ = some (.int .i64 ops) ∧ w.cell? ⟨b, 6, none⟩ = some (.bool ar) ∧ w.cell? ⟨b, 7, none⟩ = some (.int .i64 at') ∧ w.cell? ⟨b, 8, none⟩ = some (.int .i64 kp) ∧ w.cell? ⟨b, 9, none⟩ = some (.bool dn)) ∧
    ∀ j, w.frozen? ⟨b, j, none⟩ = false :=
  ⟨⟨cell_of_row w b 0 _ _ _ h, cell_of_row w b 1 _ _ _ h, cell_of_row w b 2 _ _ _ h, cell_of_row w b 3 _ _ _ h, cell_of_row w b 4 _ _ _ h⟩,
   ⟨cell_of_row w b 5 _ _ _ h, cell_of_row w b 6 _ _ _ h, cell_of_row w b 7 _ _ _ h, cell_of_row w b 8 _ _ _ h, cell_of_row w b 9 _ _ _ h⟩, fun j => frozen_of_row w b j _ _ h⟩

theorem keep_any (b off : Nat) (cs : Array Value) (t : TypeId) (w : World) (a : Option Addr) (l c n : Nat) (m : Int) (hmn : m = (n : Int)) (v : Value) (h : w.heap[b]? = some (.cells cs t (0, 0))) (h0 : cs[off]? = some (.slice a l c)) (h1 : cs[off + 1]? = some v)
    (hn : n ≤ c) (hm : c ≤ 9223372036854775807) (ha : a = none → c = 0) :
    Calls Try.prog 39 #[.pointer (some ⟨b, off, none⟩), .int .i64 m] w (fun e w' => e = .returned (.tuple #[]) ∧ w' = w.setRow b ((cs.setIfInBounds off (.slice a n c)).setIfInBounds (off + 1) (.int .i64 n))) := by
  subst hmn
  have c0 : w.cell? ⟨b, off, none⟩ = some (.slice a l c) := (cell_of_row w b off _ _ _ h).trans h0
  have c1 : w.cell? ⟨b, off + 1, none⟩ = some v := (cell_of_row w b (off + 1) _ _ _ h).trans h1
  have f0 := frozen_of_row w b off _ _ h
  have f1 := frozen_of_row w b (off + 1) _ _ h
  go_enter Try.func39, Try.ntmps39
  go_wp2
  refine bodyPost_end (results_none rfl _ _ _) rfl ⟨rfl, ?_⟩
  rw [setCell_eq_setRow w b off _ _ _ _ h, setCell_eq_setRow _ b (off + 1) _ _ _ _ (setRow_heap w b _ _ _ _ h), setRow_setRow]

theorem isSide_any (side : Int) (w : World) : Calls Try.prog 48 #[.int .i64 side] w (fun e w' => e = .returned (.bool (decide (0 ≤ side ∧ side ≤ 1))) ∧ w' = w) := by
  by_cases h0 : 0 ≤ side
  · by_cases h1 : side < 2
    · have : decide (0 ≤ side ∧ side ≤ 1) = true := by simp; omega
      rw [this]
      go_enter Try.func48, Try.ntmps48
      go_wp2
      go_ret
      exact ⟨rfl, rfl⟩
    · have : decide (0 ≤ side ∧ side ≤ 1) = false := by simp; omega
      rw [this]
      go_enter Try.func48, Try.ntmps48
      go_wp2
      go_ret
      exact ⟨rfl, rfl⟩
  · have : decide (0 ≤ side ∧ side ≤ 1) = false := by simp; omega
    rw [this]
    go_enter Try.func48, Try.ntmps48
    go_wp2
    go_ret
    exact ⟨rfl, rfl⟩

theorem down_any (b : Nat) (w : World) (room : Int) (v0 : Value) (s0 : Nat) (v1 : Value) (s1 : Nat) (ops : Nat) (ar : Bool) (at' kp : Int) (dn : Bool) (h : Dk w b room v0 s0 v1 s1 ops ar at' kp dn) :
    Calls Try.prog 38 #[.pointer (some ⟨b, 0, none⟩)] w (fun e w' => e = .returned (.bool dn) ∧ w' = w) := by
  obtain ⟨⟨c0, c1, c2, c3, c4⟩, ⟨c5, c6, c7, c8, c9⟩, fz⟩ := h.ten
  go_enter Try.func38, Try.ntmps38
  go_wp2
  go_ret
  exact ⟨rfl, rfl⟩


/-- Of what was there only blocks of S have turned. -/
structure Only (S : Nat → Prop) (w w' : World) : Prop where
  os : w'.os = w.os
  tape : w'.tape = w.tape
  output : w'.output = w.output
  size : w.heap.size ≤ w'.heap.size
  block : ∀ k, k < w.heap.size → ¬ S k → w'.heap[k]? = w.heap[k]?

theorem Only.refl (S : Nat → Prop) (w : World) : Only S w w := ⟨rfl, rfl, rfl, Nat.le_refl _, fun _ _ _ => rfl⟩
theorem Only.trans {S : Nat → Prop} {a b c : World} (h : Only S a b) (k : Only S b c) : Only S a c :=
  ⟨k.os.trans h.os, k.tape.trans h.tape, k.output.trans h.output, Nat.le_trans h.size k.size, fun i hi hr => (k.block i (Nat.lt_of_lt_of_le hi h.size) hr).trans (h.block i hi hr)⟩
theorem Only.mono {S S' : Nat → Prop} {w w' : World} (h : Only S w w') (hS : ∀ k, k < w.heap.size → S k → S' k) : Only S' w w' :=
  ⟨h.os, h.tape, h.output, h.size, fun k hk hn => h.block k hk (fun hs => hn (hS k hk hs))⟩
theorem Only.setCell {S : Nat → Prop} {a w : World} (h : Only S a w) {p : Addr} (hp : S p.block) (u : Value) : Only S a (w.setCell p u) :=
  h.trans ⟨rfl, rfl, rfl, by simp [World.setCell], fun k hk hn => Below.heap_setCell _ _ _ _ (fun e => hn (e ▸ hp))⟩
theorem Only.setRow {S : Nat → Prop} {a w : World} (h : Only S a w) {b : Nat} (hp : S b) (cs : Array Value) : Only S a (w.setRow b cs) :=
  h.trans ⟨rfl, rfl, rfl, by simp, fun k hk hn => setRow_other _ _ _ _ (fun e => hn (e ▸ hp))⟩
theorem Only.drew {S : Nat → Prop} {a w : World} (h : Only S a w) : Only S a w.drew := ⟨h.os, h.tape, h.output, h.size, h.block⟩
theorem Only.grown {S : Nat → Prop} {a w w' : World} {row : Option Nat} (h : Only S a w) (hg : w.grownBy w' row) (hr : ∀ k, row = some k → S k) : Only S a w' :=
  h.trans ⟨hg.os, hg.tape, hg.output, hg.size, fun k hk hn => hg.block k hk (fun e => hn (hr k e.symm))⟩
theorem Only.cell {S : Nat → Prop} {w w' : World} (h : Only S w w') {p : Addr} {v : Value} (hc : w.cell? p = some v) (hp : ¬ S p.block) : w'.cell? p = some v :=
  (World.cell?_of_block (h.block p.block (World.block_lt_of_cell? w p hc) hp)).trans hc

theorem Only.drewN {S : Nat → Prop} {a w : World} (h : Only S a w) (n : Nat) : Only S a (w.drewN n) := ⟨h.os, h.tape, h.output, h.size, h.block⟩

/-- What a method of a deck in block b leaves that writes nowhere else. -/
def Turned (w : World) (b : Nat) (w' : World) : Prop := Only (· = b) w w' ∧ w'.heap.size = w.heap.size

theorem Turned.refl (w : World) (b : Nat) : Turned w b w := ⟨Only.refl _ _, rfl⟩
theorem Turned.trans {a w w' : World} {b : Nat} (h : Turned a b w) (k : Turned w b w') : Turned a b w' := ⟨h.1.trans k.1, k.2.trans h.2⟩
theorem Turned.setCell {a w : World} {b : Nat} (h : Turned a b w) (i : Nat) (u : Value) : Turned a b (w.setCell ⟨b, i, none⟩ u) := ⟨h.1.setCell rfl u, by simpa [World.setCell] using h.2⟩
theorem Turned.setRow {a w : World} {b : Nat} (h : Turned a b w) (cs : Array Value) : Turned a b (w.setRow b cs) := ⟨h.1.setRow rfl cs, by simpa using h.2⟩
theorem Turned.drew {a w : World} {b : Nat} (h : Turned a b w) : Turned a b w.drew := ⟨h.1.drew, h.2⟩
theorem Turned.drewN {a w : World} {b : Nat} (h : Turned a b w) (n : Nat) : Turned a b (w.drewN n) := ⟨h.1.drewN n, h.2⟩

theorem keep0 (b : Nat) (w : World) (room : Int) (a0 : Option Addr) (l0 z0 : Nat) (s0 : Nat) (v1 : Value) (s1 : Nat) (ops : Nat) (ar : Bool) (at' kp : Int) (dn : Bool)
    (h : Dk w b room (.slice a0 l0 z0) s0 v1 s1 ops ar at' kp dn) (n : Nat) (m : Int) (hm : m = (n : Int)) (hn : n ≤ z0) (hz : z0 ≤ 9223372036854775807) (ha : a0 = none → z0 = 0) :
    Calls Try.prog 39 #[.pointer (some ⟨b, 1, none⟩), .int .i64 m] w (fun e w' => e = .returned (.tuple #[]) ∧ Dk w' b room (.slice a0 n z0) n v1 s1 ops ar at' kp dn ∧ Turned w b w') := by
  refine (keep_any b 1 (dk room (.slice a0 l0 z0) s0 v1 s1 ops ar at' kp dn) _ w a0 l0 z0 n m hm _ h rfl rfl hn hz ha).mono ?_
  rintro e w' ⟨rfl, rfl⟩
  exact ⟨rfl, setRow_heap w b _ _ _ _ h, (Turned.refl _ _).setRow _⟩

theorem keep1 (b : Nat) (w : World) (room : Int) (v0 : Value) (s0 : Nat) (a1 : Option Addr) (l1 z1 : Nat) (s1 : Nat) (ops : Nat) (ar : Bool) (at' kp : Int) (dn : Bool)
    (h : Dk w b room v0 s0 (.slice a1 l1 z1) s1 ops ar at' kp dn) (n : Nat) (m : Int) (hm : m = (n : Int)) (hn : n ≤ z1) (hz : z1 ≤ 9223372036854775807) (ha : a1 = none → z1 = 0) :
    Calls Try.prog 39 #[.pointer (some ⟨b, 3, none⟩), .int .i64 m] w (fun e w' => e = .returned (.tuple #[]) ∧ Dk w' b room v0 s0 (.slice a1 n z1) n ops ar at' kp dn ∧ Turned w b w') := by
  refine (keep_any b 3 (dk room v0 s0 (.slice a1 l1 z1) s1 ops ar at' kp dn) _ w a1 l1 z1 n m hm _ h rfl rfl hn hz ha).mono ?_
  rintro e w' ⟨rfl, rfl⟩
  exact ⟨rfl, setRow_heap w b _ _ _ _ h, (Turned.refl _ _).setRow _⟩


theorem room_any (b : Nat) (w : World) (room : Int) (v0 : Value) (s0 : Nat) (v1 : Value) (s1 : Nat) (ops : Nat) (ar : Bool) (at' kp : Int) (dn : Bool) (h : Dk w b room v0 s0 v1 s1 ops ar at' kp dn) :
    Calls Try.prog 44 #[.pointer (some ⟨b, 0, none⟩)] w (fun e w' => e = .returned (.int .i64 room) ∧ w' = w) := by
  obtain ⟨⟨c0, c1, c2, c3, c4⟩, ⟨c5, c6, c7, c8, c9⟩, fz⟩ := h.ten
  go_enter Try.func44, Try.ntmps44
  go_wp2
  go_ret
  exact ⟨rfl, rfl⟩

/-- What forbids an operation. -/
def mayS (dn : Bool) (side : Int) : Int := if dn then 11 else if 0 ≤ side ∧ side ≤ 1 then 0 else 1

theorem may_any (b : Nat) (w : World) (room : Int) (v0 : Value) (s0 : Nat) (v1 : Value) (s1 : Nat) (ops : Nat) (ar : Bool) (at' kp : Int) (dn : Bool) (h : Dk w b room v0 s0 v1 s1 ops ar at' kp dn) (side : Int) :
    Calls Try.prog 36 #[.pointer (some ⟨b, 0, none⟩), .int .i64 side] w (fun e w' => e = .returned (.int .i64 (mayS dn side)) ∧ w' = w) := by
  have N := down_any b w _ _ _ _ _ _ _ _ _ _ h
  have I := isSide_any side w
  go_enter Try.func36, Try.ntmps36
  go_wp2_with fail
  go_at_call 38
  refine N.mono ?_
  rintro e w1 ⟨rfl, hw⟩
  obtain rfl := hw.symm
  cases dn with
  | true =>
    go_wp2
    go_ret
    exact ⟨rfl, rfl⟩
  | false =>
    go_wp2_with fail
    go_at_call 48
    refine I.mono ?_
    rintro e w1 ⟨rfl, hw⟩
    obtain rfl := hw.symm
    by_cases hs : 0 ≤ side ∧ side ≤ 1
    · rw [decide_eq_true hs]
      have hm : Hid (mayS false side = 0) := by show mayS _ _ = _; simp [mayS, hs]
      clear hs
      go_wp2
      go_ret
      exact ⟨rt_int hm.out.symm, rfl⟩
    · rw [decide_eq_false hs]
      have hm : Hid (mayS false side = 1) := by show mayS _ _ = _; simp [mayS, hs]
      clear hs
      go_wp2
      go_ret
      exact ⟨rt_int hm.out.symm, rfl⟩

set_option maxHeartbeats 4000000 in
theorem lose_pos (b : Nat) (w : World) (room : Int) (a0 : Option Addr) (l0 z0 : Nat) (s0 : Nat) (a1 : Option Addr) (l1 z1 : Nat) (s1 : Nat) (ops : Nat) (ar : Bool) (at' kp : Int) (dn : Bool)
    (h : Dk w b room (.slice a0 l0 z0) s0 (.slice a1 l1 z1) s1 ops ar at' kp dn) (L n0 n1 : Nat) (hk : L ≤ 9223372036854775807) (hn0 : min L (l0 - s0) = n0) (hn1 : min (L - n0) (l1 - s1) = n1)
    (hs0 : s0 ≤ l0) (hs1 : s1 ≤ l1) (hl0 : l0 ≤ z0) (hl1 : l1 ≤ z1) (hz0 : z0 ≤ 9223372036854775807) (hz1 : z1 ≤ 9223372036854775807) (ha0 : a0 = none → z0 = 0) (ha1 : a1 = none → z1 = 0) :
    Calls Try.prog 33 #[.pointer (some ⟨b, 0, none⟩), .int .i64 L] w (fun e w' => e = .returned (.tuple #[]) ∧ Dk w' b room (.slice a0 (s0 + n0) z0) (s0 + n0) (.slice a1 (s1 + n1) z1) (s1 + n1) ops ar at' kp dn ∧ Turned w b w') := by
  have m0 : Hid (min L (l0 - s0) = n0) := hn0
  have m1 : Hid (min (L - n0) (l1 - s1) = n1) := hn1
  clear hn0 hn1
  have i0 : (0 : Int) ≤ L := by omega
  go_enter Try.func33, Try.ntmps33
  go_wp2
  go_loopw [1, 9] (fun v i wr => ∃ j r p0 q0 p1 q1 : Nat, v = .int .i64 r ∧ i = .int .i64 j ∧ Dk wr b room (.slice a0 p0 z0) q0 (.slice a1 p1 z1) q1 ops ar at' kp dn ∧ Turned w b wr ∧
    ((j = 0 ∧ r = L ∧ p0 = l0 ∧ q0 = s0 ∧ p1 = l1 ∧ q1 = s1) ∨ (j = 1 ∧ r = L - n0 ∧ p0 = s0 + n0 ∧ q0 = s0 + n0 ∧ p1 = l1 ∧ q1 = s1) ∨ (j = 2 ∧ p0 = s0 + n0 ∧ q0 = s0 + n0 ∧ p1 = s1 + n1 ∧ q1 = s1 + n1))) (fun _ i _ => (2 - intOf i).toNat)
  case atStart => exact ⟨0, L, l0, s0, l1, s1, rfl, rfl, h, Turned.refl _ _, .inl ⟨rfl, rfl, rfl, rfl, rfl, rfl⟩⟩
  case round =>
    clear h
    obtain ⟨j, r, p0, q0, p1, q1, rfl, rfl, hd, ho, hj⟩ := hrel
    obtain ⟨⟨c0, c1, c2, c3, c4⟩, ⟨c5, c6, c7, c8, c9⟩, fz⟩ := hd.ten
    have HD : Hid (Dk wr b room (.slice a0 p0 z0) q0 (.slice a1 p1 z1) q1 ops ar at' kp dn) := hd
    have HO : Hid (Turned w b wr) := ho
    clear hd ho
    rcases hj with ⟨rfl, hr, h1, h2, h3, h4⟩ | ⟨rfl, hr, h1, h2, h3, h4⟩ | ⟨rfl, h1, h2, h3, h4⟩
    · obtain ⟨rfl, rfl, rfl, rfl⟩ := And.intro h1.symm (And.intro h2.symm (And.intro h3.symm h4.symm))
      have hr' : Hid (r = L) := hr
      have hrL : r ≤ 9223372036854775807 := by omega
      clear hr
      by_cases hq : (r : Int) ≤ (l0 : Int) - s0
      · have en : Hid (n0 = r) := by show n0 = r; have := m0.out; have := hr'.out; omega
        have j1 : wrap64 ((s0 : Int) + r) = (s0 : Int) + r := by unfold wrap64; omega
        have j0 : wrap64 ((l0 : Int) - s0) = (l0 : Int) - s0 := by unfold wrap64; omega
        go_wp2
        go_quiet (fail)
        go_wp2_with fail
        go_at_call 39
        refine (keep0 b (wr.drewN nq) _ _ _ _ _ _ _ _ _ _ _ _ HD.out (s0 + n0) ((s0 : Int) + r) (by have := en.out; omega) (by have := en.out; omega) (by assumption) (by assumption)).mono ?_
        rintro e w1 ⟨rfl, D2, O2⟩
        have D1 : Hid (Dk w1 b room (.slice a0 (s0 + n0) z0) (s0 + n0) (.slice a1 l1 z1) s1 ops ar at' kp dn) := D2
        have O1 : Hid (Turned w b w1) := (HO.out.drewN nq).trans O2
        clear D2 O2 c0 c1 c2 c3 c4 c5 c6 c7 c8 c9 fz
        go_wp2
        go_roundw
        case rel =>
          exact ⟨1, r - n0, _, _, _, _, congrArg (Value.int .i64) (by have := en.out; omega), rfl, D1.out, O1.out, .inr (.inl ⟨rfl, by have := hr'.out; omega, rfl, rfl, rfl, rfl⟩)⟩
        case measure => simp [intOf]
      · have en : Hid (n0 = l0 - s0) := by show n0 = l0 - s0; have := m0.out; have := hr'.out; omega
        have hq' : (l0 : Int) - s0 < r := by omega
        have j0 : wrap64 ((l0 : Int) - s0) = (l0 : Int) - s0 := by unfold wrap64; omega
        have j2 : (s0 : Int) + ((l0 : Int) - s0) = l0 := by omega
        have j3 : wrap64 (l0 : Int) = l0 := by unfold wrap64; omega
        have j4 : wrap64 ((r : Int) - ((l0 : Int) - s0)) = (r : Int) - ((l0 : Int) - s0) := by unfold wrap64; omega
        go_wp2
        go_quiet (fail)
        go_wp2_with fail
        go_at_call 39
        refine (keep0 b (wr.drewN nq) _ _ _ _ _ _ _ _ _ _ _ _ HD.out (s0 + n0) (l0 : Int) (by have := en.out; omega) (by have := en.out; omega) (by assumption) (by assumption)).mono ?_
        rintro e w1 ⟨rfl, D2, O2⟩
        have D1 : Hid (Dk w1 b room (.slice a0 (s0 + n0) z0) (s0 + n0) (.slice a1 l1 z1) s1 ops ar at' kp dn) := D2
        have O1 : Hid (Turned w b w1) := (HO.out.drewN nq).trans O2
        clear D2 O2 c0 c1 c2 c3 c4 c5 c6 c7 c8 c9 fz
        go_wp2
        go_roundw
        case rel =>
          exact ⟨1, r - n0, _, _, _, _, congrArg (Value.int .i64) (by have := en.out; omega), rfl, D1.out, O1.out, .inr (.inl ⟨rfl, by have := hr'.out; omega, rfl, rfl, rfl, rfl⟩)⟩
        case measure => simp [intOf]
    · obtain ⟨rfl, rfl, rfl, rfl⟩ := And.intro h1.symm (And.intro h2.symm (And.intro h3.symm h4.symm))
      have hr' : Hid (r = L - n0) := hr
      have hrL : r ≤ 9223372036854775807 := by omega
      clear hr
      by_cases hq : (r : Int) ≤ (l1 : Int) - s1
      · have en : Hid (n1 = r) := by show n1 = r; have := m1.out; have := hr'.out; omega
        have j1 : wrap64 ((s1 : Int) + r) = (s1 : Int) + r := by unfold wrap64; omega
        have j0 : wrap64 ((l1 : Int) - s1) = (l1 : Int) - s1 := by unfold wrap64; omega
        go_wp2
        go_quiet (fail)
        go_wp2_with fail
        go_at_call 39
        refine (keep1 b (wr.drewN nq) _ _ _ _ _ _ _ _ _ _ _ _ HD.out (s1 + n1) ((s1 : Int) + r) (by have := en.out; omega) (by have := en.out; omega) (by assumption) (by assumption)).mono ?_
        rintro e w1 ⟨rfl, D2, O2⟩
        have D1 : Hid (Dk w1 b room (.slice a0 (s0 + n0) z0) (s0 + n0) (.slice a1 (s1 + n1) z1) (s1 + n1) ops ar at' kp dn) := D2
        have O1 : Hid (Turned w b w1) := (HO.out.drewN nq).trans O2
        clear D2 O2 c0 c1 c2 c3 c4 c5 c6 c7 c8 c9 fz
        go_wp2
        go_roundw
        case rel =>
          exact ⟨2, r - n1, _, _, _, _, congrArg (Value.int .i64) (by have := en.out; omega), rfl, D1.out, O1.out, .inr (.inr ⟨rfl, rfl, rfl, rfl, rfl⟩)⟩
        case measure => simp [intOf]
      · have en : Hid (n1 = l1 - s1) := by show n1 = l1 - s1; have := m1.out; have := hr'.out; omega
        have hq' : (l1 : Int) - s1 < r := by omega
        have j0 : wrap64 ((l1 : Int) - s1) = (l1 : Int) - s1 := by unfold wrap64; omega
        have j2 : (s1 : Int) + ((l1 : Int) - s1) = l1 := by omega
        have j3 : wrap64 (l1 : Int) = l1 := by unfold wrap64; omega
        have j4 : wrap64 ((r : Int) - ((l1 : Int) - s1)) = (r : Int) - ((l1 : Int) - s1) := by unfold wrap64; omega
        go_wp2
        go_quiet (fail)
        go_wp2_with fail
        go_at_call 39
        refine (keep1 b (wr.drewN nq) _ _ _ _ _ _ _ _ _ _ _ _ HD.out (s1 + n1) (l1 : Int) (by have := en.out; omega) (by have := en.out; omega) (by assumption) (by assumption)).mono ?_
        rintro e w1 ⟨rfl, D2, O2⟩
        have D1 : Hid (Dk w1 b room (.slice a0 (s0 + n0) z0) (s0 + n0) (.slice a1 (s1 + n1) z1) (s1 + n1) ops ar at' kp dn) := D2
        have O1 : Hid (Turned w b w1) := (HO.out.drewN nq).trans O2
        clear D2 O2 c0 c1 c2 c3 c4 c5 c6 c7 c8 c9 fz
        go_wp2
        go_roundw
        case rel =>
          exact ⟨2, r - n1, _, _, _, _, congrArg (Value.int .i64) (by have := en.out; omega), rfl, D1.out, O1.out, .inr (.inr ⟨rfl, rfl, rfl, rfl, rfl⟩)⟩
        case measure => simp [intOf]
    · obtain ⟨rfl, rfl, rfl, rfl⟩ := And.intro h1.symm (And.intro h2.symm (And.intro h3.symm h4.symm))
      go_wp2
      exact bodyPost_end (results_none rfl _ _ _) rfl ⟨rfl, HD.out, HO.out⟩

end Go.Proofs.Ytdecdjjknbbolaa
