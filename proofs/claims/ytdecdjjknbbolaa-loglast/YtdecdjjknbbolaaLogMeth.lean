/-
  log: a log where it lies; gone, write, begin, Rows.
-/
import Derived.Test.YtdecdjjknbbolaaLogHeld
import Derived.Test.YtdecdjjknbbolaaWordPut
namespace Go.Proofs.Ytdecdjjknbbolaa
open Go.RowKit
set_option linter.unusedVariables false
set_option linter.unusedSimpArgs false

/-- A log lies in block l, its deck in block b. -/
def LgAt (w : World) (l b : Nat) (g : Lg) : Prop :=
  w.heap[l]? = some (.cells #[.pointer (some ⟨b, 0, none⟩), .int .i64 g.gen, .int .i64 g.side, .int .i64 g.n, .bool g.stale] 67 (0, 0))

theorem LgAt.five {w : World} {l b : Nat} {g : Lg} (h : LgAt w l b g) :
    (w.cell? ⟨l, 0, none⟩ = some (.pointer (some ⟨b, 0, none⟩)) ∧ w.cell? ⟨l, 1, none⟩ = some (.int .i64 g.gen) ∧ w.cell? ⟨l, 2, none⟩ = some (.int .i64 g.side) ∧ w.cell? ⟨l, 3, none⟩ = some (.int .i64 g.n) ∧ w.cell? ⟨l, 4, none⟩ = some (.bool g.stale)) ∧
    ∀ j, w.frozen? ⟨l, j, none⟩ = false :=
  ⟨⟨cell_of_row w l 0 _ _ _ h, cell_of_row w l 1 _ _ _ h, cell_of_row w l 2 _ _ _ h, cell_of_row w l 3 _ _ _ h, cell_of_row w l 4 _ _ _ h⟩, fun j => frozen_of_row w l j _ _ h⟩

/-- A log and its deck, all in S. -/
structure Kept (w : World) (S : Nat → Prop) (b l : Nat) (d : D) (g : Lg) : Prop where
  deck : Deck w (fun k => S k ∧ k ≠ l) b d
  sl : S l
  at' : LgAt w l b g

theorem Kept.below {w w' : World} {S : Nat → Prop} {b l : Nat} {d : D} {g : Lg} (h : Kept w S b l d g) (k : Below w.heap.size w w') : Kept w' S b l d g :=
  ⟨h.deck.below k, h.sl, (k.block l (lt_of_block h.at')).trans h.at'⟩
theorem Kept.mono {w : World} {S S' : Nat → Prop} {b l : Nat} {d : D} {g : Lg} (h : Kept w S b l d g) (hS : ∀ k, k < w.heap.size → S k → S' k) : Kept w S' b l d g :=
  ⟨h.deck.mono (fun k hk hs => ⟨hS k hk hs.1, hs.2⟩), hS l (lt_of_block h.at') h.sl, h.at'⟩
theorem Kept.more {w : World} {S : Nat → Prop} {b l : Nat} {d : D} {g : Lg} (h : Kept w S b l d g) (n : Nat) : Kept w (fun k => S k ∨ n ≤ k) b l d g := h.mono (fun _ _ hs => .inl hs)
theorem Kept.block {w : World} {S : Nat → Prop} {b l : Nat} {d : D} {g : Lg} (h : Kept w S b l d g) : b < w.heap.size ∧ l < w.heap.size ∧ b ≠ l ∧ S b := by
  obtain ⟨⟨a0, c0, a1, c1, hd⟩, hs, ha⟩ := h
  exact ⟨lt_of_block hd.dk, lt_of_block ha, hd.sb.2, hd.sb.1⟩

theorem Only.news {S : Nat → Prop} {w w1 w2 : World} (h : Only S w w1) (k : Only (fun j => S j ∨ w.heap.size ≤ j) w1 w2) : Only S w w2 :=
  ⟨k.os.trans h.os, k.tape.trans h.tape, k.output.trans h.output, Nat.le_trans h.size k.size, fun i hi hr => (k.block i (Nat.lt_of_lt_of_le hi h.size) (fun hs => by rcases hs with hs | hs; exact hr hs; omega)).trans (h.block i hi hr)⟩
theorem Below.onlyS {w w' : World} (h : Below w.heap.size w w') (S : Nat → Prop) : Only S w w' := ⟨h.os, h.tape, h.output, h.size, fun k hk _ => h.block k hk⟩

/-- A call of the deck's. -/
theorem Kept.step {w w' : World} {S : Nat → Prop} {b l : Nat} {d d' : D} {g : Lg} (h : Kept w S b l d g) (k : Deck w' (fun j => (S j ∧ j ≠ l) ∨ w.heap.size ≤ j) b d') (o : Only (fun j => S j ∧ j ≠ l) w w') :
    Kept w' (fun j => S j ∨ w.heap.size ≤ j) b l d' g ∧ Only S w w' := by
  have hl := lt_of_block h.at'
  refine ⟨⟨k.mono (fun j hj hs => ?_), .inl h.sl, (o.block l hl (fun hs => hs.2 rfl)).trans h.at'⟩, o.mono (fun j _ hs => hs.1)⟩
  rcases hs with hs | hs
  · exact ⟨.inl hs.1, hs.2⟩
  · exact ⟨.inr hs, by omega⟩
/-- The log alone turns. -/
theorem Kept.turn {w w' : World} {S : Nat → Prop} {b l : Nat} {d : D} {g g' : Lg} (h : Kept w S b l d g) (k : LgAt w' l b g') (o : Only (· = l) w w') : Kept w' S b l d g' ∧ Only S w w' :=
  ⟨⟨h.deck.only o (fun j hj hs => hj.2 hs), h.sl, k⟩, o.mono (fun j _ hs => hs ▸ h.sl)⟩

theorem gone_no (l b : Nat) (w : World) (g : Lg) (h : LgAt w l b g) : Calls Try.prog 30 #[.pointer (some ⟨l, 0, none⟩)] w (fun e w' => e = .returned (.bool false) ∧ w' = w) := by
  obtain ⟨⟨c0, c1, c2, c3, c4⟩, fz⟩ := h.five
  go_enter Try.func30, Try.ntmps30
  go_wp2
  go_ret
  exact ⟨rfl, rfl⟩
theorem gone_nil (w : World) : Calls Try.prog 30 #[.pointer none] w (fun e w' => e = .returned (.bool true) ∧ w' = w) := by
  go_enter Try.func30, Try.ntmps30
  go_wp2
  go_ret
  exact ⟨rfl, rfl⟩

theorem log_rows (l b : Nat) (w : World) (g : Lg) (h : LgAt w l b g) : Calls Try.prog 28 #[.pointer (some ⟨l, 0, none⟩)] w (fun e w' => e = .returned (.int .i64 g.n) ∧ w' = w) := by
  obtain ⟨⟨c0, c1, c2, c3, c4⟩, fz⟩ := h.five
  have G := gone_no l b w g h
  go_enter Try.func28, Try.ntmps28
  go_wp2_with fail
  go_at_call 30
  refine G.mono ?_
  rintro e w1 ⟨rfl, hw⟩
  obtain rfl := hw.symm
  go_wp2
  go_ret
  exact ⟨rfl, rfl⟩
theorem rows_nil (w : World) : Calls Try.prog 28 #[.pointer none] w (fun e w' => e = .returned (.int .i64 0) ∧ w' = w) := by
  go_enter Try.func28, Try.ntmps28
  go_wp2_with fail
  go_at_call 30
  refine (gone_nil w).mono ?_
  rintro e w1 ⟨rfl, hw⟩
  obtain rfl := hw.symm
  go_wp2
  go_ret
  exact ⟨rfl, rfl⟩
theorem add_nil (w : World) (v : Value) : Calls Try.prog 10 #[.pointer none, v] w (fun e w' => e = .returned (.int .i64 11) ∧ w' = w) := by
  go_enter Try.func10, Try.ntmps10
  go_wp2_with fail
  go_at_call 30
  refine (gone_nil w).mono ?_
  rintro e w1 ⟨rfl, hw⟩
  obtain rfl := hw.symm
  go_wp2
  go_ret
  exact ⟨rfl, rfl⟩
theorem save_nil (w : World) (v : Value) : Calls Try.prog 11 #[.pointer none, v] w (fun e w' => e = .returned (.int .i64 11) ∧ w' = w) := by
  go_enter Try.func11, Try.ntmps11
  go_wp2_with fail
  go_at_call 30
  refine (gone_nil w).mono ?_
  rintro e w1 ⟨rfl, hw⟩
  obtain rfl := hw.symm
  go_wp2
  go_ret
  exact ⟨rfl, rfl⟩
theorem open_nil (w : World) (v : Value) : Calls Try.prog 9 #[.pointer none, v] w (fun e w' => e = .returned (.tuple #[.pointer none, .slice none 0 0, .slice none 0 0, .int .i64 11]) ∧ w' = w) := by
  go_enter Try.func9, Try.ntmps9
  go_wp2
  refine bodyPost_ret (results_tmp4 rfl _ _ _) rfl ?_
  exact ⟨rfl, rfl⟩

theorem append_ops (d : D) (side : Int) (ys : List Int) : (d.append side ys).2.ops ≤ d.ops + 1 := by
  unfold D.append
  split
  · simp
  split
  · simp
  split
  · simp
  split
  · simp [D.lost]
  · show (if side = 0 then d.more0 ys else d.more1 ys).ops ≤ _
    split <;> simp [D.more0, D.more1]
theorem wipe_ops (d : D) (side : Int) : (d.wipe side).2.ops ≤ d.ops + 1 := by
  unfold D.wipe
  split
  · simp
  split
  · simp
  split
  · simp [D.lost]
  · show (if side = 0 then d.none0 else d.none1).ops ≤ _
    split <;> simp [D.none0, D.none1]

set_option maxHeartbeats 4000000 in
theorem log_write (b l : Nat) (w : World) (S : Nat → Prop) (d : D) (g : Lg) (h : Kept w S b l d g) (side : Int) (a : Option Addr) (n c : Nat) (ys : List Int) (hS : Sl .u8 w a n ys) (hn : a = none → c = 0) (hne : ys ≠ [] → ∀ x, a = some x → x.block ≠ b)
    (hm : n ≤ 1000000) (ho : d.ops ≤ 4611686018427387000) :
    Calls Try.prog 32 #[.pointer (some ⟨l, 0, none⟩), .int .i64 side, .slice a n c] w (fun e w' => e = .returned (.int .i64 (d.put side ys).1) ∧ Kept w' (fun j => S j ∨ w.heap.size ≤ j) b l (d.put side ys).2 g ∧ Only S w w') := by
  obtain ⟨⟨c0, c1, c2, c3, c4⟩, fz⟩ := h.at'.five
  have A := deck_append b w _ d h.deck side a n c ys hS hn hne hm (by omega)
  obtain ⟨r, hr⟩ : ∃ r, d.append side ys = r := ⟨_, rfl⟩
  have hop := append_ops d side ys
  rw [hr] at A hop
  have HR : Hid (d.append side ys = r) := hr
  have H : Hid (Kept w S b l d g) := h
  clear hr h hS
  go_enter Try.func32, Try.ntmps32
  go_wp2_with fail
  go_at_call 18
  refine A.mono ?_
  rintro e w1 ⟨rfl, k1, o1⟩
  obtain ⟨q, d1⟩ := r
  have K1 := H.out.step k1 o1
  have HK : Hid (Kept w1 (fun j => S j ∨ w.heap.size ≤ j) b l d1 g ∧ Only S w w1) := K1
  clear c0 c1 c2 c3 c4 fz A k1 o1
  simp only at hop ⊢
  by_cases hq : q = 0
  · subst hq
    obtain ⟨⟨c0, c1, c2, c3, c4⟩, fz⟩ := K1.1.at'.five
    have Y := deck_sync b w1 _ d1 K1.1.deck (by omega)
    have HP : Hid (d.put side ys = d1.sync) := by
      show _ = _
      rw [D.put, HR.out]
      simp
    clear K1
    go_wp2_with fail
    go_at_call 19
    refine Y.mono ?_
    rintro e w2 ⟨rfl, k2, o2⟩
    have K2 := HK.out.1.step (k2.mono (fun j _ hs => .inl hs)) o2
    have K3 : Hid (Kept w2 (fun j => S j ∨ w.heap.size ≤ j) b l d1.sync.2 g) := by
      refine K2.1.mono (fun j _ hs => ?_)
      rcases hs with hs | hs
      · exact hs
      · exact .inr (by have := HK.out.2.size; omega)
    have O3 : Hid (Only S w w2) := HK.out.2.news K2.2
    clear Y k2 o2 K2 c0 c1 c2 c3 c4 fz
    go_wp2
    go_ret
    rw [HP.out]
    exact ⟨rfl, K3.out, O3.out⟩
  · have HP : Hid (d.put side ys = (q, d1)) := by
      show _ = _
      rw [D.put, HR.out]
      simp [hq]
    go_wp2
    go_ret
    rw [HP.out]
    exact ⟨rfl, HK.out.1, HK.out.2⟩

end Go.Proofs.Ytdecdjjknbbolaa
