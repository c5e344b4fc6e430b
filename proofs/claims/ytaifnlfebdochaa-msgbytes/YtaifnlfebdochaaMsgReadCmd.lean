/-
  msg: bytes' command: the program's answer and the document's.
-/
import Derived.Test.YtaifnlfebdochaaMsgRefRead
namespace Go.Proofs.Ytaifnlfebdochaa
open Go.RowKit

/-- Read. -/
theorem read_any (a : Option Addr) (len cap : Nat) (bs : List Int) (w : World) (h : Sl .u8 w a len bs) (hc : len ≤ cap) (hm : cap ≤ 9223372036854775807) (hr : len ≤ 1000) :
    Calls Try.prog 16 #[.slice a len cap] w (ReadEnd w (readS bs)) := by
  cases bs with
  | nil =>
    have hl := h.1
    simp at hl
    subst hl
    exact read_nil a cap w
  | cons k bs =>
    rcases h.2.2 with h0 | ⟨b, off, rfl, _⟩
    · simp at h0
    · exact read_cons b off len cap k bs w h hc hm hr

theorem refRead_any (a : Option Addr) (len cap : Nat) (bs : List Int) (w : World) (h : Sl .u8 w a len bs) (hc : len ≤ cap) (hm : cap ≤ 9223372036854775807) (hr : len ≤ 1000) :
    Calls Try.prog 18 #[.slice a len cap] w (ReadEnd w (readS bs)) := by
  cases bs with
  | nil =>
    have hl := h.1
    simp at hl
    subst hl
    exact refRead_nil a cap w
  | cons k bs =>
    rcases h.2.2 with h0 | ⟨b, off, rfl, _⟩
    · simp at h0
    · exact refRead_cons b off len cap k bs w h hc hm hr

/-- The command that bytes are; the error. -/
def readCmdS (bs : List Int) : List Int × Int :=
  if bs.length < 8 then ([0, 0, 0, 0, 0, 0, 0, 0], 2) else if (readS (bs.drop 8)).2 = 0 then (dec (bs.take 8) :: (readS (bs.drop 8)).1, 0) else ([0, 0, 0, 0, 0, 0, 0, 0], 2)

theorem readS_err (bs : List Int) : (readS bs).2 = 0 ∨ (readS bs).2 = 2 := by
  cases bs with
  | nil => exact .inr rfl
  | cons k bs =>
    show (if (getS bs).2 = 0 ∧ ((getS bs).1.length : Int) = manyS k then (k :: six (getS bs).1, (0 : Int)) else ([0, 0, 0, 0, 0, 0, 0], 2)).2 = 0 ∨ (if (getS bs).2 = 0 ∧ ((getS bs).1.length : Int) = manyS k then (k :: six (getS bs).1, (0 : Int)) else ([0, 0, 0, 0, 0, 0, 0], 2)).2 = 2
    by_cases h : (getS bs).2 = 0 ∧ ((getS bs).1.length : Int) = manyS k
    · rw [if_pos h]; exact .inl rfl
    · rw [if_neg h]; exact .inr rfl

def ReadCmdEnd (w : World) (r : List Int × Int) (e : Ending) (w' : World) : Prop :=
  ∃ who k f0 f1 f2 f3 f4 f5 er, r = ([who, k, f0, f1, f2, f3, f4, f5], er) ∧ e = .returned (.tuple #[.agg #[.int .i64 who, .int .i64 k, .int .i64 f0, .int .i64 f1, .int .i64 f2, .int .i64 f3, .int .i64 f4, .int .i64 f5], .int .i64 er]) ∧ Below w.heap.size w w'

theorem cmdSize : (Try.prog.info? 26).map (·.size) = some 8 := by kernel_rfl

/-- A command is laid over another one. -/
theorem store_cmd {ops : Array Oper} {rest : List Oper} {o : Oper} {a : Act} {w : World} {Q : Exit → Act → World → Prop} (hgd : o.guard = none) (x y : Operand) (ho : o.op = .store 26 x y)
    (g : Nat) (who k f0 f1 f2 f3 f4 f5 : Int) (hx : a.eval x = .pointer (some ⟨g, 0, none⟩)) (hy : a.eval y = .agg #[.int .i64 who, .int .i64 k, .int .i64 f0, .int .i64 f1, .int .i64 f2, .int .i64 f3, .int .i64 f4, .int .i64 f5])
    (t : TypeId) (v0 v1 v2 v3 v4 v5 v6 v7 : Value) (hg : w.heap[g]? = some (.cells #[v0, v1, v2, v3, v4, v5, v6, v7] t (0, 0)))
    (h : wpList Try.prog ops Q rest (a.put o.dst undef) (w.setRow g #[.int .i64 who, .int .i64 k, .int .i64 f0, .int .i64 f1, .int .i64 f2, .int .i64 f3, .int .i64 f4, .int .i64 f5])) : wpList Try.prog ops Q (o :: rest) a w :=
  wpList_store_row hgd 26 x y ho g _ hx hy t _ hg cmdSize (by simp) (by simp [Value.oneCell']) h

/-- Eight cells of a block, one by one. -/
theorem eight {w : World} {g : Nat} {v0 v1 v2 v3 v4 v5 v6 v7 : Value} {t : TypeId} {fr : Nat × Nat} (h : w.heap[g]? = some (.cells #[v0, v1, v2, v3, v4, v5, v6, v7] t fr)) :
    w.cell? ⟨g, 0, none⟩ = some v0 ∧ w.cell? ⟨g, 1, none⟩ = some v1 ∧ w.cell? ⟨g, 2, none⟩ = some v2 ∧ w.cell? ⟨g, 3, none⟩ = some v3 ∧ w.cell? ⟨g, 4, none⟩ = some v4 ∧ w.cell? ⟨g, 5, none⟩ = some v5 ∧ w.cell? ⟨g, 6, none⟩ = some v6 ∧ w.cell? ⟨g, 7, none⟩ = some v7 :=
  ⟨cell_of_row w g 0 _ _ _ h, cell_of_row w g 1 _ _ _ h, cell_of_row w g 2 _ _ _ h, cell_of_row w g 3 _ _ _ h, cell_of_row w g 4 _ _ _ h, cell_of_row w g 5 _ _ _ h, cell_of_row w g 6 _ _ _ h, cell_of_row w g 7 _ _ _ h⟩

theorem readCmd_short (a : Option Addr) (len cap : Nat) (bs : List Int) (w : World) (hl : len = bs.length) (h8 : len < 8) : Calls Try.prog 17 #[.slice a len cap] w (ReadCmdEnd w (readCmdS bs)) := by
  have hS : Hid (readCmdS bs = ([0, 0, 0, 0, 0, 0, 0, 0], 2)) := by show readCmdS bs = _; unfold readCmdS; rw [if_pos (by omega)]
  have i8 : (len : Int) < 8 := by omega
  clear hl h8
  go_enter Try.func17, Try.ntmps17
  go_wp2
  exact bodyPost_ret (v := .tuple #[.agg #[.int .i64 0, .int .i64 0, .int .i64 0, .int .i64 0, .int .i64 0, .int .i64 0, .int .i64 0, .int .i64 0], .int .i64 2]) (by simp [results, Try.results17, go_sem]) rfl
    ⟨0, 0, 0, 0, 0, 0, 0, 0, 2, hS.out, rfl, (Below.refl _ _).alloc (Nat.le_refl _) _⟩

set_option maxHeartbeats 4000000 in
theorem readCmd_long (b off n cap : Nat) (bs : List Int) (w : World) (h : Sl .u8 w (some ⟨b, off, none⟩) n bs) (hc : n ≤ cap) (hm : cap ≤ 9223372036854775807) (hr : n ≤ 1000) (h8 : 8 ≤ n) :
    Calls Try.prog 17 #[.slice (some ⟨b, off, none⟩) n cap] w (ReadCmdEnd w (readCmdS bs)) := by
  have hl := h.1
  have h1 : Hid (Sl .u8 w (some ⟨b, off, none⟩) 8 (bs.take 8)) := h.take 8 h8
  obtain ⟨R, hR⟩ : ∃ R, (if cap = 8 then some (⟨b, off, none⟩ : Addr) else some ⟨b, off + 8, none⟩) = R := ⟨_, rfl⟩
  have h2 : Hid (Sl .u8 w R (n - 8) (bs.drop 8)) := by
    have := h.cutI hc 8 h8
    rw [← hR]
    show Sl _ _ _ _ _
    simpa [Addr.add_flat] using this
  have hG : getS (bs.take 8) = ([dec (bs.take 8)], 0) := by
    have hl8 : (bs.take 8).length = 8 := by rw [List.length_take]; omega
    unfold getS
    rw [if_pos (by rw [hl8]), hl8]
    show ([dec ((bs.take 8).take 8)], 0) = _
    rw [List.take_of_length_le (by omega)]
  have hS : Hid (readCmdS bs = if (readS (bs.drop 8)).2 = 0 then (dec (bs.take 8) :: (readS (bs.drop 8)).1, 0) else ([0, 0, 0, 0, 0, 0, 0, 0], 2)) := by show readCmdS bs = _; rw [readCmdS, if_neg (by omega)]
  obtain ⟨who, hwho⟩ : ∃ who, dec (bs.take 8) = who := ⟨_, rfl⟩
  rw [hwho] at hG hS
  have i8 : (8 : Int) ≤ n := by omega
  have i9 : (8 : Int) ≤ cap := by omega
  clear hl hwho h
  go_enter Try.func17, Try.ntmps17
  go_wp2_with fail
  go_at_call 28
  refine (get_any (some ⟨b, off, none⟩) 8 cap (bs.take 8) _ (h1.out.alloc _) (by omega) (by omega) (by omega)).mono ?_
  rintro e w3 ⟨a3, c3, rfl, hs3, hb3⟩
  rw [hG] at hs3
  rw [hG]
  clear hG
  have hb0 : Below w.heap.size w (w.alloc (.cells #[.int .i64 0, .int .i64 0, .int .i64 0, .int .i64 0, .int .i64 0, .int .i64 0, .int .i64 0, .int .i64 0] 26)) := (Below.refl _ _).alloc (Nat.le_refl _) _
  have hB : Below w.heap.size w w3 := hb0.trans (hb3.mono hb0.size)
  have hh0 : w3.heap[w.heap.size]? = some (.cells #[.int .i64 0, .int .i64 0, .int .i64 0, .int .i64 0, .int .i64 0, .int .i64 0, .int .i64 0, .int .i64 0] 26 (0, 0)) := by
    rw [hb3.block _ (by simp), heap_alloc_new]
  have h3 : Hid (Sl .u8 w3 R (n - 8) (bs.drop 8)) := h2.out.below hB
  obtain ⟨b3, o3, rfl, c0⟩ : ∃ b3 o3, a3 = some ⟨b3, o3, none⟩ ∧ w3.cell? ⟨b3, o3, none⟩ = some (.int .i64 who) := by
    rcases hs3.2.2 with h0 | ⟨b3, o3, ha, hc⟩
    · simp at h0
    · exact ⟨b3, o3, ha, by simpa using hc 0 (by simp)⟩
  clear hs3 hb3 hb0 h1 h2
  go_wp2_with fail
  go_at_call 16
  refine (read_any R (n - 8) (cap - 8) (bs.drop 8) _ h3.out (by omega) (by omega) (by omega)).mono ?_
  rintro e w4 ⟨k, f0, f1, f2, f3, f4, f5, er, hRS, rfl, hb4⟩
  have her := readS_err (bs.drop 8)
  rw [hRS] at hS her
  have hh0 := keeps hb4 hh0
  have hB := hB.trans (hb4.mono hB.size)
  have c0 : w4.cell? ⟨b3, o3, none⟩ = some (.int .i64 who) := by rw [hb4.cell (p := ⟨b3, o3, none⟩) (block_lt_of_cell c0)]; exact c0
  have hh5 : ∀ o, (w4.alloc o).heap[w.heap.size]? = some (.cells #[.int .i64 0, .int .i64 0, .int .i64 0, .int .i64 0, .int .i64 0, .int .i64 0, .int .i64 0, .int .i64 0] 26 (0, 0)) := fun o => by rw [heap_alloc_old _ _ ((Array.getElem?_eq_some_iff.1 hh0).1)]; exact hh0
  have hc5 : ∀ o, (w4.alloc o).cell? ⟨b3, o3, none⟩ = some (.int .i64 who) := fun o => by rw [((Below.refl _ w4).alloc (Nat.le_refl _) o).cell (p := ⟨b3, o3, none⟩) (block_lt_of_cell c0)]; exact c0
  have hB5 : ∀ o, Below w.heap.size w (w4.alloc o) := fun o => hB.alloc hB.size o
  clear hRS hb4 h3 hR
  simp only at hS her
  rcases her with rfl | rfl
  · have hrr : Hid (readCmdS bs = ([who, k, f0, f1, f2, f3, f4, f5], 0)) := by show readCmdS bs = _; rw [hS.out]; simp
    clear hS
    go_wp2_with fail
    have hw5 := hh5 (.cells #[.int .i64 k, .int .i64 f0, .int .i64 f1, .int .i64 f2, .int .i64 f3, .int .i64 f4, .int .i64 f5] 24)
    obtain ⟨d0, d1, d2, d3, d4, d5, d6, d7⟩ := eight hw5
    have z0 := frozen_of_row _ _ 0 _ _ hw5
    have z1 := frozen_of_row _ _ 1 _ _ hw5
    have z2 := frozen_of_row _ _ 2 _ _ hw5
    have z3 := frozen_of_row _ _ 3 _ _ hw5
    have z4 := frozen_of_row _ _ 4 _ _ hw5
    have z5 := frozen_of_row _ _ 5 _ _ hw5
    have z6 := frozen_of_row _ _ 6 _ _ hw5
    have z7 := frozen_of_row _ _ 7 _ _ hw5
    have cc := hc5 (.cells #[.int .i64 k, .int .i64 f0, .int .i64 f1, .int .i64 f2, .int .i64 f3, .int .i64 f4, .int .i64 f5] 24)
    have hBB := hB5 (.cells #[.int .i64 k, .int .i64 f0, .int .i64 f1, .int .i64 f2, .int .i64 f3, .int .i64 f4, .int .i64 f5] 24)
    clear hh5 hc5 hB5
    go_region
    go_wp2
    exact bodyPost_ret (v := .tuple #[.agg #[.int .i64 who, .int .i64 k, .int .i64 f0, .int .i64 f1, .int .i64 f2, .int .i64 f3, .int .i64 f4, .int .i64 f5], .int .i64 0]) (by simp [results, Try.results17, d0, d1, d2, d3, d4, d5, d6, d7, go_sem]) rfl
      ⟨who, k, f0, f1, f2, f3, f4, f5, 0, hrr.out, rfl, ((((((((hBB.setCell (p := ⟨w.heap.size, 0, none⟩) (Nat.le_refl _) _).setCell (p := ⟨w.heap.size, 1, none⟩) (Nat.le_refl _) _).setCell (p := ⟨w.heap.size, 2, none⟩) (Nat.le_refl _) _).setCell (p := ⟨w.heap.size, 3, none⟩) (Nat.le_refl _) _).setCell (p := ⟨w.heap.size, 4, none⟩) (Nat.le_refl _) _).setCell (p := ⟨w.heap.size, 5, none⟩) (Nat.le_refl _) _).setCell (p := ⟨w.heap.size, 6, none⟩) (Nat.le_refl _) _).setCell (p := ⟨w.heap.size, 7, none⟩) (Nat.le_refl _) _).drew⟩
  · have hrr : Hid (readCmdS bs = ([0, 0, 0, 0, 0, 0, 0, 0], 2)) := by show readCmdS bs = _; rw [hS.out]; simp
    clear hS
    go_wp2_with (refine store_cmd rfl _ _ rfl w.heap.size 0 0 0 0 0 0 0 0 rfl rfl _ _ _ _ _ _ _ _ _ (hh5 _) ?_)
    have hB' := Below.setRow (hB5 (.cells #[.int .i64 k, .int .i64 f0, .int .i64 f1, .int .i64 f2, .int .i64 f3, .int .i64 f4, .int .i64 f5] 24)) (Nat.le_refl _) #[.int .i64 0, .int .i64 0, .int .i64 0, .int .i64 0, .int .i64 0, .int .i64 0, .int .i64 0, .int .i64 0]
    obtain ⟨d0, d1, d2, d3, d4, d5, d6, d7⟩ := eight (setRow_heap (w4.alloc (.cells #[.int .i64 k, .int .i64 f0, .int .i64 f1, .int .i64 f2, .int .i64 f3, .int .i64 f4, .int .i64 f5] 24)) w.heap.size _ #[.int .i64 0, .int .i64 0, .int .i64 0, .int .i64 0, .int .i64 0, .int .i64 0, .int .i64 0, .int .i64 0] _ _ (hh5 _))
    generalize (w4.alloc (.cells #[.int .i64 k, .int .i64 f0, .int .i64 f1, .int .i64 f2, .int .i64 f3, .int .i64 f4, .int .i64 f5] 24)).setRow w.heap.size #[.int .i64 0, .int .i64 0, .int .i64 0, .int .i64 0, .int .i64 0, .int .i64 0, .int .i64 0, .int .i64 0] = w5 at *
    exact bodyPost_ret (v := .tuple #[.agg #[.int .i64 0, .int .i64 0, .int .i64 0, .int .i64 0, .int .i64 0, .int .i64 0, .int .i64 0, .int .i64 0], .int .i64 2]) (by simp [results, Try.results17, d0, d1, d2, d3, d4, d5, d6, d7, go_sem]) rfl
      ⟨0, 0, 0, 0, 0, 0, 0, 0, 2, hrr.out, rfl, hB'⟩

theorem refReadCmd_short (a : Option Addr) (len cap : Nat) (bs : List Int) (w : World) (hl : len = bs.length) (h8 : len < 8) : Calls Try.prog 19 #[.slice a len cap] w (ReadCmdEnd w (readCmdS bs)) := by
  have hS : Hid (readCmdS bs = ([0, 0, 0, 0, 0, 0, 0, 0], 2)) := by show readCmdS bs = _; unfold readCmdS; rw [if_pos (by omega)]
  have i8 : (len : Int) < 8 := by omega
  clear hl h8
  go_enter Try.func19, Try.ntmps19
  go_wp2
  exact bodyPost_ret (v := .tuple #[.agg #[.int .i64 0, .int .i64 0, .int .i64 0, .int .i64 0, .int .i64 0, .int .i64 0, .int .i64 0, .int .i64 0], .int .i64 2]) (by simp [results, Try.results19, go_sem]) rfl
    ⟨0, 0, 0, 0, 0, 0, 0, 0, 2, hS.out, rfl, (Below.refl _ _).alloc (Nat.le_refl _) _⟩

set_option maxHeartbeats 4000000 in
theorem refReadCmd_long (b off n cap : Nat) (bs : List Int) (w : World) (h : Sl .u8 w (some ⟨b, off, none⟩) n bs) (hc : n ≤ cap) (hm : cap ≤ 9223372036854775807) (hr : n ≤ 1000) (h8 : 8 ≤ n) :
    Calls Try.prog 19 #[.slice (some ⟨b, off, none⟩) n cap] w (ReadCmdEnd w (readCmdS bs)) := by
  have hl := h.1
  have h1 : Hid (Sl .u8 w (some ⟨b, off, none⟩) 8 (bs.take 8)) := h.take 8 h8
  obtain ⟨R, hR⟩ : ∃ R, (if cap = 8 then some (⟨b, off, none⟩ : Addr) else some ⟨b, off + 8, none⟩) = R := ⟨_, rfl⟩
  have h2 : Hid (Sl .u8 w R (n - 8) (bs.drop 8)) := by
    have := h.cutI hc 8 h8
    rw [← hR]
    show Sl _ _ _ _ _
    simpa [Addr.add_flat] using this
  have hG : getS (bs.take 8) = ([dec (bs.take 8)], 0) := by
    have hl8 : (bs.take 8).length = 8 := by rw [List.length_take]; omega
    unfold getS
    rw [if_pos (by rw [hl8]), hl8]
    show ([dec ((bs.take 8).take 8)], 0) = _
    rw [List.take_of_length_le (by omega)]
  have hS : Hid (readCmdS bs = if (readS (bs.drop 8)).2 = 0 then (dec (bs.take 8) :: (readS (bs.drop 8)).1, 0) else ([0, 0, 0, 0, 0, 0, 0, 0], 2)) := by show readCmdS bs = _; rw [readCmdS, if_neg (by omega)]
  obtain ⟨who, hwho⟩ : ∃ who, dec (bs.take 8) = who := ⟨_, rfl⟩
  rw [hwho] at hG hS
  have i8 : (8 : Int) ≤ n := by omega
  have i9 : (8 : Int) ≤ cap := by omega
  clear hl hwho h
  go_enter Try.func19, Try.ntmps19
  go_wp2_with fail
  go_at_call 29
  refine (refGet_any (some ⟨b, off, none⟩) 8 cap (bs.take 8) _ (h1.out.alloc _) (by omega) (by omega) (by omega)).mono ?_
  rintro e w3 ⟨a3, c3, rfl, hs3, hb3⟩
  rw [hG] at hs3
  rw [hG]
  clear hG
  have hb0 : Below w.heap.size w (w.alloc (.cells #[.int .i64 0, .int .i64 0, .int .i64 0, .int .i64 0, .int .i64 0, .int .i64 0, .int .i64 0, .int .i64 0] 26)) := (Below.refl _ _).alloc (Nat.le_refl _) _
  have hB : Below w.heap.size w w3 := hb0.trans (hb3.mono hb0.size)
  have hh0 : w3.heap[w.heap.size]? = some (.cells #[.int .i64 0, .int .i64 0, .int .i64 0, .int .i64 0, .int .i64 0, .int .i64 0, .int .i64 0, .int .i64 0] 26 (0, 0)) := by
    rw [hb3.block _ (by simp), heap_alloc_new]
  have h3 : Hid (Sl .u8 w3 R (n - 8) (bs.drop 8)) := h2.out.below hB
  obtain ⟨b3, o3, rfl, c0⟩ : ∃ b3 o3, a3 = some ⟨b3, o3, none⟩ ∧ w3.cell? ⟨b3, o3, none⟩ = some (.int .i64 who) := by
    rcases hs3.2.2 with h0 | ⟨b3, o3, ha, hc⟩
    · simp at h0
    · exact ⟨b3, o3, ha, by simpa using hc 0 (by simp)⟩
  clear hs3 hb3 hb0 h1 h2
  go_wp2_with fail
  go_at_call 18
  refine (refRead_any R (n - 8) (cap - 8) (bs.drop 8) _ h3.out (by omega) (by omega) (by omega)).mono ?_
  rintro e w4 ⟨k, f0, f1, f2, f3, f4, f5, er, hRS, rfl, hb4⟩
  have her := readS_err (bs.drop 8)
  rw [hRS] at hS her
  have hh0 := keeps hb4 hh0
  have hB := hB.trans (hb4.mono hB.size)
  have c0 : w4.cell? ⟨b3, o3, none⟩ = some (.int .i64 who) := by rw [hb4.cell (p := ⟨b3, o3, none⟩) (block_lt_of_cell c0)]; exact c0
  have hh5 : ∀ o, (w4.alloc o).heap[w.heap.size]? = some (.cells #[.int .i64 0, .int .i64 0, .int .i64 0, .int .i64 0, .int .i64 0, .int .i64 0, .int .i64 0, .int .i64 0] 26 (0, 0)) := fun o => by rw [heap_alloc_old _ _ ((Array.getElem?_eq_some_iff.1 hh0).1)]; exact hh0
  have hc5 : ∀ o, (w4.alloc o).cell? ⟨b3, o3, none⟩ = some (.int .i64 who) := fun o => by rw [((Below.refl _ w4).alloc (Nat.le_refl _) o).cell (p := ⟨b3, o3, none⟩) (block_lt_of_cell c0)]; exact c0
  have hB5 : ∀ o, Below w.heap.size w (w4.alloc o) := fun o => hB.alloc hB.size o
  clear hRS hb4 h3 hR
  simp only at hS her
  rcases her with rfl | rfl
  · have hrr : Hid (readCmdS bs = ([who, k, f0, f1, f2, f3, f4, f5], 0)) := by show readCmdS bs = _; rw [hS.out]; simp
    clear hS
    go_wp2_with fail
    have hw5 := hh5 (.cells #[.int .i64 k, .int .i64 f0, .int .i64 f1, .int .i64 f2, .int .i64 f3, .int .i64 f4, .int .i64 f5] 24)
    obtain ⟨d0, d1, d2, d3, d4, d5, d6, d7⟩ := eight hw5
    have z0 := frozen_of_row _ _ 0 _ _ hw5
    have z1 := frozen_of_row _ _ 1 _ _ hw5
    have z2 := frozen_of_row _ _ 2 _ _ hw5
    have z3 := frozen_of_row _ _ 3 _ _ hw5
    have z4 := frozen_of_row _ _ 4 _ _ hw5
    have z5 := frozen_of_row _ _ 5 _ _ hw5
    have z6 := frozen_of_row _ _ 6 _ _ hw5
    have z7 := frozen_of_row _ _ 7 _ _ hw5
    have cc := hc5 (.cells #[.int .i64 k, .int .i64 f0, .int .i64 f1, .int .i64 f2, .int .i64 f3, .int .i64 f4, .int .i64 f5] 24)
    have hBB := hB5 (.cells #[.int .i64 k, .int .i64 f0, .int .i64 f1, .int .i64 f2, .int .i64 f3, .int .i64 f4, .int .i64 f5] 24)
    clear hh5 hc5 hB5
    go_region
    go_wp2
    exact bodyPost_ret (v := .tuple #[.agg #[.int .i64 who, .int .i64 k, .int .i64 f0, .int .i64 f1, .int .i64 f2, .int .i64 f3, .int .i64 f4, .int .i64 f5], .int .i64 0]) (by simp [results, Try.results19, d0, d1, d2, d3, d4, d5, d6, d7, go_sem]) rfl
      ⟨who, k, f0, f1, f2, f3, f4, f5, 0, hrr.out, rfl, ((((((((hBB.setCell (p := ⟨w.heap.size, 0, none⟩) (Nat.le_refl _) _).setCell (p := ⟨w.heap.size, 1, none⟩) (Nat.le_refl _) _).setCell (p := ⟨w.heap.size, 2, none⟩) (Nat.le_refl _) _).setCell (p := ⟨w.heap.size, 3, none⟩) (Nat.le_refl _) _).setCell (p := ⟨w.heap.size, 4, none⟩) (Nat.le_refl _) _).setCell (p := ⟨w.heap.size, 5, none⟩) (Nat.le_refl _) _).setCell (p := ⟨w.heap.size, 6, none⟩) (Nat.le_refl _) _).setCell (p := ⟨w.heap.size, 7, none⟩) (Nat.le_refl _) _).drew⟩
  · have hrr : Hid (readCmdS bs = ([0, 0, 0, 0, 0, 0, 0, 0], 2)) := by show readCmdS bs = _; rw [hS.out]; simp
    clear hS
    go_wp2_with (refine store_cmd rfl _ _ rfl w.heap.size 0 0 0 0 0 0 0 0 rfl rfl _ _ _ _ _ _ _ _ _ (hh5 _) ?_)
    have hB' := Below.setRow (hB5 (.cells #[.int .i64 k, .int .i64 f0, .int .i64 f1, .int .i64 f2, .int .i64 f3, .int .i64 f4, .int .i64 f5] 24)) (Nat.le_refl _) #[.int .i64 0, .int .i64 0, .int .i64 0, .int .i64 0, .int .i64 0, .int .i64 0, .int .i64 0, .int .i64 0]
    obtain ⟨d0, d1, d2, d3, d4, d5, d6, d7⟩ := eight (setRow_heap (w4.alloc (.cells #[.int .i64 k, .int .i64 f0, .int .i64 f1, .int .i64 f2, .int .i64 f3, .int .i64 f4, .int .i64 f5] 24)) w.heap.size _ #[.int .i64 0, .int .i64 0, .int .i64 0, .int .i64 0, .int .i64 0, .int .i64 0, .int .i64 0, .int .i64 0] _ _ (hh5 _))
    generalize (w4.alloc (.cells #[.int .i64 k, .int .i64 f0, .int .i64 f1, .int .i64 f2, .int .i64 f3, .int .i64 f4, .int .i64 f5] 24)).setRow w.heap.size #[.int .i64 0, .int .i64 0, .int .i64 0, .int .i64 0, .int .i64 0, .int .i64 0, .int .i64 0, .int .i64 0] = w5 at *
    exact bodyPost_ret (v := .tuple #[.agg #[.int .i64 0, .int .i64 0, .int .i64 0, .int .i64 0, .int .i64 0, .int .i64 0, .int .i64 0, .int .i64 0], .int .i64 2]) (by simp [results, Try.results19, d0, d1, d2, d3, d4, d5, d6, d7, go_sem]) rfl
      ⟨0, 0, 0, 0, 0, 0, 0, 0, 2, hrr.out, rfl, hB'⟩

/-- ReadCmd. -/
theorem readCmd_any (a : Option Addr) (len cap : Nat) (bs : List Int) (w : World) (h : Sl .u8 w a len bs) (hc : len ≤ cap) (hm : cap ≤ 9223372036854775807) (hr : len ≤ 1000) :
    Calls Try.prog 17 #[.slice a len cap] w (ReadCmdEnd w (readCmdS bs)) := by
  by_cases h8 : len < 8
  · exact readCmd_short a len cap bs w h.1 h8
  · rcases h.2.2 with h0 | ⟨b, off, rfl, _⟩
    · have := h.1
      rw [h0] at this
      simp at this
      omega
    · exact readCmd_long b off len cap bs w h hc hm hr (by omega)

/-- ReadCmd, as the document answers. -/
theorem refReadCmd_any (a : Option Addr) (len cap : Nat) (bs : List Int) (w : World) (h : Sl .u8 w a len bs) (hc : len ≤ cap) (hm : cap ≤ 9223372036854775807) (hr : len ≤ 1000) :
    Calls Try.prog 19 #[.slice a len cap] w (ReadCmdEnd w (readCmdS bs)) := by
  by_cases h8 : len < 8
  · exact refReadCmd_short a len cap bs w h.1 h8
  · rcases h.2.2 with h0 | ⟨b, off, rfl, _⟩
    · have := h.1
      rw [h0] at this
      simp at this
      omega
    · exact refReadCmd_long b off len cap bs w h hc hm hr (by omega)

end Go.Proofs.Ytaifnlfebdochaa
