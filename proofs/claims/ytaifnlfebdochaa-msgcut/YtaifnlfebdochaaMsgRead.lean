/-
  msg: bytes' message: the program's answer and the document's.
-/
import Derived.Test.YtaifnlfebdochaaMsgCmd
import Derived.Laws.CopyOwn
namespace Go.Proofs.Ytaifnlfebdochaa
open Go.RowKit

/-- Numbers, and zeros behind them, six in all. -/
def six (l : List Int) : List Int := (l ++ [0, 0, 0, 0, 0, 0]).take 6

/-- The message that bytes are: its kind, its numbers; the error. -/
def readS : List Int → List Int × Int
  | [] => ([0, 0, 0, 0, 0, 0, 0], 2)
  | k :: bs => if (getS bs).2 = 0 ∧ ((getS bs).1.length : Int) = manyS k then (k :: six (getS bs).1, 0) else ([0, 0, 0, 0, 0, 0, 0], 2)

def ReadEnd (w : World) (r : List Int × Int) (e : Ending) (w' : World) : Prop :=
  ∃ k f0 f1 f2 f3 f4 f5 er, r = ([k, f0, f1, f2, f3, f4, f5], er) ∧ e = .returned (.tuple #[.agg #[.int .i64 k, .int .i64 f0, .int .i64 f1, .int .i64 f2, .int .i64 f3, .int .i64 f4, .int .i64 f5], .int .i64 er]) ∧ Below w.heap.size w w'

theorem int64Size : (Try.prog.info? 2).map (·.size) = some 1 := by kernel_rfl
theorem six_six (l : List Int) : ∃ f0 f1 f2 f3 f4 f5, six l = [f0, f1, f2, f3, f4, f5] := by
  have h : (six l).length = 6 := by simp [six]
  match hl : six l, h with
  | [f0, f1, f2, f3, f4, f5], _ => exact ⟨f0, f1, f2, f3, f4, f5, rfl⟩
theorem splice_six (l : List Int) (k : Int) (h : l.length ≤ 6) : splice [.int .i64 k, .int .i64 0, .int .i64 0, .int .i64 0, .int .i64 0, .int .i64 0, .int .i64 0] 1 (l.map (Value.int .i64)) = (k :: six l).map (Value.int .i64) := by
  unfold splice six
  match l, h with
  | [], _ => rfl
  | [_], _ => rfl
  | [_, _], _ => rfl
  | [_, _, _], _ => rfl
  | [_, _, _, _], _ => rfl
  | [_, _, _, _, _], _ => rfl
  | [_, _, _, _, _, _], _ => rfl
  | _ :: _ :: _ :: _ :: _ :: _ :: _ :: _, h => simp at h
theorem msgSize : (Try.prog.info? 24).map (·.size) = some 7 := by kernel_rfl

/-- A message is laid over another one. -/
theorem store_msg {ops : Array Oper} {rest : List Oper} {o : Oper} {a : Act} {w : World} {Q : Exit → Act → World → Prop} (hgd : o.guard = none) (x y : Operand) (ho : o.op = .store 24 x y)
    (g : Nat) (k f0 f1 f2 f3 f4 f5 : Int) (hx : a.eval x = .pointer (some ⟨g, 0, none⟩)) (hy : a.eval y = .agg #[.int .i64 k, .int .i64 f0, .int .i64 f1, .int .i64 f2, .int .i64 f3, .int .i64 f4, .int .i64 f5])
    (t : TypeId) (v0 v1 v2 v3 v4 v5 v6 : Value) (hg : w.heap[g]? = some (.cells #[v0, v1, v2, v3, v4, v5, v6] t (0, 0)))
    (h : wpList Try.prog ops Q rest (a.put o.dst undef) (w.setRow g #[.int .i64 k, .int .i64 f0, .int .i64 f1, .int .i64 f2, .int .i64 f3, .int .i64 f4, .int .i64 f5])) : wpList Try.prog ops Q (o :: rest) a w :=
  wpList_store_row hgd 24 x y ho g _ hx hy t _ hg msgSize (by simp) (by simp [Value.oneCell']) h

/-- Seven cells of a block, one by one. -/
theorem seven {w : World} {g : Nat} {v0 v1 v2 v3 v4 v5 v6 : Value} {t : TypeId} {fr : Nat × Nat} (h : w.heap[g]? = some (.cells #[v0, v1, v2, v3, v4, v5, v6] t fr)) :
    w.cell? ⟨g, 0, none⟩ = some v0 ∧ w.cell? ⟨g, 1, none⟩ = some v1 ∧ w.cell? ⟨g, 2, none⟩ = some v2 ∧ w.cell? ⟨g, 3, none⟩ = some v3 ∧ w.cell? ⟨g, 4, none⟩ = some v4 ∧ w.cell? ⟨g, 5, none⟩ = some v5 ∧ w.cell? ⟨g, 6, none⟩ = some v6 :=
  ⟨cell_of_row w g 0 _ _ _ h, cell_of_row w g 1 _ _ _ h, cell_of_row w g 2 _ _ _ h, cell_of_row w g 3 _ _ _ h, cell_of_row w g 4 _ _ _ h, cell_of_row w g 5 _ _ _ h, cell_of_row w g 6 _ _ _ h⟩

theorem Below.setRow {B : Nat} {a w : World} (h : Below B a w) {g : Nat} (hg : B ≤ g) (cs : Array Value) : Below B a (w.setRow g cs) :=
  ⟨h.os, h.tape, h.output, by rw [setRow_size]; exact h.size, fun k hk => by rw [setRow_other _ _ _ _ (by omega)]; exact h.block k hk⟩

theorem read_nil (a : Option Addr) (cap : Nat) (w : World) : Calls Try.prog 16 #[.slice a 0 cap] w (ReadEnd w (readS [])) := by
  go_enter Try.func16, Try.ntmps16
  go_wp2
  exact bodyPost_ret (v := .tuple #[.agg #[.int .i64 0, .int .i64 0, .int .i64 0, .int .i64 0, .int .i64 0, .int .i64 0, .int .i64 0], .int .i64 2]) (by simp [results, Try.results16, go_sem]) rfl
    ⟨0, 0, 0, 0, 0, 0, 0, 2, rfl, rfl, (Below.refl _ _).alloc (Nat.le_refl _) _⟩

set_option maxHeartbeats 4000000 in
theorem read_cons (b off n cap : Nat) (k : Int) (bs : List Int) (w : World) (h : Sl .u8 w (some ⟨b, off, none⟩) n (k :: bs)) (hc : n ≤ cap) (hm : cap ≤ 9223372036854775807) (hr : n ≤ 1000) :
    Calls Try.prog 16 #[.slice (some ⟨b, off, none⟩) n cap] w (ReadEnd w (readS (k :: bs))) := by
  have c0 : ∀ o, (w.alloc o).cell? ⟨b, off, none⟩ = some (.int .u8 k) := by
    intro o
    rcases (h.alloc o).2.2 with h0 | ⟨b', off', ha, hc⟩
    · simp at h0
    · simp at ha
      obtain ⟨rfl, rfl⟩ := ha
      simpa using hc 0 (by simp)
  obtain ⟨R, hR⟩ : ∃ R, (if cap = 1 then some (⟨b, off, none⟩ : Addr) else some ⟨b, off + 1, none⟩) = R := ⟨_, rfl⟩
  have hbs : Hid (Sl .u8 w R (n - 1) bs) := by
    have := h.cutI hc 1 (by have := h.1; simp at this; omega)
    rw [← hR]
    show Sl _ _ _ _ _
    simpa [Addr.add_flat] using this
  have HL : Hid (n = bs.length + 1) := h.1
  have hk := wf_u8 (h.2.1 k (by simp))
  have hwk : wrap64 k = k := by unfold wrap64; omega
  have hn : 0 < n := by have := HL.out; omega
  have i1 : (n : Int) ≠ 0 := by omega
  have i2 : ((n : Int) == 0) = false := by simp; omega
  have i3 : (1 : Int) ≤ n := by omega
  clear h
  go_enter Try.func16, Try.ntmps16
  go_wp2_with fail
  go_at_call 28
  refine (get_any R (n - 1) (cap - 1) bs _ ((hbs.out.alloc _).alloc _) (by omega) (by omega) (by omega)).mono ?_
  rintro e w3 ⟨a3, c3, rfl, hs3, hb3⟩
  have hh0 : w3.heap[w.heap.size]? = some (.cells #[.int .i64 0, .int .i64 0, .int .i64 0, .int .i64 0, .int .i64 0, .int .i64 0, .int .i64 0] 24 (0, 0)) := by
    rw [hb3.block _ (by simp; omega), heap_alloc_old _ _ (by simp), heap_alloc_new]
  have hh1 : w3.heap[w.heap.size + 1]? = some (.cells #[.int .i64 k, .int .i64 0, .int .i64 0, .int .i64 0, .int .i64 0, .int .i64 0, .int .i64 0] 24 (0, 0)) := by
    rw [hb3.block _ (by simp)]
    have := heap_alloc_new (w.alloc (.cells #[.int .i64 0, .int .i64 0, .int .i64 0, .int .i64 0, .int .i64 0, .int .i64 0, .int .i64 0] 24)) (.cells #[.int .i64 k, .int .i64 0, .int .i64 0, .int .i64 0, .int .i64 0, .int .i64 0, .int .i64 0] 24)
    simpa using this
  have hB : Below w.heap.size w w3 := by
    have h1 : Below w.heap.size w ((w.alloc (.cells #[.int .i64 0, .int .i64 0, .int .i64 0, .int .i64 0, .int .i64 0, .int .i64 0, .int .i64 0] 24)).alloc (.cells #[.int .i64 k, .int .i64 0, .int .i64 0, .int .i64 0, .int .i64 0, .int .i64 0, .int .i64 0] 24)) := ((Below.refl _ _).alloc (Nat.le_refl _) _).alloc (by simp) _
    exact h1.trans (hb3.mono (by simp; omega))
  clear hb3 c0 hR hbs
  have M := many_any k
  have hS : Hid (readS (k :: bs) = if (getS bs).2 = 0 ∧ ((getS bs).1.length : Int) = manyS k then (k :: six (getS bs).1, 0) else ([0, 0, 0, 0, 0, 0, 0], 2)) := rfl
  have hml := manyS_range k
  have her : (getS bs).2 = 0 ∨ (getS bs).2 = 2 := by unfold getS; split <;> simp
  obtain ⟨L, hL⟩ : ∃ L, getS bs = L := ⟨_, rfl⟩
  rw [hL] at hS hs3 her
  rw [hL]
  clear hL
  obtain ⟨l, er⟩ := L
  obtain ⟨m, hm'⟩ : ∃ m, manyS k = m := ⟨_, rfl⟩
  rw [hm'] at M hS hml
  clear hm'
  obtain ⟨ln, hln⟩ : ∃ ln, l.length = ln := ⟨_, rfl⟩
  have HLN : Hid (l.length = ln) := hln
  simp only [hln] at hS hs3 her ⊢
  clear hln
  by_cases hgood : er = 0 ∧ (ln : Int) = m
  · obtain ⟨rfl, rfl⟩ := hgood
    have hrr : Hid (readS (k :: bs) = (k :: six l, 0)) := by
      show readS (k :: bs) = _
      rw [hS.out, if_pos ⟨rfl, rfl⟩]
    clear hS her
    have hln6 : ln ≤ 6 := by omega
    have hl6 : l.length ≤ 6 := by rw [HLN.out]; exact hln6
    obtain ⟨f0, f1, f2, f3, f4, f5, hsix⟩ := six_six l
    have hspl : Hid (splice [.int .i64 k, .int .i64 0, .int .i64 0, .int .i64 0, .int .i64 0, .int .i64 0, .int .i64 0] 1 (l.map (Value.int .i64)) = [.int .i64 k, .int .i64 f0, .int .i64 f1, .int .i64 f2, .int .i64 f3, .int .i64 f4, .int .i64 f5]) := by
      show splice _ _ _ = _
      rw [splice_six l k hl6, hsix]
      rfl
    obtain ⟨cs, hcs⟩ : ∃ cs, l.map (Value.int .i64) = cs := ⟨_, rfl⟩
    rw [hcs] at hspl
    have hcl : Hid (cs.length = ln) := by show cs.length = ln; rw [← hcs, List.length_map, HLN.out]
    have hone : Hid (∀ v ∈ cs, v.oneCell' = true) := by
      intro v hv
      rw [← hcs] at hv
      obtain ⟨z, _, rfl⟩ := List.mem_map.1 hv
      rfl
    have hsrc : Hid (0 < cs.length → ∃ ad, a3 = some ad ∧ ∀ j v, cs[j]? = some v → w3.cell? (ad.add j) = some v) := by
      intro hp
      rw [← hcs] at hp ⊢
      rcases hs3.2.2 with h0 | ⟨b', off', ha, _⟩
      · subst h0; simp at hp
      · subst ha
        exact ⟨_, rfl, hs3.cells⟩
    have hrr2 : Hid (readS (k :: bs) = ([k, f0, f1, f2, f3, f4, f5], 0)) := by show readS (k :: bs) = _; rw [hrr.out, hsix]
    clear hrr hsix hcs hl6 HLN hs3
    have c10 : w3.cell? ⟨w.heap.size + 1, 0, none⟩ = some (.int .i64 k) := cell_of_row w3 _ 0 _ _ _ hh1
    have hmin : Nat.min ln 6 = ln := Nat.min_eq_left hln6
    go_wp2_with first
      | (go_at_call 20; refine (M _).mono ?_; rintro e w4 ⟨rfl, hw⟩; obtain rfl := hw.symm)
      | refine wpList_copy_splice rfl _ _ 45 45 rfl 2 Try.underlying45 int64Size (some ⟨w.heap.size + 1, 1, none⟩) a3 6 6 ln c3 rfl rfl (w.heap.size + 1) 1 [.int .i64 k, .int .i64 0, .int .i64 0, .int .i64 0, .int .i64 0, .int .i64 0, .int .i64 0] 24 hh1 cs ?cn ?cp ?cf hone.out (w.heap.size + 1) w3 (Below.refl _ _) (Nat.le_refl _) ?_
    case cn => rw [hcl.out, hmin]
    case cp => exact hsrc.out
    case cf => rw [hcl.out]; simp; omega
    intro w6 hg6 hb6
    have hh6 : w6.heap[w.heap.size]? = some (.cells #[.int .i64 0, .int .i64 0, .int .i64 0, .int .i64 0, .int .i64 0, .int .i64 0, .int .i64 0] 24 (0, 0)) := by rw [hb6.block _ (by omega)]; exact hh0
    have hB6 : Below w.heap.size w w6 := hB.trans (hb6.mono (by omega))
    have hh7 : w6.heap[w.heap.size + 1]? = some (.cells #[.int .i64 k, .int .i64 f0, .int .i64 f1, .int .i64 f2, .int .i64 f3, .int .i64 f4, .int .i64 f5] 24 (0, 0)) := by rw [hg6.out, hspl.out]
    obtain ⟨e0, e1, e2, e3, e4, e5, e6⟩ := seven hh7
    clear hg6 hspl hsrc hone hcl hb6 hB hh0 hh1 c10 hh7
    go_wp2_with (refine store_msg rfl _ _ rfl w.heap.size k f0 f1 f2 f3 f4 f5 rfl rfl _ _ _ _ _ _ _ _ hh6 ?_)
    have hB' := Below.setRow hB6 (Nat.le_refl _) #[.int .i64 k, .int .i64 f0, .int .i64 f1, .int .i64 f2, .int .i64 f3, .int .i64 f4, .int .i64 f5]
    obtain ⟨d0, d1, d2, d3, d4, d5, d6⟩ := seven (setRow_heap w6 w.heap.size _ #[.int .i64 k, .int .i64 f0, .int .i64 f1, .int .i64 f2, .int .i64 f3, .int .i64 f4, .int .i64 f5] _ _ hh6)
    generalize w6.setRow w.heap.size #[.int .i64 k, .int .i64 f0, .int .i64 f1, .int .i64 f2, .int .i64 f3, .int .i64 f4, .int .i64 f5] = w5 at *
    exact bodyPost_ret (v := .tuple #[.agg #[.int .i64 k, .int .i64 f0, .int .i64 f1, .int .i64 f2, .int .i64 f3, .int .i64 f4, .int .i64 f5], .int .i64 0]) (by simp [results, Try.results16, d0, d1, d2, d3, d4, d5, d6, go_sem]) rfl
      ⟨k, f0, f1, f2, f3, f4, f5, 0, hrr2.out, rfl, hB'⟩
  · have hrr : Hid (readS (k :: bs) = ([0, 0, 0, 0, 0, 0, 0], 2)) := by
      show readS (k :: bs) = _
      rw [hS.out, if_neg hgood]
    clear hS
    have c10 : w3.cell? ⟨w.heap.size + 1, 0, none⟩ = some (.int .i64 k) := cell_of_row w3 _ 0 _ _ _ hh1
    rcases her with rfl | rfl
    · have hne : ((ln : Int) == m) = false := by simp; intro h; exact hgood ⟨rfl, h⟩
      clear hgood
      go_wp2_with first
        | (go_at_call 20; refine (M _).mono ?_; rintro e w4 ⟨rfl, hw⟩; obtain rfl := hw.symm)
        | refine store_msg rfl _ _ rfl w.heap.size 0 0 0 0 0 0 0 rfl rfl _ _ _ _ _ _ _ _ hh0 ?_
      have hB' := Below.setRow hB (Nat.le_refl _) #[.int .i64 0, .int .i64 0, .int .i64 0, .int .i64 0, .int .i64 0, .int .i64 0, .int .i64 0]
      obtain ⟨d0, d1, d2, d3, d4, d5, d6⟩ := seven (setRow_heap w3 w.heap.size _ #[.int .i64 0, .int .i64 0, .int .i64 0, .int .i64 0, .int .i64 0, .int .i64 0, .int .i64 0] _ _ hh0)
      generalize w3.setRow w.heap.size #[.int .i64 0, .int .i64 0, .int .i64 0, .int .i64 0, .int .i64 0, .int .i64 0, .int .i64 0] = w5 at *
      exact bodyPost_ret (v := .tuple #[.agg #[.int .i64 0, .int .i64 0, .int .i64 0, .int .i64 0, .int .i64 0, .int .i64 0, .int .i64 0], .int .i64 2]) (by simp [results, Try.results16, d0, d1, d2, d3, d4, d5, d6, go_sem]) rfl
        ⟨0, 0, 0, 0, 0, 0, 0, 2, hrr.out, rfl, hB'⟩
    · clear hgood
      go_wp2_with (refine store_msg rfl _ _ rfl w.heap.size 0 0 0 0 0 0 0 rfl rfl _ _ _ _ _ _ _ _ hh0 ?_)
      have hB' := Below.setRow hB (Nat.le_refl _) #[.int .i64 0, .int .i64 0, .int .i64 0, .int .i64 0, .int .i64 0, .int .i64 0, .int .i64 0]
      obtain ⟨d0, d1, d2, d3, d4, d5, d6⟩ := seven (setRow_heap w3 w.heap.size _ #[.int .i64 0, .int .i64 0, .int .i64 0, .int .i64 0, .int .i64 0, .int .i64 0, .int .i64 0] _ _ hh0)
      generalize w3.setRow w.heap.size #[.int .i64 0, .int .i64 0, .int .i64 0, .int .i64 0, .int .i64 0, .int .i64 0, .int .i64 0] = w5 at *
      exact bodyPost_ret (v := .tuple #[.agg #[.int .i64 0, .int .i64 0, .int .i64 0, .int .i64 0, .int .i64 0, .int .i64 0, .int .i64 0], .int .i64 2]) (by simp [results, Try.results16, d0, d1, d2, d3, d4, d5, d6, go_sem]) rfl
        ⟨0, 0, 0, 0, 0, 0, 0, 2, hrr.out, rfl, hB'⟩

end Go.Proofs.Ytaifnlfebdochaa
