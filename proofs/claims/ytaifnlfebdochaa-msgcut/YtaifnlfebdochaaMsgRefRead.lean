/-
  msg: bytes' message: the document's answer.
-/
import Derived.Test.YtaifnlfebdochaaMsgRead
namespace Go.Proofs.Ytaifnlfebdochaa
open Go.RowKit

theorem keeps {w w' : World} {g : Nat} {cs : Array Value} {t : TypeId} {fr : Nat × Nat} (h : Below w.heap.size w w') (hg : w.heap[g]? = some (.cells cs t fr)) : w'.heap[g]? = some (.cells cs t fr) := by
  rw [h.block g (Array.getElem?_eq_some_iff.1 hg).1]
  exact hg

/-- Get, as the document answers: what it makes is new. -/
def GetNew (w : World) (bs : List Int) (e : Ending) (w' : World) : Prop :=
  ∃ a cap, e = .returned (.tuple #[.slice a (getS bs).1.length cap, .int .i64 (getS bs).2]) ∧ Sl .i64 w' a (getS bs).1.length (getS bs).1 ∧ (∀ b off, a = some ⟨b, off, none⟩ → w.heap.size ≤ b) ∧ Below w.heap.size w w'

theorem refGet_new (a : Option Addr) (len cap : Nat) (bs : List Int) (w : World) (h : Sl .u8 w a len bs) (hcap : len ≤ cap) (hmx : cap ≤ 9223372036854775807) (hreach : len ≤ 140737488355328) :
    Calls Try.prog 29 #[.slice a len cap] w (GetNew w bs) := by
  have hl := h.1
  by_cases h8 : len % 8 = 0
  · refine (refGet_good a len cap (len / 8) bs w h (by omega) hcap hmx hreach).mono ?_
    rintro e w' ⟨v, rfl, hown, bel⟩
    have e1 : getS bs = (decs (len / 8) bs, 0) := by unfold getS; rw [if_pos (by omega), hl]
    obtain ⟨a, cap, rfl, hS, _⟩ := Sl.own (ys := decs (len / 8) bs) hown (decs_wf _ bs)
    refine ⟨a, cap, by rw [e1], by rw [e1]; exact hS, ?_, bel⟩
    rintro b off rfl
    rcases hown.2 with ⟨hx, _⟩ | ⟨g', cap', cur, hv, hb, _⟩
    · simp at hx
    · simp at hv
      omega
  · refine (refGet_bad a len cap w h8 (by omega)).mono ?_
    rintro e w' ⟨rfl, rfl⟩
    have e1 : getS bs = ([], 2) := by unfold getS; rw [if_neg (by omega)]
    exact ⟨none, 0, by rw [e1]; rfl, by rw [e1]; exact Sl.nil _ _ _, fun b off h => by simp at h, Below.refl _ _⟩

theorem setRow_self {w : World} {g : Nat} {cs : Array Value} {t : TypeId} {fr : Nat × Nat} (hg : w.heap[g]? = some (.cells cs t fr)) : w.setRow g cs = w := by
  have hv : w.heap[g]'((Array.getElem?_eq_some_iff.1 hg).1) = .cells cs t fr := (Array.getElem?_eq_some_iff.1 hg).2
  unfold World.setRow
  cases w with
  | mk heap tape drawn os output =>
    congr 1
    apply Array.ext
    · simp
    · intro i h1 h2
      simp only [Array.getElem_modify]
      split
      · subst_vars
        simp only at hv
        rw [hv]
      · rfl

/-- The cells of the message while its numbers are laid. -/
def lays (k : Int) (l : List Int) (j : Nat) : Array Value := ((k :: six (l.take j)).map (Value.int .i64)).toArray

theorem six_step (l : List Int) (k : Int) (j : Nat) (hj : j < l.length) (hl : l.length ≤ 6) :
    (((k :: six (l.take j)).map (Value.int .i64)).toArray).setIfInBounds (1 + j) (.int .i64 (l.getD j 0)) = ((k :: six (l.take (j + 1))).map (Value.int .i64)).toArray := by
  obtain rfl | rfl | rfl | rfl | rfl | rfl : j = 0 ∨ j = 1 ∨ j = 2 ∨ j = 3 ∨ j = 4 ∨ j = 5 := by omega
  all_goals
    rcases l with _ | ⟨a, _ | ⟨b, _ | ⟨c, _ | ⟨d, _ | ⟨e, _ | ⟨f, l⟩⟩⟩⟩⟩⟩ <;> first | rfl | (simp at hj; done)

theorem refRead_nil (a : Option Addr) (cap : Nat) (w : World) : Calls Try.prog 18 #[.slice a 0 cap] w (ReadEnd w (readS [])) := by
  go_enter Try.func18, Try.ntmps18
  go_wp2
  exact bodyPost_ret (v := .tuple #[.agg #[.int .i64 0, .int .i64 0, .int .i64 0, .int .i64 0, .int .i64 0, .int .i64 0, .int .i64 0], .int .i64 2]) (by simp [results, Try.results18, go_sem]) rfl
    ⟨0, 0, 0, 0, 0, 0, 0, 2, rfl, rfl, (Below.refl _ _).alloc (Nat.le_refl _) _⟩

set_option maxHeartbeats 4000000 in
theorem refRead_cons (b off n cap : Nat) (k : Int) (bs : List Int) (w : World) (h : Sl .u8 w (some ⟨b, off, none⟩) n (k :: bs)) (hc : n ≤ cap) (hm : cap ≤ 9223372036854775807) (hr : n ≤ 1000) :
    Calls Try.prog 18 #[.slice (some ⟨b, off, none⟩) n cap] w (ReadEnd w (readS (k :: bs))) := by
  have c0 : ∀ o, (w.alloc o).cell? ⟨b, off, none⟩ = some (.int .u8 k) := by
    intro o
    rcases (h.alloc o).2.2 with h0 | ⟨b', off', ha, hc⟩
    · simp at h0
    · simp at ha
      obtain ⟨rfl, rfl⟩ := ha
      simpa using hc 0 (by simp)
  obtain ⟨R, hR⟩ : ∃ R, (if cap = 1 then some (⟨b, off, none⟩ : Addr) else some ⟨b, off + 1, none⟩) = R := ⟨_, rfl⟩
  have hbs : Hid (Sl .u8 w R (n - 1) bs) := by
    have := h.cutI hc 1 (by have := h.1; simp at this; omega)
    rw [← hR]
    show Sl _ _ _ _ _
    simpa [Addr.add_flat] using this
  have HL : Hid (n = bs.length + 1) := h.1
  have hk := wf_u8 (h.2.1 k (by simp))
  have hwk : wrap64 k = k := by unfold wrap64; omega
  have hn : 0 < n := by have := HL.out; omega
  have i1 : (n : Int) ≠ 0 := by omega
  have i2 : ((n : Int) == 0) = false := by simp; omega
  have i3 : (1 : Int) ≤ n := by omega
  clear h
  go_enter Try.func18, Try.ntmps18
  go_wp2_with fail
  go_at_call 29
  refine (refGet_new R (n - 1) (cap - 1) bs _ ((hbs.out.alloc _).alloc _) (by omega) (by omega) (by omega)).mono ?_
  rintro e w3 ⟨a3, c3, rfl, hs3, hnew, hb3⟩
  have hnew : Hid (∀ b off, a3 = some ⟨b, off, none⟩ → b ≠ w.heap.size + 1) := fun b off h => by have := hnew b off h; simp at this; omega
  have hh0 : w3.heap[w.heap.size]? = some (.cells #[.int .i64 0, .int .i64 0, .int .i64 0, .int .i64 0, .int .i64 0, .int .i64 0, .int .i64 0] 24 (0, 0)) := by
    rw [hb3.block _ (by simp; omega), heap_alloc_old _ _ (by simp), heap_alloc_new]
  have hh1 : w3.heap[w.heap.size + 1]? = some (.cells #[.int .i64 k, .int .i64 0, .int .i64 0, .int .i64 0, .int .i64 0, .int .i64 0, .int .i64 0] 24 (0, 0)) := by
    rw [hb3.block _ (by simp)]
    have := heap_alloc_new (w.alloc (.cells #[.int .i64 0, .int .i64 0, .int .i64 0, .int .i64 0, .int .i64 0, .int .i64 0, .int .i64 0] 24)) (.cells #[.int .i64 k, .int .i64 0, .int .i64 0, .int .i64 0, .int .i64 0, .int .i64 0, .int .i64 0] 24)
    simpa using this
  have hB : Below w.heap.size w w3 := by
    have h1 : Below w.heap.size w ((w.alloc (.cells #[.int .i64 0, .int .i64 0, .int .i64 0, .int .i64 0, .int .i64 0, .int .i64 0, .int .i64 0] 24)).alloc (.cells #[.int .i64 k, .int .i64 0, .int .i64 0, .int .i64 0, .int .i64 0, .int .i64 0, .int .i64 0] 24)) := ((Below.refl _ _).alloc (Nat.le_refl _) _).alloc (by simp) _
    exact h1.trans (hb3.mono (by simp; omega))
  clear hb3 c0 hR hbs
  have M := refMany_any k
  have hS : Hid (readS (k :: bs) = if (getS bs).2 = 0 ∧ ((getS bs).1.length : Int) = manyS k then (k :: six (getS bs).1, 0) else ([0, 0, 0, 0, 0, 0, 0], 2)) := rfl
  have hml := manyS_range k
  have her : (getS bs).2 = 0 ∨ (getS bs).2 = 2 := by unfold getS; split <;> simp
  obtain ⟨L, hL⟩ : ∃ L, getS bs = L := ⟨_, rfl⟩
  rw [hL] at hS hs3 her
  rw [hL]
  clear hL
  obtain ⟨l, er⟩ := L
  obtain ⟨m, hm'⟩ : ∃ m, manyS k = m := ⟨_, rfl⟩
  rw [hm'] at M hS hml
  clear hm'
  obtain ⟨ln, hln⟩ : ∃ ln, l.length = ln := ⟨_, rfl⟩
  have HLN : Hid (l.length = ln) := hln
  simp only [hln] at hS hs3 her ⊢
  clear hln
  by_cases hgood : er = 0 ∧ (ln : Int) = m
  · obtain ⟨rfl, rfl⟩ := hgood
    have hrr : Hid (readS (k :: bs) = (k :: six l, 0)) := by
      show readS (k :: bs) = _
      rw [hS.out, if_pos ⟨rfl, rfl⟩]
    clear hS her
    have hln6 : ln ≤ 6 := by omega
    have hl6 : l.length ≤ 6 := by rw [HLN.out]; exact hln6
    have hrr2 : Hid (readS (k :: bs) = (k :: six l, 0)) := hrr
    have hC0 : Hid (#[.int .i64 k, .int .i64 0, .int .i64 0, .int .i64 0, .int .i64 0, .int .i64 0, .int .i64 0] = ((k :: six (l.take 0)).map (Value.int .i64)).toArray) := rfl
    have HS : Hid (Sl .i64 w3 a3 ln l) := hs3
    clear hs3 hrr
    have c10 : w3.cell? ⟨w.heap.size + 1, 0, none⟩ = some (.int .i64 k) := cell_of_row w3 _ 0 _ _ _ hh1
    have i4 : ((ln : Int) == ln) = true := by simp
    go_wp2_with fail
    go_at_call 21
    refine (M _).mono ?_
    rintro e w4 ⟨rfl, hw⟩
    have hh0 := keeps hw hh0
    have hh1 := keeps hw hh1
    have hB := hB.trans (hw.mono hB.size)
    have HS4 : Hid (Sl .i64 w4 a3 ln l) := HS.out.below hw
    clear HS hw c10
    go_wp2_with fail
    have hH : ∀ j, (w4.setRow (w.heap.size + 1) (lays k l j)).heap[w.heap.size + 1]? = some (.cells (lays k l j) 24 (0, 0)) := fun j => setRow_heap w4 _ _ _ _ _ hh1
    have h00 : Hid (w4 = w4.setRow (w.heap.size + 1) (lays k l 0)) := (setRow_self hh1).symm
    have hl6 : Hid (l.length ≤ 6) := by show l.length ≤ 6; rw [HLN.out]; omega
    clear hh1
    go_loopw [7] (fun i wr => ∃ j : Nat, j ≤ ln ∧ i = .int .i64 j ∧ wr = w4.setRow (w.heap.size + 1) (lays k l j)) (fun i _ => ln - (intOf i).toNat)
    case atStart => exact ⟨0, by omega, rfl, h00.out⟩
    case round =>
      obtain ⟨j, hj, rfl, hwr⟩ := hrel
      by_cases hlt : j < ln
      · have hjl : j < l.length := by rw [HLN.out]; exact hlt
        obtain ⟨b3, o3, rfl, hc3⟩ : ∃ b3 o3, a3 = some ⟨b3, o3, none⟩ ∧ ∀ i, i < l.length → w4.cell? ⟨b3, o3 + i, none⟩ = some (.int .i64 (l.getD i 0)) := by
          rcases HS4.out.2.2 with h0 | h0
          · rw [h0] at hjl; simp at hjl
          · exact h0
        have c1 : wr.cell? ⟨b3, o3 + j, none⟩ = some (.int .i64 (l.getD j 0)) := by
          rw [hwr, cell_setRow_other _ _ _ _ (hnew.out b3 o3 rfl)]
          exact hc3 j hjl
        have hC := hH j
        rw [← hwr] at hC
        obtain ⟨y, c2⟩ : ∃ y, wr.cell? ⟨w.heap.size + 1, 1 + j, none⟩ = some y := by
          have hs : 1 + j < (lays k l j).size := by simp [lays, six]; omega
          exact ⟨(lays k l j)[1 + j], by rw [cell_of_row wr _ _ _ _ _ hC, Array.getElem?_eq_getElem hs]⟩
        have c3 := frozen_of_row wr (w.heap.size + 1) (1 + j) _ _ hC
        have hnx : Hid (wr.setCell ⟨w.heap.size + 1, 1 + j, none⟩ (.int .i64 (l.getD j 0)) = w4.setRow (w.heap.size + 1) (lays k l (j + 1))) := by
          show _ = _
          rw [setCell_eq_setRow wr _ _ _ _ _ _ hC, hwr, setRow_setRow]
          exact congrArg _ (six_step l k j hjl hl6.out)
        obtain ⟨x, hx⟩ : ∃ x, l.getD j 0 = x := ⟨_, rfl⟩
        rw [hx] at c1 hnx
        have i5 : (j : Int) < (ln : Int) := by omega
        have i6 : (j : Int) < 6 := by omega
        clear hx hC hwr hH hc3 h00 hh0 hjl
        go_wp2
        go_roundw
        case rel => exact ⟨j + 1, by omega, by go_num, hnx.out⟩
        case measure => simp [intOf]; omega
      · obtain rfl : j = ln := by omega
        have hC := hH j
        rw [← hwr] at hC
        obtain ⟨f0, f1, f2, f3, f4, f5, hsix⟩ := six_six l
        have hll : lays k l j = #[.int .i64 k, .int .i64 f0, .int .i64 f1, .int .i64 f2, .int .i64 f3, .int .i64 f4, .int .i64 f5] := by
          unfold lays
          rw [List.take_of_length_le (by rw [HLN.out]; exact Nat.le_refl _), hsix]
          rfl
        rw [hll] at hC
        have hrr3 : Hid (readS (k :: bs) = ([k, f0, f1, f2, f3, f4, f5], 0)) := by show readS (k :: bs) = _; rw [hrr2.out, hsix]
        have hh6 : wr.heap[w.heap.size]? = some (.cells #[.int .i64 0, .int .i64 0, .int .i64 0, .int .i64 0, .int .i64 0, .int .i64 0, .int .i64 0] 24 (0, 0)) := by rw [hwr, setRow_other _ _ _ _ (by omega)]; exact hh0
        have hB6 : Below w.heap.size w wr := by rw [hwr]; exact Below.setRow hB (by omega) _
        obtain ⟨e0, e1, e2, e3, e4, e5, e6⟩ := seven hC
        clear hC hwr hH h00 hh0 hsix hll hB
        go_wp2_with (refine store_msg rfl _ _ rfl w.heap.size k f0 f1 f2 f3 f4 f5 rfl rfl _ _ _ _ _ _ _ _ hh6 ?_)
        have hB' := Below.setRow hB6 (Nat.le_refl _) #[.int .i64 k, .int .i64 f0, .int .i64 f1, .int .i64 f2, .int .i64 f3, .int .i64 f4, .int .i64 f5]
        obtain ⟨d0, d1, d2, d3, d4, d5, d6⟩ := seven (setRow_heap wr w.heap.size _ #[.int .i64 k, .int .i64 f0, .int .i64 f1, .int .i64 f2, .int .i64 f3, .int .i64 f4, .int .i64 f5] _ _ hh6)
        generalize wr.setRow w.heap.size #[.int .i64 k, .int .i64 f0, .int .i64 f1, .int .i64 f2, .int .i64 f3, .int .i64 f4, .int .i64 f5] = w5 at *
        exact bodyPost_ret (v := .tuple #[.agg #[.int .i64 k, .int .i64 f0, .int .i64 f1, .int .i64 f2, .int .i64 f3, .int .i64 f4, .int .i64 f5], .int .i64 0]) (by simp [results, Try.results18, d0, d1, d2, d3, d4, d5, d6, go_sem]) rfl
          ⟨k, f0, f1, f2, f3, f4, f5, 0, hrr3.out, rfl, hB'⟩
  · have hrr : Hid (readS (k :: bs) = ([0, 0, 0, 0, 0, 0, 0], 2)) := by
      show readS (k :: bs) = _
      rw [hS.out, if_neg hgood]
    clear hS
    have c10 : w3.cell? ⟨w.heap.size + 1, 0, none⟩ = some (.int .i64 k) := cell_of_row w3 _ 0 _ _ _ hh1
    rcases her with rfl | rfl
    · have hne : ((ln : Int) == m) = false := by simp; intro h; exact hgood ⟨rfl, h⟩
      clear hgood
      go_wp2_with first
        | (go_at_call 21; refine (M _).mono ?_; rintro e w4 ⟨rfl, hw⟩; have hh0 := keeps hw hh0; have hB := hB.trans (hw.mono hB.size))
        | refine store_msg rfl _ _ rfl w.heap.size 0 0 0 0 0 0 0 rfl rfl _ _ _ _ _ _ _ _ hh0 ?_
      have hB' := Below.setRow hB (Nat.le_refl _) #[.int .i64 0, .int .i64 0, .int .i64 0, .int .i64 0, .int .i64 0, .int .i64 0, .int .i64 0]
      obtain ⟨d0, d1, d2, d3, d4, d5, d6⟩ := seven (setRow_heap w4 w.heap.size _ #[.int .i64 0, .int .i64 0, .int .i64 0, .int .i64 0, .int .i64 0, .int .i64 0, .int .i64 0] _ _ hh0)
      generalize w4.setRow w.heap.size #[.int .i64 0, .int .i64 0, .int .i64 0, .int .i64 0, .int .i64 0, .int .i64 0, .int .i64 0] = w5 at *
      exact bodyPost_ret (v := .tuple #[.agg #[.int .i64 0, .int .i64 0, .int .i64 0, .int .i64 0, .int .i64 0, .int .i64 0, .int .i64 0], .int .i64 2]) (by simp [results, Try.results18, d0, d1, d2, d3, d4, d5, d6, go_sem]) rfl
        ⟨0, 0, 0, 0, 0, 0, 0, 2, hrr.out, rfl, hB'⟩
    · clear hgood
      go_wp2_with (refine store_msg rfl _ _ rfl w.heap.size 0 0 0 0 0 0 0 rfl rfl _ _ _ _ _ _ _ _ hh0 ?_)
      have hB' := Below.setRow hB (Nat.le_refl _) #[.int .i64 0, .int .i64 0, .int .i64 0, .int .i64 0, .int .i64 0, .int .i64 0, .int .i64 0]
      obtain ⟨d0, d1, d2, d3, d4, d5, d6⟩ := seven (setRow_heap w3 w.heap.size _ #[.int .i64 0, .int .i64 0, .int .i64 0, .int .i64 0, .int .i64 0, .int .i64 0, .int .i64 0] _ _ hh0)
      generalize w3.setRow w.heap.size #[.int .i64 0, .int .i64 0, .int .i64 0, .int .i64 0, .int .i64 0, .int .i64 0, .int .i64 0] = w5 at *
      exact bodyPost_ret (v := .tuple #[.agg #[.int .i64 0, .int .i64 0, .int .i64 0, .int .i64 0, .int .i64 0, .int .i64 0, .int .i64 0], .int .i64 2]) (by simp [results, Try.results18, d0, d1, d2, d3, d4, d5, d6, go_sem]) rfl
        ⟨0, 0, 0, 0, 0, 0, 0, 2, hrr.out, rfl, hB'⟩

end Go.Proofs.Ytaifnlfebdochaa
