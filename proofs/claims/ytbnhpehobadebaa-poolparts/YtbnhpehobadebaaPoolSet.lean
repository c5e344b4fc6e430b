/-
  pool.Set and giroref8.Set over this seat's program: a new list, one place of it set.
-/
import Derived.Test.YtbnhpehobadebaaPoolSpec
import Derived.Laws.CopyOwn
namespace Go.Proofs.Ytbnhpehobadebaa
open Go.RowKit
set_option linter.unusedVariables false
set_option linter.unusedSimpArgs false

/-- The list with v at i, if it has an i. -/
def setS (zs : List Int) (i v : Int) : List Int := if 0 ≤ i ∧ i < (zs.length : Int) then zs.set i.toNat v else zs
theorem setS_no {zs : List Int} {i v : Int} (h : ¬ (0 ≤ i ∧ i < (zs.length : Int))) : setS zs i v = zs := if_neg h
theorem setS_yes {zs : List Int} {m : Nat} {v : Int} (h : m < zs.length) : setS zs (m : Int) v = zs.set m v := by
  unfold setS
  rw [if_pos ⟨by omega, by omega⟩, Int.toNat_natCast]
theorem setS_length (zs : List Int) (i v : Int) : (setS zs i v).length = zs.length := by
  unfold setS
  split <;> simp
theorem setS_wf {zs : List Int} {i v : Int} (h : ∀ n ∈ zs, IntKind.i64.wrap n = n) (hv : IntKind.i64.wrap v = v) : ∀ n ∈ setS zs i v, IntKind.i64.wrap n = n := by
  unfold setS
  split
  · intro n hn
    rcases List.mem_or_eq_of_mem_set hn with h1 | h1
    · exact h n h1
    · rw [h1]; exact hv
  · exact h

theorem size64 : (Try.prog.info? 2).map (·.size) = some 1 := by kernel_rfl

theorem makeN (w : World) (n : Nat) (h : n ≤ 1000000) :
    ∃ w', (Instr.makeSlice 23 (.int .i64 n) (.int .i64 n)).run Try.prog w = .ok (.slice (some ⟨w.heap.size, 0, none⟩) n n) w' ∧ w'.heap[w.heap.size]? = some (.cells (List.replicate n (Value.int .i64 0)).toArray 2 (0, 0)) ∧ Below w.heap.size w w' := by
  obtain ⟨i, hi, hz0, hz1, hz2⟩ := info_parts infoI64
  have hr := run_make (P := Try.prog) w 23 2 i (.int .i64 0) Try.underlying23 hi hz0 .i64 .i64 n n (by omega) (Int.le_refl _) (by rw [hz2]; omega) (by omega)
  simp only [Int.toNat_natCast, hz1, Nat.mul_one] at hr
  refine ⟨_, hr, ?_, (Below.refl _ _).alloc (Nat.le_refl _) _⟩
  have e : madeCells (Value.int .i64 0).cells n = (List.replicate n (Value.int .i64 0)).toArray := by
    apply Array.toList_inj.1
    show (madeCells #[Value.int .i64 0] n).toList = _
    rw [toList_madeCells_one]
  rw [e]
  exact heap_alloc_new w _

theorem blk_sl {w : World} {b : Nat} {zs : List Int} (h : Blk w b zs) (hwf : ∀ n ∈ zs, IntKind.i64.wrap n = n) : Sl .i64 w (some ⟨b, 0, none⟩) zs.length zs :=
  ⟨rfl, hwf, .inr ⟨b, 0, rfl, fun i hi => by rw [Nat.zero_add]; exact h.cell hi⟩⟩

/-- What Set leaves: a new list. -/
def SetEnd (w : World) (len : Nat) (zs : List Int) (e : Ending) (w' : World) : Prop := ∃ g cap, e = .returned (.slice (some ⟨g, 0, none⟩) len cap) ∧ Sl .i64 w' (some ⟨g, 0, none⟩) len zs ∧ w.heap.size ≤ g ∧ len ≤ cap ∧ Below w.heap.size w w'

set_option maxHeartbeats 2000000 in
theorem set_at (a : Option Addr) (c : Nat) (zs : List Int) (i v : Int) (w : World) (h : Sl .i64 w a zs.length zs) (hr : zs.length ≤ 1000000) (hv : IntKind.i64.wrap v = v) :
    Calls Try.prog 10 #[.slice a zs.length c, .int .i64 i, .int .i64 v] w (SetEnd w zs.length (setS zs i v)) := by
  obtain ⟨n, hn⟩ : ∃ n, zs.length = n := ⟨_, rfl⟩
  rw [hn] at h hr ⊢
  have HN : Hid (zs.length = n) := hn
  have HW : Hid (∀ z ∈ zs, IntKind.i64.wrap z = z) := h.2.1
  have HV : Hid (IntKind.i64.wrap v = v) := hv
  obtain ⟨w1, hmk, hh1, hB1⟩ := makeN w n hr
  obtain ⟨cs, hcs⟩ : ∃ cs, cs = zs.map (Value.int .i64) := ⟨_, rfl⟩
  obtain ⟨cur, hcur⟩ : ∃ cur, cur = List.replicate n (Value.int .i64 0) := ⟨_, rfl⟩
  rw [← hcur] at hh1
  have hcl : Hid (cs.length = n) := by rw [hcs, ← hn]; simp [Hid]
  have hul : Hid (cur.length = n) := by rw [hcur]; simp [Hid]
  have hone : Hid (∀ v ∈ cs, v.oneCell' = true) := by
    rw [hcs]
    intro u hu
    obtain ⟨z, _, rfl⟩ := List.mem_map.1 hu
    rfl
  have hsrc : Hid (0 < cs.length → some (⟨w.heap.size, 0, none⟩ : Addr) = some ⟨w.heap.size, 0, none⟩ ∧ ∃ ad, a = some ad ∧ ∀ j v, cs[j]? = some v → w1.cell? (ad.add j) = some v) := by
    intro h0
    refine ⟨rfl, ?_⟩
    have hs1 := h.below hB1
    rcases hs1.2.2 with hz | ⟨b, off, ha, hc⟩
    · subst hz; rw [hcs] at h0; simp at h0
    · refine ⟨_, ha, ?_⟩
      intro j u hj
      have hjl : j < zs.length := by
        have := (List.getElem?_eq_some_iff.1 hj).1
        rw [hcs] at this
        simpa using this
      rw [Addr.add_flat, hc j hjl]
      rw [hcs] at hj
      simp [hjl] at hj
      rw [← hj]
      simp [List.getD_eq_getElem?_getD, hjl]
  have hspl : Hid (splice cur 0 cs = zs.map (Value.int .i64)) := by
    show splice cur 0 cs = zs.map (Value.int .i64)
    have : List.drop cs.length cur = [] := List.drop_eq_nil_of_le (by rw [hul.out, hcl.out]; exact Nat.le_refl _)
    rw [← hcs]
    simp [splice, this]
  have HB1 : Hid (Below w.heap.size w w1) := hB1
  clear h hv hn hcs hcur hB1
  go_enter Try.func10, Try.ntmps10
  go_wp2_with (refine wpList_copy_splice rfl _ _ 23 23 rfl 2 Try.underlying23 size64 (some ⟨w.heap.size, 0, none⟩) a n n n c rfl rfl w.heap.size 0 cur 2 hh1 cs ?cn hsrc.out ?cf hone.out w.heap.size w HB1.out (Nat.le_refl _) ?_)
  case cn => exact hcl.out
  case cf => exact Nat.le_of_eq (hcl.out.trans hul.out.symm)
  intro w2 hg2 hb2
  have K : Hid (Blk w2 w.heap.size zs) := by
    show Blk w2 w.heap.size zs
    unfold Blk
    rw [hg2.out, hspl.out]
  have HB2 : Hid (Below w.heap.size w w2) := hb2
  clear hg2 hb2 hspl hsrc hone hul hcl hmk hh1 HB1
  by_cases i0 : i < 0
  · go_wp2
    go_ret
    refine ⟨w.heap.size, n, rfl, ?_, Nat.le_refl _, Nat.le_refl _, HB2.out⟩
    rw [setS_no (by omega), ← HN.out]
    exact blk_sl K.out HW.out
  · by_cases i1 : (n : Int) ≤ i
    · go_wp2
      go_ret
      refine ⟨w.heap.size, n, rfl, ?_, Nat.le_refl _, Nat.le_refl _, HB2.out⟩
      rw [setS_no (by rw [HN.out]; omega), ← HN.out]
      exact blk_sl K.out HW.out
    · obtain ⟨m, rfl⟩ : ∃ m : Nat, i = m := ⟨i.toNat, by omega⟩
      have hm : m < n := by omega
      have c0 := K.out.cell (i := m) (by rw [HN.out]; exact hm)
      have f0 := K.out.free m
      clear i0 i1
      go_wp2
      go_ret
      refine ⟨w.heap.size, n, rfl, ?_, Nat.le_refl _, Nat.le_refl _, HB2.out.setCell (p := ⟨w.heap.size, m, none⟩) (Nat.le_refl _) _⟩
      have e : setS zs m v = zs.set m v := setS_yes (by rw [HN.out]; exact hm)
      have hl : n = (zs.set m v).length := by simp [HN.out]
      have hw := setS_wf (i := m) HW.out HV.out
      rw [e] at hw ⊢
      rw [hl]
      exact blk_sl (K.out.set m v) hw

theorem set_any (a : Option Addr) (len c : Nat) (zs : List Int) (i v : Int) (w : World) (h : Sl .i64 w a len zs) (hr : len ≤ 1000000) (hv : IntKind.i64.wrap v = v) :
    Calls Try.prog 10 #[.slice a len c, .int .i64 i, .int .i64 v] w (SetEnd w len (setS zs i v)) := by
  have hl := h.1
  subst hl
  exact set_at a c zs i v w h hr hv

set_option maxHeartbeats 2000000 in
theorem refSet_any (a : Option Addr) (len c : Nat) (zs : List Int) (i v : Int) (w : World) (h : Sl .i64 w a len zs) (hn : a = none → c = 0) (hr : len ≤ 1000000) (hv : IntKind.i64.wrap v = v) :
    Calls Try.prog 11 #[.slice a len c, .int .i64 i, .int .i64 v] w (SetEnd w len (setS zs i v)) := by
  have HN : Hid (zs.length = len) := h.1.symm
  have HW : Hid (∀ z ∈ zs, IntKind.i64.wrap z = z) := h.2.1
  have HV : Hid (IntKind.i64.wrap v = v) := hv
  obtain ⟨i0, hi, hz0, hz1, hz2⟩ := info_parts infoI64
  have own0 : (w.alloc (.cells #[] 2)).ownsRow w.heap.size 2 1 (.slice (some ⟨w.heap.size, 0, none⟩) 0 0) 0 [] := World.ownsRow_lit w #[] 0 (Nat.le_refl _) (by decide) rfl
  have bel0 : Below w.heap.size w (w.alloc (.cells #[] 2)) := (Below.refl _ _).alloc (Nat.le_refl _) _
  have hS := h.below bel0
  have HB0 : Hid (Below w.heap.size w (w.alloc (.cells #[] 2))) := bel0
  have Hnn : Hid (a = none → c = 0) := hn
  clear h hv hn bel0
  go_enter Try.func11, Try.ntmps11
  go_wp2_with (refine wpList_append_sl rfl _ _ 23 rfl w.heap.size 2 i0 (.int .i64 0) 8 Try.underlying23 hi hz0 hz1 hz2 rfl (.slice (some ⟨w.heap.size, 0, none⟩) 0 0) 0 [] rfl own0 .i64 a len c zs rfl hS Hnn.out ?c1 ?c2 ?c3 ?_)
  case c1 => unfold maxLen; omega
  case c2 => omega
  case c3 => exact HB0.out.size
  intro v' w2 hown hgrow hnil
  have HB2 : Hid (Below w.heap.size w w2) := HB0.out.grown hgrow HB0.out.size (fun k hk => by simp [Value.ownBlock] at hk; omega)
  have hnn : v' ≠ .slice none 0 0 := hnil
  obtain ⟨g, cap, rfl⟩ := own_some hown hnn
  have hcap := own_cap hown
  have hgb : w.heap.size ≤ g := (hown.lt g rfl).1
  have HO : Hid (w2.ownsRow w.heap.size 2 1 (.slice (some ⟨g, 0, none⟩) len cap) len (zs.map (Value.int .i64))) := hown
  clear hown hgrow hnil hnn own0 HB0 hS
  have key : ∀ (u : World) (ys : List Int), u.ownsRow w.heap.size 2 1 (.slice (some ⟨g, 0, none⟩) len cap) len (ys.map (Value.int .i64)) → (∀ z ∈ ys, IntKind.i64.wrap z = z) → ys.length = len → Sl .i64 u (some ⟨g, 0, none⟩) len ys := by
    intro u ys ho hw hl
    obtain ⟨a', c', hv', hs', _⟩ := Sl.own ho hw
    simp at hv'
    rw [hl] at hs'
    rw [hv'.1]
    exact hs'
  have KEY : Hid (∀ (u : World) (ys : List Int), u.ownsRow w.heap.size 2 1 (.slice (some ⟨g, 0, none⟩) len cap) len (ys.map (Value.int .i64)) → (∀ z ∈ ys, IntKind.i64.wrap z = z) → ys.length = len → Sl .i64 u (some ⟨g, 0, none⟩) len ys) := key
  clear key
  by_cases i0 : i < 0
  · go_wp2
    go_ret
    refine ⟨g, cap, rfl, ?_, hgb, hcap.1, HB2.out⟩
    rw [setS_no (by omega)]
    exact KEY.out _ _ HO.out HW.out HN.out
  · by_cases i1 : (len : Int) ≤ i
    · go_wp2
      go_ret
      refine ⟨g, cap, rfl, ?_, hgb, hcap.1, HB2.out⟩
      rw [setS_no (by rw [HN.out]; omega)]
      exact KEY.out _ _ HO.out HW.out HN.out
    · obtain ⟨m, rfl⟩ : ∃ m : Nat, i = m := ⟨i.toNat, by omega⟩
      have hm : m < len := by omega
      have c0 : w2.cell? ⟨g, m, none⟩ = some (.int .i64 (zs.getD m 0)) := by
        rw [HO.out.cellAt m (by omega)]
        have := HN.out
        simp [List.getD_eq_getElem?_getD, this, hm]
      have f0 := HO.out.frozenAt m
      clear i0 i1
      go_wp2
      go_ret
      refine ⟨g, cap, rfl, ?_, hgb, hcap.1, HB2.out.setCell (p := ⟨g, m, none⟩) hgb _⟩
      have e : setS zs m v = zs.set m v := setS_yes (by rw [HN.out]; exact hm)
      have hw := setS_wf (i := m) HW.out HV.out
      have ho := (HO.out.stored m (.int .i64 v)).1
      rw [e] at hw ⊢
      rw [← List.map_set] at ho
      exact KEY.out _ _ ho hw (by simp [HN.out])

end Go.Proofs.Ytbnhpehobadebaa
