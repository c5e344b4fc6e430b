/-
  lim: lists in new memory: the program's answers and the document's.
-/
import Derived.Test.YtpaieecbedgeaaaLimRow
import Derived.Laws.CopyOwn
namespace Go.Proofs.Ytpaieecbedgeaaa
open Go.RowKit
set_option linter.unusedVariables false
set_option linter.unusedSimpArgs false

theorem size64 : (Try.prog.info? 2).map (·.size) = some 1 := by kernel_rfl

theorem Sl.src {w : World} {a : Option Addr} {n : Nat} {zs : List Int} (h : Sl .i64 w a n zs) (h0 : 0 < (zs.map (Value.int .i64)).length) : ∃ ad, a = some ad ∧ ∀ j v, (zs.map (Value.int .i64))[j]? = some v → w.cell? (ad.add j) = some v := by
  rcases h.2.2 with hz | ⟨b, off, ha, hc⟩
  · subst hz; simp at h0
  · refine ⟨_, ha, ?_⟩
    intro j u hj
    have hjl : j < zs.length := by
      have := (List.getElem?_eq_some_iff.1 hj).1
      simpa using this
    rw [Addr.add_flat, hc j hjl]
    simp [hjl] at hj
    rw [← hj]
    simp [List.getD_eq_getElem?_getD, hjl]

theorem splice_all (n : Nat) (cs : List Value) (h : cs.length = n) : splice (List.replicate n (Value.int .i64 0)) 0 cs = cs := by
  have : List.drop cs.length (List.replicate n (Value.int .i64 0)) = [] := List.drop_eq_nil_of_le (by simp; omega)
  simp [splice, this]

set_option maxHeartbeats 2000000 in
theorem copyList_any (a : Option Addr) (n c : Nat) (zs : List Int) (w : World) (h : Sl .i64 w a n zs) (hr : n ≤ 1000000) : Calls Try.prog 25 #[.slice a n c] w (RowEnd w zs) := by
  have HN : Hid (zs.length = n) := h.1.symm
  have HW : Hid (W64 zs) := h.2.1
  obtain ⟨w1, hmk, hh1, hB1⟩ := make64 w n hr
  obtain ⟨cs, hcs⟩ : ∃ cs, cs = zs.map (Value.int .i64) := ⟨_, rfl⟩
  obtain ⟨cur, hcur⟩ : ∃ cur, cur = List.replicate n (Value.int .i64 0) := ⟨_, rfl⟩
  have hh1' : w1.heap[w.heap.size]? = some (.cells cur.toArray 2 (0, 0)) := by
    have := hh1
    unfold Blk at this
    rw [hcur, this]
    simp
  have hcl : Hid (cs.length = n) := by rw [hcs]; show (List.map _ zs).length = n; rw [List.length_map]; exact HN.out
  have hul : Hid (cur.length = n) := by rw [hcur]; simp [Hid]
  have hone : Hid (∀ v ∈ cs, v.oneCell' = true) := by
    rw [hcs]
    intro u hu
    obtain ⟨z, _, rfl⟩ := List.mem_map.1 hu
    rfl
  have hsrc : Hid (0 < cs.length → some (⟨w.heap.size, 0, none⟩ : Addr) = some ⟨w.heap.size, 0, none⟩ ∧ ∃ ad, a = some ad ∧ ∀ j v, cs[j]? = some v → w1.cell? (ad.add j) = some v) := by
    intro h0
    rw [hcs] at h0 ⊢
    exact ⟨rfl, (h.below hB1).src h0⟩
  have hspl : Hid (splice cur 0 cs = zs.map (Value.int .i64)) := by
    show splice cur 0 cs = zs.map (Value.int .i64)
    rw [hcur, splice_all n cs hcl.out, hcs]
  have HB1 : Hid (Below w.heap.size w w1) := hB1
  clear h hcs hcur hB1 hh1
  go_enter Try.func25, Try.ntmps25
  go_wp2_with (refine wpList_copy_splice rfl _ _ 24 24 rfl 2 Try.underlying24 size64 (some ⟨w.heap.size, 0, none⟩) a n n n c rfl rfl w.heap.size 0 cur 2 hh1' cs ?cn hsrc.out ?cf hone.out w.heap.size w HB1.out (Nat.le_refl _) ?_)
  case cn => exact hcl.out
  case cf => exact Nat.le_of_eq (hcl.out.trans hul.out.symm)
  intro w2 hg2 hb2
  have K : Hid (Blk w2 w.heap.size zs) := by
    show Blk w2 w.heap.size zs
    unfold Blk
    rw [hg2.out, hspl.out]
  have HB2 : Hid (Below w.heap.size w w2) := hb2
  have HO : Hid (w2.ownsRow w.heap.size 2 1 (.slice (some ⟨w.heap.size, 0, none⟩) n n) zs.length (zs.map (Value.int .i64))) := by
    have := blk_own K.out (Nat.le_refl _) (by rw [HN.out]; unfold maxLen; omega)
    rw [HN.out] at this ⊢
    exact this
  clear hg2 hb2 hspl hsrc hone hul hcl hmk hh1' HB1 K
  go_wp2
  go_ret
  exact ⟨_, rfl, HO.out, HW.out, HB2.out⟩

set_option maxHeartbeats 2000000 in
theorem copyRows_at (b off c : Nat) (R : List (List Int)) (w : World) (hr : R.length ≤ 1000000) (hs : ∀ z ∈ R, z.length ≤ 1000000)
    (h : ∀ i, i < R.length → ∃ x c, w.cell? ⟨b, off + i, none⟩ = some (.slice x (R.getD i []).length c) ∧ Sl .i64 w x (R.getD i []).length (R.getD i []) ∧ (x = none → c = 0)) :
    Calls Try.prog 24 #[.slice (some ⟨b, off, none⟩) R.length c] w (RowsEnd w R) := by
  obtain ⟨w2, hmk, K0, B0⟩ := makeRows64 w R.length hr
  have HK0 : Hid (PartI w2 w.heap.size R.length [] []) := PartI.start K0
  have HB0 : Hid (Below w.heap.size w w2) := B0
  have HH : Hid (∀ i, i < R.length → ∃ x c, w.cell? ⟨b, off + i, none⟩ = some (.slice x (R.getD i []).length c) ∧ Sl .i64 w x (R.getD i []).length (R.getD i []) ∧ (x = none → c = 0)) := h
  have HS : Hid (∀ z ∈ R, z.length ≤ 1000000) := hs
  clear K0 B0 h hs
  go_enter Try.func24, Try.ntmps24
  go_wp2
  go_loopw [11] (fun i wr => ∃ (k : Nat) (vs : List Value), k ≤ R.length ∧ i = .int .i64 k ∧ Below w.heap.size w wr ∧ PartI wr w.heap.size R.length vs (R.take k)) (fun i _ => R.length - (intOf i).toNat)
  case atStart => exact ⟨0, [], Nat.zero_le _, rfl, HB0.out, by rw [List.take_zero]; exact HK0.out⟩
  case round =>
    obtain ⟨k, vs, hk, rfl, bel, part⟩ := hrel
    have HB : Hid (Below w.heap.size w wr) := bel
    have HK : Hid (PartI wr w.heap.size R.length vs (R.take k)) := part
    have HT : Hid ((R.take k).length = k) := by show _ = _; rw [List.length_take]; exact Nat.min_eq_left hk
    clear bel part
    by_cases hlt : k < R.length
    · obtain ⟨x, cx, p0, s0, _⟩ := HH.out k hlt
      have p1 : wr.cell? ⟨b, off + k, none⟩ = some (.slice x (R.getD k []).length cx) := by rw [HB.out.cell (p := ⟨b, off + k, none⟩) (block_lt_of_cell p0)]; exact p0
      obtain ⟨z, hz⟩ : ∃ z, R.getD k [] = z := ⟨_, rfl⟩
      have hmem : z ∈ R := by
        have e : R.getD k [] = R[k] := by simp [hlt]
        rw [← hz, e]
        exact List.getElem_mem hlt
      have C0 := copyList_any x (R.getD k []).length cx (R.getD k []) wr (s0.below HB.out) (by rw [hz]; exact HS.out z hmem)
      rw [hz] at p1 C0
      have HZ : Hid (R.take (k + 1) = R.take k ++ [z]) := by
        show _ = _
        rw [List.take_succ_eq_append_getElem hlt, ← hz]
        simp [hlt]
      obtain ⟨lz, hlz⟩ : ∃ l, z.length = l := ⟨_, rfl⟩
      rw [hlz] at p1 C0
      have i1 : (k : Int) < (R.length : Int) := by omega
      clear p0 s0 hz hmem hlz
      go_wp2_with fail
      go_at_call 25
      refine C0.mono ?_
      rintro e w3 ⟨vr, rfl, hown, hw64, hb3⟩
      have HK3 : Hid (PartI w3 w.heap.size R.length vs (R.take k)) := HK.out.below hb3
      have HM : Hid (PartI (w3.setCell ⟨w.heap.size, k, none⟩ vr) w.heap.size R.length (vs ++ [vr]) (R.take (k + 1))) := by
        have := HK.out.more (by rw [HT.out]; exact hlt) hb3 hw64 hown
        rw [HT.out, ← HZ.out] at this
        exact this
      have HB3 : Hid (Below w.heap.size w w3) := HB.out.trans (hb3.mono HB.out.size)
      have c0 := HK3.out.cell (by rw [HT.out]; exact hlt)
      have f0 := HK3.out.free k
      rw [HT.out] at c0
      obtain ⟨va, vc, hvr⟩ := own_form hown
      obtain ⟨ln, hln⟩ : ∃ l, z.length = l := ⟨_, rfl⟩
      rw [hln] at hvr
      subst hvr
      clear hown hw64 hb3 HK HB C0 p1 hln
      go_wp2
      go_roundw
      case rel => exact ⟨k + 1, _, by omega, by go_num, HB3.out.setCell (p := ⟨w.heap.size, k, none⟩) (Nat.le_refl _) _, HM.out⟩
      case measure => simp [intOf]; omega
    · obtain rfl : k = R.length := by omega
      have HM : Hid (MadeI wr w.heap.size (.slice (some ⟨w.heap.size, 0, none⟩) R.length R.length) vs R) := by
        have := HK.out
        rw [List.take_length] at this
        exact this.all (Nat.le_refl _) (by unfold maxLen; omega)
      go_wp2
      go_ret
      exact ⟨_, _, rfl, HM.out, HB.out⟩

set_option maxHeartbeats 1000000 in
theorem copyRows_none (a : Option Addr) (c : Nat) (w : World) : Calls Try.prog 24 #[.slice a 0 c] w (RowsEnd w []) := by
  obtain ⟨w2, hmk0, K0, B0⟩ := makeRows64 w 0 (by omega)
  have hmk : (Instr.makeSlice 23 (.int .i64 0) (.int .i64 0)).run Try.prog w = .ok (.slice (some ⟨w.heap.size, 0, none⟩) 0 0) w2 := hmk0
  clear hmk0
  have HM : Hid (MadeI w2 w.heap.size (.slice (some ⟨w.heap.size, 0, none⟩) 0 0) [] []) := (PartI.start K0).all (R := []) (Nat.le_refl _) (Nat.zero_le _)
  have HB0 : Hid (Below w.heap.size w w2) := B0
  clear K0 B0
  go_enter Try.func24, Try.ntmps24
  go_wp2
  refine wp_loop_rounds 1 ?_
  rw [rounds_succ]
  go_wp2
  go_ret
  exact ⟨_, _, rfl, HM.out, HB0.out⟩

theorem copyRows_any (a : Option Addr) (n c : Nat) (R : List (List Int)) (w : World) (h : RowsI w a n R) (hr : n ≤ 1000000) (hs : ∀ z ∈ R, z.length ≤ 1000000) : Calls Try.prog 24 #[.slice a n c] w (RowsEnd w R) := by
  have l := h.1
  subst l
  rcases h.2.2 with h0 | ⟨b, off, rfl, hc⟩
  · subst h0
    exact copyRows_none a c w
  · exact copyRows_at b off c R w hr hs hc

end Go.Proofs.Ytpaieecbedgeaaa
