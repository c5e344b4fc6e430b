/-
  giroref10.rows: rows in new memory.
-/
import Derived.Test.YtpaieecbedgeaaaLimSq
namespace Go.Proofs.Ytpaieecbedgeaaa
open Go.RowKit
set_option linter.unusedVariables false
set_option linter.unusedSimpArgs false

set_option maxHeartbeats 2000000 in
theorem refCopyRows_at (b off c : Nat) (R : List (List Int)) (w : World) (hr : R.length ≤ 1000000) (hs : ∀ z ∈ R, z.length ≤ 1000000)
    (h : ∀ i, i < R.length → ∃ x c, w.cell? ⟨b, off + i, none⟩ = some (.slice x (R.getD i []).length c) ∧ Sl .i64 w x (R.getD i []).length (R.getD i []) ∧ (x = none → c = 0)) :
    Calls Try.prog 30 #[.slice (some ⟨b, off, none⟩) R.length c] w (RowsEnd w R) := by
  have HH : Hid (∀ i, i < R.length → ∃ x c, w.cell? ⟨b, off + i, none⟩ = some (.slice x (R.getD i []).length c) ∧ Sl .i64 w x (R.getD i []).length (R.getD i []) ∧ (x = none → c = 0)) := h
  have HS : Hid (∀ z ∈ R, z.length ≤ 1000000) := hs
  clear h hs
  obtain ⟨i0, hi, hz0, hz1, hz2⟩ := info_parts infoI64
  obtain ⟨j0, hj, hy0, hy1, hy2⟩ := info_parts infoRow64
  go_enter Try.func30, Try.ntmps30
  go_wp2
  go_loopw [3, 4] (fun l i wr => ∃ (k : Nat) (vs : List Value) (la : Option Addr) (ln lc : Nat), k ≤ R.length ∧ l = .slice la ln lc ∧ i = .int .i64 k ∧ Below w.heap.size w wr ∧ MadeI wr w.heap.size (.slice la ln lc) vs (R.take k)) (fun _ i _ => R.length - (intOf i).toNat)
  case atStart => exact ⟨0, [], none, 0, 0, Nat.zero_le _, rfl, rfl, Below.refl _ _, by rw [List.take_zero]; exact MadeI.start _ _⟩
  case round =>
    obtain ⟨k, vs, la, ln, lc, hk, rfl, rfl, bel, part⟩ := hrel
    have HB : Hid (Below w.heap.size w wr) := bel
    have HK : Hid (MadeI wr w.heap.size (.slice la ln lc) vs (R.take k)) := part
    have HT : Hid ((R.take k).length = k) := by show _ = _; rw [List.length_take]; exact Nat.min_eq_left hk
    clear bel part
    by_cases hlt : k < R.length
    · obtain ⟨x, cx, p0, s0, xn⟩ := HH.out k hlt
      have hlt0 := block_lt_of_cell p0
      have b1 : Below wr.heap.size wr (wr.alloc (.cells #[] 2)) := box_below _ _
      have p1 : (wr.alloc (.cells #[] 2)).cell? ⟨b, off + k, none⟩ = some (.slice x (R.getD k []).length cx) := by rw [b1.cell (p := ⟨b, off + k, none⟩) (Nat.lt_of_lt_of_le hlt0 HB.out.size), HB.out.cell (p := ⟨b, off + k, none⟩) hlt0]; exact p0
      have s1 := (s0.below HB.out).below b1
      obtain ⟨z, hz⟩ : ∃ z, R.getD k [] = z := ⟨_, rfl⟩
      have hmem : z ∈ R := by
        have e : R.getD k [] = R[k] := by simp [hlt]
        rw [← hz, e]
        exact List.getElem_mem hlt
      have hzl := HS.out z hmem
      rw [hz] at p1 s1
      have HW : Hid (W64 z) := s1.2.1
      have HZ : Hid (R.take (k + 1) = R.take k ++ [z]) := by
        show _ = _
        rw [List.take_succ_eq_append_getElem hlt, ← hz]
        simp [hlt]
      obtain ⟨lz, hlz⟩ : ∃ l, z.length = l := ⟨_, rfl⟩
      rw [hlz] at p1 s1 hzl
      have HL : Hid (z.length = lz) := hlz
      have i1 : (k : Int) < (R.length : Int) := by omega
      have own0 : (wr.alloc (.cells #[] 2)).ownsRow wr.heap.size 2 1 (.slice (some ⟨wr.heap.size, 0, none⟩) 0 0) 0 [] := World.ownsRow_lit wr #[] 0 (Nat.le_refl _) (by decide) rfl
      have HS1 : Hid (Sl .i64 (wr.alloc (.cells #[] 2)) x lz z) := s1
      have HXN : Hid (x = none → cx = 0) := xn
      have HO0 : Hid ((wr.alloc (.cells #[] 2)).ownsRow wr.heap.size 2 1 (.slice (some ⟨wr.heap.size, 0, none⟩) 0 0) 0 []) := own0
      clear p0 s0 hz hmem hlz s1 xn own0 b1 hlt0
      go_wp2_with (at_builtin; refine wpList_append_sl rfl _ _ 24 rfl wr.heap.size 2 i0 (.int .i64 0) 8 Try.underlying24 hi hz0 hz1 hz2 rfl (.slice (some ⟨wr.heap.size, 0, none⟩) 0 0) 0 [] rfl HO0.out .i64 x lz cx z rfl HS1.out HXN.out ?c1 ?c2 ?c3 ?_)
      case c1 => unfold maxLen; omega
      case c2 => omega
      case c3 => simp
      intro vr w3 o3 g3 _
      have b3 : Below wr.heap.size wr w3 := ((Below.refl wr.heap.size wr).alloc (Nat.le_refl _) _).grown g3 (by simp) (fun k hk => by simp [Value.ownBlock] at hk; omega)
      have o3' : w3.ownsRow wr.heap.size 2 1 vr z.length (z.map (Value.int .i64)) := by rw [HL.out]; simpa using o3
      have HO : Hid (w3.ownsRow wr.heap.size 2 1 vr z.length (z.map (Value.int .i64)) ∧ Below wr.heap.size wr w3) := ⟨o3', b3⟩
      have HB3 : Hid (Below w.heap.size w w3) := HB.out.trans (b3.mono HB.out.size)
      obtain ⟨va, vc, hvr⟩ := own_form o3'
      have own1 : (w3.alloc (.cells #[vr] 24)).ownsRow w.heap.size 24 1 (.slice la ln lc) k vs := by
        have := own_below (HK.out.below b3).own (box_below w3 (.cells #[vr] 24))
        rwa [HT.out] at this
      rw [HL.out] at hvr
      subst hvr
      clear o3 o3' g3 b3 HS1 HXN HO0 p1
      go_wp2_with (at_builtin; refine wpList_append_own_at _ rfl _ _ 23 rfl w.heap.size 24 j0 _ 1 24 Try.underlying23 hj hy0 hy1 hy2 rfl (by decide) (.slice la ln lc) k vs rfl own1 ⟨w3.heap.size, 0, none⟩ 1 1 [.slice va lz vc] rfl rfl ?q1 ?q2 ?q3 ?q4 ?q5 ?_)
      case q1 =>
        intro j u hj
        cases j with
        | zero => simp at hj; rw [← hj, Addr.add_flat, Nat.add_zero, cell_new]; rfl
        | succ j => simp at hj
      case q2 => intro u hu; simp at hu; rw [hu]; rfl
      case q3 => unfold maxLen; omega
      case q4 => omega
      case q5 => have := HB3.out.size; simp; omega
      intro v' w5 o5 g5 _ at5
      have gb : (w3.alloc (.cells #[Value.slice va lz vc] 24)).heap.size = w3.heap.size + 1 := size_alloc _ _
      have HM : Hid (MadeI w5 w.heap.size v' (vs ++ [.slice va lz vc]) (R.take (k + 1))) := by
        rw [HZ.out]
        have kb : Below wr.heap.size wr (w3.alloc (.cells #[Value.slice va lz vc] 24)) := HO.out.2.trans ((box_below _ _).mono HO.out.2.size)
        refine HK.out.more kb HW.out (own_below HO.out.1 (box_below _ _)) HB.out.size g5 (by rw [HT.out]; exact o5) ?_
        rcases at5 with h | h
        · exact .inl h
        · exact .inr ⟨_, h, Nat.le_of_eq gb⟩
      have HB5 : Hid (Below w.heap.size w w5) := by
        refine (HB3.out.alloc HB3.out.size _).grown g5 (by have := HB3.out.size; rw [gb]; omega) ?_
        intro b hb
        exact (HK.out.own.lt b hb).1
      obtain ⟨va', vc', rfl⟩ := own_form o5
      clear o5 g5 at5 gb own1 HO HK HB HB3
      go_wp2
      go_roundw
      case rel => exact ⟨k + 1, _, _, _, _, by omega, rfl, by go_num, HB5.out, HM.out⟩
      case measure => simp [intOf]; omega
    · obtain rfl : k = R.length := by omega
      have HM : Hid (MadeI wr w.heap.size (.slice la ln lc) vs R) := by
        have := HK.out
        rw [List.take_length] at this
        exact this
      go_wp2
      go_ret
      exact ⟨_, _, rfl, HM.out, HB.out⟩

set_option maxHeartbeats 1000000 in
theorem refCopyRows_none (a : Option Addr) (c : Nat) (w : World) : Calls Try.prog 30 #[.slice a 0 c] w (RowsEnd w []) := by
  go_enter Try.func30, Try.ntmps30
  go_wp2
  refine wp_loop_rounds 1 ?_
  rw [rounds_succ]
  go_wp2
  go_ret
  exact ⟨_, _, rfl, MadeI.start _ _, Below.refl _ _⟩

theorem refCopyRows_any (a : Option Addr) (n c : Nat) (R : List (List Int)) (w : World) (h : RowsI w a n R) (hr : n ≤ 1000000) (hs : ∀ z ∈ R, z.length ≤ 1000000) : Calls Try.prog 30 #[.slice a n c] w (RowsEnd w R) := by
  have l := h.1
  subst l
  rcases h.2.2 with h0 | ⟨b, off, rfl, hc⟩
  · subst h0
    exact refCopyRows_none a c w
  · exact refCopyRows_at b off c R w hr hs hc

end Go.Proofs.Ytpaieecbedgeaaa
