/-
  The contracts of giroref2's Put, Row and Same, over this seat's program.
-/
import Derived.Test.YtnakleldhfenjaaWordPut
namespace Go.Proofs.Ytnakleldhfenjaa
open Go.RowKit
set_option linter.unusedVariables false

theorem enc_at (z : Int) (j : Nat) (hj : j < 8) : IntKind.u64.wrap z / 2 ^ (56 - 8 * j) % 256 = (enc z).getD j 0 := by
  rw [IntKind.wrap_u64]
  have : j = 0 ∨ j = 1 ∨ j = 2 ∨ j = 3 ∨ j = 4 ∨ j = 5 ∨ j = 6 ∨ j = 7 := by omega
  rcases this with rfl | rfl | rfl | rfl | rfl | rfl | rfl | rfl <;> simp [enc] <;> omega

set_option maxHeartbeats 2000000 in
theorem refPut_row (b off c2 : Nat) (zs : List Int) (w : World) (hr : zs.length ≤ 17592186044416) (hwf : ∀ n ∈ zs, IntKind.i64.wrap n = n) (hc : ∀ i, i < zs.length → w.cell? ⟨b, off + i, none⟩ = some (.int .i64 (zs.getD i 0))) (hb : zs = [] ∨ b < w.heap.size) :
    Calls Try.prog 13 #[.slice (some ⟨b, off, none⟩) zs.length c2] w fun e w' => ∃ v, e = .returned v ∧ v ≠ .slice none 0 0 ∧ w'.ownsRow w.heap.size 5 1 v (8 * zs.length) ((encs zs).map (Value.int .u8)) ∧ Below w.heap.size w w' := by
  obtain ⟨i0, hi, hz0, hz1, hz2⟩ := info_parts infoU8
  go_enter Try.func13, Try.ntmps13
  go_wp2
  go_loopw [3, 4] (fun v i wr => ∃ (k : Nat), k ≤ zs.length ∧ i = .int .i64 k ∧ v ≠ .slice none 0 0 ∧ wr.ownsRow w.heap.size 5 1 v (8 * k) ((encs (zs.take k)).map (Value.int .u8)) ∧ Below w.heap.size w wr) (fun _ i _ => zs.length - (intOf i).toNat)
  case atStart => exact ⟨0, by omega, rfl, by simp, World.ownsRow_lit _ #[] 0 (Nat.le_refl _) (by decide) rfl, (Below.refl _ _).alloc (Nat.le_refl _) _⟩
  case round =>
    obtain ⟨k, hk, rfl, hnn, ho, hbel⟩ := hrel
    have Hnn : Hid (_ ≠ Value.slice none 0 0) := hnn
    clear hnn
    by_cases hlt : k < zs.length
    · obtain ⟨z, hz⟩ : ∃ z, zs.getD k 0 = z := ⟨_, rfl⟩
      have hbw : b < w.heap.size := hb.resolve_left (by intro h; subst h; simp at hlt)
      have hcell : wr.cell? ⟨b, off + k, none⟩ = some (.int .i64 z) := by
        rw [← hz, hbel.cell (p := ⟨b, off + k, none⟩) hbw]; exact hc k hlt
      have hb' := wf_i64 (hwf _ (getD_mem hlt))
      rw [hz] at hb'
      obtain ⟨z0, z1⟩ := hb'
      have k1 : (k : Int) < (zs.length : Int) := by omega
      have HZ : Hid (zs.getD k 0 = z) := hz
      have Hbel : Hid (Below w.heap.size w wr) := hbel
      have Ho : Hid (wr.ownsRow w.heap.size 5 1 _ (8 * k) ((encs (zs.take k)).map (Value.int .u8))) := ho
      clear hz hbel hc hwf ho
      obtain ⟨wo, rfl⟩ : ∃ wo, wo = wr := ⟨wr, rfl⟩
      go_wp2
      go_loopw [3, 5] (fun v i wq => ∃ (j : Nat), j ≤ 8 ∧ i = .int .i64 (56 - 8 * (j : Int)) ∧ v ≠ .slice none 0 0 ∧ wq.ownsRow w.heap.size 5 1 v (8 * k + j) ((encs (zs.take k) ++ (enc z).take j).map (Value.int .u8)) ∧ Below w.heap.size w wq) (fun _ i _ => (intOf i + 8).toNat)
      case atStart => exact ⟨0, by omega, rfl, Hnn.out, by simpa using Ho.out, Hbel.out⟩
      case round =>
        obtain ⟨j, hj, rfl, hnq, ho, hbel⟩ := hrel
        have Hnq : Hid (_ ≠ Value.slice none 0 0) := hnq
        clear hnq
        by_cases hj8 : j < 8
        · have hcell2 : wr.cell? ⟨b, off + k, none⟩ = some (.int .i64 z) := by rw [hbel.cell (p := ⟨b, off + k, none⟩) hbw, ← Hbel.out.cell (p := ⟨b, off + k, none⟩) hbw]; exact hcell
          clear Ho
          have j0 : (0 : Int) ≤ 56 - 8 * (j : Int) := by omega
          have hws : w.heap.size ≤ wr.heap.size := hbel.size
          have Hb : Hid (Below w.heap.size w wr) := hbel
          clear hbel
          go_wp2_with (at_builtin; refine wpList_append_own _ rfl _ _ 23 rfl w.heap.size 5 i0 (.int .u8 0) 1 1 Try.underlying23 hi hz0 hz1 hz2 rfl (by decide) _ _ _ rfl (ho.alloc _) ⟨wr.heap.size, 0, none⟩ 1 1 [.int .u8 (IntKind.u64.wrap z / 2 ^ (56 - 8 * j) % 256)] rfl rfl ?c1 ?c2 ?c3 ?c4 ?c5 ?_)
          case c1 => exact one_new wr _ _
          case c2 => intro u hu; simp at hu; subst hu; rfl
          case c3 => unfold maxLen; omega
          case c4 => omega
          case c5 => simp; omega
          intro v' w2 hown' hgrow hnil
          have R3 : Hid (v' ≠ Value.slice none 0 0) := hnil
          clear hnil
          have R2 : Hid (Below w.heap.size w w2) := (Hb.out.alloc hws _).grown hgrow (by simp; omega) (fun j hj => (ho.lt j hj).1)
          have R1 : Hid (w2.ownsRow w.heap.size 5 1 v' (8 * k + (j + 1)) ((encs (zs.take k) ++ (enc z).take (j + 1)).map (Value.int .u8))) := by
            show w2.ownsRow w.heap.size 5 1 v' (8 * k + (j + 1)) ((encs (zs.take k) ++ (enc z).take (j + 1)).map (Value.int .u8))
            rw [enc_at z j hj8] at hown'
            rw [take_snoc (enc z) j (by rw [enc_length]; exact hj8)]
            simpa only [List.map_append, List.map_take, List.map_cons, List.map_nil, List.append_assoc, Nat.add_assoc] using hown'
          clear hown' hgrow ho Hb hcell2
          go_wp2
          go_roundw
          case rel => exact ⟨j + 1, by omega, by go_num, R3.out, R1.out, R2.out⟩
          case measure => simp [intOf]; omega
        · obtain rfl : j = 8 := by omega
          have e2 : encs (zs.take (k + 1)) = encs (zs.take k) ++ (enc z).take 8 := by rw [take_snoc zs k hlt, HZ.out, encs_append, encs_one]; rfl
          rw [← e2] at ho
          have R1 : Hid (wr.ownsRow w.heap.size 5 1 _ (8 * (k + 1)) ((encs (zs.take (k + 1))).map (Value.int .u8))) := ho
          clear e2
          have R2 : Hid (Below w.heap.size w wr) := hbel
          clear ho hbel Ho
          go_wp2
          go_roundw
          case rel => exact ⟨k + 1, by omega, by go_num, Hnq.out, R1.out, R2.out⟩
          case measure => simp [intOf]; omega
    · obtain rfl : k = zs.length := by omega
      rw [List.take_length] at ho
      have R1 : Hid (wr.ownsRow w.heap.size 5 1 _ (8 * zs.length) ((encs zs).map (Value.int .u8))) := ho
      have R2 : Hid (Below w.heap.size w wr) := hbel
      clear ho hbel hc hwf
      go_wp2
      go_ret
      exact ⟨_, rfl, Hnn.out, R1.out, R2.out⟩

set_option maxHeartbeats 400000 in
theorem refPut_none (a : Option Addr) (c2 : Nat) (w : World) : Calls Try.prog 13 #[.slice a 0 c2] w (PutEnd w []) := by
  go_enter Try.func13, Try.ntmps13
  go_wp2
  refine wp_loop_rounds 1 ?_
  rw [rounds_succ]
  go_wp2
  go_ret
  exact ⟨_, _, rfl, World.ownsRow_lit _ #[] 0 (Nat.le_refl _) (by decide) rfl, (Below.refl _ _).alloc (Nat.le_refl _) _⟩

theorem refPut_any (a : Option Addr) (len c2 : Nat) (zs : List Int) (w : World) (h : Sl .i64 w a len zs) (hr : len ≤ 17592186044416) : Calls Try.prog 13 #[.slice a len c2] w (PutEnd w (encs zs)) := by
  have hl := h.1
  subst hl
  rcases h.2.2 with rfl | ⟨b, off, rfl, hc⟩
  · exact refPut_none a c2 w
  · by_cases h0 : zs = []
    · subst h0; exact refPut_none _ c2 w
    · refine (refPut_row b off c2 zs w hr h.2.1 hc (.inr ?_)).mono ?_
      · have := block_lt_of_cell (hc 0 (List.length_pos_iff.mpr h0)); exact this
      · rintro e w' ⟨v, rfl, hv, h1, h2⟩
        obtain ⟨g, cap, rfl⟩ := own_some h1 hv
        refine ⟨g, cap, ?_, ?_, h2⟩
        · rw [encs_length]
        · rw [encs_length]; exact h1

set_option maxHeartbeats 400000 in
theorem refRow_any (a : Option Addr) (len c2 : Nat) (zs : List Int) (w : World) (h : Sl .i64 w a len zs) (hr : len * 8 ≤ 140737488351232) : Calls Try.prog 14 #[.slice a len c2] w (PutEnd w (rowS zs)) := by
  obtain ⟨i0, hi, hz0, hz1, hz2⟩ := info_parts infoU8
  have HL : Hid (len = zs.length) := h.1
  have P1 := refPut_any (some ⟨w.heap.size, 0, none⟩) 1 1 [(len : Int)] (w.alloc (.cells #[.int .i64 len] 2)) (Sl.new .i64 w 2 (0, 0) [(len : Int)] (by intro n hn; simp at hn; subst hn; exact i64_wf (by omega) (by omega))) (by omega)
  have HS : Hid (Sl .i64 w a len zs) := h
  clear h
  go_enter Try.func14, Try.ntmps14
  go_wp2_with fail
  refine P1.mono ?_
  rintro e w1 ⟨g1, cap1, rfl, hown1, bel1⟩
  have b1 : Below w.heap.size w w1 := ((Below.refl _ _).alloc (Nat.le_refl _) _).trans (bel1.mono (by simp))
  have P2 := refPut_any a len c2 zs w1 (HS.out.below b1) (by omega)
  go_wp2_with fail
  refine P2.mono ?_
  rintro e w2 ⟨g2, cap2, rfl, hown2, bel2⟩
  have b2 : Below w.heap.size w w2 := b1.trans (bel2.mono b1.size)
  have o1 : w2.ownsRow w.heap.size 5 1 (.slice (some ⟨g1, 0, none⟩) 8 cap1) 8 ((enc (len : Int)).map (Value.int .u8)) := own_base (own_below hown1 bel2) (show w.heap.size ≤ (w.alloc (.cells #[.int .i64 len] 2)).heap.size by simp)
  have e8 : (encs [(len : Int)]).length = 8 := rfl
  rw [e8]
  have l2 : (encs zs).length = 8 * len := by rw [encs_length, ← HL.out]
  obtain ⟨N, hN⟩ : ∃ N, (encs zs).length = N := ⟨_, rfl⟩
  rw [hN] at hown2 l2 ⊢
  have HN : Hid ((encs zs).length = N) := hN
  have l3 : N ≤ 140737488351232 := by omega
  clear hN hown1 P1 P2 bel1 bel2 l2
  go_wp2_with (at_builtin; refine wpList_append_own _ rfl _ _ 23 rfl w.heap.size 5 i0 (.int .u8 0) 1 1 Try.underlying23 hi hz0 hz1 hz2 rfl (by decide) _ _ _ rfl o1 ⟨g2, 0, none⟩ N cap2 ((encs zs).map (Value.int .u8)) rfl ?c0 ?c1 ?c2 ?c3 ?c4 ?c5 ?_)
  case c0 => simp [HN.out]
  case c1 =>
    intro j u hj
    rw [Addr.add_flat, Nat.zero_add, hown2.cellAt j]
    · exact hj
    · have := (List.getElem?_eq_some_iff.1 hj).1
      simp at this
      rw [← HN.out]; omega
  case c2 => exact oneCell_int _ _
  case c3 => unfold maxLen; simp; omega
  case c4 => simp; omega
  case c5 => exact b2.size
  intro v' w3 hown' hgrow hnil
  have hnn : v' ≠ .slice none 0 0 := by first | exact hnil | exact fun h => by simpa using (hnil.1 h).1
  have b3 : Below w.heap.size w w3 := b2.grown hgrow b2.size (fun k hk => (o1.lt k hk).1)
  clear hgrow hnil hown2 o1
  go_wp2
  go_ret
  have e1 : rowS zs = enc (len : Int) ++ encs zs := by rw [rowS, encs, HL.out]
  have e2 : (rowS zs).length = 8 + N := by rw [e1, List.length_append, enc_length, HN.out]
  obtain ⟨g, cap, rfl⟩ := own_some hown' hnn
  refine ⟨g, cap, ?_, ?_, b3⟩
  · rw [e2]; rfl
  · rw [e2, e1, List.map_append]; exact hown'

set_option maxHeartbeats 1000000 in
theorem same_row (b1 o1 c1 b2 o2 c2 : Nat) (xs ys : List Int) (w : World) (hl : xs.length = ys.length) (hm : xs.length ≤ 9223372036854775807)
    (h1 : ∀ i, i < xs.length → w.cell? ⟨b1, o1 + i, none⟩ = some (.int .i64 (xs.getD i 0))) (h2 : ∀ i, i < ys.length → w.cell? ⟨b2, o2 + i, none⟩ = some (.int .i64 (ys.getD i 0))) :
    Calls Try.prog 15 #[.slice (some ⟨b1, o1, none⟩) xs.length c1, .slice (some ⟨b2, o2, none⟩) xs.length c2] w fun e w' => e = .returned (.bool (decide (xs = ys))) ∧ ∃ n, w' = w.drewN n := by
  go_enter Try.func15, Try.ntmps15
  go_wp2
  go_loopw [5] (fun i wr => ∃ (k n : Nat), k ≤ xs.length ∧ i = .int .i64 k ∧ xs.take k = ys.take k ∧ wr = w.drewN n) (fun i _ => xs.length - (intOf i).toNat)
  case atStart => exact ⟨0, 0, by omega, rfl, by simp, rfl⟩
  case round =>
    obtain ⟨k, n, hk, rfl, he, rfl⟩ := hrel
    have HE : Hid (xs.take k = ys.take k) := he
    have HL : Hid (xs.length = ys.length) := hl
    clear he
    by_cases hlt : k < xs.length
    · have c1' := h1 k hlt
      have c2' := h2 k (by omega)
      obtain ⟨x, hx⟩ : ∃ x, xs.getD k 0 = x := ⟨_, rfl⟩
      obtain ⟨y, hy⟩ : ∃ y, ys.getD k 0 = y := ⟨_, rfl⟩
      rw [hx] at c1'
      rw [hy] at c2'
      have i1 : (k : Int) < (xs.length : Int) := by omega
      have HX : Hid (xs.getD k 0 = x) := hx
      have HY : Hid (ys.getD k 0 = y) := hy
      clear hx hy h1 h2 hl
      by_cases hxy : x = y
      · subst hxy
        go_wp2
        go_quiet (fail)
        go_wp2
        go_roundw
        case rel => exact ⟨k + 1, n + nq, by omega, by go_num, by rw [take_snoc xs k hlt, take_snoc ys k (by rw [← HL.out]; exact hlt), HE.out, HX.out, HY.out], rfl⟩
        case measure => simp [intOf]; omega
      · have hxy' : (x == y) = false := by simp [hxy]
        have HD : Hid (false = decide (xs = ys)) := by
          have : ¬ xs = ys := fun h => hxy (by rw [← HX.out, ← HY.out, h])
          show false = decide (xs = ys)
          rw [decide_eq_false this]
        clear hxy
        go_wp2
        go_quiet (fail)
        go_wp2
        go_ret
        exact ⟨rt_bool HD.out, n + nq, by first | rfl | exact World.drewN_drewN _ _ _⟩
    · obtain rfl : k = xs.length := by omega
      have HD : Hid (true = decide (xs = ys)) := by
        have h := HE.out
        rw [List.take_length, HL.out, List.take_length] at h
        show true = decide (xs = ys)
        rw [decide_eq_true h]
      clear h1 h2 hl
      go_wp2
      go_ret
      exact ⟨rt_bool HD.out, _, rfl⟩

set_option maxHeartbeats 400000 in
theorem same_not (a b : Option Addr) (la lb c1 c2 : Nat) (w : World) (h : la ≠ lb) :
    Calls Try.prog 15 #[.slice a la c1, .slice b lb c2] w fun e w' => e = .returned (.bool false) ∧ w' = w := by
  have h' : ((la : Int) == (lb : Int)) = false := by rw [beq_eq_false_iff_ne]; omega
  go_enter Try.func15, Try.ntmps15
  go_wp2
  go_ret
  exact ⟨rfl, rfl⟩

set_option maxHeartbeats 400000 in
theorem same_none (a b : Option Addr) (c1 c2 : Nat) (w : World) :
    Calls Try.prog 15 #[.slice a 0 c1, .slice b 0 c2] w fun e w' => e = .returned (.bool true) ∧ w' = w := by
  go_enter Try.func15, Try.ntmps15
  go_wp2
  refine wp_loop_rounds 1 ?_
  rw [rounds_succ]
  go_wp2
  go_ret
  exact ⟨rfl, rfl⟩

/-- Same. -/
theorem same_any (a b : Option Addr) (la lb c1 c2 : Nat) (xs ys : List Int) (w : World) (h1 : Sl .i64 w a la xs) (h2 : Sl .i64 w b lb ys) (hm : la ≤ 9223372036854775807) :
    Calls Try.prog 15 #[.slice a la c1, .slice b lb c2] w fun e w' => e = .returned (.bool (decide (xs = ys))) ∧ ∃ n, w' = w.drewN n := by
  have l1 := h1.1
  have l2 := h2.1
  subst l1 l2
  by_cases hl : xs.length = ys.length
  · rcases h1.2.2 with h0 | ⟨b1, o1, rfl, hc1⟩
    · subst h0
      have : ys = [] := List.length_eq_zero_iff.mp (by simpa using hl.symm)
      subst this
      refine (same_none a b c1 c2 w).mono ?_
      rintro e w' ⟨rfl, rfl⟩
      exact ⟨by simp, 0, rfl⟩
    · rcases h2.2.2 with h0 | ⟨b2, o2, rfl, hc2⟩
      · subst h0
        have : xs = [] := List.length_eq_zero_iff.mp (by simpa using hl)
        subst this
        refine (same_none _ b c1 c2 w).mono ?_
        rintro e w' ⟨rfl, rfl⟩
        exact ⟨by simp, 0, rfl⟩
      · have := same_row b1 o1 c1 b2 o2 c2 xs ys w hl hm hc1 hc2
        rw [← hl]
        exact this
  · refine (same_not a b _ _ c1 c2 w hl).mono ?_
    rintro e w' ⟨rfl, rfl⟩
    have : ¬ xs = ys := fun h => hl (by rw [h])
    exact ⟨by simp [this], 0, rfl⟩

end Go.Proofs.Ytnakleldhfenjaa
