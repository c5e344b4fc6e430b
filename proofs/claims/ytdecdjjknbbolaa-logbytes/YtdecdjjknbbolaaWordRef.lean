/-
  The contracts of giroref2's Put, Row and Same, over this seat's program.
-/
import Derived.Test.YtdecdjjknbbolaaWordPut
namespace Go.Proofs.Ytdecdjjknbbolaa
open Go.RowKit
set_option linter.unusedVariables false

theorem enc_at (z : Int) (j : Nat) (hj : j < 8) : IntKind.u64.wrap z / 2 ^ (56 - 8 * j) % 256 = (enc z).getD j 0 := by
  rw [IntKind.wrap_u64]
  have : j = 0 ∨ j = 1 ∨ j = 2 ∨ j = 3 ∨ j = 4 ∨ j = 5 ∨ j = 6 ∨ j = 7 := by omega
  rcases this with rfl | rfl | rfl | rfl | rfl | rfl | rfl | rfl <;> simp [enc] <;> omega

set_option maxRecDepth 100000 in
set_option maxHeartbeats 2000000 in
theorem refPut_row (b off c2 : Nat) (zs : List Int) (w : World) (hr : zs.length ≤ 17592186044416) (hwf : ∀ n ∈ zs, IntKind.i64.wrap n = n) (hc : ∀ i, i < zs.length → w.cell? ⟨b, off + i, none⟩ = some (.int .i64 (zs.getD i 0))) (hb : zs = [] ∨ b < w.heap.size) :
    Calls Try.prog 27 #[.slice (some ⟨b, off, none⟩) zs.length c2] w fun e w' => ∃ v, e = .returned v ∧ v ≠ .slice none 0 0 ∧ w'.ownsRow w.heap.size 5 1 v (8 * zs.length) ((encs zs).map (Value.int .u8)) ∧ Below w.heap.size w w' := by
  obtain ⟨i0, hi, hz0, hz1, hz2⟩ := info_parts infoU8
  go_enter Try.func27, Try.ntmps27
  go_wp2
  go_loopw [3, 4] (fun v i wr => ∃ (k : Nat), k ≤ zs.length ∧ i = .int .i64 k ∧ v ≠ .slice none 0 0 ∧ wr.ownsRow w.heap.size 5 1 v (8 * k) ((encs (zs.take k)).map (Value.int .u8)) ∧ Below w.heap.size w wr) (fun _ i _ => zs.length - (intOf i).toNat)
  case atStart => exact ⟨0, by omega, rfl, by simp, World.ownsRow_lit _ #[] 0 (Nat.le_refl _) (by decide) rfl, (Below.refl _ _).alloc (Nat.le_refl _) _⟩
  case round =>
    obtain ⟨k, hk, rfl, hnn, ho, hbel⟩ := hrel
    have Hnn : Hid (_ ≠ Value.slice none 0 0) := hnn
    clear hnn
    by_cases hlt : k < zs.length
    · obtain ⟨z, hz⟩ : ∃ z, zs.getD k 0 = z := ⟨_, rfl⟩
      have hbw : b < w.heap.size := hb.resolve_left (by intro h; subst h; simp at hlt)
      have hcell : wr.cell? ⟨b, off + k, none⟩ = some (.int .i64 z) := by
        rw [← hz, hbel.cell (p := ⟨b, off + k, none⟩) hbw]; exact hc k hlt
      have hb' := wf_i64 (hwf _ (getD_mem hlt))
      rw [hz] at hb'
      obtain ⟨z0, z1⟩ := hb'
      have k1 : (k : Int) < (zs.length : Int) := by omega
      have HZ : Hid (zs.getD k 0 = z) := hz
      have Hbel : Hid (Below w.heap.size w wr) := hbel
      have Ho : Hid (wr.ownsRow w.heap.size 5 1 _ (8 * k) ((encs (zs.take k)).map (Value.int .u8))) := ho
      clear hz hbel hc hwf ho
      obtain ⟨wo, rfl⟩ : ∃ wo, wo = wr := ⟨wr, rfl⟩
      go_wp2
      go_loopw [3, 5] (fun v i wq => ∃ (j : Nat), j ≤ 8 ∧ i = .int .i64 (56 - 8 * (j : Int)) ∧ v ≠ .slice none 0 0 ∧ wq.ownsRow w.heap.size 5 1 v (8 * k + j) ((encs (zs.take k) ++ (enc z).take j).map (Value.int .u8)) ∧ Below w.heap.size w wq) (fun _ i _ => (intOf i + 8).toNat)
      case atStart => exact ⟨0, by omega, rfl, Hnn.out, by simpa using Ho.out, Hbel.out⟩
      case round =>
        obtain ⟨j, hj, rfl, hnq, ho, hbel⟩ := hrel
        have Hnq : Hid (_ ≠ Value.slice none 0 0) := hnq
        clear hnq
        by_cases hj8 : j < 8
        · have hcell2 : wr.cell? ⟨b, off + k, none⟩ = some (.int .i64 z) := by rw [hbel.cell (p := ⟨b, off + k, none⟩) hbw, ← Hbel.out.cell (p := ⟨b, off + k, none⟩) hbw]; exact hcell
          clear Ho
          have j0 : (0 : Int) ≤ 56 - 8 * (j : Int) := by omega
          have hws : w.heap.size ≤ wr.heap.size := hbel.size
          have Hb : Hid (Below w.heap.size w wr) := hbel
          clear hbel
          go_wp2_with (at_builtin; refine wpList_append_own _ rfl _ _ 26 rfl w.heap.size 5 i0 (.int .u8 0) 1 1 Try.underlying26 hi hz0 hz1 hz2 rfl (by decide) _ _ _ rfl (ho.alloc _) ⟨wr.heap.size, 0, none⟩ 1 1 [.int .u8 (IntKind.u64.wrap z / 2 ^ (56 - 8 * j) % 256)] rfl rfl ?c1 ?c2 ?c3 ?c4 ?c5 ?_)
          case c1 => exact one_new wr _ _
          case c2 => intro u hu; simp at hu; subst hu; rfl
          case c3 => unfold maxLen; omega
          case c4 => omega
          case c5 => simp; omega
          intro v' w2 hown' hgrow hnil
          have R3 : Hid (v' ≠ Value.slice none 0 0) := hnil
          clear hnil
          have R2 : Hid (Below w.heap.size w w2) := (Hb.out.alloc hws _).grown hgrow (by simp; omega) (fun j hj => (ho.lt j hj).1)
          have R1 : Hid (w2.ownsRow w.heap.size 5 1 v' (8 * k + (j + 1)) ((encs (zs.take k) ++ (enc z).take (j + 1)).map (Value.int .u8))) := by
            show w2.ownsRow w.heap.size 5 1 v' (8 * k + (j + 1)) ((encs (zs.take k) ++ (enc z).take (j + 1)).map (Value.int .u8))
            rw [enc_at z j hj8] at hown'
            rw [take_snoc (enc z) j (by rw [enc_length]; exact hj8)]
            simpa only [List.map_append, List.map_take, List.map_cons, List.map_nil, List.append_assoc, Nat.add_assoc] using hown'
          clear hown' hgrow ho Hb hcell2
          go_wp2
          go_roundw
          case rel => exact ⟨j + 1, by omega, by go_num, R3.out, R1.out, R2.out⟩
          case measure => simp [intOf]; omega
        · obtain rfl : j = 8 := by omega
          have e2 : encs (zs.take (k + 1)) = encs (zs.take k) ++ (enc z).take 8 := by rw [take_snoc zs k hlt, HZ.out, encs_append, encs_one]; rfl
          rw [← e2] at ho
          have R1 : Hid (wr.ownsRow w.heap.size 5 1 _ (8 * (k + 1)) ((encs (zs.take (k + 1))).map (Value.int .u8))) := ho
          clear e2
          have R2 : Hid (Below w.heap.size w wr) := hbel
          clear ho hbel Ho
          go_wp2
          go_roundw
          case rel => exact ⟨k + 1, by omega, by go_num, Hnq.out, R1.out, R2.out⟩
          case measure => simp [intOf]; omega
    · obtain rfl : k = zs.length := by omega
      rw [List.take_length] at ho
      have R1 : Hid (wr.ownsRow w.heap.size 5 1 _ (8 * zs.length) ((encs zs).map (Value.int .u8))) := ho
      have R2 : Hid (Below w.heap.size w wr) := hbel
      clear ho hbel hc hwf
      go_wp2
      go_ret
      exact ⟨_, rfl, Hnn.out, R1.out, R2.out⟩

set_option maxHeartbeats 400000 in
theorem refPut_none (a : Option Addr) (c2 : Nat) (w : World) : Calls Try.prog 27 #[.slice a 0 c2] w (PutEnd w []) := by
  go_enter Try.func27, Try.ntmps27
  go_wp2
  refine wp_loop_rounds 1 ?_
  rw [rounds_succ]
  go_wp2
  go_ret
  exact ⟨_, _, rfl, World.ownsRow_lit _ #[] 0 (Nat.le_refl _) (by decide) rfl, (Below.refl _ _).alloc (Nat.le_refl _) _⟩

theorem refPut_any (a : Option Addr) (len c2 : Nat) (zs : List Int) (w : World) (h : Sl .i64 w a len zs) (hr : len ≤ 17592186044416) : Calls Try.prog 27 #[.slice a len c2] w (PutEnd w (encs zs)) := by
  have hl := h.1
  subst hl
  rcases h.2.2 with rfl | ⟨b, off, rfl, hc⟩
  · exact refPut_none a c2 w
  · by_cases h0 : zs = []
    · subst h0; exact refPut_none _ c2 w
    · refine (refPut_row b off c2 zs w hr h.2.1 hc (.inr ?_)).mono ?_
      · have := block_lt_of_cell (hc 0 (List.length_pos_iff.mpr h0)); exact this
      · rintro e w' ⟨v, rfl, hv, h1, h2⟩
        obtain ⟨g, cap, rfl⟩ := own_some h1 hv
        refine ⟨g, cap, ?_, ?_, h2⟩
        · rw [encs_length]
        · rw [encs_length]; exact h1

end Go.Proofs.Ytdecdjjknbbolaa
