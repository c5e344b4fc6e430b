/-
  giroref5: Put, Same, Scan.
-/
import Derived.Test.YtdecdjjknbbolaaRecRows
namespace Go.Proofs.Ytdecdjjknbbolaa
open Go.RowKit
set_option linter.unusedVariables false
set_option linter.unusedSimpArgs false

theorem recS_bs {z : List Int} (h : Bs z) (hl : z.length ≤ 60000) : Bs (recS z) := by
  refine Bs.append ?_ h
  intro x hx
  simp at hx
  rcases hx with rfl | rfl
  · exact u8_wf (by omega) (by omega)
  · exact u8_wf (by omega) (by omega)

set_option maxHeartbeats 1000000 in
theorem ref_put (a : Option Addr) (n c : Nat) (z : List Int) (w : World) (hS : Sl .u8 w a n z) (hn : a = none → c = 0) (hl : n ≤ 60000) :
    Calls Try.prog 26 #[.slice a n c] w (fun e w' => ∃ v, e = .returned (.tuple #[v, .bool true]) ∧ w'.ownsRow w.heap.size 5 1 v (n + 2) ((recS z).map (Value.int .u8)) ∧ Below w.heap.size w w') := by
  obtain ⟨i0, hi, hz0, hz1, hz2⟩ := info_parts infoU8
  have HS : Hid (Sl .u8 w a n z ∧ (a = none → c = 0)) := ⟨hS, hn⟩
  have i1 : (n : Int) ≤ 60000 := by omega
  have w1 : IntKind.u8.wrap ((n : Int) / 256) = (n : Int) / 256 := u8_wf (by omega) (by omega)
  have w2 : IntKind.u8.wrap ((n : Int) % 256) = (n : Int) % 256 := u8_wf (by omega) (by omega)
  clear hS hn
  go_enter Try.func26, Try.ntmps26
  go_wp2_with (at_builtin; refine wpList_append_sl rfl _ _ 26 rfl w.heap.size 5 i0 _ 1 Try.underlying26 hi hz0 hz1 hz2 rfl _ 2 [.int .u8 ((n : Int) / 256), .int .u8 ((n : Int) % 256)] rfl (World.ownsRow_lit w #[.int .u8 ((n : Int) / 256), .int .u8 ((n : Int) % 256)] 2 (Nat.le_refl _) (by decide) rfl) .u8 a n c z rfl (HS.out.1.alloc _) HS.out.2 (by unfold maxLen; omega) (by omega) (by simp) ?_)
  intro v w' h1 h2 h3
  have HB : Below w.heap.size w w' := ((Below.refl w.heap.size w).alloc (Nat.le_refl _) _).grown h2 (by simp) (fun k hk => by simp [Value.ownBlock] at hk; omega)
  have h4 : Hid (w'.ownsRow w.heap.size 5 1 v (n + 2) ((recS z).map (Value.int .u8))) := by
    show w'.ownsRow _ _ _ _ _ _
    have e : (recS z).map (Value.int .u8) = [Value.int .u8 ((n : Int) / 256), Value.int .u8 ((n : Int) % 256)] ++ z.map (Value.int .u8) := by
      have := HS.out.1.1
      subst this
      simp [recS]
    rw [e, Nat.add_comm]
    exact h1
  clear h1 h2 h3
  go_wp2
  exact bodyPost_ret (results_tmp2 rfl _ _ _) rfl ⟨v, rfl, h4.out, HB⟩

theorem ref_put_no (a : Option Addr) (n c : Nat) (w : World) (hl : 60000 < n) (hm : n ≤ 9223372036854775807) :
    Calls Try.prog 26 #[.slice a n c] w (fun e w' => e = .returned (.tuple #[.slice none 0 0, .bool false]) ∧ w' = w) := by
  have i1 : (60000 : Int) < (n : Int) := by omega
  go_enter Try.func26, Try.ntmps26
  go_wp2
  exact bodyPost_ret (results_tmp2 rfl _ _ _) rfl ⟨rfl, rfl⟩

theorem text_ne {a b : ByteArray} (h : ¬ a = b) : (a.toList == b.toList) = false := by
  rw [ByteArray.toList_eq, ByteArray.toList_eq]
  exact beq_eq_false_iff_ne.2 (fun he => h (ByteArray.ext (Array.toList_inj.1 he)))

/-- Two rows that are one up to some place, and at it not. -/
theorem same_part {R1 R2 : List (List Int)} {k : Nat} (h1 : R1.length = R2.length) (hk : k < R1.length) (h : R1.getD k [] ≠ R2.getD k []) : decide (R1 = R2) = false := by
  apply decide_eq_false
  rintro rfl
  exact h rfl
theorem same_all {R1 R2 : List (List Int)} (h1 : R1.length = R2.length) (h : ∀ i, i < R1.length → R1.getD i [] = R2.getD i []) : decide (R1 = R2) = true := by
  apply decide_eq_true
  apply List.ext_getElem h1
  intro i hi hi'
  have := h i hi
  simpa [List.getD_eq_getElem?_getD, hi, hi'] using this

set_option maxHeartbeats 2000000 in
theorem ref_same (a1 : Option Addr) (n1 c1 : Nat) (R1 : List (List Int)) (a2 : Option Addr) (n2 c2 : Nat) (R2 : List (List Int)) (w : World) (h1 : RowsIn w a1 n1 R1) (h2 : RowsIn w a2 n2 R2) (hm1 : n1 ≤ 1000000) (hm2 : n2 ≤ 1000000) :
    Calls Try.prog 16 #[.slice a1 n1 c1, .slice a2 n2 c2] w (fun e w' => e = .returned (.bool (decide (R1 = R2))) ∧ Below w.heap.size w w') := by
  by_cases hne : n1 = n2
  · subst hne
    have HL : Hid (n1 = R1.length ∧ n1 = R2.length) := ⟨h1.1, h2.1⟩
    have H : Hid (RowsIn w a1 n1 R1 ∧ RowsIn w a2 n1 R2) := ⟨h1, h2⟩
    clear h1 h2
    go_enter Try.func16, Try.ntmps16
    go_wp2
    go_loopw [5] (fun i wr => ∃ k : Nat, i = .int .i64 k ∧ k ≤ n1 ∧ Below w.heap.size w wr ∧ ∀ j, j < k → R1.getD j [] = R2.getD j []) (fun i _ => ((n1 : Int) - intOf i).toNat)
    case atStart => exact ⟨0, rfl, by omega, Below.refl _ _, fun j hj => by omega⟩
    case round =>
      obtain ⟨k, rfl, hk, bl, hj⟩ := hrel
      by_cases hlt : k < n1
      · have hltI : (k : Int) < (n1 : Int) := by omega
        obtain ⟨b1, o1, ha1, r1⟩ := H.out.1.2.2.resolve_left (by rintro rfl; have := HL.out.1; simp at this; omega)
        obtain ⟨b2, o2, ha2, r2⟩ := H.out.2.2.2.resolve_left (by rintro rfl; have := HL.out.2; simp at this; omega)
        obtain ⟨x1, d1, p1, s1⟩ := r1 k (by have := HL.out.1; omega)
        obtain ⟨x2, d2, p2, s2⟩ := r2 k (by have := HL.out.2; omega)
        have hz1 := getD_bs H.out.1.2.1 k
        have hz2 := getD_bs H.out.2.2.1 k
        obtain ⟨z1, ez1⟩ : ∃ z, R1.getD k [] = z := ⟨_, rfl⟩
        obtain ⟨z2, ez2⟩ : ∃ z, R2.getD k [] = z := ⟨_, rfl⟩
        rw [ez1] at p1 s1 hz1
        rw [ez2] at p2 s2 hz2
        have EZ : Hid (R1.getD k [] = z1 ∧ R2.getD k [] = z2) := ⟨ez1, ez2⟩
        have q1 := (bl.cell (p := ⟨b1, o1 + k, none⟩) (block_lt_of_cell p1)).trans p1
        have q2 := (bl.cell (p := ⟨b2, o2 + k, none⟩) (block_lt_of_cell p2)).trans p2
        have t1 := fun q => ((s1.below bl).drew q).text (P := Try.prog) (cap := d1) 26 9 5 Try.underlying26 Try.underlying5 Try.underlying9
        have t2 := fun q => ((s2.below bl).drew q).text (P := Try.prog) (cap := d2) 26 9 5 Try.underlying26 Try.underlying5 Try.underlying9
        clear r1 r2 p1 p2 s1 s2 ez1 ez2
        subst ha1 ha2
        by_cases hz : z1 = z2
        · subst hz
          go_wp2
          go_quiet (fail)
          go_wp2
          go_roundw
          case rel =>
            refine ⟨k + 1, by go_num, by omega, ⟨bl.os, bl.tape, bl.output, bl.size, bl.block⟩, fun j hj' => ?_⟩
            rcases (show j < k ∨ j = k by omega) with h | rfl
            · exact hj j h
            · rw [EZ.out.1, EZ.out.2]
          case measure => simp [intOf]; omega
        · have hs : ¬ strOfNums z1 = strOfNums z2 := fun he => hz (strOfNums_inj hz1 hz2 he)
          have hs' := text_ne hs
          have hp : Hid (decide (R1 = R2) = false) := same_part (by have := HL.out; omega) (show k < R1.length by have := HL.out; omega) (by rw [EZ.out.1, EZ.out.2]; exact hz)
          go_wp2
          go_quiet (fail)
          go_wp2
          go_ret
          exact ⟨rt_bool hp.out.symm, ⟨bl.os, bl.tape, bl.output, bl.size, bl.block⟩⟩
      · have hltI : ¬ (k : Int) < (n1 : Int) := by omega
        have hall : Hid (decide (R1 = R2) = true) := same_all (by have := HL.out; omega) (fun i hi => hj i (by have := HL.out; omega))
        go_wp2
        go_ret
        exact ⟨rt_bool hall.out.symm, bl⟩
  · have hd : decide (R1 = R2) = false := by
      apply decide_eq_false
      rintro rfl
      exact hne (h1.1.trans h2.1.symm)
    have HD : Hid (decide (R1 = R2) = false) := hd
    have i1 : ((n1 : Int) == n2) = false := by simp; omega
    have i2 : ¬ (n1 : Int) = n2 := by omega
    clear hd h1 h2
    go_enter Try.func16, Try.ntmps16
    go_wp2
    go_ret
    exact ⟨rt_bool HD.out.symm, Below.refl _ _⟩

end Go.Proofs.Ytdecdjjknbbolaa
