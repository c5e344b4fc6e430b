/-
  girolaw5.known; what Put and Scan answer, in the form that the laws' walks want.
-/
import Derived.Test.YtjonnheamhlibaaRecProg
import Derived.Lib.SlBytesConst
namespace Go.Proofs.Ytjonnheamhlibaa
open Go.RowKit
set_option linter.unusedVariables false
set_option linter.unusedSimpArgs false

theorem recS_a : recS [97] = [0, 1, 97] := rfl
theorem scanS_ab : scanS [0, 1, 97, 98] = ([[97]], 1) := by
  have := scanS_rec [97] [98] (by decide)
  rw [scanS_short [98] (by decide)] at this
  exact this

theorem known_true (w : World) : Calls Try.prog 12 #[] w (fun e w' => e = .returned (.bool true) ∧ Below w.heap.size w w') := by
  have C := Lib.run_convert_bytes_const (P := Try.prog) w 22 5 #[.int .u8 97] 1 1 Try.underlying22 Try.underlying5
  have S1 : Hid (Sl .u8 (w.alloc (.cells #[.int .u8 97] 5 (1, 2))) (some ⟨w.heap.size, 0, none⟩) 1 [97]) := Sl.new .u8 w 5 (1, 2) [97] (by intro n hn; simp at hn; rw [hn]; decide)
  have B0 : Hid (Below w.heap.size w (w.alloc (.cells #[.int .u8 97] 5 (1, 2)))) := (Below.refl _ _).alloc (Nat.le_refl _) _
  go_enter Try.func12, Try.ntmps12
  go_wp2_with fail
  go_at_call 7
  refine (rec_put _ 1 1 [97] _ S1.out (by simp) (by decide)).mono ?_
  rintro e w1 ⟨v1, rfl, o1, b1⟩
  rw [recS_a] at o1
  have B1 : Hid (Below w.heap.size w w1) := B0.out.trans (b1.mono B0.out.size)
  obtain ⟨a1, c1, rfl, s1, _⟩ := Sl.own (k := .u8) (ys := [0, 1, 97]) o1 (by intro n hn; simp at hn; rcases hn with rfl | rfl | rfl <;> decide)
  have S3 : Hid (Sl .u8 w1 a1 3 [0, 1, 97]) := s1
  clear C S1 B0 o1 b1 s1
  have C := Lib.run_convert_bytes_const (P := Try.prog) w1 22 5 #[.int .u8 0, .int .u8 1, .int .u8 97, .int .u8 98] 4 4 Try.underlying22 Try.underlying5
  have S2 : Hid (Sl .u8 (w1.alloc (.cells #[.int .u8 0, .int .u8 1, .int .u8 97, .int .u8 98] 5 (4, 5))) (some ⟨w1.heap.size, 0, none⟩) 4 [0, 1, 97, 98]) :=
    Sl.new .u8 w1 5 (4, 5) [0, 1, 97, 98] (by intro n hn; simp at hn; rcases hn with rfl | rfl | rfl | rfl <;> decide)
  have B2 : Hid (Below w1.heap.size w1 (w1.alloc (.cells #[.int .u8 0, .int .u8 1, .int .u8 97, .int .u8 98] 5 (4, 5)))) := (Below.refl _ _).alloc (Nat.le_refl _) _
  go_wp2_with fail
  go_at_call 9
  refine (rec_scan _ 4 4 [0, 1, 97, 98] _ S2.out (by omega) (by omega) (by simp) (by omega)).mono ?_
  rw [scanS_ab]
  rintro e w2 ⟨v2, vs, rfl, m2, b2⟩
  have B3 : Below w1.heap.size w1 w2 := B2.out.trans (b2.mono B2.out.size)
  have B4 : Hid (Below w.heap.size w w2) := B1.out.trans (B3.mono B1.out.size)
  obtain ⟨la, lc, rfl⟩ := own_form m2.own
  obtain ⟨_, _, hr⟩ := m2.read
  obtain ⟨g, off, rfl, hrow⟩ := hr.resolve_left (by simp)
  obtain ⟨x, xc, q, sx⟩ := hrow 0 (by simp)
  have q0 : w2.cell? ⟨g, off, none⟩ = some (.slice x 1 xc) := q
  have T1 : (convert 22 9 (.slice a1 3 c1)).run Try.prog w2 = .ok (.string ⟨#[0, 1, 97]⟩) w2 := (S3.out.below B3).text (P := Try.prog) (cap := c1) 22 9 5 Try.underlying22 Try.underlying5 Try.underlying9
  have T2 : (convert 22 9 (.slice x 1 xc)).run Try.prog w2 = .ok (.string ⟨#[97]⟩) w2 := sx.text (P := Try.prog) (cap := xc) 22 9 5 Try.underlying22 Try.underlying5 Try.underlying9
  clear C S2 B2 m2 b2 B3 hrow q sx S3 hr
  go_wp2
  go_ret
  exact ⟨rfl, B4.out⟩

end Go.Proofs.Ytjonnheamhlibaa
