/-
  girolaw3.known: a tick.
-/
import Derived.Test.YtaifnlfebdochaaMsgReadCmd
namespace Go.Proofs.Ytaifnlfebdochaa
open Go.RowKit

theorem strOf_tick : strOfNums [14] = ⟨#[14]⟩ := rfl

theorem known_any (w : World) : Calls Try.prog 15 #[] w fun e w' => e = .returned (.bool true) ∧ Below w.heap.size w w' := by
  have hm : manyS 1 = 6 := rfl
  have M := many_any 1
  rw [hm] at M
  have hI : isS 14 [0, 0, 0, 0, 0, 0] = true := by decide
  have hbs : bytesS 14 [0, 0, 0, 0, 0, 0] = [14] := rfl
  have B := fun w => bytes_is 14 0 0 0 0 0 0 w hI (by decide)
  rw [hbs] at B
  have hr : Hid (readS [14] = ([14, 0, 0, 0, 0, 0, 0], 0)) := rfl
  clear hm hI hbs
  go_enter Try.func15, Try.ntmps15
  go_wp2_with fail
  go_at_call 16
  refine (read_any (some ⟨w.heap.size, 0, none⟩) 1 1 [14] _ (Sl.new .u8 w _ (0, 0) [14] (by decide)) (by omega) (by omega) (by omega)).mono ?_
  rintro e w1 ⟨k, f0, f1, f2, f3, f4, f5, er, hR, rfl, hb1⟩
  rw [hr.out] at hR
  simp only [Prod.mk.injEq, List.cons.injEq] at hR
  obtain ⟨⟨rfl, rfl, rfl, rfl, rfl, rfl, rfl, _⟩, rfl⟩ := hR
  have hb0 : Below w.heap.size w (w.alloc (.cells #[.int .u8 14] 5)) := (Below.refl _ _).alloc (Nat.le_refl _) _
  have hB : Below w.heap.size w w1 := hb0.trans (hb1.mono hb0.size)
  clear hb0 hb1
  go_wp2_with fail
  go_at_call 9
  refine (B _).mono ?_
  rintro e w2 ⟨a, c, rfl, hs, hc, hm, hb2⟩
  have hB2 : Below w.heap.size w w2 := by
    have h1 := hB.alloc hB.size (.cells #[.int .i64 14, .int .i64 0, .int .i64 0, .int .i64 0, .int .i64 0, .int .i64 0, .int .i64 0] 24)
    exact h1.trans (hb2.mono h1.size)
  have c0 : w2.cell? ⟨w1.heap.size, 0, none⟩ = some (.int .i64 14) := by
    rw [hb2.cell (p := ⟨w1.heap.size, 0, none⟩) (by simp), cell_new]
    rfl
  have ht : (convert 27 9 (.slice (some a) 1 c)).run Try.prog w2 = .ok (.string ⟨#[14]⟩) w2 := hs.text (P := Try.prog) (cap := c) 27 9 5 Try.underlying27 Try.underlying5 Try.underlying9
  clear hs hb2 B hB
  go_wp2_with (go_at_call 20; refine (M _).mono ?_; rintro e w3 ⟨rfl, hw⟩; obtain rfl := hw.symm)
  go_ret
  exact ⟨rfl, hB2⟩

end Go.Proofs.Ytaifnlfebdochaa
