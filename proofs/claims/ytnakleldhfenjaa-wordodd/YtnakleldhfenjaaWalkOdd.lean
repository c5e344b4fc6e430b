/-
  The walk of girolaw2.WordOdd: it answers true whatever the argument, and writes nothing that was there.
-/
import Derived.Test.YtnakleldhfenjaaWordAll
import Derived.Laws.IdiomStrings
namespace Go.Proofs.Ytnakleldhfenjaa
open Go.RowKit
set_option linter.unusedVariables false

/-- The bytes of a text, as numbers. -/
def numsOf (s : ByteArray) : List Int := s.data.toList.map (fun b => (b.toNat : Int))
theorem numsOf_length (s : ByteArray) : (numsOf s).length = s.size := by rw [numsOf, List.length_map, Array.length_toList]; rfl

/-- What '[]byte(s)' answers: a slice of its bytes. -/
theorem bytes_of (w : World) (s : ByteArray) (hs : s.size ≤ 9223372036854775807) : ∃ cap w', (convert 9 23 (.string s)).run Try.prog w = .ok (.slice (some ⟨w.heap.size, 0, none⟩) s.size cap) w' ∧
    s.size ≤ cap ∧ cap ≤ 9223372036854775807 ∧ Sl .u8 w' (some ⟨w.heap.size, 0, none⟩) s.size (numsOf s) ∧ Below w.heap.size w w' := by
  have hc := grownCap_le_maxLen w s.size 0 5 (by unfold maxLen; omega)
  refine ⟨_, _, run_bytes_of_string (P := Try.prog) w 9 23 5 s Try.underlying9 Try.underlying23 Try.underlying5, grownCap_ge _ _ _ _, by unfold maxLen at hc; omega, ?_, ?_⟩
  · refine ⟨(numsOf_length s).symm, ?_, .inr ⟨w.heap.size, 0, rfl, ?_⟩⟩
    · intro n hn
      obtain ⟨b, _, rfl⟩ := List.mem_map.1 hn
      have := b.toNat_lt
      exact u8_wf (by omega) (by omega)
    · intro i hi
      rw [numsOf_length] at hi
      rw [Nat.zero_add]
      have h1 := World.cell?_alloc_mark w.drew (bytesRow s (grownCap w s.size 0 5)) 5 ((bytesRow s (grownCap w s.size 0 5)).size, (bytesRow s (grownCap w s.size 0 5)).size + 1) i
      refine Eq.trans h1 ?_
      rw [bytesRow_at s _ i hi]
      have : i < s.data.size := hi
      simp [numsOf, List.getD_eq_getElem?_getD]
      rw [Array.getElem?_eq_getElem this]
      simp
  · exact ((Below.refl w.heap.size w).drew).alloc (Nat.le_refl _) _

namespace Walk

set_option maxHeartbeats 400000 in
theorem odd_out (way : Int) (w : World) (h : way < 0 ∨ 5 ≤ way) : Calls Try.prog 8 #[.int .i64 way] w fun e w' => e = .returned (.bool true) ∧ Below w.heap.size w w' := by
  by_cases h0 : way < 0
  · go_enter Try.func8, Try.ntmps8
    go_wp2
    go_ret
    exact ⟨rfl, (Below.refl _ _).alloc (Nat.le_refl _) _⟩
  · have h5 : 5 ≤ way := by omega
    go_enter Try.func8, Try.ntmps8
    go_wp2
    go_ret
    exact ⟨rfl, (Below.refl _ _).alloc (Nat.le_refl _) _⟩

def tbl : Array Value := #[.string { data := #[0] }, .string { data := #[0, 0, 0, 0, 0, 0, 0, 1] }, .string { data := #[255, 255, 255, 255, 255, 255, 255, 255, 0, 0, 0, 0, 0, 0, 0, 0] }, .string { data := #[32, 0, 0, 0, 0, 0, 0, 0] },
  .string { data := #[0, 0, 0, 0, 0, 0, 0, 1, 0, 0, 0, 0, 0, 0, 0] }]

set_option maxHeartbeats 1000000 in
theorem odd_in (i : Nat) (s : ByteArray) (l : List Int) (E : Int) (w : World) (hi : (i : Int) < 5) (ht : tbl[i]? = some (.string s)) (hs : s.size ≤ 100) (hN : nextT (numsOf s) = ([], [], false)) (hG : getS (numsOf s) = (l, E)) (hE : (E == 0) = ((s.size : Int) % 8 == 0)) :
    Calls Try.prog 8 #[.int .i64 i] w fun e w' => e = .returned (.bool true) ∧ Below w.heap.size w w' := by
  obtain ⟨wt, hwt⟩ : ∃ wt, w.alloc (.cells #[.string { data := #[0] }, .string { data := #[0, 0, 0, 0, 0, 0, 0, 1] }, .string { data := #[255, 255, 255, 255, 255, 255, 255, 255, 0, 0, 0, 0, 0, 0, 0, 0] }, .string { data := #[32, 0, 0, 0, 0, 0, 0, 0] },
    .string { data := #[0, 0, 0, 0, 0, 0, 0, 1, 0, 0, 0, 0, 0, 0, 0] }] 9) = wt := ⟨_, rfl⟩
  have c0 : wt.cell? ⟨w.heap.size, i, none⟩ = some (.string s) := by
    rw [← hwt, ← ht]
    exact cell_of_row _ w.heap.size i _ _ _ (heap_alloc_new w _)
  have B0 : Below w.heap.size w wt := by rw [← hwt]; exact (Below.refl _ _).alloc (Nat.le_refl _) _
  obtain ⟨c1, w1, hrun1, p1, p2, S1, bel1⟩ := bytes_of wt s (by omega)
  have i0 : ¬ (i : Int) < 0 := by omega
  have HS : Hid (s.size ≤ 100) := hs
  go_enter Try.func8, Try.ntmps8
  go_wp2_with fail
  have N := next_all (some ⟨wt.heap.size, 0, none⟩) s.size c1 _ w1 S1 p1 p2 (by omega)
  unfold NextAll at N
  rw [hN] at N
  refine N.mono ?_
  rintro e w2 ⟨a2, d2, b2, f2, rfl, _, _, _, _, _, bel2⟩
  have b02 := bel1.trans (bel2.mono bel1.size)
  have B2 := B0.trans (b02.mono B0.size)
  have c2 : w2.cell? ⟨w.heap.size, i, none⟩ = some (.string s) := by rw [b02.cell (p := ⟨w.heap.size, i, none⟩) (block_lt_of_cell c0)]; exact c0
  obtain ⟨c3, w3, hrun3, q1, q2, S3, bel3⟩ := bytes_of w2 s (by omega)
  clear N hrun1 S1 bel1 bel2
  go_wp2_with fail
  have G := get_any (some ⟨w2.heap.size, 0, none⟩) s.size c3 _ w3 S3 q1 q2 (by omega)
  unfold GetAll at G
  rw [hG] at G
  refine G.mono ?_
  rintro e w4 ⟨a4, d4, rfl, _, bel4⟩
  have b24 := bel3.trans (bel4.mono bel3.size)
  have B4 : Hid (Below w.heap.size w w4) := B2.trans (b24.mono B2.size)
  have c4 : w4.cell? ⟨w.heap.size, i, none⟩ = some (.string s) := by rw [b24.cell (p := ⟨w.heap.size, i, none⟩) (block_lt_of_cell c2)]; exact c2
  clear G hrun3 S3 bel3 bel4 b02 B0 B2 b24 c0 c2 hwt hN hG
  go_wp2_with (go_at_call 16; refine (known2_any _).mono ?_; rintro e w7 ⟨rfl, bel7⟩)
  go_ret
  exact ⟨rfl, B4.out.trans (bel7.mono B4.out.size)⟩

theorem wordOdd (a0 : Int) (w0 : (Lit.int .i64 a0).wf = true) (w : World) : Calls Try.prog 8 #[.int .i64 a0] w fun e w' => e = .returned (.bool true) ∧ Below w.heap.size w w' := by
  by_cases h : a0 < 0 ∨ 5 ≤ a0
  · exact odd_out a0 w h
  · have : a0 = 0 ∨ a0 = 1 ∨ a0 = 2 ∨ a0 = 3 ∨ a0 = 4 := by omega
    rcases this with rfl | rfl | rfl | rfl | rfl
    · exact odd_in 0 { data := #[0] } [] 2 w (by decide) rfl (by decide) (by decide) (by decide) (by decide)
    · exact odd_in 1 { data := #[0, 0, 0, 0, 0, 0, 0, 1] } [1] 0 w (by decide) rfl (by decide) (by decide) (by decide) (by decide)
    · exact odd_in 2 { data := #[255, 255, 255, 255, 255, 255, 255, 255, 0, 0, 0, 0, 0, 0, 0, 0] } [-1, 0] 0 w (by decide) rfl (by decide) (by decide) (by decide) (by decide)
    · exact odd_in 3 { data := #[32, 0, 0, 0, 0, 0, 0, 0] } [2305843009213693952] 0 w (by decide) rfl (by decide) (by decide) (by decide) (by decide)
    · exact odd_in 4 { data := #[0, 0, 0, 0, 0, 0, 0, 1, 0, 0, 0, 0, 0, 0, 0] } [] 2 w (by decide) rfl (by decide) (by decide) (by decide) (by decide)

end Walk
end Go.Proofs.Ytnakleldhfenjaa
