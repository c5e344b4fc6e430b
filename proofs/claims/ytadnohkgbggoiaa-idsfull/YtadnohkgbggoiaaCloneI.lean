/-
  slices.Clone of int64s.
-/
import Derived.Test.YtadnohkgbggoiaaGood
import Derived.Lib.SliceRun
namespace Go.Proofs.Ytadnohkgbggoiaa
open Go.RowKit
set_option linter.unusedVariables false
set_option linter.unusedSimpArgs false

theorem clone_none (n c : Nat) (w : World) (h : n = 0) (h2 : c = 0) : Calls Try.prog 15 #[.slice none n c] w (MadeEnd w []) := by
  subst h h2
  have hnil := fun (w : World) (a : Option Addr) (n c n' c' : Nat) => Lib.run_eql_slice_nil (P := Try.prog) w 22 2 a n c n' c' Try.underlying22
  go_enter Try.func15, Try.ntmps15
  go_wp2
  go_ret
  exact ⟨none, 0, rfl, Good.nil _, Below.refl _ _⟩

set_option maxHeartbeats 1000000 in
theorem clone_some (ad : Addr) (n c : Nat) (zs : List Int) (w : World) (h : Sl .i64 w (some ad) n zs) (hr : n ≤ 1000000) : Calls Try.prog 15 #[.slice (some ad) n c] w (MadeEnd w zs) := by
  obtain ⟨i0, hi, hz0, hz1, hz2⟩ := info_parts infoI64
  have HS : Hid (Sl .i64 (w.alloc (.cells #[] 2)) (some ad) n zs) := h.alloc _
  have own0 := World.ownsRow_made (e := 2) (size := 1) (base := w.heap.size) w #[] 0 (Nat.le_refl _) (Nat.zero_le _) rfl
  clear h
  have hnil := fun (w : World) (a : Option Addr) (n c n' c' : Nat) => Lib.run_eql_slice_nil (P := Try.prog) w 22 2 a n c n' c' Try.underlying22
  go_enter Try.func15, Try.ntmps15
  go_wp2_with (refine wpList_append_sl rfl _ _ 22 rfl w.heap.size 2 i0 (.int .i64 0) 8 Try.underlying22 hi hz0 hz1 hz2 rfl (.slice (some ⟨w.heap.size, 0, none⟩) 0 0) 0 [] rfl own0 .i64 (some ad) n c zs rfl HS.out (fun h => by cases h) ?c1 ?c2 ?c3 ?_)
  case c1 => unfold maxLen; omega
  case c2 => omega
  case c3 => simp
  intro v' w1 hown hgrow _
  go_wp2
  go_ret
  have hown' : w1.ownsRow w.heap.size 2 1 v' n (zs.map (Value.int .i64)) := by simpa using hown
  obtain ⟨a, k, rfl, G⟩ := Good.own hown' HS.out.2.1
  refine ⟨a, k, rfl, G, ((Below.refl _ w).alloc (Nat.le_refl _) _).grown hgrow (by simp) (by intro k hk; simp [Value.ownBlock] at hk; omega)⟩

theorem clone_any (a : Option Addr) (n c : Nat) (zs : List Int) (w : World) (h : Good w a n c zs) (hr : n ≤ 1000000) : Calls Try.prog 15 #[.slice a n c] w (MadeEnd w zs) := by
  cases a with
  | none =>
    have hc := h.nil0 rfl
    have hn : n = 0 := by have := h.cap; omega
    have hl := h.sl.1
    have : zs = [] := List.length_eq_zero_iff.mp (by omega)
    subst this
    exact clone_none n c w hn hc
  | some ad => exact clone_some ad n c zs w h.sl hr

end Go.Proofs.Ytadnohkgbggoiaa
