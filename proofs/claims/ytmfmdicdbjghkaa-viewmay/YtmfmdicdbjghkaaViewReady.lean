/-
  view.Ready, view.Of.
-/
import Derived.Test.YtmfmdicdbjghkaaViewSuch
namespace Go.Proofs.Ytmfmdicdbjghkaa
open Go.RowKit
set_option linter.unusedVariables false
set_option linter.unusedSimpArgs false

theorem viewReadyF_any (p : P7) (g : Nat) (t : Int) (w : World) (h : w.cell? ⟨g, 0, none⟩ = some (.int .i64 t)) : Calls Try.prog 23 #[p.val, .pointer (some ⟨g, 0, none⟩)] w fun e w' => e = .returned (.bool (readyB p.st p.ti t)) ∧ Below w.heap.size w w' := by
  obtain ⟨x0, x1, x2, x3, x4, x5, x6⟩ := p
  have hg := block_lt_of_cell h
  have hb := box_below w (.cells #[.int .i64 x0, .int .i64 x1, .int .i64 x2, .int .i64 x3, .int .i64 x4, .int .i64 x5, .int .i64 x6] 34)
  have h' := (hb.cell (p := ⟨g, 0, none⟩) hg).trans h
  have HB : Hid (Below w.heap.size w _) := hb
  have R := ready_any x0 x1 x2 x3 x4 x5 x6 t (w.alloc (.cells #[.int .i64 x0, .int .i64 x1, .int .i64 x2, .int .i64 x3, .int .i64 x4, .int .i64 x5, .int .i64 x6] 34))
  clear hb h hg
  go_enter Try.func23, Try.ntmps23
  go_wp2_with fail
  go_at_call 24
  refine R.mono ?_
  rintro e w1 ⟨rfl, hb⟩
  have B1 : Hid (Below w.heap.size w w1) := HB.out.trans (hb.mono HB.out.size)
  clear hb R HB
  go_wp2
  go_ret
  exact ⟨rfl, B1.out⟩

set_option maxHeartbeats 1000000 in
theorem viewReady_made (a : Option Addr) (n c : Nat) (L : List P7) (t : Int) (w : World) (h : PGood w a n c L) (hm : n ≤ 100000) :
    Calls Try.prog 9 #[.slice a n c, .int .i64 t] w (PMade w (vReady L t)) := by
  have hb : Below w.heap.size w (w.alloc (.cells #[.int .i64 t] 2)) := box_below _ _
  have hs : (w.alloc (.cells #[.int .i64 t] 2)).heap.size = w.heap.size + 1 := size_alloc _ _
  have S := suchReady w.heap.size none (readyK t) (fun _ u => u.cell? ⟨w.heap.size, 0, none⟩ = some (.int .i64 t)) a n c L (w.alloc (.cells #[.int .i64 t] 2)) (h.below hb) hm
    (fun x hx => by cases hx) (fun _ x _ => by simp)
    (fun A u u' r hr hc hg => hg.cell hc (fun e => by have := hr _ e.symm; rw [hs] at this; simp at this; omega))
    (by rw [cell_new]; rfl)
    (fun k u _ _ hc => (viewReadyF_any (L.getD k p70) w.heap.size t u hc).mono fun e u' ⟨h1, h2⟩ => ⟨h1, (h2.cell (p := ⟨w.heap.size, 0, none⟩) (block_lt_of_cell hc)).trans hc, grown_below h2 _⟩)
  have HB : Hid (Below w.heap.size w (w.alloc (.cells #[.int .i64 t] 2))) := hb
  clear h hm hb hs
  go_enter Try.func9, Try.ntmps9
  go_wp2_with fail
  go_at_call 22
  refine S.mono ?_
  rintro e w1 ⟨⟨v1, rfl, o1, hg⟩, -⟩
  have hsz := HB.out.size
  have R : Hid (PMade w (vReady L t) (.returned v1) w1) := ⟨v1, rfl, own_base o1 hsz, HB.out.trans ((below_grown hg).mono hsz)⟩
  clear o1 hg S hsz HB
  go_wp2
  go_ret
  exact R.out
theorem viewReady_any (a : Option Addr) (n c : Nat) (L : List P7) (t : Int) (w : World) (h : PGood w a n c L) (hm : n ≤ 100000) :
    Calls Try.prog 9 #[.slice a n c, .int .i64 t] w (PEnd w (vReady L t)) := (viewReady_made a n c L t w h hm).mono fun _ _ h => h.end

theorem viewOfF_any (p : P7) (g : Nat) (f : Int) (w : World) (h : w.cell? ⟨g, 0, none⟩ = some (.int .i64 f)) : Calls Try.prog 25 #[p.val, .pointer (some ⟨g, 0, none⟩)] w fun e w' => e = .returned (.bool (p.fr == f)) ∧ Below w.heap.size w w' := by
  obtain ⟨x0, x1, x2, x3, x4, x5, x6⟩ := p
  have hg := block_lt_of_cell h
  have hb := box_below w (.cells #[.int .i64 x0, .int .i64 x1, .int .i64 x2, .int .i64 x3, .int .i64 x4, .int .i64 x5, .int .i64 x6] 34)
  have h' := (hb.cell (p := ⟨g, 0, none⟩) hg).trans h
  have HB : Hid (Below w.heap.size w _) := hb
  clear hb h hg
  go_enter Try.func25, Try.ntmps25
  go_wp2
  go_ret
  exact ⟨rfl, HB.out⟩

set_option maxHeartbeats 1000000 in
theorem viewOf_made (a : Option Addr) (n c : Nat) (L : List P7) (f : Int) (w : World) (h : PGood w a n c L) (hm : n ≤ 100000) :
    Calls Try.prog 11 #[.slice a n c, .int .i64 f] w (PMade w (vOf L f)) := by
  have hb : Below w.heap.size w (w.alloc (.cells #[.int .i64 f] 3)) := box_below _ _
  have hs : (w.alloc (.cells #[.int .i64 f] 3)).heap.size = w.heap.size + 1 := size_alloc _ _
  have S := suchOf w.heap.size none (ofK f) (fun _ u => u.cell? ⟨w.heap.size, 0, none⟩ = some (.int .i64 f)) a n c L (w.alloc (.cells #[.int .i64 f] 3)) (h.below hb) hm
    (fun x hx => by cases hx) (fun _ x _ => by simp)
    (fun A u u' r hr hc hg => hg.cell hc (fun e => by have := hr _ e.symm; rw [hs] at this; simp at this; omega))
    (by rw [cell_new]; rfl)
    (fun k u _ _ hc => (viewOfF_any (L.getD k p70) w.heap.size f u hc).mono fun e u' ⟨h1, h2⟩ => ⟨h1, (h2.cell (p := ⟨w.heap.size, 0, none⟩) (block_lt_of_cell hc)).trans hc, grown_below h2 _⟩)
  have HB : Hid (Below w.heap.size w (w.alloc (.cells #[.int .i64 f] 3))) := hb
  clear h hm hb hs
  go_enter Try.func11, Try.ntmps11
  go_wp2_with fail
  go_at_call 22
  refine S.mono ?_
  rintro e w1 ⟨⟨v1, rfl, o1, hg⟩, -⟩
  have hsz := HB.out.size
  have R : Hid (PMade w (vOf L f) (.returned v1) w1) := ⟨v1, rfl, own_base o1 hsz, HB.out.trans ((below_grown hg).mono hsz)⟩
  clear o1 hg S hsz HB
  go_wp2
  go_ret
  exact R.out
theorem viewOf_any (a : Option Addr) (n c : Nat) (L : List P7) (f : Int) (w : World) (h : PGood w a n c L) (hm : n ≤ 100000) :
    Calls Try.prog 11 #[.slice a n c, .int .i64 f] w (PEnd w (vOf L f)) := (viewOf_made a n c L f w h hm).mono fun _ _ h => h.end

end Go.Proofs.Ytmfmdicdbjghkaa
