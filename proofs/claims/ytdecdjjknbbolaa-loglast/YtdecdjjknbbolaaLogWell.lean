/-
  log: Add and Save on a deck that is not armed: they are well, if there is room.
-/
import Derived.Test.YtdecdjjknbbolaaLogKept
namespace Go.Proofs.Ytdecdjjknbbolaa
open Go.RowKit
set_option linter.unusedVariables false
set_option linter.unusedSimpArgs false

theorem Held.len {d : D} {g s : Int} {snap : List Int} {rows : List (List Int)} {tail : List Int} (h : Held d g s snap rows tail) : (d.read s).length = snap.length + 10 + (encR rows).length + tail.length := by
  rw [h.bytes, List.length_append, encR_cons, List.length_append, recS_length, List.length_append, enc_length]
  omega

theorem held_add_ok {d : D} {g s : Int} {snap : List Int} {rows : List (List Int)} (h : Held d g s snap rows []) (hdn : d.dn = false) (har : d.ar = false) (n : Nat) (row : List Int) (hl : row.length ≤ 60000) (hr : ((snap.length + 10 + (encR rows).length + row.length + 2 : Nat) : Int) ≤ d.room) :
    ∃ d', d.add ⟨g, s, n, false⟩ row = (0, d', ⟨g, s, n + 1, false⟩) ∧ Held d' g s snap (rows ++ [row]) [] ∧ d'.dn = false ∧ d'.room = d.room ∧ d'.ar = false ∧ d'.ops = d.ops + 2 := by
  have hlen := h.len
  simp at hlen
  rcases held_add h hdn n row hl with ⟨h1, _⟩ | ⟨_, h1, h2, h3, h4, h5, h6, h7⟩ | ⟨h1, _⟩
  · omega
  · refine ⟨(d.add ⟨g, s, n, false⟩ row).2.1, ?_, h3, h4, h5, h6.trans har, h7⟩
    rw [← h1, ← h2]
  · rw [har] at h1; simp at h1

theorem held_add_no {d : D} {g s : Int} {snap : List Int} {rows : List (List Int)} (h : Held d g s snap rows []) (hdn : d.dn = false) (har : d.ar = false) (n : Nat) (row : List Int) (hl : row.length ≤ 60000) (hr : d.room < ((snap.length + 10 + (encR rows).length + row.length + 2 : Nat) : Int)) :
    d.add ⟨g, s, n, false⟩ row = (10, d, ⟨g, s, n, false⟩) := by
  have hlen := h.len
  simp at hlen
  rcases held_add h hdn n row hl with ⟨_, h2⟩ | ⟨h1, _⟩ | ⟨h1, _⟩
  · exact h2
  · exact absurd (by omega) h1
  · rw [har] at h1; simp at h1

theorem held_save_ok {d : D} {g s : Int} {snap : List Int} {rows : List (List Int)} {tail : List Int} (h : Held d g s snap rows tail) (hdn : d.dn = false) (har : d.ar = false) (n : Nat) (b : Bool) (new : List Int) (hl : new.length + 8 ≤ 60000) (hr : ((new.length + 10 : Nat) : Int) ≤ d.room) (hg : g + 1 ≤ 4611686018427387904) :
    ∃ d', d.resave ⟨g, s, n, b⟩ new = (0, d', ⟨g + 1, 1 - s, 0, false⟩) ∧ Held d' (g + 1) (1 - s) new [] [] ∧ d'.dn = false ∧ d'.room = d.room ∧ d'.ar = false ∧ d'.ops = d.ops + 3 := by
  rcases held_save h hdn n b new hl hr hg with ⟨h1, h2, h3, h4, h5, h6, h7⟩ | ⟨h1, _⟩
  · refine ⟨(d.resave ⟨g, s, n, b⟩ new).2.1, ?_, h3, h4, h5, h6.trans har, h7⟩
    rw [← h1, ← h2]
  · rw [har] at h1; simp at h1

theorem resave_full (d : D) (g : Lg) (snap : List Int) (h : d.room < ((snap.length + 10 : Nat) : Int)) : d.resave g snap = (10, d, g) := by
  unfold D.resave
  rw [save_full d _ _ snap h]
  simp

theorem add_stale (d : D) (g s : Int) (n : Nat) (row : List Int) : d.add ⟨g, s, n, true⟩ row = (10, d, ⟨g, s, n, true⟩) := by
  unfold D.add
  rw [if_pos (.inl rfl)]

theorem Held.side01 {d : D} {g s : Int} {snap : List Int} {rows : List (List Int)} {tail : List Int} (h : Held d g s snap rows tail) : s = 0 ∨ s = 1 := h.hs

end Go.Proofs.Ytdecdjjknbbolaa
