/-
  log: what bytes hold, what a deck's log is, to save, to add; what is kept whatever crashes.
-/
import Derived.Test.YtdecdjjknbbolaaTapeMeth
import Derived.Test.YtdecdjjknbbolaaRecMany
import Derived.Test.YtdecdjjknbbolaaWordSpec
namespace Go.Proofs.Ytdecdjjknbbolaa
open Go.RowKit
set_option linter.unusedVariables false
set_option linter.unusedSimpArgs false

/-- The log that bytes hold: generation, snapshot, rows. -/
def heldS (z : List Int) : Option (Int × List Int × List (List Int)) :=
  match (scanS z).1 with
  | [] => none
  | h :: t => if h.length < 8 then none else if dec (h.take 8) < 1 ∨ 4611686018427387904 < dec (h.take 8) then none else some (dec (h.take 8), h.drop 8, t)

/-- What Look tells. -/
structure Seen where
  gen : Int
  side : Int
  snap : List Int
  rows : List (List Int)
  ok : Bool

def seenS : Option (Int × List Int × List (List Int)) → Option (Int × List Int × List (List Int)) → Seen
  | none, none => ⟨0, 0, [], [], false⟩
  | some (g, s, r), none => ⟨g, 0, s, r, true⟩
  | none, some (g, s, r) => ⟨g, 1, s, r, true⟩
  | some (a, x, l), some (b, y, m) => if a < b then ⟨b, 1, y, m, true⟩ else ⟨a, 0, x, l, true⟩

def D.look (d : D) : Seen := seenS (heldS d.z0) (heldS d.z1)

/-- A log's state. -/
structure Lg where
  gen : Int
  side : Int
  n : Nat
  stale : Bool

/-- A snapshot with its generation, as a record. -/
def snapS (gen : Int) (snap : List Int) : List Int := recS (enc gen ++ snap)

def D.put (d : D) (side : Int) (ys : List Int) : Int × D :=
  if (d.append side ys).1 ≠ 0 then d.append side ys else (d.append side ys).2.sync

def D.save (d : D) (gen side : Int) (snap : List Int) : Int × D :=
  if 60000 < snap.length + 8 ∨ d.room < ((snap.length + 10 : Nat) : Int) ∨ 4611686018427387904 < gen then (10, d)
  else if (d.wipe side).1 ≠ 0 then d.wipe side else (d.wipe side).2.put side (snapS gen snap)

/-- What Open answers: error, deck, log, snapshot, rows. -/
def D.opened (d : D) (fresh : List Int) : Int × D × Option Lg × List Int × List (List Int) :=
  if d.look.ok then (0, d, some ⟨d.look.gen, d.look.side, d.look.rows.length, true⟩, d.look.snap, d.look.rows)
  else if (d.save 1 0 fresh).1 ≠ 0 then ((d.save 1 0 fresh).1, (d.save 1 0 fresh).2, none, [], []) else (0, (d.save 1 0 fresh).2, some ⟨1, 0, 0, false⟩, fresh, [])

def D.add (d : D) (l : Lg) (row : List Int) : Int × D × Lg :=
  if l.stale = true ∨ 60000 < row.length then (10, d, l)
  else if (d.put l.side (recS row)).1 = 0 then (0, (d.put l.side (recS row)).2, ⟨l.gen, l.side, l.n + 1, l.stale⟩)
  else (if (d.put l.side (recS row)).1 = 3 then 10 else (d.put l.side (recS row)).1, (d.put l.side (recS row)).2, l)

def D.resave (d : D) (l : Lg) (snap : List Int) : Int × D × Lg :=
  if (d.save (l.gen + 1) (1 - l.side) snap).1 = 0 then (0, (d.save (l.gen + 1) (1 - l.side) snap).2, ⟨l.gen + 1, 1 - l.side, 0, false⟩)
  else ((d.save (l.gen + 1) (1 - l.side) snap).1, (d.save (l.gen + 1) (1 - l.side) snap).2, l)

theorem snapS_length (gen : Int) (snap : List Int) : (snapS gen snap).length = snap.length + 10 := by
  rw [snapS, recS_length, List.length_append, enc_length]
  omega

theorem held_none {z : List Int} (h : (scanS z).1 = []) : heldS z = none := by rw [heldS, h]

theorem held_some (g : Int) (snap : List Int) (rows : List (List Int)) (tail : List Int) (h1 : 1 ≤ g) (h2 : g ≤ 4611686018427387904) (hs : snap.length + 8 ≤ 60000) (hr : ∀ z ∈ rows, z.length ≤ 60000) :
    heldS (encR ((enc g ++ snap) :: rows) ++ tail) = some (g, snap, rows ++ (scanS tail).1) := by
  have e : scanS (encR ((enc g ++ snap) :: rows) ++ tail) = (((enc g ++ snap) :: rows) ++ (scanS tail).1, (scanS tail).2) := scanS_many _ _ (fun z hz => by
    rcases List.mem_cons.1 hz with rfl | hz
    · rw [List.length_append, enc_length]; omega
    · exact hr z hz)
  have t8 : (enc g ++ snap).take 8 = enc g := by rw [List.take_append_of_le_length (by rw [enc_length]; omega), List.take_of_length_le (by rw [enc_length]; omega)]
  have d8 : (enc g ++ snap).drop 8 = snap := by rw [List.drop_append_of_le_length (by rw [enc_length]; omega), List.drop_of_length_le (by rw [enc_length]; omega), List.nil_append]
  rw [heldS, e]
  simp only [List.cons_append]
  rw [if_neg (by rw [List.length_append, enc_length]; omega), t8, d8, dec_enc g (i64_wf (by omega) (by omega)), if_neg (by omega)]

/-- All bytes of both sides are synced. -/
def Full (d : D) : Prop := d.s0 = d.z0.length ∧ d.s1 = d.z1.length

theorem Full.lost {d : D} (h : Full d) : d.lost.z0 = d.z0 ∧ d.lost.z1 = d.z1 ∧ Full d.lost := by
  have e0 : left0 d.kp d.z0.length d.s0 = d.z0.length := by have := h.1; unfold left0; omega
  have e1 : left1 d.kp d.z0.length d.s0 d.z1.length d.s1 = d.z1.length := by have := h.2; unfold left1; omega
  refine ⟨?_, ?_, ?_, ?_⟩ <;> simp [D.lost, e0, e1]

theorem Full.fresh {d : D} (h : Full d) : d.fresh.z0 = d.z0 ∧ d.fresh.z1 = d.z1 ∧ Full d.fresh := by
  refine ⟨?_, ?_, ?_, ?_⟩ <;> simp [D.fresh, h.1, h.2]

theorem lost_full {d : D} (h0 : d.s0 ≤ d.z0.length) (h1 : d.s1 ≤ d.z1.length) : Full d.lost := by
  have e0 := left0_le (k := d.kp) h0
  have e1 := left1_le (k := d.kp) (l0 := d.z0.length) (s0 := d.s0) h1
  refine ⟨?_, ?_⟩ <;> simp [D.lost] <;> omega

theorem D.read_zero (d : D) : d.read 0 = d.z0 := by simp [D.read]
theorem D.read_one (d : D) : d.read 1 = d.z1 := by simp [D.read]

/-- Of a side with a part that is not synced a crash leaves a part; of one that is synced all. -/
theorem lost_cut {d : D} (s : Int) (hs : s = 0 ∨ s = 1) (h0 : d.s0 ≤ d.z0.length) (h1 : d.s1 ≤ d.z1.length) (ho : if s = 0 then d.s1 = d.z1.length else d.s0 = d.z0.length) :
    d.lost.read (1 - s) = d.read (1 - s) ∧ ∃ k, (if s = 0 then d.s0 else d.s1) ≤ k ∧ k ≤ (d.read s).length ∧ d.lost.read s = (d.read s).take k := by
  have e0 := left0_le (k := d.kp) h0
  have e1 := left1_le (k := d.kp) (l0 := d.z0.length) (s0 := d.s0) h1
  rcases hs with rfl | rfl
  · simp only [if_true] at ho ⊢
    have e : left1 d.kp d.z0.length d.s0 d.z1.length d.s1 = d.z1.length := by omega
    refine ⟨by simp [D.read, D.lost, e], left0 d.kp d.z0.length d.s0, e0.1, ?_, ?_⟩
    · rw [D.read_zero]; exact e0.2
    · simp [D.read, D.lost]
  · simp only [show ¬ (1 : Int) = 0 by decide, if_false] at ho ⊢
    have e : left0 d.kp d.z0.length d.s0 = d.z0.length := by omega
    refine ⟨by simp [D.read, D.lost, e], left1 d.kp d.z0.length d.s0 d.z1.length d.s1, e1.1, ?_, ?_⟩
    · rw [D.read_one]; exact e1.2
    · simp [D.read, D.lost]

/-- A side holds a log, all of it synced, behind it bytes that are no record; the other side holds none, or an elder one. -/
structure Held (d : D) (g s : Int) (snap : List Int) (rows : List (List Int)) (tail : List Int) : Prop where
  hs : s = 0 ∨ s = 1
  full : Full d
  bytes : d.read s = encR ((enc g ++ snap) :: rows) ++ tail
  tl : (scanS tail).1 = []
  oth : ∀ r, heldS (d.read (1 - s)) = some r → r.1 < g
  g1 : 1 ≤ g
  g2 : g ≤ 4611686018427387904
  ls : snap.length + 8 ≤ 60000
  lr : ∀ z ∈ rows, z.length ≤ 60000

theorem Held.some {d : D} {g s : Int} {snap : List Int} {rows : List (List Int)} {tail : List Int} (h : Held d g s snap rows tail) : heldS (d.read s) = some (g, snap, rows) := by
  rw [h.bytes, held_some g snap rows tail h.g1 h.g2 h.ls h.lr, h.tl, List.append_nil]

theorem Held.look {d : D} {g s : Int} {snap : List Int} {rows : List (List Int)} {tail : List Int} (h : Held d g s snap rows tail) : d.look = ⟨g, s, snap, rows, true⟩ := by
  have h1 := h.some
  have h2 := h.oth
  rcases h.hs with rfl | rfl
  · rw [D.read_zero] at h1
    rw [show (1 : Int) - 0 = 1 by decide, D.read_one] at h2
    rw [D.look, h1]
    cases h3 : heldS d.z1 with
    | none => rfl
    | some r =>
      obtain ⟨b, y, m⟩ := r
      have h4 := h2 _ h3
      simp only [seenS]
      rw [if_neg (by simp at h4; omega)]
  · rw [D.read_one] at h1
    rw [show (1 : Int) - 1 = 0 by decide, D.read_zero] at h2
    rw [D.look, h1]
    cases h3 : heldS d.z0 with
    | none => rfl
    | some r =>
      obtain ⟨b, y, m⟩ := r
      have h4 := h2 _ h3
      simp only [seenS]
      rw [if_pos h4]

theorem Held.same {d d' : D} {g s : Int} {snap : List Int} {rows : List (List Int)} {tail : List Int} (h : Held d g s snap rows tail) (h0 : d'.z0 = d.z0) (h1 : d'.z1 = d.z1) (hf : Full d') : Held d' g s snap rows tail := by
  have e : ∀ t, d'.read t = d.read t := fun t => by simp [D.read, h0, h1]
  exact ⟨h.hs, hf, by rw [e]; exact h.bytes, h.tl, by rw [e]; exact h.oth, h.g1, h.g2, h.ls, h.lr⟩

theorem Held.lost {d : D} {g s : Int} {snap : List Int} {rows : List (List Int)} {tail : List Int} (h : Held d g s snap rows tail) : Held d.lost g s snap rows tail := h.same h.full.lost.1 h.full.lost.2.1 h.full.lost.2.2
theorem Held.fresh {d : D} {g s : Int} {snap : List Int} {rows : List (List Int)} {tail : List Int} (h : Held d g s snap rows tail) : Held d.fresh g s snap rows tail := h.same h.full.fresh.1 h.full.fresh.2.1 h.full.fresh.2.2
theorem Held.armed {d : D} {g s : Int} {snap : List Int} {rows : List (List Int)} {tail : List Int} (h : Held d g s snap rows tail) (x y : Int) : Held (d.armed x y) g s snap rows tail := h.same rfl rfl h.full

/-- What a deck keeps of its own. -/
def Like (d d' : D) : Prop := d'.room = d.room ∧ d'.ops ≤ d.ops + 3

end Go.Proofs.Ytdecdjjknbbolaa
