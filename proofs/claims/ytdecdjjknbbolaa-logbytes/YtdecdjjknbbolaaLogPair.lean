/-
  log and giroref6 side by side.
-/
import Derived.Test.YtdecdjjknbbolaaRefLogOpen
import Derived.Test.YtdecdjjknbbolaaTapeHalf
import Derived.Test.YtdecdjjknbbolaaRefRec
namespace Go.Proofs.Ytdecdjjknbbolaa
open Go.RowKit
set_option linter.unusedVariables false
set_option linter.unusedSimpArgs false

theorem heldS_rows {z : List Int} {g : Int} {s : List Int} {R : List (List Int)} (h : heldS z = some (g, s, R)) : R.length ≤ z.length := by
  have hc := scanS_count z.length z (Nat.le_refl _)
  unfold heldS at h
  split at h
  · simp at h
  · rename_i hd tl he
    rw [he] at hc
    split at h
    · simp at h
    · split at h
      · simp at h
      · simp at h hc
        rw [← h.2.2]
        omega

/-- What Look can tell. -/
theorem look_bounds {d : D} (h : d.Ok) : d.look.rows.length ≤ 200000 ∧ (d.look.ok = true → 1 ≤ d.look.gen ∧ d.look.gen ≤ 4611686018427387904 ∧ (d.look.side = 0 ∨ d.look.side = 1)) := by
  have h0 := (h.read 0).1
  have h1 := (h.read 1).1
  rw [D.read_zero] at h0
  rw [D.read_one] at h1
  unfold D.look
  cases e0 : heldS d.z0 with
  | none =>
    cases e1 : heldS d.z1 with
    | none => simp [seenS]
    | some r =>
      obtain ⟨g, s, R⟩ := r
      have a := heldS_rows e1
      have b := heldS_pos e1
      simp [seenS]
      omega
  | some r =>
    obtain ⟨g, s, R⟩ := r
    have a := heldS_rows e0
    have b := heldS_pos e0
    cases e1 : heldS d.z1 with
    | none =>
      simp [seenS]
      omega
    | some r' =>
      obtain ⟨g', s', R'⟩ := r'
      have a' := heldS_rows e1
      have b' := heldS_pos e1
      simp only [seenS]
      split <;> simp <;> omega

theorem opened_bounds {d : D} (h : d.Ok) (fresh : List Int) {q : Int} {d' : D} {g : Lg} {snap : List Int} {rows : List (List Int)} (e : d.opened fresh = (q, d', some g, snap, rows)) :
    q = 0 ∧ 0 ≤ g.gen ∧ g.gen ≤ 4611686018427387904 ∧ (g.side = 0 ∨ g.side = 1) ∧ g.n ≤ 200000 ∧ rows.length ≤ 200000 := by
  have hb := look_bounds h
  unfold D.opened at e
  split at e
  · rename_i hk
    have hk' := hb.2 hk
    simp only [Prod.mk.injEq, Option.some.injEq] at e
    obtain ⟨h1, h2, h3, h4, h5⟩ := e
    rw [← h3, ← h5, ← h1]
    exact ⟨rfl, by simp; omega, by simp; omega, by simpa using hk'.2.2, by simpa using hb.1, hb.1⟩
  · split at e
    · simp at e
    · simp only [Prod.mk.injEq, Option.some.injEq] at e
      obtain ⟨h1, h2, h3, h4, h5⟩ := e
      rw [← h3, ← h5, ← h1]
      simp
theorem opened_none {d : D} (fresh : List Int) {q : Int} {d' : D} {snap : List Int} {rows : List (List Int)} (e : d.opened fresh = (q, d', none, snap, rows)) : snap = [] ∧ rows = [] := by
  unfold D.opened at e
  split at e
  · simp at e
  · split at e
    · simp only [Prod.mk.injEq] at e
      exact ⟨e.2.2.2.1.symm, e.2.2.2.2.symm⟩
    · simp at e

theorem sync_ops (d : D) : d.sync.2.ops ≤ d.ops + 1 := by
  unfold D.sync
  split
  · simp
  split
  · simp [D.lost]
  · simp [D.kept]
theorem put_ops (d : D) (side : Int) (ys : List Int) : (d.put side ys).2.ops ≤ d.ops + 2 := by
  have h1 := append_ops d side ys
  have h2 := sync_ops (d.append side ys).2
  unfold D.put
  split <;> omega
theorem save_ops (d : D) (gen side : Int) (snap : List Int) : (d.save gen side snap).2.ops ≤ d.ops + 3 := by
  have h1 := wipe_ops d side
  have h2 := put_ops (d.wipe side).2 side (snapS gen snap)
  unfold D.save
  split
  · simp
  split <;> omega
theorem opened_ops (d : D) (fresh : List Int) : (d.opened fresh).2.1.ops ≤ d.ops + 3 := by
  have h1 := save_ops d 1 0 fresh
  unfold D.opened
  split
  · simp
  split
  · simpa using h1
  · simpa using h1
theorem add_keeps (d : D) (g : Lg) (row : List Int) : (d.add g row).2.2.gen = g.gen ∧ (d.add g row).2.2.side = g.side ∧ (d.add g row).2.1.ops ≤ d.ops + 2 := by
  have h1 := put_ops d g.side (recS row)
  unfold D.add
  split
  · simp
  split
  · simpa using h1
  · simpa using h1

/-- A log and its deck, and the document's deck, apart. -/
def HalfL (w0 w : World) (m b1 l1 : Nat) (d1 : D) (g1 : Lg) (b2 : Nat) (d2 : D) : Prop :=
  ∃ S1 S2 : Nat → Prop, Kept w S1 b1 l1 d1 g1 ∧ RDeck w S2 b2 d2 ∧ (∀ j, S1 j → w0.heap.size ≤ j ∧ j < w.heap.size) ∧ (∀ j, S2 j → w0.heap.size ≤ j ∧ j < m) ∧ m ≤ w.heap.size ∧ (∀ j, S1 j → ¬ S2 j) ∧ Below w0.heap.size w0 w
def HalfM (w0 w : World) (m b1 : Nat) (d1 : D) (b2 : Nat) (d2 : D) : Prop :=
  ∃ S1 S2 : Nat → Prop, Deck w S1 b1 d1 ∧ RDeck w S2 b2 d2 ∧ (∀ j, S1 j → w0.heap.size ≤ j ∧ j < w.heap.size) ∧ (∀ j, S2 j → w0.heap.size ≤ j ∧ j < m) ∧ m ≤ w.heap.size ∧ (∀ j, S1 j → ¬ S2 j) ∧ Below w0.heap.size w0 w
def PairL (w0 w : World) (b1 l1 : Nat) (d1 : D) (g1 : Lg) (b2 l2 : Nat) (d2 : D) (g2 : Lg) : Prop :=
  ∃ S1 S2 : Nat → Prop, Kept w S1 b1 l1 d1 g1 ∧ RKept w S2 b2 l2 d2 g2 ∧ (∀ j, S1 j → w0.heap.size ≤ j ∧ j < w.heap.size) ∧ (∀ j, S2 j → w0.heap.size ≤ j ∧ j < w.heap.size) ∧ (∀ j, S1 j → ¬ S2 j) ∧ Below w0.heap.size w0 w

theorem PairL.half {w0 w : World} {b1 l1 : Nat} {d1 : D} {g1 : Lg} {b2 l2 : Nat} {d2 : D} {g2 : Lg} (h : PairL w0 w b1 l1 d1 g1 b2 l2 d2 g2) : Half w0 w b1 b2 d1 d2 := by
  obtain ⟨S1, S2, h1, h2, i1, i2, ap, bl⟩ := h
  exact ⟨_, _, h1.deck, h2.deck, fun j hj => i1 j hj.1, fun j hj => i2 j hj.1, fun j hj hs => ap j hj.1 hs.1, bl⟩
theorem HalfM.half {w0 w : World} {m b1 : Nat} {d1 : D} {b2 : Nat} {d2 : D} (h : HalfM w0 w m b1 d1 b2 d2) : Half w0 w b1 b2 d1 d2 := by
  obtain ⟨S1, S2, h1, h2, i1, i2, hm, ap, bl⟩ := h
  exact ⟨S1, S2, h1, h2, i1, fun j hj => ⟨(i2 j hj).1, by have := (i2 j hj).2; omega⟩, ap, bl⟩
theorem PairL.grow {w0 w w' : World} {b1 l1 : Nat} {d1 : D} {g1 : Lg} {b2 l2 : Nat} {d2 : D} {g2 : Lg} (h : PairL w0 w b1 l1 d1 g1 b2 l2 d2 g2) (k : Below w.heap.size w w') : PairL w0 w' b1 l1 d1 g1 b2 l2 d2 g2 := by
  obtain ⟨S1, S2, h1, h2, i1, i2, ap, bl⟩ := h
  have ks := k.size
  exact ⟨S1, S2, h1.below k, h2.below k, fun j hj => ⟨(i1 j hj).1, by have := (i1 j hj).2; omega⟩, fun j hj => ⟨(i2 j hj).1, by have := (i2 j hj).2; omega⟩, ap, bl.trans (k.mono bl.size)⟩
theorem PairL.blw {w0 w : World} {b1 l1 : Nat} {d1 : D} {g1 : Lg} {b2 l2 : Nat} {d2 : D} {g2 : Lg} (h : PairL w0 w b1 l1 d1 g1 b2 l2 d2 g2) : Below w0.heap.size w0 w := h.half.below
theorem PairL.ok {w0 w : World} {b1 l1 : Nat} {d1 : D} {g1 : Lg} {b2 l2 : Nat} {d2 : D} {g2 : Lg} (h : PairL w0 w b1 l1 d1 g1 b2 l2 d2 g2) : d1.Ok := h.half.ok1

section
variable {w0 w : World} {b1 b2 : Nat} {d e : D}

theorem half_append (h : Half w0 w b1 b2 d e) (side : Int) (ad : Option Addr) (m c : Nat) (ys : List Int) (hS : Sl .u8 w0 ad m ys) (hn : ad = none → c = 0) (hm : m ≤ 1000000) (ho : d.ops ≤ 4611686018427387904) :
    Calls Try.prog 18 #[.pointer (some ⟨b1, 0, none⟩), .int .i64 side, .slice ad m c] w (fun x w' => x = .returned (.int .i64 (d.append side ys).1) ∧ Half w0 w' b1 b2 (d.append side ys).2 e) := by
  have hb := h.blocks
  obtain ⟨S1, S2, h1, h2, i1, i2, ap, bl⟩ := h
  refine (deck_append b1 w S1 d h1 side ad m c ys (hS.below bl) hn (fun hz x hx => by have := sl_lt hS hz x hx; omega) hm ho).mono ?_
  rintro x w' ⟨rfl, k, o⟩
  exact ⟨rfl, Half.first h1 h2 i1 i2 ap bl k o⟩
theorem half_rappend (h : Half w0 w b1 b2 d e) (side : Int) (ad : Option Addr) (m c : Nat) (ys : List Int) (hS : Sl .u8 w0 ad m ys) (hn : ad = none → c = 0) (hm : m ≤ 1000000) (ho : e.ops ≤ 4611686018427387904) :
    Calls Try.prog 20 #[.pointer (some ⟨b2, 0, none⟩), .int .i64 side, .slice ad m c] w (fun x w' => x = .returned (.int .i64 (e.append side ys).1) ∧ Half w0 w' b1 b2 d (e.append side ys).2) := by
  have hb := h.blocks
  obtain ⟨S1, S2, h1, h2, i1, i2, ap, bl⟩ := h
  refine (ref_append b2 w S2 e h2 side ad m c ys (hS.below bl) hn (fun hz x hx => by have := sl_lt hS hz x hx; omega) hm ho).mono ?_
  rintro x w' ⟨rfl, k, o⟩
  exact ⟨rfl, Half.second h1 h2 i1 i2 ap bl k o⟩
theorem half_sync (h : Half w0 w b1 b2 d e) (ho : d.ops ≤ 4611686018427387904) :
    Calls Try.prog 19 #[.pointer (some ⟨b1, 0, none⟩)] w (fun x w' => x = .returned (.int .i64 d.sync.1) ∧ Half w0 w' b1 b2 d.sync.2 e) := by
  obtain ⟨S1, S2, h1, h2, i1, i2, ap, bl⟩ := h
  refine (deck_sync b1 w S1 d h1 ho).mono ?_
  rintro x w' ⟨rfl, k, o⟩
  exact ⟨rfl, Half.first h1 h2 i1 i2 ap bl (k.mono (fun _ _ hs => .inl hs)) o⟩
theorem half_rsync (h : Half w0 w b1 b2 d e) (ho : e.ops ≤ 4611686018427387904) :
    Calls Try.prog 21 #[.pointer (some ⟨b2, 0, none⟩)] w (fun x w' => x = .returned (.int .i64 e.sync.1) ∧ Half w0 w' b1 b2 d e.sync.2) := by
  obtain ⟨S1, S2, h1, h2, i1, i2, ap, bl⟩ := h
  refine (ref_sync b2 w S2 e h2 ho).mono ?_
  rintro x w' ⟨rfl, k, o⟩
  exact ⟨rfl, Half.second h1 h2 i1 i2 ap bl (k.mono (fun _ _ hs => .inl hs)) o⟩

theorem half_open_some (h : Half w0 w b1 b2 d e) (a : Option Addr) (n c : Nat) (fresh : List Int) (hS : Sl .u8 w0 a n fresh) (hn : a = none → c = 0) (hm : n ≤ 900000) (ho : d.ops ≤ 4611686018427380000) (q : Int) (d' : D) (g : Lg) (snap : List Int) (rows : List (List Int)) (hr : d.opened fresh = (q, d', some g, snap, rows)) :
    Calls Try.prog 9 #[.pointer (some ⟨b1, 0, none⟩), .slice a n c] w (fun x w' => ∃ l a1 c1 a2 c2, x = .returned (.tuple #[.pointer (some ⟨l, 0, none⟩), .slice a1 snap.length c1, .slice a2 rows.length c2, .int .i64 0]) ∧
      HalfL w0 w' w.heap.size b1 l d' g b2 e ∧ SlB w' w.heap.size a1 snap.length c1 snap ∧ RowsB w' w.heap.size a2 rows.length c2 rows) := by
  obtain ⟨S1, S2, h1, h2, i1, i2, ap, bl⟩ := h
  refine (log_open b1 w S1 d h1 a n c fresh (hS.below bl) hn (fun h0 x hx hs => by have := slB_lt hS h0 x hx; have := (i1 _ hs).1; omega) hm ho).mono ?_
  rw [hr]
  rintro x w' ⟨o, l, a1, c1, a2, c2, rfl, hl, k, s1, s2⟩
  have os := o.size
  refine ⟨l, a1, c1, a2, c2, rfl, ⟨fun j => (S1 j ∨ w.heap.size ≤ j) ∧ j < w'.heap.size, S2, k.mono (fun j hj hs => ⟨hs.1, hj⟩), h2.only o (fun j hj hs => ap j hs hj), ?_, i2, os, ?_, bl.trans (o.below (fun j hj => (i1 j hj).1) bl.size)⟩, s1, s2⟩
  · rintro j ⟨hj | hj, hlt⟩
    · exact ⟨(i1 j hj).1, hlt⟩
    · exact ⟨by have := bl.size; omega, hlt⟩
  · rintro j ⟨hj | hj, hlt⟩ hs
    · exact ap j hj hs
    · have := (i2 j hs).2; omega
theorem half_open_none (h : Half w0 w b1 b2 d e) (a : Option Addr) (n c : Nat) (fresh : List Int) (hS : Sl .u8 w0 a n fresh) (hn : a = none → c = 0) (hm : n ≤ 900000) (ho : d.ops ≤ 4611686018427380000) (q : Int) (d' : D) (snap : List Int) (rows : List (List Int)) (hr : d.opened fresh = (q, d', none, snap, rows)) :
    Calls Try.prog 9 #[.pointer (some ⟨b1, 0, none⟩), .slice a n c] w (fun x w' => x = .returned (.tuple #[.pointer none, .slice none 0 0, .slice none 0 0, .int .i64 q]) ∧ HalfM w0 w' w.heap.size b1 d' b2 e) := by
  obtain ⟨S1, S2, h1, h2, i1, i2, ap, bl⟩ := h
  refine (log_open b1 w S1 d h1 a n c fresh (hS.below bl) hn (fun h0 x hx hs => by have := slB_lt hS h0 x hx; have := (i1 _ hs).1; omega) hm ho).mono ?_
  rw [hr]
  rintro x w' ⟨o, rfl, k⟩
  have os := o.size
  refine ⟨rfl, fun j => (S1 j ∨ w.heap.size ≤ j) ∧ j < w'.heap.size, S2, k.mono (fun j hj hs => ⟨hs, hj⟩), h2.only o (fun j hj hs => ap j hs hj), ?_, i2, os, ?_, bl.trans (o.below (fun j hj => (i1 j hj).1) bl.size)⟩
  · rintro j ⟨hj | hj, hlt⟩
    · exact ⟨(i1 j hj).1, hlt⟩
    · exact ⟨by have := bl.size; omega, hlt⟩
  · rintro j ⟨hj | hj, hlt⟩ hs
    · exact ap j hj hs
    · have := (i2 j hs).2; omega
end

section
variable {w0 w : World} {m b1 b2 l1 : Nat} {d e : D} {g1 : Lg}

theorem halfL_open_some (h : HalfL w0 w m b1 l1 d g1 b2 e) (a : Option Addr) (n c : Nat) (fresh : List Int) (hS : Sl .u8 w0 a n fresh) (hn : a = none → c = 0) (hm : n ≤ 900000) (ho : e.ops ≤ 4611686018427380000) (q : Int) (e' : D) (g : Lg) (snap : List Int) (rows : List (List Int)) (hr : e.opened fresh = (q, e', some g, snap, rows)) :
    Calls Try.prog 23 #[.pointer (some ⟨b2, 0, none⟩), .slice a n c] w (fun x w' => ∃ l a1 c1 a2 c2, x = .returned (.tuple #[.pointer (some ⟨l, 0, none⟩), .slice a1 snap.length c1, .slice a2 rows.length c2, .int .i64 0]) ∧
      PairL w0 w' b1 l1 d g1 b2 l e' g ∧ SlB w' w.heap.size a1 snap.length c1 snap ∧ RowsB w' w.heap.size a2 rows.length c2 rows ∧ Only (fun j => j < m) w w') := by
  obtain ⟨S1, S2, h1, h2, i1, i2, hmw, ap, bl⟩ := h
  refine (ref_open b2 w S2 e h2 a n c fresh (hS.below bl) hn (fun h0 x hx hs => by have := slB_lt hS h0 x hx; have := (i2 _ hs).1; omega) hm ho).mono ?_
  rw [hr]
  rintro x w' ⟨o, l, a1, c1, a2, c2, rfl, hl, k, s1, s2⟩
  have os := o.size
  refine ⟨l, a1, c1, a2, c2, rfl, ⟨S1, fun j => (S2 j ∨ w.heap.size ≤ j) ∧ j < w'.heap.size, h1.only o (fun j hj hs => ap j hj hs), k.mono (fun j hj hs => ⟨hs, hj⟩), fun j hj => ⟨(i1 j hj).1, by have := (i1 j hj).2; omega⟩, ?_, ?_, bl.trans (o.below (fun j hj => (i2 j hj).1) bl.size)⟩, s1, s2, o.mono (fun j _ hj => (i2 j hj).2)⟩
  · rintro j ⟨hj | hj, hlt⟩
    · exact ⟨(i2 j hj).1, hlt⟩
    · exact ⟨by have := bl.size; omega, hlt⟩
  · rintro j hj ⟨hs | hs, hlt⟩
    · exact ap j hj hs
    · have := (i1 j hj).2; omega
theorem halfM_open_none (h : HalfM w0 w m b1 d b2 e) (a : Option Addr) (n c : Nat) (fresh : List Int) (hS : Sl .u8 w0 a n fresh) (hn : a = none → c = 0) (hm : n ≤ 900000) (ho : e.ops ≤ 4611686018427380000) (q : Int) (e' : D) (snap : List Int) (rows : List (List Int)) (hr : e.opened fresh = (q, e', none, snap, rows)) :
    Calls Try.prog 23 #[.pointer (some ⟨b2, 0, none⟩), .slice a n c] w (fun x w' => x = .returned (.tuple #[.pointer none, .slice none 0 0, .slice none 0 0, .int .i64 q]) ∧ Half w0 w' b1 b2 d e') := by
  obtain ⟨S1, S2, h1, h2, i1, i2, hmw, ap, bl⟩ := h
  refine (ref_open b2 w S2 e h2 a n c fresh (hS.below bl) hn (fun h0 x hx hs => by have := slB_lt hS h0 x hx; have := (i2 _ hs).1; omega) hm ho).mono ?_
  rw [hr]
  rintro x w' ⟨o, rfl, k⟩
  exact ⟨rfl, Half.second h1 h2 i1 (fun j hj => ⟨(i2 j hj).1, by have := (i2 j hj).2; omega⟩) ap bl k o⟩
end

section
variable {w0 w : World} {b1 l1 : Nat} {d1 : D} {g1 : Lg} {b2 l2 : Nat} {d2 : D} {g2 : Lg}

theorem pair_first {w' : World} {S1 S2 : Nat → Prop} {d' : D} {g' : Lg} (h1 : Kept w S1 b1 l1 d1 g1) (h2 : RKept w S2 b2 l2 d2 g2) (i1 : ∀ j, S1 j → w0.heap.size ≤ j ∧ j < w.heap.size) (i2 : ∀ j, S2 j → w0.heap.size ≤ j ∧ j < w.heap.size) (ap : ∀ j, S1 j → ¬ S2 j) (bl : Below w0.heap.size w0 w)
    (k : Kept w' (fun j => S1 j ∨ w.heap.size ≤ j) b1 l1 d' g') (o : Only S1 w w') : PairL w0 w' b1 l1 d' g' b2 l2 d2 g2 := by
  have os := o.size
  refine ⟨fun j => (S1 j ∨ w.heap.size ≤ j) ∧ j < w'.heap.size, S2, k.mono (fun j hj hs => ⟨hs, hj⟩), h2.only o (fun j hj hs => ap j hs hj), ?_, fun j hj => ⟨(i2 j hj).1, by have := (i2 j hj).2; omega⟩, ?_, bl.trans (o.below (fun j hj => (i1 j hj).1) bl.size)⟩
  · rintro j ⟨hj | hj, hlt⟩
    · exact ⟨(i1 j hj).1, hlt⟩
    · exact ⟨by have := bl.size; omega, hlt⟩
  · rintro j ⟨hj | hj, hlt⟩ hs
    · exact ap j hj hs
    · have := (i2 j hs).2; omega
theorem pair_second {w' : World} {S1 S2 : Nat → Prop} {d' : D} {g' : Lg} (h1 : Kept w S1 b1 l1 d1 g1) (h2 : RKept w S2 b2 l2 d2 g2) (i1 : ∀ j, S1 j → w0.heap.size ≤ j ∧ j < w.heap.size) (i2 : ∀ j, S2 j → w0.heap.size ≤ j ∧ j < w.heap.size) (ap : ∀ j, S1 j → ¬ S2 j) (bl : Below w0.heap.size w0 w)
    (k : RKept w' (fun j => S2 j ∨ w.heap.size ≤ j) b2 l2 d' g') (o : Only S2 w w') : PairL w0 w' b1 l1 d1 g1 b2 l2 d' g' := by
  have os := o.size
  refine ⟨S1, fun j => (S2 j ∨ w.heap.size ≤ j) ∧ j < w'.heap.size, h1.only o (fun j hj hs => ap j hj hs), k.mono (fun j hj hs => ⟨hs, hj⟩), fun j hj => ⟨(i1 j hj).1, by have := (i1 j hj).2; omega⟩, ?_, ?_, bl.trans (o.below (fun j hj => (i2 j hj).1) bl.size)⟩
  · rintro j ⟨hj | hj, hlt⟩
    · exact ⟨(i2 j hj).1, hlt⟩
    · exact ⟨by have := bl.size; omega, hlt⟩
  · rintro j hj ⟨hs | hs, hlt⟩
    · exact ap j hj hs
    · have := (i1 j hj).2; omega

theorem pair_add (h : PairL w0 w b1 l1 d1 g1 b2 l2 d2 g2) (a : Option Addr) (n c : Nat) (row : List Int) (hS : Sl .u8 w0 a n row) (hn : a = none → c = 0) (hm : n ≤ 900000) (ho : d1.ops ≤ 4611686018427380000) (hgn : g1.n ≤ 4611686018427387904) :
    Calls Try.prog 10 #[.pointer (some ⟨l1, 0, none⟩), .slice a n c] w (fun e w' => e = .returned (.int .i64 (d1.add g1 row).1) ∧ PairL w0 w' b1 l1 (d1.add g1 row).2.1 (d1.add g1 row).2.2 b2 l2 d2 g2) := by
  obtain ⟨S1, S2, h1, h2, i1, i2, ap, bl⟩ := h
  refine (log_add b1 l1 w S1 d1 g1 h1 a n c row (hS.below bl) hn hm ho hgn).mono ?_
  rintro e w' ⟨rfl, k, o⟩
  exact ⟨rfl, pair_first h1 h2 i1 i2 ap bl k o⟩
theorem pair_radd (h : PairL w0 w b1 l1 d1 g1 b2 l2 d2 g2) (a : Option Addr) (n c : Nat) (row : List Int) (hS : Sl .u8 w0 a n row) (hn : a = none → c = 0) (hm : n ≤ 900000) (ho : d2.ops ≤ 4611686018427380000) (hgn : g2.n ≤ 4611686018427387904) :
    Calls Try.prog 24 #[.pointer (some ⟨l2, 0, none⟩), .slice a n c] w (fun e w' => e = .returned (.int .i64 (d2.add g2 row).1) ∧ PairL w0 w' b1 l1 d1 g1 b2 l2 (d2.add g2 row).2.1 (d2.add g2 row).2.2) := by
  obtain ⟨S1, S2, h1, h2, i1, i2, ap, bl⟩ := h
  refine (ref_logadd b2 l2 w S2 d2 g2 h2 a n c row (hS.below bl) hn hm ho hgn).mono ?_
  rintro e w' ⟨rfl, k, o⟩
  exact ⟨rfl, pair_second h1 h2 i1 i2 ap bl k o⟩
theorem pair_save (h : PairL w0 w b1 l1 d1 g1 b2 l2 d2 g2) (a : Option Addr) (n c : Nat) (snap : List Int) (hS : Sl .u8 w0 a n snap) (hn : a = none → c = 0) (hm : n ≤ 900000) (ho : d1.ops ≤ 4611686018427380000) (k1 : 0 ≤ g1.gen) (k2 : g1.gen ≤ 4611686018427387904) (k3 : g1.side = 0 ∨ g1.side = 1) :
    Calls Try.prog 11 #[.pointer (some ⟨l1, 0, none⟩), .slice a n c] w (fun e w' => e = .returned (.int .i64 (d1.resave g1 snap).1) ∧ PairL w0 w' b1 l1 (d1.resave g1 snap).2.1 (d1.resave g1 snap).2.2 b2 l2 d2 g2) := by
  obtain ⟨S1, S2, h1, h2, i1, i2, ap, bl⟩ := h
  refine (log_save b1 l1 w S1 d1 g1 h1 a n c snap (hS.below bl) hn hm ho k1 k2 k3).mono ?_
  rintro e w' ⟨rfl, k, o⟩
  exact ⟨rfl, pair_first h1 h2 i1 i2 ap bl k o⟩
theorem pair_rsave (h : PairL w0 w b1 l1 d1 g1 b2 l2 d2 g2) (a : Option Addr) (n c : Nat) (snap : List Int) (hS : Sl .u8 w0 a n snap) (hn : a = none → c = 0) (hm : n ≤ 900000) (ho : d2.ops ≤ 4611686018427380000) (k1 : 0 ≤ g2.gen) (k2 : g2.gen ≤ 4611686018427387904) (k3 : g2.side = 0 ∨ g2.side = 1) :
    Calls Try.prog 25 #[.pointer (some ⟨l2, 0, none⟩), .slice a n c] w (fun e w' => e = .returned (.int .i64 (d2.resave g2 snap).1) ∧ PairL w0 w' b1 l1 d1 g1 b2 l2 (d2.resave g2 snap).2.1 (d2.resave g2 snap).2.2) := by
  obtain ⟨S1, S2, h1, h2, i1, i2, ap, bl⟩ := h
  refine (ref_logsave b2 l2 w S2 d2 g2 h2 a n c snap (hS.below bl) hn hm ho k1 k2 k3).mono ?_
  rintro e w' ⟨rfl, k, o⟩
  exact ⟨rfl, pair_second h1 h2 i1 i2 ap bl k o⟩
end

set_option maxHeartbeats 4000000 in
theorem looks_half {w0 w : World} {b1 b2 : Nat} {d : D} (h : Half w0 w b1 b2 d d) : Calls Try.prog 22 #[.pointer (some ⟨b1, 0, none⟩), .pointer (some ⟨b2, 0, none⟩)] w (fun e w' => e = .returned (.bool true) ∧ Below w.heap.size w w') := by
  obtain ⟨S1, S2, h1, h2, _⟩ := h
  have hbd := (look_bounds h1.ok).1
  have A := log_look b1 w S1 d h1
  obtain ⟨s, hs⟩ : ∃ s, d.look = s := ⟨_, rfl⟩
  have HR : Hid (RDeck w S2 b2 d ∧ d.look = s) := ⟨h2, hs⟩
  rw [hs] at A hbd
  obtain ⟨sg, ss, sx, sr, so⟩ := s
  clear h1 h2 hs
  simp only at hbd
  go_enter Try.func22, Try.ntmps22
  go_wp2_with fail
  go_at_call 15
  refine A.mono ?_
  rintro e w1 ⟨a1, c1, a2, c2, rfl, s1, r1, k1⟩
  have B := ref_look b2 w1 S2 d (HR.out.1.below k1)
  rw [HR.out.2] at B
  have H1 : Hid (SlB w1 w.heap.size a1 sx.length c1 sx ∧ RowsB w1 w.heap.size a2 sr.length c2 sr ∧ Below w.heap.size w w1) := ⟨s1, r1, k1⟩
  clear A s1 r1 k1
  simp only
  go_wp2_with fail
  go_at_call 41
  refine B.mono ?_
  rintro e w2 ⟨y1, e1, y2, e2, rfl, s2, r2, k2⟩
  have T1 : (convert 26 9 (.slice a1 sx.length c1)).run Try.prog w2 = .ok (.string (strOfNums sx)) w2 := (H1.out.1.sl.below k2).text (P := Try.prog) (cap := c1) 26 9 5 Try.underlying26 Try.underlying5 Try.underlying9
  have T2 : (convert 26 9 (.slice y1 sx.length e1)).run Try.prog w2 = .ok (.string (strOfNums sx)) w2 := s2.sl.text (P := Try.prog) (cap := e1) 26 9 5 Try.underlying26 Try.underlying5 Try.underlying9
  have SM := ref_same a2 sr.length c2 sr y2 sr.length e2 sr w2 (H1.out.2.1.below k2).rowsIn r2.rowsIn (by omega) (by omega)
  rw [decide_eq_true rfl] at SM
  have B2 : Hid (Below w.heap.size w w2) := H1.out.2.2.trans (k2.mono H1.out.2.2.size)
  clear B s2 r2 k2 H1
  simp only
  go_wp2_with fail
  go_at_call 16
  refine SM.mono ?_
  rintro e w3 ⟨rfl, b3⟩
  have B3 : Hid (Below w.heap.size w w3) := B2.out.trans (b3.mono B2.out.size)
  clear SM b3 T1 T2
  cases so <;> (go_wp2; go_ret; exact ⟨rfl, B3.out⟩)

end Go.Proofs.Ytdecdjjknbbolaa
