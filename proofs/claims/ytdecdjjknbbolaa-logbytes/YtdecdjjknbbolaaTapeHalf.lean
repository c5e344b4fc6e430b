/-
  tape and giroref4: two decks, one of each, side by side.
-/
import Derived.Test.YtdecdjjknbbolaaRefApp
namespace Go.Proofs.Ytdecdjjknbbolaa
open Go.RowKit
set_option linter.unusedVariables false

/-- A deck and the document's deck lie apart in what was made since w0; what was there is as it was. -/
def Half (w0 w : World) (b1 b2 : Nat) (d e : D) : Prop :=
  ∃ S1 S2 : Nat → Prop, Deck w S1 b1 d ∧ RDeck w S2 b2 e ∧ (∀ j, S1 j → w0.heap.size ≤ j ∧ j < w.heap.size) ∧ (∀ j, S2 j → w0.heap.size ≤ j ∧ j < w.heap.size) ∧ (∀ j, S1 j → ¬ S2 j) ∧ Below w0.heap.size w0 w

theorem Half.below {w0 w : World} {b1 b2 : Nat} {d e : D} (h : Half w0 w b1 b2 d e) : Below w0.heap.size w0 w := by
  obtain ⟨_, _, _, _, _, _, _, h⟩ := h
  exact h
theorem Half.ok1 {w0 w : World} {b1 b2 : Nat} {d e : D} (h : Half w0 w b1 b2 d e) : d.Ok := by
  obtain ⟨_, _, h, _⟩ := h
  exact h.ok
theorem Half.blocks {w0 w : World} {b1 b2 : Nat} {d e : D} (h : Half w0 w b1 b2 d e) : (w0.heap.size ≤ b1 ∧ b1 < w.heap.size) ∧ (w0.heap.size ≤ b2 ∧ b2 < w.heap.size) := by
  obtain ⟨S1, S2, ⟨_, _, _, _, h1⟩, ⟨_, _, _, _, _, _, h2⟩, i1, i2, _⟩ := h
  exact ⟨i1 b1 h1.sb, i2 b2 h2.sb⟩

/-- New memory turns neither. -/
theorem Half.grow {w0 w w' : World} {b1 b2 : Nat} {d e : D} (h : Half w0 w b1 b2 d e) (k : Below w.heap.size w w') : Half w0 w' b1 b2 d e := by
  obtain ⟨S1, S2, h1, h2, i1, i2, ap, bl⟩ := h
  exact ⟨S1, S2, h1.below k, h2.below k, fun j hj => ⟨(i1 j hj).1, by have := (i1 j hj).2; have := k.size; omega⟩, fun j hj => ⟨(i2 j hj).1, by have := (i2 j hj).2; have := k.size; omega⟩, ap, bl.trans (k.mono bl.size)⟩

theorem Half.alloc {w0 w : World} {b1 b2 : Nat} {d e : D} (h : Half w0 w b1 b2 d e) (o : Obj) : Half w0 (w.alloc o) b1 b2 d e := h.grow ((Below.refl _ _).alloc (Nat.le_refl _) _)
theorem Half.drew {w0 w : World} {b1 b2 : Nat} {d e : D} (h : Half w0 w b1 b2 d e) : Half w0 w.drew b1 b2 d e := h.grow (Below.refl _ _).drew


/-- The first deck turns. -/
theorem Half.first {w0 w w' : World} {b1 b2 : Nat} {d d' e : D} {S1 S2 : Nat → Prop} (h1 : Deck w S1 b1 d) (h2 : RDeck w S2 b2 e) (i1 : ∀ j, S1 j → w0.heap.size ≤ j ∧ j < w.heap.size) (i2 : ∀ j, S2 j → w0.heap.size ≤ j ∧ j < w.heap.size)
    (ap : ∀ j, S1 j → ¬ S2 j) (bl : Below w0.heap.size w0 w) (k : Deck w' (fun j => S1 j ∨ w.heap.size ≤ j) b1 d') (o : Only S1 w w') : Half w0 w' b1 b2 d' e := by
  refine ⟨fun j => (S1 j ∨ w.heap.size ≤ j) ∧ j < w'.heap.size, S2, k.mono (fun j hj hs => ⟨hs, hj⟩), h2.only o (fun j hj hs => ap j hs hj), ?_, ?_, ?_, bl.trans (o.below (fun j hj => (i1 j hj).1) bl.size)⟩
  · rintro j ⟨hj | hj, hl⟩
    · exact ⟨(i1 j hj).1, hl⟩
    · exact ⟨by have := bl.size; omega, hl⟩
  · intro j hj
    exact ⟨(i2 j hj).1, by have := (i2 j hj).2; have := o.size; omega⟩
  · rintro j ⟨hj | hj, hl⟩ hs
    · exact ap j hj hs
    · have := (i2 j hs).2; omega

/-- The second deck turns. -/
theorem Half.second {w0 w w' : World} {b1 b2 : Nat} {d e e' : D} {S1 S2 : Nat → Prop} (h1 : Deck w S1 b1 d) (h2 : RDeck w S2 b2 e) (i1 : ∀ j, S1 j → w0.heap.size ≤ j ∧ j < w.heap.size) (i2 : ∀ j, S2 j → w0.heap.size ≤ j ∧ j < w.heap.size)
    (ap : ∀ j, S1 j → ¬ S2 j) (bl : Below w0.heap.size w0 w) (k : RDeck w' (fun j => S2 j ∨ w.heap.size ≤ j) b2 e') (o : Only S2 w w') : Half w0 w' b1 b2 d e' := by
  refine ⟨S1, fun j => (S2 j ∨ w.heap.size ≤ j) ∧ j < w'.heap.size, h1.only o (fun j hj hs => ap j hj hs), k.mono (fun j hj hs => ⟨hs, hj⟩), ?_, ?_, ?_, bl.trans (o.below (fun j hj => (i2 j hj).1) bl.size)⟩
  · intro j hj
    exact ⟨(i1 j hj).1, by have := (i1 j hj).2; have := o.size; omega⟩
  · rintro j ⟨hj | hj, hl⟩
    · exact ⟨(i2 j hj).1, hl⟩
    · exact ⟨by have := bl.size; omega, hl⟩
  · rintro j hj ⟨hs | hs, hl⟩
    · exact ap j hj hs
    · have := (i1 j hj).2; omega

/-- Cells of a block that both decks leave alone: it was made behind them. -/
def Far (w0 w : World) (b1 b2 : Nat) (d e : D) (g : Nat) : Prop :=
  g < w.heap.size ∧ ∃ S1 S2 : Nat → Prop, Deck w S1 b1 d ∧ RDeck w S2 b2 e ∧ (∀ j, S1 j → w0.heap.size ≤ j ∧ j < w.heap.size) ∧ (∀ j, S2 j → w0.heap.size ≤ j ∧ j < w.heap.size) ∧ (∀ j, S1 j → ¬ S2 j) ∧ Below w0.heap.size w0 w ∧ ¬ S1 g ∧ ¬ S2 g

theorem Far.half {w0 w : World} {b1 b2 : Nat} {d e : D} {g : Nat} (h : Far w0 w b1 b2 d e g) : Half w0 w b1 b2 d e := by
  obtain ⟨_, S1, S2, h1, h2, i1, i2, ap, bl, _, _⟩ := h
  exact ⟨S1, S2, h1, h2, i1, i2, ap, bl⟩

/-- A block that is new is far. -/
theorem Half.far {w0 w : World} {b1 b2 : Nat} {d e : D} (h : Half w0 w b1 b2 d e) (o : Obj) : Far w0 (w.alloc o) b1 b2 d e w.heap.size := by
  obtain ⟨S1, S2, h1, h2, i1, i2, ap, bl⟩ := h
  have k : Below w.heap.size w (w.alloc o) := (Below.refl _ _).alloc (Nat.le_refl _) _
  exact ⟨by simp, S1, S2, h1.below k, h2.below k, fun j hj => ⟨(i1 j hj).1, by have := (i1 j hj).2; have := k.size; omega⟩, fun j hj => ⟨(i2 j hj).1, by have := (i2 j hj).2; have := k.size; omega⟩, ap, bl.trans (k.mono bl.size),
    fun hs => by have := (i1 _ hs).2; omega, fun hs => by have := (i2 _ hs).2; omega⟩


theorem Far.first {w0 w w' : World} {b1 b2 : Nat} {d d' e : D} {g : Nat} {S1 S2 : Nat → Prop} (hg : g < w.heap.size) (h1 : Deck w S1 b1 d) (h2 : RDeck w S2 b2 e) (i1 : ∀ j, S1 j → w0.heap.size ≤ j ∧ j < w.heap.size) (i2 : ∀ j, S2 j → w0.heap.size ≤ j ∧ j < w.heap.size)
    (ap : ∀ j, S1 j → ¬ S2 j) (bl : Below w0.heap.size w0 w) (n1 : ¬ S1 g) (n2 : ¬ S2 g) (k : Deck w' (fun j => S1 j ∨ w.heap.size ≤ j) b1 d') (o : Only S1 w w') : Far w0 w' b1 b2 d' e g ∧ w'.heap[g]? = w.heap[g]? := by
  refine ⟨⟨by have := o.size; omega, fun j => (S1 j ∨ w.heap.size ≤ j) ∧ j < w'.heap.size, S2, k.mono (fun j hj hs => ⟨hs, hj⟩), h2.only o (fun j hj hs => ap j hs hj), ?_, ?_, ?_, bl.trans (o.below (fun j hj => (i1 j hj).1) bl.size), ?_, n2⟩, o.block g hg n1⟩
  · rintro j ⟨hj | hj, hl⟩
    · exact ⟨(i1 j hj).1, hl⟩
    · exact ⟨by have := bl.size; omega, hl⟩
  · intro j hj
    exact ⟨(i2 j hj).1, by have := (i2 j hj).2; have := o.size; omega⟩
  · rintro j ⟨hj | hj, hl⟩ hs
    · exact ap j hj hs
    · have := (i2 j hs).2; omega
  · rintro ⟨hj | hj, _⟩
    · exact n1 hj
    · omega

theorem Far.second {w0 w w' : World} {b1 b2 : Nat} {d e e' : D} {g : Nat} {S1 S2 : Nat → Prop} (hg : g < w.heap.size) (h1 : Deck w S1 b1 d) (h2 : RDeck w S2 b2 e) (i1 : ∀ j, S1 j → w0.heap.size ≤ j ∧ j < w.heap.size) (i2 : ∀ j, S2 j → w0.heap.size ≤ j ∧ j < w.heap.size)
    (ap : ∀ j, S1 j → ¬ S2 j) (bl : Below w0.heap.size w0 w) (n1 : ¬ S1 g) (n2 : ¬ S2 g) (k : RDeck w' (fun j => S2 j ∨ w.heap.size ≤ j) b2 e') (o : Only S2 w w') : Far w0 w' b1 b2 d e' g ∧ w'.heap[g]? = w.heap[g]? := by
  refine ⟨⟨by have := o.size; omega, S1, fun j => (S2 j ∨ w.heap.size ≤ j) ∧ j < w'.heap.size, h1.only o (fun j hj hs => ap j hj hs), k.mono (fun j hj hs => ⟨hs, hj⟩), ?_, ?_, ?_, bl.trans (o.below (fun j hj => (i2 j hj).1) bl.size), n1, ?_⟩, o.block g hg n2⟩
  · intro j hj
    exact ⟨(i1 j hj).1, by have := (i1 j hj).2; have := o.size; omega⟩
  · rintro j ⟨hj | hj, hl⟩
    · exact ⟨(i2 j hj).1, hl⟩
    · exact ⟨by have := bl.size; omega, hl⟩
  · rintro j hj ⟨hs | hs, hl⟩
    · exact ap j hj hs
    · have := (i1 j hj).2; omega
  · rintro ⟨hj | hj, _⟩
    · exact n2 hj
    · omega

section
variable {w0 w : World} {b1 b2 : Nat} {d e : D} {g : Nat}

theorem far_append (h : Far w0 w b1 b2 d e g) (side : Int) (ad : Option Addr) (m c : Nat) (ys : List Int) (hS : Sl .u8 w0 ad m ys) (hn : ad = none → c = 0) (hm : m ≤ 1000000) (ho : d.ops ≤ 4611686018427387904) (r : Int) (d' : D) (hr : d.append side ys = (r, d')) :
    Calls Try.prog 18 #[.pointer (some ⟨b1, 0, none⟩), .int .i64 side, .slice ad m c] w (fun x w' => x = .returned (.int .i64 r) ∧ Far w0 w' b1 b2 d' e g ∧ w'.heap[g]? = w.heap[g]?) := by
  have hb := h.half.blocks
  obtain ⟨hg, S1, S2, h1, h2, i1, i2, ap, bl, n1, n2⟩ := h
  refine (deck_append b1 w S1 d h1 side ad m c ys (hS.below bl) hn (fun hz x hx => by have := sl_lt hS hz x hx; omega) hm ho).mono ?_
  rw [hr]
  rintro x w' ⟨rfl, k, o⟩
  exact ⟨rfl, Far.first hg h1 h2 i1 i2 ap bl n1 n2 k o⟩

theorem far_rappend (h : Far w0 w b1 b2 d e g) (side : Int) (ad : Option Addr) (m c : Nat) (ys : List Int) (hS : Sl .u8 w0 ad m ys) (hn : ad = none → c = 0) (hm : m ≤ 1000000) (ho : e.ops ≤ 4611686018427387904) (r : Int) (e' : D) (hr : e.append side ys = (r, e')) :
    Calls Try.prog 20 #[.pointer (some ⟨b2, 0, none⟩), .int .i64 side, .slice ad m c] w (fun x w' => x = .returned (.int .i64 r) ∧ Far w0 w' b1 b2 d e' g ∧ w'.heap[g]? = w.heap[g]?) := by
  have hb := h.half.blocks
  obtain ⟨hg, S1, S2, h1, h2, i1, i2, ap, bl, n1, n2⟩ := h
  refine (ref_append b2 w S2 e h2 side ad m c ys (hS.below bl) hn (fun hz x hx => by have := sl_lt hS hz x hx; omega) hm ho).mono ?_
  rw [hr]
  rintro x w' ⟨rfl, k, o⟩
  exact ⟨rfl, Far.second hg h1 h2 i1 i2 ap bl n1 n2 k o⟩

theorem far_wipe (h : Far w0 w b1 b2 d e g) (side : Int) (ho : d.ops ≤ 4611686018427387904) (r : Int) (d' : D) (hr : d.wipe side = (r, d')) :
    Calls Try.prog 45 #[.pointer (some ⟨b1, 0, none⟩), .int .i64 side] w (fun x w' => x = .returned (.int .i64 r) ∧ Far w0 w' b1 b2 d' e g ∧ w'.heap[g]? = w.heap[g]?) := by
  obtain ⟨hg, S1, S2, h1, h2, i1, i2, ap, bl, n1, n2⟩ := h
  refine (deck_wipe b1 w S1 d h1 side ho).mono ?_
  rw [hr]
  rintro x w' ⟨rfl, k, o⟩
  exact ⟨rfl, Far.first hg h1 h2 i1 i2 ap bl n1 n2 (k.mono (fun _ _ hs => .inl hs)) o⟩

theorem far_rwipe (h : Far w0 w b1 b2 d e g) (side : Int) (ho : e.ops ≤ 4611686018427387904) (r : Int) (e' : D) (hr : e.wipe side = (r, e')) :
    Calls Try.prog 51 #[.pointer (some ⟨b2, 0, none⟩), .int .i64 side] w (fun x w' => x = .returned (.int .i64 r) ∧ Far w0 w' b1 b2 d e' g ∧ w'.heap[g]? = w.heap[g]?) := by
  obtain ⟨hg, S1, S2, h1, h2, i1, i2, ap, bl, n1, n2⟩ := h
  refine (ref_wipe b2 w S2 e h2 side ho).mono ?_
  rw [hr]
  rintro x w' ⟨rfl, k, o⟩
  exact ⟨rfl, Far.second hg h1 h2 i1 i2 ap bl n1 n2 (k.mono (fun _ _ hs => .inl hs)) o⟩

theorem far_sync (h : Far w0 w b1 b2 d e g) (ho : d.ops ≤ 4611686018427387904) (r : Int) (d' : D) (hr : d.sync = (r, d')) :
    Calls Try.prog 19 #[.pointer (some ⟨b1, 0, none⟩)] w (fun x w' => x = .returned (.int .i64 r) ∧ Far w0 w' b1 b2 d' e g ∧ w'.heap[g]? = w.heap[g]?) := by
  obtain ⟨hg, S1, S2, h1, h2, i1, i2, ap, bl, n1, n2⟩ := h
  refine (deck_sync b1 w S1 d h1 ho).mono ?_
  rw [hr]
  rintro x w' ⟨rfl, k, o⟩
  exact ⟨rfl, Far.first hg h1 h2 i1 i2 ap bl n1 n2 (k.mono (fun _ _ hs => .inl hs)) o⟩

theorem far_rsync (h : Far w0 w b1 b2 d e g) (ho : e.ops ≤ 4611686018427387904) (r : Int) (e' : D) (hr : e.sync = (r, e')) :
    Calls Try.prog 21 #[.pointer (some ⟨b2, 0, none⟩)] w (fun x w' => x = .returned (.int .i64 r) ∧ Far w0 w' b1 b2 d e' g ∧ w'.heap[g]? = w.heap[g]?) := by
  obtain ⟨hg, S1, S2, h1, h2, i1, i2, ap, bl, n1, n2⟩ := h
  refine (ref_sync b2 w S2 e h2 ho).mono ?_
  rw [hr]
  rintro x w' ⟨rfl, k, o⟩
  exact ⟨rfl, Far.second hg h1 h2 i1 i2 ap bl n1 n2 (k.mono (fun _ _ hs => .inl hs)) o⟩

theorem far_arm (h : Far w0 w b1 b2 d e g) (x y : Int) (hy : y ≤ 9223372036854775807) :
    Calls Try.prog 12 #[.pointer (some ⟨b1, 0, none⟩), .agg #[.int .i64 x, .int .i64 y]] w (fun r w' => r = .returned (.tuple #[]) ∧ Far w0 w' b1 b2 (d.armed x y) e g ∧ w'.heap[g]? = w.heap[g]?) := by
  obtain ⟨hg, S1, S2, h1, h2, i1, i2, ap, bl, n1, n2⟩ := h
  refine (deck_arm b1 w S1 d h1 x y hy).mono ?_
  rintro r w' ⟨rfl, k, o⟩
  exact ⟨rfl, Far.first hg h1 h2 i1 i2 ap bl n1 n2 (k.mono (fun _ _ hs => .inl hs)) o⟩

theorem far_restart (h : Far w0 w b1 b2 d e g) :
    Calls Try.prog 14 #[.pointer (some ⟨b1, 0, none⟩)] w (fun r w' => r = .returned (.tuple #[]) ∧ Far w0 w' b1 b2 d.fresh e g ∧ w'.heap[g]? = w.heap[g]?) := by
  obtain ⟨hg, S1, S2, h1, h2, i1, i2, ap, bl, n1, n2⟩ := h
  refine (deck_restart b1 w S1 d h1).mono ?_
  rintro r w' ⟨rfl, k, o⟩
  exact ⟨rfl, Far.first hg h1 h2 i1 i2 ap bl n1 n2 (k.mono (fun _ _ hs => .inl hs)) o⟩

end

theorem Far.drewF {w0 w : World} {b1 b2 : Nat} {d e : D} {g : Nat} (h : Far w0 w b1 b2 d e g) : Far w0 w.drew b1 b2 d e g := by
  obtain ⟨hg, S1, S2, h1, h2, i1, i2, ap, bl, n1, n2⟩ := h
  have k : Below w.heap.size w w.drew := (Below.refl _ _).drew
  exact ⟨hg, S1, S2, h1.below k, h2.below k, i1, i2, ap, bl.drew, n1, n2⟩

end Go.Proofs.Ytdecdjjknbbolaa
