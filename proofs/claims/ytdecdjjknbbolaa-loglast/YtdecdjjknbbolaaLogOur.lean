/-
  log: a log and its deck that the call made, with blocks X of the call's own that they leave alone.
-/
import Derived.Test.YtdecdjjknbbolaaLogNew
namespace Go.Proofs.Ytdecdjjknbbolaa
open Go.RowKit
set_option linter.unusedVariables false
set_option linter.unusedSimpArgs false

/-- Blocks that were made since w0 and are not the call's own X. -/
abbrev Oth (w0 : World) (X : Nat → Prop) : Nat → Prop := fun j => w0.heap.size ≤ j ∧ ¬ X j

def OurD (w0 w : World) (X : Nat → Prop) (b : Nat) (d : D) : Prop :=
  ∃ S, Deck w S b d ∧ (∀ j, S j → w0.heap.size ≤ j ∧ j < w.heap.size ∧ ¬ X j) ∧ (∀ j, X j → j < w.heap.size) ∧ Below w0.heap.size w0 w
def Our (w0 w : World) (X : Nat → Prop) (b l : Nat) (d : D) (g : Lg) : Prop :=
  ∃ S, Kept w S b l d g ∧ (∀ j, S j → w0.heap.size ≤ j ∧ j < w.heap.size ∧ ¬ X j) ∧ (∀ j, X j → j < w.heap.size) ∧ Below w0.heap.size w0 w

theorem Our.blw {w0 w : World} {X : Nat → Prop} {b l : Nat} {d : D} {g : Lg} (h : Our w0 w X b l d g) : Below w0.heap.size w0 w := by
  obtain ⟨_, _, _, _, h⟩ := h; exact h
theorem OurD.blw {w0 w : World} {X : Nat → Prop} {b : Nat} {d : D} (h : OurD w0 w X b d) : Below w0.heap.size w0 w := by
  obtain ⟨_, _, _, _, h⟩ := h; exact h
theorem Our.deck {w0 w : World} {X : Nat → Prop} {b l : Nat} {d : D} {g : Lg} (h : Our w0 w X b l d g) : OurD w0 w X b d := by
  obtain ⟨S, hk, hS, hX, hb⟩ := h
  exact ⟨fun k => S k ∧ k ≠ l, hk.deck, fun j hj => hS j hj.1, hX, hb⟩
theorem Our.at' {w0 w : World} {X : Nat → Prop} {b l : Nat} {d : D} {g : Lg} (h : Our w0 w X b l d g) : LgAt w l b g := by
  obtain ⟨_, h, _⟩ := h; exact h.at'
theorem OurD.base {w0 w : World} {X : Nat → Prop} {b : Nat} {d : D} (h : OurD w0 w X b d) : w0.heap.size ≤ b ∧ b < w.heap.size := by
  obtain ⟨S, hd, hS, _, _⟩ := h
  have := deck_lt hd
  exact ⟨(hS b this.2).1, this.1⟩

/-- New memory; other blocks of the call's own. -/
theorem Our.widen {w0 w w' : World} {X : Nat → Prop} {b l : Nat} {d : D} {g : Lg} (h : Our w0 w X b l d g) (k : Below w.heap.size w w') (X' : Nat → Prop) (hX' : ∀ j, X' j → (X j ∨ w.heap.size ≤ j) ∧ j < w'.heap.size) : Our w0 w' X' b l d g := by
  obtain ⟨S, hk, hS, hX, hb⟩ := h
  have ks := k.size
  refine ⟨S, hk.below k, fun j hj => ⟨(hS j hj).1, by have := (hS j hj).2.1; omega, fun hx => ?_⟩, fun j hj => (hX' j hj).2, hb.trans (k.mono hb.size)⟩
  rcases (hX' j hx).1 with h1 | h1
  · exact (hS j hj).2.2 h1
  · have := (hS j hj).2.1; omega
theorem OurD.widen {w0 w w' : World} {X : Nat → Prop} {b : Nat} {d : D} (h : OurD w0 w X b d) (k : Below w.heap.size w w') (X' : Nat → Prop) (hX' : ∀ j, X' j → (X j ∨ w.heap.size ≤ j) ∧ j < w'.heap.size) : OurD w0 w' X' b d := by
  obtain ⟨S, hk, hS, hX, hb⟩ := h
  have ks := k.size
  refine ⟨S, hk.below k, fun j hj => ⟨(hS j hj).1, by have := (hS j hj).2.1; omega, fun hx => ?_⟩, fun j hj => (hX' j hj).2, hb.trans (k.mono hb.size)⟩
  rcases (hX' j hx).1 with h1 | h1
  · exact (hS j hj).2.2 h1
  · have := (hS j hj).2.1; omega
theorem Our.grow {w0 w w' : World} {X : Nat → Prop} {b l : Nat} {d : D} {g : Lg} (h : Our w0 w X b l d g) (k : Below w.heap.size w w') : Our w0 w' X b l d g := by
  obtain ⟨S, hk, hS, hX, hb⟩ := h
  have ks := k.size
  exact ⟨S, hk.below k, fun j hj => ⟨(hS j hj).1, by have := (hS j hj).2.1; omega, (hS j hj).2.2⟩, fun j hj => by have := hX j hj; omega, hb.trans (k.mono hb.size)⟩
theorem OurD.grow {w0 w w' : World} {X : Nat → Prop} {b : Nat} {d : D} (h : OurD w0 w X b d) (k : Below w.heap.size w w') : OurD w0 w' X b d := by
  obtain ⟨S, hk, hS, hX, hb⟩ := h
  have ks := k.size
  exact ⟨S, hk.below k, fun j hj => ⟨(hS j hj).1, by have := (hS j hj).2.1; omega, (hS j hj).2.2⟩, fun j hj => by have := hX j hj; omega, hb.trans (k.mono hb.size)⟩
theorem Our.less {w0 w : World} {X X' : Nat → Prop} {b l : Nat} {d : D} {g : Lg} (h : Our w0 w X b l d g) (hX' : ∀ j, X' j → X j) : Our w0 w X' b l d g := by
  obtain ⟨S, hk, hS, hX, hb⟩ := h
  exact ⟨S, hk, fun j hj => ⟨(hS j hj).1, (hS j hj).2.1, fun hx => (hS j hj).2.2 (hX' j hx)⟩, fun j hj => hX j (hX' j hj), hb⟩

theorem our_step {w0 w w' : World} {X S : Nat → Prop} {b l : Nat} {d' : D} {g' : Lg} (hS : ∀ j, S j → w0.heap.size ≤ j ∧ j < w.heap.size ∧ ¬ X j) (hX : ∀ j, X j → j < w.heap.size) (hb : Below w0.heap.size w0 w)
    (k : Kept w' (fun j => S j ∨ w.heap.size ≤ j) b l d' g') (o : Only S w w') : Our w0 w' X b l d' g' ∧ Only (Oth w0 X) w w' := by
  have os := o.size
  have oo : Only (Oth w0 X) w w' := o.mono (fun j _ hj => ⟨(hS j hj).1, (hS j hj).2.2⟩)
  refine ⟨⟨fun j => (S j ∨ w.heap.size ≤ j) ∧ j < w'.heap.size, k.mono (fun j hj hs => ⟨hs, hj⟩), ?_, fun j hj => by have := hX j hj; omega, hb.trans (o.below (fun j hj => (hS j hj).1) hb.size)⟩, oo⟩
  rintro j ⟨hj | hj, hl⟩
  · exact ⟨(hS j hj).1, hl, (hS j hj).2.2⟩
  · exact ⟨by have := hb.size; omega, hl, fun hx => by have := hX j hx; omega⟩
theorem ourD_step {w0 w w' : World} {X S : Nat → Prop} {b : Nat} {d' : D} (hS : ∀ j, S j → w0.heap.size ≤ j ∧ j < w.heap.size ∧ ¬ X j) (hX : ∀ j, X j → j < w.heap.size) (hb : Below w0.heap.size w0 w)
    (k : Deck w' (fun j => S j ∨ w.heap.size ≤ j) b d') (o : Only S w w') : OurD w0 w' X b d' ∧ Only (Oth w0 X) w w' := by
  have os := o.size
  have oo : Only (Oth w0 X) w w' := o.mono (fun j _ hj => ⟨(hS j hj).1, (hS j hj).2.2⟩)
  refine ⟨⟨fun j => (S j ∨ w.heap.size ≤ j) ∧ j < w'.heap.size, k.mono (fun j hj hs => ⟨hs, hj⟩), ?_, fun j hj => by have := hX j hj; omega, hb.trans (o.below (fun j hj => (hS j hj).1) hb.size)⟩, oo⟩
  rintro j ⟨hj | hj, hl⟩
  · exact ⟨(hS j hj).1, hl, (hS j hj).2.2⟩
  · exact ⟨by have := hb.size; omega, hl, fun hx => by have := hX j hx; omega⟩

theorem our_new (room : Int) (w0 w : World) (X : Nat → Prop) (hX : ∀ j, X j → j < w.heap.size) (hw : Below w0.heap.size w0 w) (h0 : 0 ≤ room) (h1 : room ≤ 200000) :
    Calls Try.prog 8 #[.int .i64 room] w (fun e w' => e = .returned (.pointer (some ⟨w.heap.size, 0, none⟩)) ∧ OurD w0 w' X w.heap.size (D.new room) ∧ Below w.heap.size w w') := by
  refine (new_well room w h0 h1).mono ?_
  rintro e w' ⟨rfl, h, k⟩
  have h2 := deck_lt h
  refine ⟨rfl, ⟨_, h, ?_, fun j hj => by have := hX j hj; have := k.size; omega, hw.trans (k.mono hw.size)⟩, k⟩
  rintro j rfl
  exact ⟨hw.size, h2.1, fun hx => by have := hX _ hx; omega⟩

section
variable {w0 w : World} {X : Nat → Prop} {b l : Nat} {d : D} {g : Lg}

theorem our_add (h : Our w0 w X b l d g) (a : Option Addr) (n c : Nat) (row : List Int) (hS : Sl .u8 w a n row) (hn : a = none → c = 0) (hm : n ≤ 900000) (ho : d.ops ≤ 4611686018427380000) (hgn : g.n ≤ 4611686018427387904) :
    Calls Try.prog 10 #[.pointer (some ⟨l, 0, none⟩), .slice a n c] w (fun e w' => e = .returned (.int .i64 (d.add g row).1) ∧ Our w0 w' X b l (d.add g row).2.1 (d.add g row).2.2 ∧ Only (Oth w0 X) w w') := by
  obtain ⟨S, hk, hS', hX, hb⟩ := h
  refine (log_add b l w S d g hk a n c row hS hn hm ho hgn).mono ?_
  rintro e w' ⟨rfl, k, o⟩
  exact ⟨rfl, our_step hS' hX hb k o⟩
theorem our_save (h : Our w0 w X b l d g) (a : Option Addr) (n c : Nat) (snap : List Int) (hS : Sl .u8 w a n snap) (hn : a = none → c = 0) (hm : n ≤ 900000) (ho : d.ops ≤ 4611686018427380000) (g1 : 0 ≤ g.gen) (g2 : g.gen ≤ 4611686018427387904) (gs : g.side = 0 ∨ g.side = 1) :
    Calls Try.prog 11 #[.pointer (some ⟨l, 0, none⟩), .slice a n c] w (fun e w' => e = .returned (.int .i64 (d.resave g snap).1) ∧ Our w0 w' X b l (d.resave g snap).2.1 (d.resave g snap).2.2 ∧ Only (Oth w0 X) w w') := by
  obtain ⟨S, hk, hS', hX, hb⟩ := h
  refine (log_save b l w S d g hk a n c snap hS hn hm ho g1 g2 gs).mono ?_
  rintro e w' ⟨rfl, k, o⟩
  exact ⟨rfl, our_step hS' hX hb k o⟩
theorem our_look (h : OurD w0 w X b d) : Calls Try.prog 15 #[.pointer (some ⟨b, 0, none⟩)] w (LookEnd w d.look) := by
  obtain ⟨S, hk, _⟩ := h
  exact log_look b w S d hk
theorem our_rows (h : Our w0 w X b l d g) : Calls Try.prog 28 #[.pointer (some ⟨l, 0, none⟩)] w (fun e w' => e = .returned (.int .i64 g.n) ∧ w' = w) := log_rows l b w g h.at'
theorem our_arm (h : Our w0 w X b l d g) (x y : Int) (hy : y ≤ 9223372036854775807) :
    Calls Try.prog 12 #[.pointer (some ⟨b, 0, none⟩), .agg #[.int .i64 x, .int .i64 y]] w (fun e w' => e = .returned (.tuple #[]) ∧ Our w0 w' X b l (d.armed x y) g ∧ Only (Oth w0 X) w w') := by
  obtain ⟨S, hk, hS', hX, hb⟩ := h
  refine (deck_arm b w _ d hk.deck x y hy).mono ?_
  rintro e w' ⟨rfl, k, o⟩
  have := hk.step (k.mono (fun _ _ hs => .inl hs)) o
  exact ⟨rfl, our_step hS' hX hb this.1 this.2⟩
theorem our_restart (h : Our w0 w X b l d g) :
    Calls Try.prog 14 #[.pointer (some ⟨b, 0, none⟩)] w (fun e w' => e = .returned (.tuple #[]) ∧ Our w0 w' X b l d.fresh g ∧ Only (Oth w0 X) w w') := by
  obtain ⟨S, hk, hS', hX, hb⟩ := h
  refine (deck_restart b w _ d hk.deck).mono ?_
  rintro e w' ⟨rfl, k, o⟩
  have := hk.step (k.mono (fun _ _ hs => .inl hs)) o
  exact ⟨rfl, our_step hS' hX hb this.1 this.2⟩
theorem our_append (h : OurD w0 w X b d) (side : Int) (a : Option Addr) (n c : Nat) (ys : List Int) (hS : Sl .u8 w a n ys) (hn : a = none → c = 0) (hne : ys ≠ [] → ∀ x, a = some x → x.block ≠ b) (hm : n ≤ 1000000) (ho : d.ops ≤ 4611686018427387904) :
    Calls Try.prog 18 #[.pointer (some ⟨b, 0, none⟩), .int .i64 side, .slice a n c] w (fun e w' => e = .returned (.int .i64 (d.append side ys).1) ∧ OurD w0 w' X b (d.append side ys).2 ∧ Only (Oth w0 X) w w') := by
  obtain ⟨S, hk, hS', hX, hb⟩ := h
  refine (deck_append b w S d hk side a n c ys hS hn hne hm ho).mono ?_
  rintro e w' ⟨rfl, k, o⟩
  exact ⟨rfl, ourD_step hS' hX hb k o⟩

/-- Open, where a log is held or one can be begun. -/
theorem our_open (h : OurD w0 w X b d) (a : Option Addr) (n c : Nat) (fresh : List Int) (hS : Sl .u8 w a n fresh) (hn : a = none → c = 0) (hap : fresh ≠ [] → ∀ x, a = some x → x.block < w0.heap.size ∨ X x.block) (hm : n ≤ 900000) (ho : d.ops ≤ 4611686018427380000)
    (d' : D) (g' : Lg) (snap : List Int) (rows : List (List Int)) (hr : d.opened fresh = (0, d', some g', snap, rows)) :
    Calls Try.prog 9 #[.pointer (some ⟨b, 0, none⟩), .slice a n c] w (fun e w' => ∃ l a1 c1 a2 c2, e = .returned (.tuple #[.pointer (some ⟨l, 0, none⟩), .slice a1 snap.length c1, .slice a2 rows.length c2, .int .i64 0]) ∧
      Our w0 w' (fun j => X j ∨ (snap ≠ [] ∧ ∃ x, a1 = some x ∧ j = x.block)) b l d' g' ∧ Only (Oth w0 X) w w' ∧ SlB w' w.heap.size a1 snap.length c1 snap ∧ RowsB w' w.heap.size a2 rows.length c2 rows) := by
  obtain ⟨S, hk, hS', hX, hb⟩ := h
  refine (log_open b w S d hk a n c fresh hS hn (fun h0 x hx hs => ?_) hm ho).mono ?_
  · rcases hap h0 x hx with h1 | h1
    · have := (hS' _ hs).1; omega
    · exact (hS' _ hs).2.2 h1
  · rw [hr]
    rintro e w' ⟨o, l, a1, c1, a2, c2, rfl, hl, k, s1, s2⟩
    have st := our_step hS' hX hb (k.mono (fun j _ hs => hs.1)) o
    have os := o.size
    refine ⟨l, a1, c1, a2, c2, rfl, ⟨fun j => ((S j ∨ w.heap.size ≤ j) ∧ Off a1 snap j) ∧ j < w'.heap.size, k.mono (fun j hj hs => ⟨hs, hj⟩), ?_, ?_, st.1.blw⟩, st.2, s1, s2⟩
    · rintro j ⟨⟨hj, hoff⟩, hl⟩
      have h1 : w0.heap.size ≤ j := by
        rcases hj with hj | hj
        · exact (hS' j hj).1
        · have := hb.size; omega
      refine ⟨h1, hl, ?_⟩
      rintro (hx | ⟨h0, x, hx, rfl⟩)
      · rcases hj with hj | hj
        · exact (hS' j hj).2.2 hx
        · have := hX j hx; omega
      · exact hoff h0 x hx rfl
    · rintro j (hx | ⟨h0, x, hx, rfl⟩)
      · have := hX j hx; omega
      · exact slB_lt s1.sl h0 x hx
theorem our_open_no (h : OurD w0 w X b d) (a : Option Addr) (n c : Nat) (fresh : List Int) (hS : Sl .u8 w a n fresh) (hn : a = none → c = 0) (hap : fresh ≠ [] → ∀ x, a = some x → x.block < w0.heap.size ∨ X x.block) (hm : n ≤ 900000) (ho : d.ops ≤ 4611686018427380000)
    (q : Int) (d' : D) (snap : List Int) (rows : List (List Int)) (hr : d.opened fresh = (q, d', none, snap, rows)) :
    Calls Try.prog 9 #[.pointer (some ⟨b, 0, none⟩), .slice a n c] w (fun e w' => e = .returned (.tuple #[.pointer none, .slice none 0 0, .slice none 0 0, .int .i64 q]) ∧ OurD w0 w' X b d' ∧ Only (Oth w0 X) w w') := by
  obtain ⟨S, hk, hS', hX, hb⟩ := h
  refine (log_open b w S d hk a n c fresh hS hn (fun h0 x hx hs => ?_) hm ho).mono ?_
  · rcases hap h0 x hx with h1 | h1
    · have := (hS' _ hs).1; omega
    · exact (hS' _ hs).2.2 h1
  · rw [hr]
    rintro e w' ⟨o, rfl, k⟩
    exact ⟨rfl, ourD_step hS' hX hb k o⟩
end

/-- Nothing of the call's own. -/
abbrev No : Nat → Prop := fun _ => False

/-- A slice of bytes that has just been laid as a constant. -/
theorem one_const (w : World) (z : Int) (hz : IntKind.u8.wrap z = z) : Sl .u8 (w.alloc (.cells #[.int .u8 z] 5 (1, 2))) (some ⟨w.heap.size, 0, none⟩) 1 [z] := Sl.new .u8 w 5 (1, 2) [z] (by intro n hn; simp at hn; rw [hn]; exact hz)
theorem one_byte (w : World) (z : Int) (hz : IntKind.u8.wrap z = z) : Sl .u8 (w.alloc (.cells #[.int .u8 z] 5)) (some ⟨w.heap.size, 0, none⟩) 1 [z] := Sl.new .u8 w 5 (0, 0) [z] (by intro n hn; simp at hn; rw [hn]; exact hz)

end Go.Proofs.Ytdecdjjknbbolaa
