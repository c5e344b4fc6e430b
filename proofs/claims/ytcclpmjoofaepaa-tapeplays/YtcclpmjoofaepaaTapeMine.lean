/-
  tape: a deck that the call made, alone.
-/
import Derived.Test.YtcclpmjoofaepaaTapeApp
namespace Go.Proofs.Ytcclpmjoofaepaa
open Go.RowKit
set_option linter.unusedVariables false

/-- A deck that lies in what was made since w0; what was there is as it was. -/
def Mine (w0 w : World) (b : Nat) (d : D) : Prop := Deck w (w0.heap.size ≤ ·) b d ∧ Below w0.heap.size w0 w

theorem Mine.below {w0 w w' : World} {b : Nat} {d : D} (h : Mine w0 w b d) (k : Below w.heap.size w w') : Mine w0 w' b d := ⟨h.1.below k, h.2.trans (k.mono h.2.size)⟩
theorem Mine.alloc {w0 w : World} {b : Nat} {d : D} (h : Mine w0 w b d) (o : Obj) : Mine w0 (w.alloc o) b d := h.below ((Below.refl _ _).alloc (Nat.le_refl _) _)
theorem Mine.drew {w0 w : World} {b : Nat} {d : D} (h : Mine w0 w b d) : Mine w0 w.drew b d := h.below (Below.refl _ _).drew
theorem Mine.base {w0 w : World} {b : Nat} {d : D} (h : Mine w0 w b d) : w0.heap.size ≤ b ∧ b < w.heap.size := by
  obtain ⟨⟨a0, c0, a1, c1, h⟩, _⟩ := h
  exact ⟨h.sb, lt_of_block h.dk⟩

theorem Mine.only {w0 w w' : World} {b : Nat} {d d' : D} (h : Mine w0 w b d) (k : Deck w' (w0.heap.size ≤ ·) b d') (o : Only (w0.heap.size ≤ ·) w w') : Mine w0 w' b d' :=
  ⟨k, h.2.trans (o.below (fun _ hk => hk) h.2.size)⟩

theorem Sl.mine {w0 w : World} {a : Option Addr} {len : Nat} {zs : List Int} {b : Nat} {d : D} (hs : Sl .u8 w0 a len zs) (h : Mine w0 w b d) : Sl .u8 w a len zs := hs.below h.2

theorem Sl.apart {w0 : World} {a : Option Addr} {len : Nat} {zs : List Int} {b : Nat} (hs : Sl .u8 w0 a len zs) (hb : w0.heap.size ≤ b) : zs ≠ [] → ∀ x, a = some x → x.block ≠ b := by
  intro hz x hx
  rcases hs.2.2 with h0 | ⟨b', off, ha, hc⟩
  · exact absurd h0 hz
  · have hl : 0 < zs.length := List.length_pos_iff.2 hz
    have := block_lt_of_cell (hc 0 hl)
    rw [ha] at hx
    simp at hx
    subst hx
    show b' ≠ b
    simp at this
    omega

theorem my_new (room : Int) (w0 w : World) (hw : Below w0.heap.size w0 w) (h0 : 0 ≤ room) (h1 : room ≤ 200000) :
    Calls Try.prog 9 #[.int .i64 room] w (fun e w' => e = .returned (.pointer (some ⟨w.heap.size, 0, none⟩)) ∧ Mine w0 w' w.heap.size (D.new room)) := by
  refine (new_well room w h0 h1).mono ?_
  rintro e w' ⟨rfl, h, k⟩
  exact ⟨rfl, h.mono (fun k _ hk => by have := hw.size; omega), hw.trans (k.mono hw.size)⟩

theorem my_down (b : Nat) (w0 w : World) (d : D) (h : Mine w0 w b d) : Calls Try.prog 21 #[.pointer (some ⟨b, 0, none⟩)] w (fun e w' => e = .returned (.bool d.dn) ∧ w' = w) := deck_down b w _ d h.1
theorem my_arm (b : Nat) (w0 w : World) (d : D) (h : Mine w0 w b d) (x y : Int) (hy : y ≤ 9223372036854775807) :
    Calls Try.prog 17 #[.pointer (some ⟨b, 0, none⟩), .agg #[.int .i64 x, .int .i64 y]] w (fun e w' => e = .returned (.tuple #[]) ∧ Mine w0 w' b (d.armed x y)) := by
  refine (deck_arm b w _ d h.1 x y hy).mono ?_
  rintro e w' ⟨rfl, k, o⟩
  exact ⟨rfl, h.only k o⟩
theorem my_restart (b : Nat) (w0 w : World) (d : D) (h : Mine w0 w b d) : Calls Try.prog 19 #[.pointer (some ⟨b, 0, none⟩)] w (fun e w' => e = .returned (.tuple #[]) ∧ Mine w0 w' b d.fresh) := by
  refine (deck_restart b w _ d h.1).mono ?_
  rintro e w' ⟨rfl, k, o⟩
  exact ⟨rfl, h.only k o⟩
theorem my_sync (b : Nat) (w0 w : World) (d : D) (h : Mine w0 w b d) (ho : d.ops ≤ 4611686018427387904) (r : Int) (d' : D) (hr : d.sync = (r, d')) :
    Calls Try.prog 13 #[.pointer (some ⟨b, 0, none⟩)] w (fun e w' => e = .returned (.int .i64 r) ∧ Mine w0 w' b d') := by
  refine (deck_sync b w _ d h.1 ho).mono ?_
  rw [hr]
  rintro e w' ⟨rfl, k, o⟩
  exact ⟨rfl, h.only k o⟩
theorem my_wipe (b : Nat) (w0 w : World) (d : D) (h : Mine w0 w b d) (side : Int) (ho : d.ops ≤ 4611686018427387904) (r : Int) (d' : D) (hr : d.wipe side = (r, d')) :
    Calls Try.prog 15 #[.pointer (some ⟨b, 0, none⟩), .int .i64 side] w (fun e w' => e = .returned (.int .i64 r) ∧ Mine w0 w' b d') := by
  refine (deck_wipe b w _ d h.1 side ho).mono ?_
  rw [hr]
  rintro e w' ⟨rfl, k, o⟩
  exact ⟨rfl, h.only k o⟩
theorem my_append (b : Nat) (w0 w : World) (d : D) (h : Mine w0 w b d) (side : Int) (ad : Option Addr) (m c : Nat) (ys : List Int) (hS : Sl .u8 w ad m ys) (hn : ad = none → c = 0) (hne : ys ≠ [] → ∀ x, ad = some x → x.block ≠ b)
    (hm : m ≤ 1000000) (ho : d.ops ≤ 4611686018427387904) (r : Int) (d' : D) (hr : d.append side ys = (r, d')) :
    Calls Try.prog 11 #[.pointer (some ⟨b, 0, none⟩), .int .i64 side, .slice ad m c] w (fun e w' => e = .returned (.int .i64 r) ∧ Mine w0 w' b d') := by
  refine (deck_append b w _ d h.1 side ad m c ys hS hn hne hm ho).mono ?_
  rw [hr]
  rintro e w' ⟨rfl, k, o⟩
  exact ⟨rfl, h.only (k.mono (fun k _ hk => by have := h.2.size; simp only at hk; omega)) o⟩
theorem my_read (b : Nat) (w0 w : World) (d : D) (h : Mine w0 w b d) (side : Int) (zs : List Int) (hz : d.read side = zs) :
    Calls Try.prog 24 #[.pointer (some ⟨b, 0, none⟩), .int .i64 side] w (fun e w' => ∃ a c, e = .returned (.slice a zs.length c) ∧ Sl .u8 w' a zs.length zs ∧ (a = none → c = 0) ∧ Below w.heap.size w w' ∧ Mine w0 w' b d) := by
  refine (deck_read b w _ d h.1 side).mono ?_
  rw [hz]
  rintro e w' ⟨v, rfl, ho, k⟩
  have hb : Bs zs := by
    rw [← hz]
    unfold D.read
    split
    · exact h.1.ok.b0
    · split
      · exact h.1.ok.b1
      · exact Bs.nil
  obtain ⟨a, c, rfl, hs, hn⟩ := Sl.own ho hb
  exact ⟨a, c, rfl, hs, hn, k, h.below k⟩

end Go.Proofs.Ytcclpmjoofaepaa
