/-
  giroref4: the document's deck wherever it lies; its methods.
-/
import Derived.Test.YtdecdjjknbbolaaRefTape
import Derived.Test.YtdecdjjknbbolaaTapeApp
namespace Go.Proofs.Ytdecdjjknbbolaa
open Go.RowKit
set_option linter.unusedVariables false
set_option linter.unusedSimpArgs false

theorem Sl.only {w w' : World} {S : Nat → Prop} {k : IntKind} {a : Option Addr} {n : Nat} {zs : List Int} (h : Sl k w a n zs) (o : Only S w w') (ha : zs ≠ [] → ∀ x, a = some x → ¬ S x.block) : Sl k w' a n zs := by
  refine ⟨h.1, h.2.1, ?_⟩
  rcases h.2.2 with h0 | ⟨b, off, he, hc⟩
  · exact .inl h0
  · by_cases h0 : zs = []
    · exact .inl h0
    · exact .inr ⟨b, off, he, fun i hi => o.cell (p := ⟨b, off + i, none⟩) (hc i hi) (ha h0 ⟨b, off, none⟩ he)⟩

structure RLies (w : World) (S : Nat → Prop) (b : Nat) (a0 : Option Addr) (c0 : Nat) (a1 : Option Addr) (c1 : Nat) (x y : Int) (d : D) : Prop where
  dk : Rk w b (.slice a0 d.z0.length c0) (.slice a1 d.z1.length c1) d.s0 d.s1 d.room d.ops x y d.ar d.dn
  sl0 : Sl .u8 w a0 d.z0.length d.z0
  sl1 : Sl .u8 w a1 d.z1.length d.z1
  cp0 : d.z0.length ≤ c0 ∧ c0 ≤ 9223372036854775807 ∧ (a0 = none → c0 = 0)
  cp1 : d.z1.length ≤ c1 ∧ c1 ≤ 9223372036854775807 ∧ (a1 = none → c1 = 0)
  sb : S b
  sa0 : d.z0 ≠ [] → ∀ x, a0 = some x → S x.block ∧ x.block ≠ b
  sa1 : d.z1 ≠ [] → ∀ x, a1 = some x → S x.block ∧ x.block ≠ b
  arm : d.ar = true → x = d.at' ∧ y = d.kp
  ok : d.Ok

def RDeck (w : World) (S : Nat → Prop) (b : Nat) (d : D) : Prop := ∃ a0 c0 a1 c1 x y, RLies w S b a0 c0 a1 c1 x y d

theorem sl_lt {k : IntKind} {w : World} {a : Option Addr} {n : Nat} {zs : List Int} (h : Sl k w a n zs) (h0 : zs ≠ []) : ∀ x, a = some x → x.block < w.heap.size := by
  intro x hx
  rcases h.2.2 with h1 | ⟨b, off, he, hc⟩
  · exact absurd h1 h0
  · have hl : 0 < zs.length := List.length_pos_iff.2 h0
    have := block_lt_of_cell (hc 0 hl)
    rw [he] at hx
    simp at hx
    subst hx
    exact this

theorem RDeck.mono {w : World} {S S' : Nat → Prop} {b : Nat} {d : D} (h : RDeck w S b d) (hS : ∀ k, k < w.heap.size → S k → S' k) : RDeck w S' b d := by
  obtain ⟨a0, c0, a1, c1, x, y, h⟩ := h
  exact ⟨a0, c0, a1, c1, x, y, h.dk, h.sl0, h.sl1, h.cp0, h.cp1, hS b (lt_of_block h.dk) h.sb, fun hz x hx => ⟨hS _ (sl_lt h.sl0 hz x hx) (h.sa0 hz x hx).1, (h.sa0 hz x hx).2⟩, fun hz x hx => ⟨hS _ (sl_lt h.sl1 hz x hx) (h.sa1 hz x hx).1, (h.sa1 hz x hx).2⟩, h.arm, h.ok⟩

theorem RDeck.only {w w' : World} {S S' : Nat → Prop} {b : Nat} {d : D} (h : RDeck w S b d) (o : Only S' w w') (hS : ∀ k, S k → ¬ S' k) : RDeck w' S b d := by
  obtain ⟨a0, c0, a1, c1, x, y, h⟩ := h
  exact ⟨a0, c0, a1, c1, x, y, (o.block b (lt_of_block h.dk) (hS b h.sb)).trans h.dk, h.sl0.only o (fun hz x hx => hS _ (h.sa0 hz x hx).1), h.sl1.only o (fun hz x hx => hS _ (h.sa1 hz x hx).1), h.cp0, h.cp1, h.sb, h.sa0, h.sa1, h.arm, h.ok⟩
theorem RDeck.below {w w' : World} {S : Nat → Prop} {b : Nat} {d : D} (h : RDeck w S b d) (o : Below w.heap.size w w') : RDeck w' S b d := h.only (Below.only o) (fun _ _ hf => hf)
theorem RDeck.ok {w : World} {S : Nat → Prop} {b : Nat} {d : D} (h : RDeck w S b d) : d.Ok := by
  obtain ⟨a0, c0, a1, c1, x, y, h⟩ := h
  exact h.ok

/-- A method that writes the deck's own block alone, and shortens. -/
theorem RLies.turned {w w' : World} {S : Nat → Prop} {b : Nat} {a0 : Option Addr} {c0 : Nat} {a1 : Option Addr} {c1 : Nat} {x y : Int} {d : D} (h : RLies w S b a0 c0 a1 c1 x y d) (o : Only (· = b) w w')
    {m0 s0 m1 s1 ops : Nat} {ar : Bool} {x' y' at' kp : Int} {dn : Bool} (hd : Rk w' b (.slice a0 m0 c0) (.slice a1 m1 c1) s0 s1 d.room ops x' y' ar dn) (h0 : m0 ≤ d.z0.length) (h1 : m1 ≤ d.z1.length)
    (hs0 : s0 ≤ m0) (hs1 : s1 ≤ m1) (hk : kp ≤ 9223372036854775807) (ha : ar = true → x' = at' ∧ y' = kp) : RLies w' S b a0 c0 a1 c1 x' y' ⟨d.room, d.z0.take m0, s0, d.z1.take m1, s1, ops, ar, at', kp, dn⟩ := by
  have e0 : (d.z0.take m0).length = m0 := by simp; omega
  have e1 : (d.z1.take m1).length = m1 := by simp; omega
  have g0 : ∀ n, d.z0.take n ≠ [] → d.z0 ≠ [] := fun n hn he => hn (by rw [he]; simp)
  have g1 : ∀ n, d.z1.take n ≠ [] → d.z1 ≠ [] := fun n hn he => hn (by rw [he]; simp)
  have q0 := (h.sl0.only o (fun hz x hx => (h.sa0 hz x hx).2)).take m0 h0
  have q1 := (h.sl1.only o (fun hz x hx => (h.sa1 hz x hx).2)).take m1 h1
  refine ⟨?_, ?_, ?_, ?_, ?_, h.sb, fun hz => h.sa0 (g0 _ hz), fun hz => h.sa1 (g1 _ hz), ha, ⟨h.ok.r0, h.ok.r1, ?_, ?_, ?_, ?_, h.ok.b0.take _, h.ok.b1.take _, hk⟩⟩
  · simp only [e0, e1]; exact hd
  · simp only [e0]; exact q0
  · simp only [e1]; exact q1
  · simp only [e0]; exact ⟨by have := h.cp0.1; omega, h.cp0.2⟩
  · simp only [e1]; exact ⟨by have := h.cp1.1; omega, h.cp1.2⟩
  · simp only [e0]; exact hs0
  · simp only [e1]; exact hs1
  · simp only [e0]; have := h.ok.l0; omega
  · simp only [e1]; have := h.ok.l1; omega

theorem RLies.same {w w' : World} {S : Nat → Prop} {b : Nat} {a0 : Option Addr} {c0 : Nat} {a1 : Option Addr} {c1 : Nat} {x y : Int} {d : D} (h : RLies w S b a0 c0 a1 c1 x y d) (o : Only (· = b) w w')
    {s0 s1 ops : Nat} {ar : Bool} {x' y' at' kp : Int} {dn : Bool} (hd : Rk w' b (.slice a0 d.z0.length c0) (.slice a1 d.z1.length c1) s0 s1 d.room ops x' y' ar dn)
    (hs0 : s0 ≤ d.z0.length) (hs1 : s1 ≤ d.z1.length) (hk : kp ≤ 9223372036854775807) (ha : ar = true → x' = at' ∧ y' = kp) : RLies w' S b a0 c0 a1 c1 x' y' ⟨d.room, d.z0, s0, d.z1, s1, ops, ar, at', kp, dn⟩ := by
  have := h.turned o hd (Nat.le_refl _) (Nat.le_refl _) hs0 hs1 hk ha
  rwa [List.take_length, List.take_length] at this

theorem ref_crash_true (b : Nat) (w : World) (S : Nat → Prop) (a0 : Option Addr) (c0 : Nat) (a1 : Option Addr) (c1 : Nat) (x y : Int) (d : D) (h : RLies w S b a0 c0 a1 c1 x y d) (hc : d.crash = true) :
    Calls Try.prog 40 #[.pointer (some ⟨b, 0, none⟩)] w (fun e w' => e = .returned (.bool true) ∧ RDeck w' S b d.lost ∧ Turned w b w') := by
  obtain ⟨ha, hat⟩ := D.crash_true hc
  obtain ⟨rfl, rfl⟩ := h.arm ha
  refine (crash_down b w _ _ _ _ _ _ _ _ _ _ _ _ _ _ h.dk ha hat h.ok.k1 h.ok.s0 h.ok.s1 h.cp0.1 h.cp1.1 h.cp0.2.1 h.cp1.2.1 h.cp0.2.2 h.cp1.2.2).mono ?_
  rintro e w' ⟨rfl, hd, o⟩
  exact ⟨rfl, ⟨a0, c0, a1, c1, _, _, h.turned o.1 hd (left0_le h.ok.s0).2 (left1_le h.ok.s1).2 (Nat.le_refl _) (Nat.le_refl _) h.ok.k1 (fun _ => ⟨rfl, rfl⟩)⟩, o⟩

theorem ref_crash_false (b : Nat) (w : World) (S : Nat → Prop) (a0 : Option Addr) (c0 : Nat) (a1 : Option Addr) (c1 : Nat) (x y : Int) (d : D) (h : RLies w S b a0 c0 a1 c1 x y d) (hc : d.crash = false) (ho : d.ops ≤ 4611686018427387904) :
    Calls Try.prog 40 #[.pointer (some ⟨b, 0, none⟩)] w
      (fun e w' => e = .returned (.bool false) ∧ Rk w' b (.slice a0 d.z0.length c0) (.slice a1 d.z1.length c1) d.s0 d.s1 d.room (d.ops + 1) x y d.ar d.dn ∧ Turned w b w') := by
  refine crash_well b w _ _ _ _ _ _ _ _ _ _ h.dk ?_ ho
  rcases D.crash_false hc with h1 | h1
  · exact .inl h1
  · cases ha : d.ar with
    | false => exact .inl rfl
    | true => exact .inr (by rw [(h.arm ha).1]; exact h1)

theorem rnew_well (room : Int) (w : World) (h0 : 0 ≤ room) (h1 : room ≤ 200000) :
    Calls Try.prog 17 #[.int .i64 room] w (fun e w' => e = .returned (.pointer (some ⟨w.heap.size, 0, none⟩)) ∧ RDeck w' (· = w.heap.size) w.heap.size (D.new room) ∧ Below w.heap.size w w') := by
  go_enter Try.func17, Try.ntmps17
  go_wp2
  go_ret
  refine ⟨rfl, ⟨none, 0, none, 0, 0, 0, heap_alloc_new w _, Sl.nil _ _ _, Sl.nil _ _ _, ⟨Nat.le_refl _, Nat.zero_le _, fun _ => rfl⟩, ⟨Nat.le_refl _, Nat.zero_le _, fun _ => rfl⟩, rfl, fun _ x hx => by simp at hx, fun _ x hx => by simp at hx, fun hx => by simp [D.new] at hx, ?_⟩, (Below.refl _ _).alloc (Nat.le_refl _) _⟩
  exact ⟨h0, h1, by simp [D.new], by simp [D.new], h0, h0, Bs.nil, Bs.nil, by simp [D.new]⟩

theorem rnew_bad (room : Int) (w : World) (h : room < 0 ∨ 200000 < room) :
    Calls Try.prog 17 #[.int .i64 room] w (fun e w' => e = .returned (.pointer none) ∧ w' = w) := by
  by_cases h0 : room < 0
  · go_enter Try.func17, Try.ntmps17
    go_wp2
    go_ret
    exact ⟨rfl, rfl⟩
  · have h1 : 200000 < room := by omega
    go_enter Try.func17, Try.ntmps17
    go_wp2
    go_ret
    exact ⟨rfl, rfl⟩


end Go.Proofs.Ytdecdjjknbbolaa
