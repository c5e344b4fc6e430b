/-
  tape: a deck as what it holds; where it lies; append onto a slice of a deck's own.
-/
import Derived.Test.YtdecdjjknbbolaaTapeArm
import Derived.Test.YtdecdjjknbbolaaBytes
import Derived.OwnWalk
import Derived.ArgAppend
namespace Go.Proofs.Ytdecdjjknbbolaa
open Go.RowKit
set_option linter.unusedVariables false

/-- What a deck holds. -/
structure D where
  room : Int
  z0 : List Int
  s0 : Nat
  z1 : List Int
  s1 : Nat
  ops : Nat
  ar : Bool
  at' : Int
  kp : Int
  dn : Bool

structure D.Ok (d : D) : Prop where
  r0 : 0 ≤ d.room
  r1 : d.room ≤ 200000
  s0 : d.s0 ≤ d.z0.length
  s1 : d.s1 ≤ d.z1.length
  l0 : (d.z0.length : Int) ≤ d.room
  l1 : (d.z1.length : Int) ≤ d.room
  b0 : Bs d.z0
  b1 : Bs d.z1
  k1 : d.kp ≤ 9223372036854775807

theorem own_take {w : World} {B : Nat} {T : TypeId} {a : Option Addr} {n c k : Nat} {xs : List Value} (h : w.ownsRow B T 1 (.slice a n c) n xs) (hk : k ≤ n) : w.ownsRow B T 1 (.slice a k c) k (xs.take k) := by
  have hl := h.1
  rcases h.2 with ⟨hv, h0⟩ | ⟨g, cap, cur, hv, hb, hg, h1, h2, h3, h4⟩
  · simp at hv
    obtain ⟨rfl, rfl, rfl⟩ := hv
    obtain rfl : k = 0 := by omega
    exact ⟨by simp, .inl ⟨rfl, rfl⟩⟩
  · simp at hv
    obtain ⟨rfl, rfl⟩ := hv
    refine ⟨by simp; omega, .inr ⟨g, c, cur, rfl, hb, hg, by omega, h2, h3, ?_⟩⟩
    rw [← h4, List.take_take]
    congr 1
    omega

theorem own_only {w w' : World} {S : Nat → Prop} {B : Nat} {T : TypeId} {a : Option Addr} {n c : Nat} {xs : List Value} (h : w.ownsRow B T 1 (.slice a n c) n xs) (o : Only S w w') (ha : ∀ x, a = some x → ¬ S x.block) :
    w'.ownsRow B T 1 (.slice a n c) n xs := by
  refine ⟨h.1, ?_⟩
  rcases h.2 with hn | ⟨g, cap, cur, hv, hb, hg, rest⟩
  · exact .inl hn
  · simp at hv
    exact .inr ⟨g, cap, cur, by simp [hv], hb, (o.block g (lt_of_block hg) (ha _ hv.1)).trans hg, rest⟩

theorem own_none {w : World} {B : Nat} {T : TypeId} {a : Option Addr} {n c : Nat} {xs : List Value} (h : w.ownsRow B T 1 (.slice a n c) n xs) (ha : a = none) : c = 0 := by
  subst ha
  rcases h.2 with ⟨hv, h0⟩ | ⟨g, cap, cur, hv, _⟩
  · simp at hv; omega
  · simp at hv

/-- Where a deck lies: its block, those of its bytes; all of them in S. -/
structure Lies (w : World) (S : Nat → Prop) (b : Nat) (a0 : Option Addr) (c0 : Nat) (a1 : Option Addr) (c1 : Nat) (d : D) : Prop where
  dk : Dk w b d.room (.slice a0 d.z0.length c0) d.s0 (.slice a1 d.z1.length c1) d.s1 d.ops d.ar d.at' d.kp d.dn
  own0 : w.ownsRow 0 5 1 (.slice a0 d.z0.length c0) d.z0.length (d.z0.map (Value.int .u8))
  own1 : w.ownsRow 0 5 1 (.slice a1 d.z1.length c1) d.z1.length (d.z1.map (Value.int .u8))
  sb : S b
  sa0 : ∀ x, a0 = some x → S x.block ∧ x.block ≠ b
  sa1 : ∀ x, a1 = some x → S x.block ∧ x.block ≠ b
  ne : ∀ x y, a0 = some x → a1 = some y → x.block ≠ y.block
  ok : d.Ok

def Deck (w : World) (S : Nat → Prop) (b : Nat) (d : D) : Prop := ∃ a0 c0 a1 c1, Lies w S b a0 c0 a1 c1 d

theorem Deck.mono {w : World} {S S' : Nat → Prop} {b : Nat} {d : D} (h : Deck w S b d) (hS : ∀ k, k < w.heap.size → S k → S' k) : Deck w S' b d := by
  obtain ⟨a0, c0, a1, c1, h⟩ := h
  have own_lt : ∀ {a : Option Addr} {n c : Nat} {xs : List Value}, w.ownsRow 0 5 1 (.slice a n c) n xs → ∀ x, a = some x → x.block < w.heap.size := by
    intro a n c xs ho x hx
    subst hx
    exact (ho.lt x.block rfl).2
  exact ⟨a0, c0, a1, c1, h.dk, h.own0, h.own1, hS b (lt_of_block h.dk) h.sb, fun x hx => ⟨hS _ (own_lt h.own0 x hx) (h.sa0 x hx).1, (h.sa0 x hx).2⟩, fun x hx => ⟨hS _ (own_lt h.own1 x hx) (h.sa1 x hx).1, (h.sa1 x hx).2⟩, h.ne, h.ok⟩

theorem Deck.ok {w : World} {S : Nat → Prop} {b : Nat} {d : D} (h : Deck w S b d) : d.Ok := by
  obtain ⟨a0, c0, a1, c1, h⟩ := h
  exact h.ok

/-- What turns no block of the deck's leaves it as it is. -/
theorem Deck.only {w w' : World} {S S' : Nat → Prop} {b : Nat} {d : D} (h : Deck w S b d) (o : Only S' w w') (hS : ∀ k, S k → ¬ S' k) : Deck w' S b d := by
  obtain ⟨a0, c0, a1, c1, h⟩ := h
  exact ⟨a0, c0, a1, c1, (o.block b (lt_of_block h.dk) (hS b h.sb)).trans h.dk, own_only h.own0 o (fun x hx => hS _ (h.sa0 x hx).1), own_only h.own1 o (fun x hx => hS _ (h.sa1 x hx).1), h.sb, h.sa0, h.sa1, h.ne, h.ok⟩

theorem Below.only {w w' : World} (h : Below w.heap.size w w') : Only (fun _ => False) w w' := ⟨h.os, h.tape, h.output, h.size, fun k hk _ => h.block k hk⟩
theorem Only.below {w w' : World} {S : Nat → Prop} {B : Nat} (h : Only S w w') (hS : ∀ k, S k → B ≤ k) (hB : B ≤ w.heap.size) : Below B w w' :=
  ⟨h.os, h.tape, h.output, h.size, fun k hk => h.block k (by omega) (fun hs => by have := hS k hs; omega)⟩
theorem Deck.below {w w' : World} {S : Nat → Prop} {b : Nat} {d : D} (h : Deck w S b d) (o : Below w.heap.size w w') : Deck w' S b d := h.only (Below.only o) (fun _ _ hf => hf)
theorem Deck.alloc {w : World} {S : Nat → Prop} {b : Nat} {d : D} (h : Deck w S b d) (o : Obj) : Deck (w.alloc o) S b d := h.below ((Below.refl _ _).alloc (Nat.le_refl _) _)
theorem Deck.drew {w : World} {S : Nat → Prop} {b : Nat} {d : D} (h : Deck w S b d) (n : Nat) : Deck (w.drewN n) S b d := h.below ⟨rfl, rfl, rfl, Nat.le_refl _, fun _ _ => rfl⟩

/-- A method that writes the deck's own block alone, and shortens. -/
theorem Lies.turned {w w' : World} {S : Nat → Prop} {b : Nat} {a0 : Option Addr} {c0 : Nat} {a1 : Option Addr} {c1 : Nat} {d : D} (h : Lies w S b a0 c0 a1 c1 d) (o : Only (· = b) w w')
    {m0 s0 m1 s1 ops : Nat} {ar : Bool} {at' kp : Int} {dn : Bool} (hd : Dk w' b d.room (.slice a0 m0 c0) s0 (.slice a1 m1 c1) s1 ops ar at' kp dn) (h0 : m0 ≤ d.z0.length) (h1 : m1 ≤ d.z1.length)
    (hs0 : s0 ≤ m0) (hs1 : s1 ≤ m1) (hk : kp ≤ 9223372036854775807) : Lies w' S b a0 c0 a1 c1 ⟨d.room, d.z0.take m0, s0, d.z1.take m1, s1, ops, ar, at', kp, dn⟩ := by
  have e0 : (d.z0.take m0).length = m0 := by simp; omega
  have e1 : (d.z1.take m1).length = m1 := by simp; omega
  have q0 := own_take (own_only h.own0 o (fun x hx => (h.sa0 x hx).2)) h0
  have q1 := own_take (own_only h.own1 o (fun x hx => (h.sa1 x hx).2)) h1
  rw [← List.map_take] at q0 q1
  refine ⟨?_, ?_, ?_, h.sb, h.sa0, h.sa1, h.ne, ⟨h.ok.r0, h.ok.r1, ?_, ?_, ?_, ?_, h.ok.b0.take _, h.ok.b1.take _, hk⟩⟩
  · simp only [e0, e1]; exact hd
  · simp only [e0]; exact q0
  · simp only [e1]; exact q1
  · simp only [e0]; exact hs0
  · simp only [e1]; exact hs1
  · simp only [e0]; have := h.ok.l0; omega
  · simp only [e1]; have := h.ok.l1; omega

theorem Lies.cap0 {w : World} {S : Nat → Prop} {b : Nat} {a0 : Option Addr} {c0 : Nat} {a1 : Option Addr} {c1 : Nat} {d : D} (h : Lies w S b a0 c0 a1 c1 d) : d.z0.length ≤ c0 ∧ c0 ≤ 9223372036854775807 ∧ (a0 = none → c0 = 0) :=
  ⟨(own_cap h.own0).1, (own_cap h.own0).2, own_none h.own0⟩
theorem Lies.cap1 {w : World} {S : Nat → Prop} {b : Nat} {a0 : Option Addr} {c0 : Nat} {a1 : Option Addr} {c1 : Nat} {d : D} (h : Lies w S b a0 c0 a1 c1 d) : d.z1.length ≤ c1 ∧ c1 ≤ 9223372036854775807 ∧ (a1 = none → c1 = 0) :=
  ⟨(own_cap h.own1).1, (own_cap h.own1).2, own_none h.own1⟩

/-- append of a slice of integers onto a slice that the call owns: in its block, or in a new one. -/
theorem wpList_append_apart {P : Program} {w : World} {ops : Array Oper} {rest : List Oper} {o : Oper} {a : Act} {Q : Exit → Act → World → Prop} (hgd : o.guard = none) (s x : Operand) (t : TypeId)
    (ho : o.op = .call { callee := .builtin .append, args := #[s, x], argTypes := #[t, t] })
    (e : TypeId) (i : TypeInfo) (z : Value) (bytes : Nat) (ht : P.underlying t = some (.slice e)) (hi : P.info? e = some i) (hz : i.zero = some z)
    (hsize : i.size = 1) (hby : i.bytes = bytes) (hzs : z.cells.size = 1)
    (av : Option Addr) (n cap : Nat) (xs : List Value) (hs : a.eval s = .slice av n cap) (hown : w.ownsRow 0 e 1 (.slice av n cap) n xs)
    (k : IntKind) (ad : Option Addr) (m c : Nat) (ys : List Int) (hx : a.eval x = .slice ad m c) (hS : Sl k w ad m ys) (hn : ad = none → c = 0)
    (h63 : n + m ≤ maxLen) (hbytes : (n + m) * bytes ≤ 140737488355328)
    (h : ∀ a' c' w', w'.ownsRow 0 e 1 (.slice a' (n + m) c') (n + m) (xs ++ ys.map (Value.int k)) → w.grownBy w' (av.map (·.block)) → (∀ x, a' = some x → av = some x ∨ w.heap.size ≤ x.block) → wpList P ops Q rest (a.put o.dst (.slice a' (n + m) c')) w') :
    wpList P ops Q (o :: rest) a w := by
  have hl := hS.1
  have hcells : ∀ x, ad = some x → ∀ j u, (ys.map (Value.int k))[j]? = some u → w.cell? (x.add j) = some u := by
    intro x hx' j u hj
    have hjl : j < ys.length := by
      have := (List.getElem?_eq_some_iff.1 hj).1
      simpa using this
    rcases hS.2.2 with h0 | ⟨b, off, ha, hc⟩
    · subst h0; simp at hjl
    · rw [ha] at hx'
      simp at hx'
      subst hx'
      rw [Addr.add_flat, hc j hjl]
      simp [hjl] at hj
      rw [← hj]
      simp [List.getD_eq_getElem?_getD, hjl]
  have hone : ∀ u ∈ ys.map (Value.int k), u.oneCell' = true := by
    intro u hu
    obtain ⟨z, _, rfl⟩ := List.mem_map.1 hu
    rfl
  cases ad with
  | none =>
    have hys : ys = [] := by
      rcases hS.2.2 with h0 | ⟨b, off, ha, _⟩
      · exact h0
      · simp at ha
    subst hys
    simp at hl
    subst hl
    have hc := hn rfl
    subst hc
    refine wpList_append_own_none hgd s x t ho 0 e i 1 ht hi _ n xs hs hown hx ?_
    exact h av cap w (by simpa using hown) (World.grownBy.refl _ _) (fun x hx => .inl hx)
  | some ad =>
    by_cases hfit : n + m ≤ cap
    · cases av with
      | none =>
        have hc0 := own_none hown rfl
        have hm0 : m = 0 := by omega
        have hn0 : n = 0 := by omega
        refine wpList_append_own w hgd s x t ho 0 e i z 1 bytes ht hi hz hsize hby hzs (by decide) _ n xs hs hown ad m c (ys.map (Value.int k)) hx (by simp; omega) (hcells ad rfl) hone h63 hbytes (by omega) ?_
        intro v' w' h1 h2 h3
        have hv : v' = .slice none 0 0 := h3.2 ⟨by simp [hn0, hc0], hm0⟩
        subst hv
        have hnm : n + m = 0 := by omega
        have := h none 0 w' (by rw [hnm]; rw [hnm] at h1; exact h1) h2 (fun x hx => by simp at hx)
        rw [hnm] at this
        exact this
      | some g =>
        obtain ⟨g', c', hv⟩ := own_some hown (by simp)
        simp at hv
        obtain ⟨rfl, rfl⟩ := hv
        refine wpList_append_fits w hgd s x t ho 0 e i 1 ht hi hsize g' n cap xs hs hown ad m c (ys.map (Value.int k)) hx (by simp; omega) (hcells ad rfl) hone hfit ?_
        intro w' h1 h2
        exact h (some ⟨g', 0, none⟩) cap w' h1 h2 (fun x hx => .inl hx)
    · have hx1 : xs.length = n := by have := hown.1; omega
      refine wpList_append_grows w hgd s x t ho e i z 1 bytes ht hi hz hsize hby hzs (by decide) av n cap xs hs ?_ hown.1 ?_ ad m c (ys.map (Value.int k)) hx (by simp; omega) (hcells ad rfl) hone (by omega) h63 hbytes ?_
      · intro hav
        have := own_none hown hav
        have := own_cap hown
        omega
      · intro b hb j u hj
        subst hb
        obtain ⟨g', c', hv⟩ := own_some hown (by simp)
        simp at hv
        obtain ⟨rfl, rfl⟩ := hv
        exact hown.cells (g := g') rfl j u hj
      · intro v' w' h1 h2
        have h1' := own_base h1 (Nat.zero_le _)
        have hlt := h1.lt
        rcases h1.2 with ⟨hv, h0⟩ | ⟨g, cap', cur, hv, hb, _⟩
        · omega
        · subst hv
          refine h (some ⟨g, 0, none⟩) cap' w' h1' ⟨h2.os, h2.tape, h2.output, h2.size, fun k hk _ => h2.block k hk (by simp)⟩ (fun x hx => .inr ?_)
          simp at hx
          subst hx
          exact hb

end Go.Proofs.Ytdecdjjknbbolaa
