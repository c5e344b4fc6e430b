/-
  Slices of bytes, and rows of them, that lie at a block or behind it; four and five results.
-/
import Derived.Test.YtdecdjjknbbolaaTapeDeck
import Derived.Test.YtdecdjjknbbolaaRecRows
namespace Go.Proofs.Ytdecdjjknbbolaa
open Go.RowKit
set_option linter.unusedVariables false
set_option linter.unusedSimpArgs false

theorem results_tmp4 {fn : Func} {t u v x : Tmp} (h : fn.results = #[.tmp t, .tmp u, .tmp v, .tmp x]) (tmps : Array Value) (P : Program) (w : World) :
    (results fn tmps).run P w = .ok (.tuple #[tmps.getD t undef, tmps.getD u undef, tmps.getD v undef, tmps.getD x undef]) w := by
  simp [results, h]
theorem results_tmp5 {fn : Func} {t u v x y : Tmp} (h : fn.results = #[.tmp t, .tmp u, .tmp v, .tmp x, .tmp y]) (tmps : Array Value) (P : Program) (w : World) :
    (results fn tmps).run P w = .ok (.tuple #[tmps.getD t undef, tmps.getD u undef, tmps.getD v undef, tmps.getD x undef, tmps.getD y undef]) w := by
  simp [results, h]

/-- A slice of bytes that lies at block B or behind it. -/
structure SlB (w : World) (B : Nat) (a : Option Addr) (n c : Nat) (zs : List Int) : Prop where
  sl : Sl .u8 w a n zs
  le : n ≤ c
  mx : c ≤ 9223372036854775807
  nn : a = none → c = 0
  at' : ∀ x, a = some x → B ≤ x.block

theorem SlB.nil (w : World) (B : Nat) : SlB w B none 0 0 [] := ⟨Sl.nil _ _ _, by omega, by omega, fun _ => rfl, fun x hx => by simp at hx⟩
theorem SlB.below {w w' : World} {B : Nat} {a : Option Addr} {n c : Nat} {zs : List Int} (h : SlB w B a n c zs) (k : Below w.heap.size w w') : SlB w' B a n c zs := ⟨h.sl.below k, h.le, h.mx, h.nn, h.at'⟩
theorem SlB.base {w : World} {B B' : Nat} {a : Option Addr} {n c : Nat} {zs : List Int} (h : SlB w B a n c zs) (k : B' ≤ B) : SlB w B' a n c zs := ⟨h.sl, h.le, h.mx, h.nn, fun x hx => Nat.le_trans k (h.at' x hx)⟩

theorem Sl.onlyB {w w' : World} {S : Nat → Prop} {k : IntKind} {a : Option Addr} {n : Nat} {zs : List Int} (h : Sl k w a n zs) (o : Only S w w') (ha : ∀ x, a = some x → ¬ S x.block) : Sl k w' a n zs := by
  refine ⟨h.1, h.2.1, ?_⟩
  rcases h.2.2 with h0 | ⟨b, off, he, hc⟩
  · exact .inl h0
  · exact .inr ⟨b, off, he, fun i hi => o.cell (p := ⟨b, off + i, none⟩) (hc i hi) (ha ⟨b, off, none⟩ he)⟩

theorem SlB.only {w w' : World} {S : Nat → Prop} {B : Nat} {a : Option Addr} {n c : Nat} {zs : List Int} (h : SlB w B a n c zs) (o : Only S w w') (hS : ∀ k, S k → k < B) : SlB w' B a n c zs :=
  ⟨h.sl.onlyB o (fun x hx hs => by have := hS _ hs; have := h.at' x hx; omega), h.le, h.mx, h.nn, h.at'⟩

theorem SlB.own {w : World} {B : Nat} {a : Option Addr} {n c : Nat} {ys : List Int} (h : w.ownsRow B 5 1 (.slice a n c) n (ys.map (Value.int .u8))) (hb : Bs ys) : SlB w B a n c ys := by
  have hn : n = ys.length := by have := h.1; simp at this; omega
  subst hn
  obtain ⟨a', c', hv, hs, h0⟩ := Sl.own h hb
  simp at hv
  obtain ⟨rfl, rfl⟩ := hv
  refine ⟨hs, (own_cap h).1, (own_cap h).2, h0, fun x hx => ?_⟩
  subst hx
  exact (h.lt x.block rfl).1

/-- Rows of bytes that lie at block B or behind it. -/
structure RowsB (w : World) (B : Nat) (a : Option Addr) (n c : Nat) (R : List (List Int)) : Prop where
  len : n = R.length
  le : n ≤ c
  mx : c ≤ 9223372036854775807
  nn : a = none → c = 0
  bs : ∀ z ∈ R, Bs z
  row : R = [] ∨ ∃ b off, a = some ⟨b, off, none⟩ ∧ B ≤ b ∧ ∀ i, i < R.length → ∃ x k, w.cell? ⟨b, off + i, none⟩ = some (.slice x (R.getD i []).length k) ∧ SlB w B x (R.getD i []).length k (R.getD i [])

theorem RowsB.nil (w : World) (B : Nat) : RowsB w B none 0 0 [] := ⟨rfl, by omega, by omega, fun _ => rfl, fun z hz => by simp at hz, .inl rfl⟩

theorem RowsB.below {w w' : World} {B : Nat} {a : Option Addr} {n c : Nat} {R : List (List Int)} (h : RowsB w B a n c R) (k : Below w.heap.size w w') : RowsB w' B a n c R := by
  refine ⟨h.len, h.le, h.mx, h.nn, h.bs, ?_⟩
  rcases h.row with h0 | ⟨b, off, ha, hb, hc⟩
  · exact .inl h0
  · refine .inr ⟨b, off, ha, hb, fun i hi => ?_⟩
    obtain ⟨x, c, h1, h2⟩ := hc i hi
    exact ⟨x, c, (k.cell (p := ⟨b, off + i, none⟩) (block_lt_of_cell h1)).trans h1, h2.below k⟩

theorem RowsB.only {w w' : World} {S : Nat → Prop} {B : Nat} {a : Option Addr} {n c : Nat} {R : List (List Int)} (h : RowsB w B a n c R) (o : Only S w w') (hS : ∀ k, S k → k < B) : RowsB w' B a n c R := by
  refine ⟨h.len, h.le, h.mx, h.nn, h.bs, ?_⟩
  rcases h.row with h0 | ⟨b, off, ha, hb, hc⟩
  · exact .inl h0
  · refine .inr ⟨b, off, ha, hb, fun i hi => ?_⟩
    obtain ⟨x, c, h1, h2⟩ := hc i hi
    exact ⟨x, c, o.cell (p := ⟨b, off + i, none⟩) h1 (fun hs => by have := hS _ hs; simp only at this; omega), h2.only o hS⟩

theorem RowsB.base {w : World} {B B' : Nat} {a : Option Addr} {n c : Nat} {R : List (List Int)} (h : RowsB w B a n c R) (k : B' ≤ B) : RowsB w B' a n c R := by
  refine ⟨h.len, h.le, h.mx, h.nn, h.bs, ?_⟩
  rcases h.row with h0 | ⟨b, off, ha, hb, hc⟩
  · exact .inl h0
  · refine .inr ⟨b, off, ha, by omega, fun i hi => ?_⟩
    obtain ⟨x, c, h1, h2⟩ := hc i hi
    exact ⟨x, c, h1, h2.base k⟩

theorem RowsB.rowsIn {w : World} {B : Nat} {a : Option Addr} {n c : Nat} {R : List (List Int)} (h : RowsB w B a n c R) : RowsIn w a n R := by
  refine ⟨h.len, h.bs, ?_⟩
  rcases h.row with h0 | ⟨b, off, ha, hb, hc⟩
  · exact .inl h0
  · refine .inr ⟨b, off, ha, fun i hi => ?_⟩
    obtain ⟨x, c, h1, h2⟩ := hc i hi
    exact ⟨x, c, h1, h2.sl⟩

theorem Made.rowsB {w : World} {B : Nat} {a : Option Addr} {n c : Nat} {vs : List Value} {R : List (List Int)} (h : Made w B (.slice a n c) vs R) : RowsB w B a n c R := by
  have hl : vs.length = R.length := by have := h.own.1; omega
  obtain ⟨a', c', he⟩ := own_form h.own
  simp at he
  obtain ⟨rfl, hn, rfl⟩ := he
  have hown := h.own
  rw [← hn] at hown
  refine ⟨hn, (own_cap hown).1, (own_cap hown).2, own_none hown, h.bs, ?_⟩
  by_cases h0 : R = []
  · exact .inl h0
  · have hp : 0 < R.length := List.length_pos_iff.2 h0
    rcases h.own.2 with ⟨_, h1⟩ | ⟨g, cap, cur, hv, hb, _⟩
    · omega
    simp at hv
    obtain ⟨rfl, _, rfl⟩ := hv
    subst hn
    refine .inr ⟨g, 0, rfl, hb, fun i hi => ?_⟩
    have hr := h.row i hi
    obtain ⟨x, cx, hv⟩ := own_form hr
    rw [hv] at hr
    refine ⟨x, cx, ?_, SlB.own hr (getD_bs h.bs i)⟩
    rw [Nat.zero_add, h.own.cellAt i (by omega), ← hv]
    simp [List.getD_eq_getElem?_getD, show i < vs.length by omega]

/-- Where the slice from i on begins, as the walk writes it. -/
theorem SlB.cut {w : World} {B : Nat} {a : Option Addr} {n c : Nat} {zs : List Int} (h : SlB w B a n c zs) (i : Nat) (hi : i ≤ n) : SlB w B (if c = i then a else Option.map (fun x => x.add i) a) (n - i) (c - i) (zs.drop i) := by
  have h1 := h.le
  have h2 := h.mx
  refine ⟨h.sl.cutI h.le i hi, by omega, by omega, fun ha => ?_, fun x hx => ?_⟩
  · have : a = none := by
      split at ha
      · exact ha
      · simpa using ha
    have := h.nn this
    omega
  · split at hx
    · exact h.at' x hx
    · simp at hx
      obtain ⟨y, hy, rfl⟩ := hx
      have := h.at' y hy
      cases i <;> simpa [Addr.add] using this

theorem RowsB.tail {w : World} {B : Nat} {a : Option Addr} {n c : Nat} {z : List Int} {R : List (List Int)} (h : RowsB w B a n c (z :: R)) : RowsB w B (if c = 1 then a else Option.map (fun x => x.add 1) a) (n - 1) (c - 1) R := by
  have h1 := h.le
  have h2 := h.mx
  have h3 := h.len
  simp at h3
  refine ⟨by omega, by omega, by omega, fun ha => ?_, fun y hy => h.bs y (by simp [hy]), ?_⟩
  · have : a = none := by
      split at ha
      · exact ha
      · simpa using ha
    have := h.nn this
    omega
  · by_cases h0 : R = []
    · exact .inl h0
    · have hp : 0 < R.length := List.length_pos_iff.2 h0
      obtain ⟨b, off, ha, hb, hc⟩ := h.row.resolve_left (by simp)
      refine .inr ⟨b, off + 1, ?_, hb, fun i hi => ?_⟩
      · rw [if_neg (by omega), ha]
        simp [Addr.add_flat]
      · obtain ⟨x, k, q1, q2⟩ := hc (i + 1) (by simp; omega)
        refine ⟨x, k, ?_, ?_⟩
        · rw [show off + 1 + i = off + (i + 1) by omega]
          simpa using q1
        · simpa using q2

theorem RowsB.head {w : World} {B : Nat} {a : Option Addr} {n c : Nat} {z : List Int} {R : List (List Int)} (h : RowsB w B a n c (z :: R)) : ∃ b off x k, a = some ⟨b, off, none⟩ ∧ w.cell? ⟨b, off, none⟩ = some (.slice x z.length k) ∧ SlB w B x z.length k z := by
  obtain ⟨b, off, ha, hb, hc⟩ := h.row.resolve_left (by simp)
  obtain ⟨x, k, q1, q2⟩ := hc 0 (by simp)
  exact ⟨b, off, x, k, ha, by simpa using q1, by simpa using q2⟩

end Go.Proofs.Ytdecdjjknbbolaa
