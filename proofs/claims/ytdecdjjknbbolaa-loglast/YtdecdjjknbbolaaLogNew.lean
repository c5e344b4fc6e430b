/-
  log: Open.
-/
import Derived.Test.YtdecdjjknbbolaaLogOpen
namespace Go.Proofs.Ytdecdjjknbbolaa
open Go.RowKit
set_option linter.unusedVariables false
set_option linter.unusedSimpArgs false

/-- A block in which these bytes do not lie. -/
def Off (a : Option Addr) (zs : List Int) (j : Nat) : Prop := zs ≠ [] → ∀ x, a = some x → j ≠ x.block

theorem slB_lt {k : IntKind} {w : World} {a : Option Addr} {n : Nat} {zs : List Int} (h : Sl k w a n zs) (h0 : zs ≠ []) : ∀ x, a = some x → x.block < w.heap.size := by
  intro x hx
  rcases h.2.2 with h1 | ⟨b, off, he, hc⟩
  · exact absurd h1 h0
  · have hl : 0 < zs.length := List.length_pos_iff.2 h0
    have := block_lt_of_cell (hc 0 hl)
    rw [he] at hx
    simp at hx
    subst hx
    exact this

/-- What Open leaves. -/
def OpenEnd (w : World) (S : Nat → Prop) (b : Nat) (r : Int × D × Option Lg × List Int × List (List Int)) (e : Ending) (w' : World) : Prop :=
  Only S w w' ∧ match r.2.2.1 with
    | none => e = .returned (.tuple #[.pointer none, .slice none 0 0, .slice none 0 0, .int .i64 r.1]) ∧ Deck w' (fun j => S j ∨ w.heap.size ≤ j) b r.2.1
    | some g => ∃ l a1 c1 a2 c2, e = .returned (.tuple #[.pointer (some ⟨l, 0, none⟩), .slice a1 r.2.2.2.1.length c1, .slice a2 r.2.2.2.2.length c2, .int .i64 0]) ∧ w.heap.size ≤ l ∧
        Kept w' (fun j => (S j ∨ w.heap.size ≤ j) ∧ Off a1 r.2.2.2.1 j) b l r.2.1 g ∧ SlB w' w.heap.size a1 r.2.2.2.1.length c1 r.2.2.2.1 ∧ RowsB w' w.heap.size a2 r.2.2.2.2.length c2 r.2.2.2.2

theorem openEnd_none {w w' : World} {S : Nat → Prop} {b : Nat} {r : Int × D × Option Lg × List Int × List (List Int)} {q : Int} {d : D} {x : List Int} {y : List (List Int)} (h : r = (q, d, none, x, y)) (o : Only S w w') (k : Deck w' (fun j => S j ∨ w.heap.size ≤ j) b d) :
    OpenEnd w S b r (.returned (.tuple #[.pointer none, .slice none 0 0, .slice none 0 0, .int .i64 q])) w' := by
  subst h
  exact ⟨o, rfl, k⟩
theorem openEnd_some {w w' : World} {S : Nat → Prop} {b : Nat} {r : Int × D × Option Lg × List Int × List (List Int)} {q : Int} {d : D} {g : Lg} {x : List Int} {y : List (List Int)} (h : r = (q, d, some g, x, y)) (o : Only S w w') {l : Nat} {a1 a2 : Option Addr} {n1 c1 n2 c2 : Nat}
    (hl : w.heap.size ≤ l) (k : Kept w' (fun j => (S j ∨ w.heap.size ≤ j) ∧ Off a1 x j) b l d g) (h1 : SlB w' w.heap.size a1 n1 c1 x) (h2 : RowsB w' w.heap.size a2 n2 c2 y) :
    OpenEnd w S b r (.returned (.tuple #[.pointer (some ⟨l, 0, none⟩), .slice a1 n1 c1, .slice a2 n2 c2, .int .i64 0])) w' := by
  subst h
  have e1 := h1.sl.1
  have e2 := h2.len
  subst e1 e2
  exact ⟨o, l, a1, c1, a2, c2, rfl, hl, k, h1, h2⟩

theorem deck_lt {w : World} {S : Nat → Prop} {b : Nat} {d : D} (h : Deck w S b d) : b < w.heap.size ∧ S b := by
  obtain ⟨a0, c0, a1, c1, h⟩ := h
  exact ⟨lt_of_block h.dk, h.sb⟩

/-- A log that is laid anew on a deck. -/
theorem kept_new {w : World} {S : Nat → Prop} {b : Nat} {d : D} (h : Deck w S b d) (g : Lg) :
    Kept (w.alloc (.cells #[.pointer (some ⟨b, 0, none⟩), .int .i64 g.gen, .int .i64 g.side, .int .i64 g.n, .bool g.stale] 67)) (fun k => S k ∨ k = w.heap.size) b w.heap.size d g := by
  refine ⟨(h.mono (fun k hk hs => ⟨.inl hs, by omega⟩)).alloc _, .inr rfl, ?_⟩
  exact heap_alloc_new w _

theorem Sl.onlyN {w w' : World} {S : Nat → Prop} {k : IntKind} {a : Option Addr} {n : Nat} {zs : List Int} (h : Sl k w a n zs) (o : Only S w w') (ha : zs ≠ [] → ∀ x, a = some x → ¬ S x.block) : Sl k w' a n zs := by
  refine ⟨h.1, h.2.1, ?_⟩
  rcases h.2.2 with h0 | ⟨b, off, he, hc⟩
  · exact .inl h0
  · by_cases h0 : zs = []
    · exact .inl h0
    · exact .inr ⟨b, off, he, fun i hi => o.cell (p := ⟨b, off + i, none⟩) (hc i hi) (ha h0 ⟨b, off, none⟩ he)⟩

set_option maxRecDepth 100000 in
set_option maxHeartbeats 4000000 in
theorem log_open (b : Nat) (w : World) (S : Nat → Prop) (d : D) (h : Deck w S b d) (a : Option Addr) (n c : Nat) (fresh : List Int) (hS : Sl .u8 w a n fresh) (hn : a = none → c = 0) (hap : fresh ≠ [] → ∀ x, a = some x → ¬ S x.block)
    (hm : n ≤ 900000) (ho : d.ops ≤ 4611686018427380000) :
    Calls Try.prog 9 #[.pointer (some ⟨b, 0, none⟩), .slice a n c] w (OpenEnd w S b (d.opened fresh)) := by
  obtain ⟨i0, hi, hz0, hz1, hz2⟩ := info_parts infoU8
  have LK := log_look b w S d h
  obtain ⟨s, hs⟩ : ∃ s, d.look = s := ⟨_, rfl⟩
  rw [hs] at LK
  have H : Hid (Deck w S b d ∧ d.look = s ∧ n = fresh.length) := ⟨h, hs, hS.1⟩
  have HF : Hid (Sl .u8 w a n fresh ∧ (a = none → c = 0) ∧ (fresh ≠ [] → ∀ x, a = some x → ¬ S x.block)) := ⟨hS, hn, hap⟩
  clear h hs hS hn hap
  go_enter Try.func9, Try.ntmps9
  go_wp2_with fail
  go_at_call 15
  refine LK.mono ?_
  rintro e w1 ⟨a1, c1, a2, c2, rfl, h1, h2, b1⟩
  have H1 : Hid (SlB w1 w.heap.size a1 s.snap.length c1 s.snap ∧ RowsB w1 w.heap.size a2 s.rows.length c2 s.rows ∧ Below w.heap.size w w1) := ⟨h1, h2, b1⟩
  obtain ⟨sg, ss, sx, sr, so⟩ := s
  have hrl : sr.length ≤ 9223372036854775807 := by have := h2.le; have := h2.mx; simp only at *; omega
  clear LK h1 h2 b1
  simp only
  simp only at H1
  cases so
  case true =>
    have HE : Hid (d.opened fresh = (0, d, some ⟨sg, ss, sr.length, true⟩, sx, sr)) := by
      show _ = _
      unfold D.opened
      rw [H.out.2.1]
      simp
    have K := kept_new ((H.out.1.mono (fun k hk hs => (⟨hs, hk⟩ : S k ∧ k < w.heap.size))).below H1.out.2.2) ⟨sg, ss, sr.length, true⟩
    have HK : Hid (Kept (w1.alloc (.cells #[.pointer (some ⟨b, 0, none⟩), .int .i64 sg, .int .i64 ss, .int .i64 sr.length, .bool true] 67)) (fun j => (S j ∨ w.heap.size ≤ j) ∧ Off a1 sx j) b w1.heap.size d ⟨sg, ss, sr.length, true⟩) := by
      refine K.mono (fun j _ hs => ?_)
      have := H1.out.2.2.size
      rcases hs with hs | hs
      · exact ⟨.inl hs.1, fun h0 x hx => by have := H1.out.1.at' x hx; omega⟩
      · exact ⟨.inr (by omega), fun h0 x hx => by have := slB_lt H1.out.1.sl h0 x hx; omega⟩
    clear K
    go_wp2
    refine bodyPost_ret (results_tmp4 rfl _ _ _) rfl ?_
    have ba : Below w1.heap.size w1 (w1.alloc (.cells #[.pointer (some ⟨b, 0, none⟩), .int .i64 sg, .int .i64 ss, .int .i64 sr.length, .bool true] 67)) := (Below.refl _ _).alloc (Nat.le_refl _) _
    exact openEnd_some HE.out (Only.trans (Below.onlyS H1.out.2.2 S) (Below.onlyS ba S)) H1.out.2.2.size HK.out (H1.out.1.below ba) (H1.out.2.1.below ba)
  case false =>
    have HE0 : Hid (d.opened fresh = if (d.save 1 0 fresh).1 ≠ 0 then ((d.save 1 0 fresh).1, (d.save 1 0 fresh).2, none, [], []) else (0, (d.save 1 0 fresh).2, some ⟨1, 0, 0, false⟩, fresh, [])) := by
      show _ = _
      unfold D.opened
      rw [H.out.2.1]
      simp
    have K := kept_new (H.out.1.below H1.out.2.2) ⟨0, 0, 0, false⟩
    have ba : Hid (Below w.heap.size w (w1.alloc (.cells #[.pointer (some ⟨b, 0, none⟩), .int .i64 0, .int .i64 0, .int .i64 0, .bool false] 67))) := H1.out.2.2.alloc H1.out.2.2.size _
    have BG := log_begin b w1.heap.size _ _ d ⟨0, 0, 0, false⟩ K 1 0 (by decide) a n c fresh (HF.out.1.below ba.out) HF.out.2.1 (by omega) (by omega)
    obtain ⟨r, hr⟩ : ∃ r, d.save 1 0 fresh = r := ⟨_, rfl⟩
    obtain ⟨q, d1⟩ := r
    rw [hr] at BG
    have HR : Hid (d.save 1 0 fresh = (q, d1)) := hr
    have hw : Hid (w.heap.size ≤ w1.heap.size) := H1.out.2.2.size
    clear hr K H1
    go_wp2_with fail
    go_at_call 29
    refine BG.mono ?_
    rintro e w2 ⟨rfl, k2, o2⟩
    have K2 : Hid (Kept w2 (fun j => S j ∨ w.heap.size ≤ j) b w1.heap.size d1 (if q = 0 then ⟨1, 0, 0, false⟩ else ⟨0, 0, 0, false⟩)) := by
      refine k2.mono (fun j _ hs => ?_)
      have h1 := hw.out
      have h2 := ba.out.size
      rcases hs with (hs | hs) | hs
      · exact .inl hs
      · exact .inr (by omega)
      · exact .inr (by simp at hs; omega)
    have O2 : Hid (Only S w w2) := by
      refine ((Below.onlyS ba.out S).news (o2.mono (fun j _ hs => ?_)))
      rcases hs with hs | hs
      · exact .inl hs
      · exact .inr (by have := hw.out; omega)
    clear BG k2 o2 ba
    simp only
    by_cases hq : q = 0
    · subst hq
      have HE : Hid (d.opened fresh = (0, d1, some ⟨1, 0, 0, false⟩, fresh, [])) := by
        show _ = _
        rw [HE0.out, HR.out]
        simp
      have F2 : Hid (Sl .u8 w2 a n fresh) := HF.out.1.onlyN O2.out HF.out.2.2
      go_wp2_with (at_builtin; refine wpList_append_sl rfl _ _ 26 rfl w2.heap.size 5 i0 _ 1 Try.underlying26 hi hz0 hz1 hz2 rfl _ 0 [] rfl (World.ownsRow_nil _ _ _ _) .u8 a n c fresh rfl F2.out HF.out.2.1 (by unfold maxLen; omega) (by omega) (Nat.le_refl _) ?_)
      intro v3 w3 o3 g3
      have B3 : Hid (Below w2.heap.size w2 w3) := (Below.refl _ _).grown g3 (Nat.le_refl _) (fun k hk => by simp [Value.ownBlock] at hk)
      obtain ⟨x3, c3, rfl⟩ := own_form o3
      have S30 := SlB.own o3 F2.out.2.1
      have S3 : Hid (SlB w3 w.heap.size x3 n c3 fresh) := S30.base O2.out.size
      have K3 : Hid (Kept w3 (fun j => (S j ∨ w.heap.size ≤ j) ∧ Off x3 fresh j) b w1.heap.size d1 ⟨1, 0, 0, false⟩) := by
        refine (K2.out.low.below B3.out).mono (fun j _ hs => ⟨hs.1, fun h0 x hx => ?_⟩)
        have := S30.at' x hx
        have := hs.2
        omega
      clear S30
      clear o3 g3
      go_wp2
      refine bodyPost_ret (results_tmp4 rfl _ _ _) rfl ?_
      exact openEnd_some HE.out (O2.out.trans (Below.onlyS B3.out S)) hw.out K3.out S3.out (RowsB.nil _ _)
    · have HE : Hid (d.opened fresh = (q, d1, none, [], [])) := by
        show _ = _
        rw [HE0.out, HR.out]
        simp [hq]
      go_wp2
      refine bodyPost_ret (results_tmp4 rfl _ _ _) rfl ?_
      exact openEnd_none HE.out O2.out (K2.out.deck.mono (fun j _ hs => hs.1))

end Go.Proofs.Ytdecdjjknbbolaa
