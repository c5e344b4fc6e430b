/-
  free.Run.
-/
import Derived.Test.YtajmbcbochjfmaaFreeSame
import Derived.Test.YtajmbcbochjfmaaFreeDo
import Derived.Test.YtajmbcbochjfmaaRowRefs
namespace Go.Proofs.Ytajmbcbochjfmaa
open Go.RowKit
set_option linter.unusedVariables false
set_option linter.unusedSimpArgs false

theorem own_turn {w w' : World} {B : Nat} {T : TypeId} {s : Nat} {v : Value} {n : Nat} {xs : List Value} (h : w.ownsRow B T s v n xs) (k : ∀ j, v.ownBlock = some j → w'.heap[j]? = w.heap[j]?) : w'.ownsRow B T s v n xs := by
  refine ⟨h.1, ?_⟩
  rcases h.2 with h0 | ⟨g, cap, cur, hv, hb, hg, rest⟩
  · exact .inl h0
  · exact .inr ⟨g, cap, cur, hv, hb, (k g (by rw [hv]; rfl)).trans hg, rest⟩
theorem own_cells {w : World} {B s n : Nat} {T : TypeId} {v : Value} {xs : List Value} (h : w.ownsRow B T s v n xs) : ∀ j, v.ownBlock = some j → B ≤ j ∧ ∃ cs f, w.heap[j]? = some (.cells cs T f) := fun j hj => by
  refine ⟨(h.lt j hj).1, ?_⟩
  rcases h.2 with ⟨hv0, _⟩ | ⟨g0, cap, cur, hv0, _, hg0, _⟩
  · rw [hv0] at hj; cases hj
  · rw [hv0] at hj
    have : g0 = j := by simpa [Value.ownBlock] using hj
    subst this
    exact ⟨_, _, hg0⟩

/-- In a call of w: books in the result's variable, its second block; a row; what was settled. -/
structure RunC (w wr : World) (y : BA) (b : Bks) (a : Option Addr) (n c : Nat) (l : List P7) (v : Value) (d : List P7) : Prop where
  bk : NewBk wr (w.heap.size + 2) y b
  good : Good b
  row : PGood wr a n c l
  off : 0 < n → ∀ x, a = some x → w.heap.size + 2 ≤ x.block ∧ v.ownBlock ≠ some x.block
  que : Que l
  fr : FrOk l
  own : wr.ownsRow (w.heap.size + 2) 31 7 v d.length (payL d)
  box : BVar wr (w.heap.size + 1) y
  low : Below w.heap.size w wr
/-- A payment's variable there. -/
def VarC (w wr : World) (a : Option Addr) (n : Nat) (v : Value) (g : Nat) (p : P7) : Prop := PBox wr g p ∧ w.heap.size + 2 ≤ g ∧ v.ownBlock ≠ some g ∧ (0 < n → ∀ x, a = some x → x.block ≠ g)

section
variable {w wr u : World} {y : BA} {b : Bks} {a : Option Addr} {n c : Nat} {l d : List P7} {v : Value} {g : Nat} {p : P7}
theorem RunC.size (h : RunC w wr y b a n c l v d) : w.heap.size + 2 ≤ wr.heap.size := h.box.lt
theorem RunC.lt (h : RunC w wr y b a n c l v d) : 0 < n → ∀ x, a = some x → x.block < wr.heap.size := fun hn x hx => by
  obtain ⟨b1, o1, ha1, hc1⟩ := h.row.at hn
  have hx2 := ha1.symm.trans hx
  simp at hx2
  rw [← hx2]
  exact block_lt_of_cell (hc1 0 hn).1
theorem RunC.below (h : RunC w wr y b a n c l v d) (k : Below wr.heap.size wr u) : RunC w u y b a n c l v d :=
  ⟨h.bk.below k, h.good, h.row.below k, h.off, h.que, h.fr, own_below h.own k, h.box.below k, h.low.trans (k.mono h.low.size)⟩
theorem VarC.below (h : VarC w wr a n v g p) (k : Below wr.heap.size wr u) : VarC w u a n v g p := ⟨h.1.below k, h.2⟩
/-- Other books are laid into the variable. -/
theorem RunC.put (h : RunC w wr y b a n c l v d) {y' : BA} {b' : Bks} {B : Nat} (hn : NewBk wr B y' b') (hB : w.heap.size + 2 ≤ B) (g : Good b') : RunC w (wr.setRow (w.heap.size + 1) #[.slice y'.aA y'.nA y'.cA, .slice y'.aB y'.nB y'.cB, .slice y'.aM y'.nM y'.cM, .slice y'.aP y'.nP y'.cP]) y' b' a n c l v d :=
  ⟨(hn.kept fun k hk => setRow_other wr (w.heap.size + 1) k _ (by have hk : B ≤ k := hk; omega)).base hB, g, h.row.turn fun x hx hn => setRow_other wr (w.heap.size + 1) x.block _ (by have := (h.off hn x hx).1; omega), h.off, h.que, h.fr,
    own_kept h.own fun k hk => setRow_other wr (w.heap.size + 1) k _ (by have hk : w.heap.size + 2 ≤ k := hk; omega), h.box.set y', Below.setRow h.low (by omega) _⟩
theorem VarC.put (h : VarC w wr a n v g p) (cs : Array Value) : VarC w (wr.setRow (w.heap.size + 1) cs) a n v g p := ⟨h.1.far (by have := h.2.1; omega) _, h.2⟩
/-- One is dropped. -/
theorem RunC.drop (h : RunC w wr y b a n c l v d) {a' : Option Addr} {n' c' : Nat} {l' : List P7} (k : Below wr.heap.size wr u) (hg : PGood u a' n' c' l') (ha : ∀ x, a' = some x → wr.heap.size ≤ x.block) (hq : Que l') (hf : FrOk l') : RunC w u y b a' n' c' l' v d := by
  have h' := h.below k
  refine ⟨h'.bk, h'.good, hg, fun _ x hx => ?_, hq, hf, h'.own, h'.box, h'.low⟩
  have h1 := ha x hx
  have h2 := h.size
  refine ⟨by omega, fun e => ?_⟩
  have := (h.own.lt _ e).2
  omega
theorem VarC.drop (h : VarC w wr a n v g p) {a' : Option Addr} {n' : Nat} (k : Below wr.heap.size wr u) (ha : ∀ x, a' = some x → wr.heap.size ≤ x.block) : VarC w u a' n' v g p :=
  ⟨h.1.below k, h.2.1, h.2.2.1, fun _ x hx => by have := ha x hx; have := h.1.lt; omega⟩
/-- One is settled. -/
theorem RunC.add (h : RunC w wr y b a n c l v d) (hu : Below wr.heap.size wr u) (p : P7) {v' : Value} {w' : World} (ho : w'.ownsRow (w.heap.size + 2) 31 7 v' (d.length + 1) (payL (d ++ [p]))) (k : u.grownBy w' v.ownBlock) (hv : v'.ownBlock = v.ownBlock ∨ v'.ownBlock = some u.heap.size) : RunC w w' y b a n c l v' (d ++ [p]) := by
  have h' := h.below hu
  have hc := own_cells h'.own
  have hbk : NewBk w' (w.heap.size + 2) y b := h'.bk.turn fun g0 cs T f hB hg hT => k.block g0 (lt_of_block hg) fun e => by
    obtain ⟨_, cs', f', he⟩ := hc g0 e.symm
    rw [hg] at he
    simp at he
    exact hT he.2.1
  have hrow : PGood w' a n c l := h'.row.turn fun x hx hn => k.block _ (h'.lt hn x hx) fun e => (h'.off hn x hx).2 e.symm
  have hoff : 0 < n → ∀ x, a = some x → w.heap.size + 2 ≤ x.block ∧ v'.ownBlock ≠ some x.block := fun hn x hx => by
    refine ⟨(h'.off hn x hx).1, ?_⟩
    rcases hv with hv | hv
    · rw [hv]; exact (h'.off hn x hx).2
    · rw [hv]
      intro e
      have := h'.lt hn x hx
      simp at e
      omega
  have hbox : BVar w' (w.heap.size + 1) y := (k.block _ h'.box.lt fun e => by have := (hc _ e.symm).1; omega).trans h'.box
  exact ⟨hbk, h'.good, hrow, hoff, h'.que, h'.fr, by rw [List.length_append]; exact ho, hbox, h'.low.grown k (by have := h'.low.size; omega) fun j hj => by have := (hc j hj).1; omega⟩
theorem VarC.add (h : VarC w u a n v g p) {v' : Value} {w' : World} (k : u.grownBy w' v.ownBlock) (hv : v'.ownBlock = v.ownBlock ∨ v'.ownBlock = some u.heap.size) : VarC w w' a n v' g p := by
  refine ⟨?_, h.2.1, ?_, h.2.2.2⟩
  · unfold PBox
    rw [k.block _ h.1.lt fun e => h.2.2.1 e.symm]
    exact h.1
  · rcases hv with hv | hv
    · rw [hv]; exact h.2.2.1
    · rw [hv]
      intro e
      have := h.1.lt
      simp at e
      omega
/-- A new variable. -/
theorem RunC.var (h : RunC w u y b a n c l v d) (p : P7) : RunC w (u.alloc (.cells #[.int .i64 p.id, .int .i64 p.fr, .int .i64 p.to, .int .i64 p.am, .int .i64 p.cl, .int .i64 p.st, .int .i64 p.ti] 31)) y b a n c l v d ∧ VarC w (u.alloc (.cells #[.int .i64 p.id, .int .i64 p.fr, .int .i64 p.to, .int .i64 p.am, .int .i64 p.cl, .int .i64 p.st, .int .i64 p.ti] 31)) a n v u.heap.size p :=
  ⟨h.below (box_below _ _), PBox.new u p, h.size, fun e => by have := (h.own.lt _ e).2; omega, fun hn x hx => by have := h.lt hn x hx; omega⟩
/-- Another payment is laid into it. -/
theorem RunC.set (h : RunC w wr y b a n c l v d) (hv : VarC w wr a n v g p) (q : P7) : RunC w (wr.setRow g #[.int .i64 q.id, .int .i64 q.fr, .int .i64 q.to, .int .i64 q.am, .int .i64 q.cl, .int .i64 q.st, .int .i64 q.ti]) y b a n c l v d ∧ VarC w (wr.setRow g #[.int .i64 q.id, .int .i64 q.fr, .int .i64 q.to, .int .i64 q.am, .int .i64 q.cl, .int .i64 q.st, .int .i64 q.ti]) a n v g q := by
  obtain ⟨hp, h2, h3, h4⟩ := hv
  refine ⟨⟨h.bk.turn fun g0 cs T f hB hg hT => setRow_other wr g g0 _ fun e => ?_, h.good, h.row.turn fun x hx hn => setRow_other wr g x.block _ (h4 hn x hx), h.off, h.que, h.fr, own_turn h.own fun j hj => setRow_other wr g j _ (fun e => h3 (by rw [← e]; exact hj)), h.box.far (by omega) _, Below.setRow h.low (by omega) _⟩, hp.set q, h2, h3, h4⟩
  subst e
  unfold PBox at hp
  rw [hg] at hp
  simp at hp
  exact hT hp.2.1
/-- At its end what it answers is laid out. -/
theorem RunC.end (h : RunC w wr y b a n c l v d) : RunC w (wr.setRow (w.heap.size + 1) #[.slice y.aA y.nA y.cA, .slice y.aB y.nB y.cB, .slice y.aM y.nM y.cM, .slice y.aP y.nP y.cP]) y b a n c l v d := h.put h.bk (Nat.le_refl _) h.good
theorem RunC.free (h : RunC w wr y b a n c l v d) (h40 : d.length ≤ 40) : ∃ ad cd, v = .slice ad d.length cd ∧ FreeEnd w (b, l, d) (.returned (.tuple #[y.val, .slice a n c, .slice ad d.length cd])) wr := by
  obtain ⟨ad, cd, h1, h2, _⟩ := PGood.own h.own
  exact ⟨ad, cd, h1, y, a, n, c, ad, d.length, cd, rfl, h.bk.bk, h.good, h.row, h.que, h2, h40, h.low⟩
end


end Go.Proofs.Ytajmbcbochjfmaa
