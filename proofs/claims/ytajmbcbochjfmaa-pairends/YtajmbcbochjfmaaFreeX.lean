/-
  What FreeEnds holds: books in a variable of its own, a row.
-/
import Derived.Test.YtajmbcbochjfmaaFreeSt
import Derived.Test.YtajmbcbochjfmaaFreeRef
import Derived.Test.YtajmbcbochjfmaaPostAll
namespace Go.Proofs.Ytajmbcbochjfmaa
open Go.RowKit
set_option linter.unusedVariables false
set_option linter.unusedSimpArgs false

/-- Payments are of no variable for books. -/
theorem PGood.farV {w : World} {a : Option Addr} {n c z : Nat} {L : List P7} {k : BA} (h : PGood w a n c L) (hz : BVar w z k) (cs : Array Value) : PGood (w.setRow z cs) a n c L := h.turn fun x hx hn => setRow_other w z x.block _ fun e => by
  obtain ⟨b1, o1, ha1, hc1⟩ := h.at hn
  have hx2 := ha1.symm.trans hx
  simp at hx2
  rw [← hx2] at e
  have e : b1 = z := e
  subst e
  have h0 := (hc1 0 hn).1
  rw [cell_of_row w b1 _ _ _ _ hz] at h0
  have hi : o1 + 0 * 7 < 4 := by
    have := (Array.getElem?_eq_some_iff.1 h0).1
    simpa using this
  obtain ⟨i, hi2⟩ : ∃ i, o1 + 0 * 7 = i := ⟨_, rfl⟩
  rw [hi2] at h0 hi
  rcases (by omega : i = 0 ∨ i = 1 ∨ i = 2 ∨ i = 3) with rfl | rfl | rfl | rfl <;> (simp at h0)
/-- Books that a call made are of no variable for books. -/
theorem NewBk.turnT {w w' : World} {B : Nat} {y : BA} {b : Bks} (h : NewBk w B y b) (k : ∀ g cs T f, B ≤ g → w.heap[g]? = some (.cells cs T f) → T ≠ 27 → w'.heap[g]? = w.heap[g]?) : NewBk w' B y b := by
  have key : ∀ {t : TypeId} {s' n' : Nat} {v' : Value} {xs' : List Value}, w.ownsRow B t s' v' n' xs' → t ≠ 27 → w'.ownsRow B t s' v' n' xs' := fun ho ht => by
    refine ⟨ho.1, ?_⟩
    rcases ho.2 with h0 | ⟨g, cap, cur, hv, hb, hg, rest⟩
    · exact .inl h0
    · exact .inr ⟨g, cap, cur, hv, hb, (k g _ _ _ hb hg ht).trans hg, rest⟩
  have mk : ∀ {v : Value} {vs : List Value} {R : List (List Int)}, MadeI w B v vs R → MadeI w' B v vs R := fun hm => ⟨key hm.own (by decide), fun i hi => key (hm.row i hi) (by decide), hm.spine, hm.rows, hm.bs⟩
  exact ⟨key h.acc (by decide), h.bil.imp fun _ h => mk h, key h.mul (by decide), h.pos.imp fun _ h => mk h, h.wf⟩
theorem NewBk.far {w : World} {B z : Nat} {y k : BA} {b : Bks} (h : NewBk w B y b) (hz : BVar w z k) (cs : Array Value) : NewBk (w.setRow z cs) B y b := h.turnT fun g cs' T f hB hg hT => setRow_other w z g _ fun e => by
  subst e
  unfold BVar at hz
  rw [hg] at hz
  simp at hz
  exact hT hz.2.1

/-- Since w5: books in the variable that came then, a row. -/
structure XSt (w5 wr : World) (y : BA) (b : Bks) (a : Option Addr) (n c : Nat) (l : List P7) : Prop where
  bk : Bk w5 y b ∨ NewBk wr w5.heap.size y b
  good : Good b
  row : PGood wr a n c l
  que : Que l
  box : BVar wr w5.heap.size y
  low : Below w5.heap.size w5 wr
section
variable {w5 wr u : World} {y : BA} {b : Bks} {a : Option Addr} {n c : Nat} {l : List P7}
theorem XSt.bks (h : XSt w5 wr y b a n c l) : Bk wr y b := by
  rcases h.bk with h1 | h1
  · exact h1.below h.low
  · exact h1.bk
theorem XSt.below (h : XSt w5 wr y b a n c l) (k : Below wr.heap.size wr u) : XSt w5 u y b a n c l :=
  ⟨h.bk.imp (fun h => h) (fun h => h.below k), h.good, h.row.below k, h.que, h.box.below k, h.low.trans (k.mono h.low.size)⟩
theorem XSt.step (h : XSt w5 wr y b a n c l) {y' : BA} {b' : Bks} {a' : Option Addr} {n' c' : Nat} {l' : List P7} (k : Below wr.heap.size wr u) (hn : NewBk u w5.heap.size y' b') (g : Good b') (hr : PGood u a' n' c' l') (hq : Que l') :
    XSt w5 (u.setRow w5.heap.size #[.slice y'.aA y'.nA y'.cA, .slice y'.aB y'.nB y'.cB, .slice y'.aM y'.nM y'.cM, .slice y'.aP y'.nP y'.cP]) y' b' a' n' c' l' := by
  have h' := h.below k
  exact ⟨.inr (hn.far h'.box _), g, hr.farV h'.box _, hq, h'.box.set y', Below.setRow h'.low (Nat.le_refl _) _⟩
theorem XSt.new (hk : Bk w5 y b) (g : Good b) (h : PGood w5 a n c l) (hq : Que l) : XSt w5 (w5.alloc (.cells #[.slice y.aA y.nA y.cA, .slice y.aB y.nB y.cB, .slice y.aM y.nM y.cM, .slice y.aP y.nP y.cP] 27)) y b a n c l :=
  ⟨.inl hk, g, h.below (box_below _ _), hq, BVar.new w5 y, box_below _ _⟩
end

/-- Facts: what Post answered, where there is no error; its books. -/
def Fact.rp (B : Nat) (Q : Bks) : Fact := ⟨fun w v => ∃ y : BA, v = .tuple #[y.val, .int .i64 0] ∧ NewBk w B y Q, fun _ _ _ hb ⟨y, h1, h2⟩ => ⟨y, h1, h2.below hb⟩⟩
def Fact.nb (B : Nat) (Q : Bks) : Fact := ⟨fun w v => ∃ y : BA, v = y.val ∧ NewBk w B y Q, fun _ _ _ hb ⟨y, h1, h2⟩ => ⟨y, h1, h2.below hb⟩⟩
theorem rp_fact {B : Nat} {f : FuncId} {args : Array Value} {w : World} {b : Bks} {L : List P7} (hB : B ≤ w.heap.size) (he : postE b L = 0) (h : Calls Try.prog f args w (RefPostNew w b L)) : Calls Try.prog f args w fun e w' => ∃ v, e = .returned v ∧ Below w.heap.size w w' ∧ (Fact.rp B (postR b L)).1 w' v :=
  h.mono fun e w' ⟨y, h1, _, h3, h4⟩ => ⟨_, h1, h4, y, by rw [he], (h3 he).base hB⟩

/-- The steps, one by one. -/
theorem run_steps (b : Bks) (l : List P7) (t : Int) : endB b (runF b l t).2.2 = (runF b l t).1 ∧ endL l (runF b l t).2.2 = (runF b l t).2.1 ∧ stepsOk b l t (runF b l t).2.2 := by
  obtain ⟨d, e, s⟩ := runA_steps l.length b l t [] rfl
  have e : runF b l t = (endB b d, endL l d, d) := by unfold runF; rw [e, List.nil_append]
  rw [e]
  exact ⟨rfl, rfl, s⟩
theorem find_may {l : List P7} {t : Int} {p : P7} (h : p ∈ vMay l t) : decide (qFind (vMay l t) p.id < 0) = false := by
  rw [qFind_neg, has_iff.2 ⟨p, h, rfl⟩]
  rfl

end Go.Proofs.Ytajmbcbochjfmaa
