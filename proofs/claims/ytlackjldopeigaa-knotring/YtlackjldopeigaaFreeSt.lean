/-
  What a call holds that settles one by one: books in a variable, a row, what was settled so far.
-/
import Derived.Test.YtlackjldopeigaaFreeSpec
import Derived.Test.YtlackjldopeigaaPostAll
import Derived.Test.YtlackjldopeigaaRowRefs
import Derived.Test.YtlackjldopeigaaViewAll
import Derived.Maps.AppendAt
namespace Go.Proofs.Ytlackjldopeigaa
open Go.RowKit
set_option linter.unusedVariables false
set_option linter.unusedSimpArgs false

theorem run_append_pays_at {w : World} (ty : TypeId) (base : Nat) (v : Value) (n : Nat) (xs : List P7) (hown : w.ownsRow base 51 7 v n (payL xs)) (ad : Addr) (m c : Nat) (ys : List P7) (hS : PGood w (some ad) m c ys) (h63 : n + m ≤ 1000000) (hbase : base ≤ w.heap.size) :
    ∃ v' w', (Builtin.append_ #[23, 23] ty #[v, .slice (some ad) m c]).run Try.prog w = .ok v' w' ∧ w'.ownsRow base 51 7 v' (n + m) (payL (xs ++ ys)) ∧ w.grownBy w' v.ownBlock ∧ (v'.ownBlock = v.ownBlock ∨ v'.ownBlock = some w.heap.size) := by
  obtain ⟨i, hi, hz, hs, hby⟩ := payInfo
  have hl := hS.pays.1
  obtain ⟨v', w', hr, h1, h2, _, h4⟩ := run_append_own_at (P := Try.prog) w base 23 ty 51 i _ 7 56 Try.underlying23 hi hz hs hby rfl (by decide) v n _ hown ad m c (payL ys) (by rw [payL_length]; omega) hS.pays.src (payL_one ys) (by unfold maxLen; omega) (by omega) hbase
  exact ⟨v', w', hr, by rw [payL_append]; exact h1, h2, h4⟩
theorem wpList_append_pays_at {w : World} {ops : Array Oper} {rest : List Oper} {o : Oper} {a : Act} {Q : Exit → Act → World → Prop} (hgd : o.guard = none) (s x : Operand)
    (ho : o.op = .call { callee := .builtin .append, args := #[s, x], argTypes := #[23, 23] })
    (base : Nat) (v : Value) (n : Nat) (xs : List P7) (hs : a.eval s = v) (hown : w.ownsRow base 51 7 v n (payL xs)) (ad : Addr) (m c : Nat) (ys : List P7) (hx : a.eval x = .slice (some ad) m c) (hS : PGood w (some ad) m c ys) (h63 : n + m ≤ 1000000) (hbase : base ≤ w.heap.size)
    (h : ∀ v' w', w'.ownsRow base 51 7 v' (n + m) (payL (xs ++ ys)) → w.grownBy w' v.ownBlock → (v'.ownBlock = v.ownBlock ∨ v'.ownBlock = some w.heap.size) → wpList Try.prog ops Q rest (a.put o.dst v') w') : wpList Try.prog ops Q (o :: rest) a w := by
  refine wpList_plain hgd fun K hK => ?_
  obtain ⟨v', w', hrun, h1, h2, h4⟩ := run_append_pays_at o.type base v n xs hown ad m c ys hS h63 hbase
  unfold Oper.wp execOp
  simp only [ho, resolve, invoke, builtin, Sem.run_bind, Sem.run_pure, Result.andThen_ok, List.map_toArray, List.map_cons, List.map_nil, hs, hx, hrun]
  exact hK _ _ (h v' w' h1 h2 h4)

/-- Payments whose block, if there are any, is not what turned. -/
theorem PGood.turn {w w' : World} {a : Option Addr} {n c : Nat} {L : List P7} (h : PGood w a n c L) (k : ∀ x, a = some x → 0 < n → w'.heap[x.block]? = w.heap[x.block]?) : PGood w' a n c L := by
  refine ⟨⟨h.pays.1, ?_⟩, h.cap, h.max, h.nil0⟩
  rcases h.pays.2 with h0 | ⟨b, off, ha, hc⟩
  · exact .inl h0
  · refine .inr ⟨b, off, ha, fun i hi => At7.of fun j hj => ?_⟩
    have hb := k _ ha (by have := h.pays.1; omega)
    have hb : w'.heap[b]? = w.heap[b]? := hb
    obtain ⟨c0, c1, c2, c3, c4, c5, c6⟩ := hc i hi
    have key : ∀ o, w'.cell? ⟨b, o, none⟩ = w.cell? ⟨b, o, none⟩ := fun o => by unfold World.cell?; rw [hb]
    rw [key]
    rcases (by omega : j = 0 ∨ j = 1 ∨ j = 2 ∨ j = 3 ∨ j = 4 ∨ j = 5 ∨ j = 6) with rfl | rfl | rfl | rfl | rfl | rfl | rfl
    · exact c0
    · exact c1
    · exact c2
    · exact c3
    · exact c4
    · exact c5
    · exact c6
/-- Books that a call made stay where no block of theirs turned; theirs are of no payments, and no variables. -/
theorem NewBk.turn {w w' : World} {B : Nat} {y : BA} {b : Bks} (h : NewBk w B y b) (k : ∀ g cs T f, B ≤ g → w.heap[g]? = some (.cells cs T f) → T ≠ 51 → w'.heap[g]? = w.heap[g]?) : NewBk w' B y b := by
  have key : ∀ {t : TypeId} {s' n' : Nat} {v' : Value} {xs' : List Value}, w.ownsRow B t s' v' n' xs' → t ≠ 51 → w'.ownsRow B t s' v' n' xs' := fun ho ht => by
    refine ⟨ho.1, ?_⟩
    rcases ho.2 with h0 | ⟨g, cap, cur, hv, hb, hg, rest⟩
    · exact .inl h0
    · exact .inr ⟨g, cap, cur, hv, hb, (k g _ _ _ hb hg ht).trans hg, rest⟩
  have mk : ∀ {v : Value} {vs : List Value} {R : List (List Int)}, MadeI w B v vs R → MadeI w' B v vs R := fun hm => ⟨key hm.own (by decide), fun i hi => key (hm.row i hi) (by decide), hm.spine, hm.rows, hm.bs⟩
  exact ⟨key h.acc (by decide), h.bil.imp fun _ h => mk h, key h.mul (by decide), h.pos.imp fun _ h => mk h, h.wf⟩

/-- A variable for books. -/
def varB (k : BA) : Array Value := #[.slice k.aA k.nA k.cA, .slice k.aB k.nB k.cB, .slice k.aM k.nM k.cM, .slice k.aP k.nP k.cP]
def BVar (w : World) (z : Nat) (k : BA) : Prop := w.heap[z]? = some (.cells #[.slice k.aA k.nA k.cA, .slice k.aB k.nB k.cB, .slice k.aM k.nM k.cM, .slice k.aP k.nP k.cP] 27 (0, 0))
def ba0 : BA := ⟨none, 0, 0, none, 0, 0, none, 0, 0, none, 0, 0⟩
theorem BVar.box {w : World} {z : Nat} {k : BA} (h : BVar w z k) : Box4 w z k := ⟨cell_of_row w z 0 _ _ _ h, cell_of_row w z 1 _ _ _ h, cell_of_row w z 2 _ _ _ h, cell_of_row w z 3 _ _ _ h⟩
theorem BVar.lt {w : World} {z : Nat} {k : BA} (h : BVar w z k) : z < w.heap.size := lt_of_block h
theorem BVar.below {w w' : World} {z : Nat} {k : BA} (h : BVar w z k) (hb : Below w.heap.size w w') : BVar w' z k := (hb.block z h.lt).trans h
theorem BVar.set {w : World} {z : Nat} {k : BA} (h : BVar w z k) (y : BA) : BVar (w.setRow z #[.slice y.aA y.nA y.cA, .slice y.aB y.nB y.cB, .slice y.aM y.nM y.cM, .slice y.aP y.nP y.cP]) z y := setRow_heap w z _ _ _ _ h
theorem BVar.far {w : World} {z g : Nat} {k : BA} (h : BVar w z k) (hg : z ≠ g) (cs : Array Value) : BVar (w.setRow g cs) z k := by unfold BVar; rw [setRow_other _ _ _ _ hg]; exact h
theorem BVar.new (w : World) (k : BA) : BVar (w.alloc (.cells #[.slice k.aA k.nA k.cA, .slice k.aB k.nB k.cB, .slice k.aM k.nM k.cM, .slice k.aP k.nP k.cP] 27)) w.heap.size k := heap_alloc_new w _

/-- In a call of w: books in the variable at its first block, a result's variable behind it; a row; what was settled. -/
structure RunSt (w wr : World) (y : BA) (b : Bks) (a : Option Addr) (n c : Nat) (l : List P7) (v : Value) (d : List P7) : Prop where
  bk : Bk w y b ∨ NewBk wr (w.heap.size + 2) y b
  good : Good b
  row : PGood wr a n c l
  off : 0 < n → ∀ x, a = some x → (x.block < w.heap.size ∨ w.heap.size + 2 ≤ x.block) ∧ v.ownBlock ≠ some x.block
  que : Que l
  own : wr.ownsRow (w.heap.size + 2) 51 7 v d.length (payL d)
  box : BVar wr w.heap.size y
  res : BVar wr (w.heap.size + 1) ba0
  low : Below w.heap.size w wr

section
variable {w wr u : World} {y : BA} {b : Bks} {a : Option Addr} {n c : Nat} {l d : List P7} {v : Value}
theorem RunSt.bks (h : RunSt w wr y b a n c l v d) : Bk wr y b := by
  rcases h.bk with h1 | h1
  · exact h1.below h.low
  · exact h1.bk
theorem RunSt.size (h : RunSt w wr y b a n c l v d) : w.heap.size + 2 ≤ wr.heap.size := h.res.lt
theorem RunSt.below (h : RunSt w wr y b a n c l v d) (k : Below wr.heap.size wr u) : RunSt w u y b a n c l v d :=
  ⟨h.bk.imp (fun h => h) (fun h => h.below k), h.good, h.row.below k, h.off, h.que, own_below h.own k, h.box.below k, h.res.below k, h.low.trans (k.mono h.low.size)⟩
/-- Other books are laid into the variable. -/
theorem RunSt.put (h : RunSt w wr y b a n c l v d) {y' : BA} {b' : Bks} {B : Nat} (hn : NewBk wr B y' b') (hB : w.heap.size + 2 ≤ B) (g : Good b') : RunSt w (wr.setRow w.heap.size #[.slice y'.aA y'.nA y'.cA, .slice y'.aB y'.nB y'.cB, .slice y'.aM y'.nM y'.cM, .slice y'.aP y'.nP y'.cP]) y' b' a n c l v d :=
  ⟨.inr ((hn.kept fun k hk => setRow_other wr w.heap.size k _ (by have hk : B ≤ k := hk; omega)).base hB), g, h.row.turn fun x hx hn => setRow_other wr w.heap.size x.block _ (by have := (h.off hn x hx).1; omega), h.off, h.que,
    own_kept h.own fun k hk => setRow_other wr w.heap.size k _ (by have hk : w.heap.size + 2 ≤ k := hk; omega), h.box.set y', h.res.far (by omega) _, Below.setRow h.low (Nat.le_refl _) _⟩
/-- One is dropped. -/
theorem RunSt.drop (h : RunSt w wr y b a n c l v d) (hn : 0 < n) {a' : Option Addr} {n' c' : Nat} {l' : List P7} (k : Below wr.heap.size wr u) (hg : PGood u a' n' c' l') (ha : a' = a ∨ ∀ x, a' = some x → wr.heap.size ≤ x.block) (hq : Que l') : RunSt w u y b a' n' c' l' v d := by
  have h' := h.below k
  refine ⟨h'.bk, h'.good, hg, fun _ x hx => ?_, hq, h'.own, h'.box, h'.res, h'.low⟩
  rcases ha with rfl | ha
  · exact h.off hn x hx
  · have h1 := ha x hx
    have h2 := h.size
    refine ⟨.inr (by omega), fun e => ?_⟩
    have := (h.own.lt _ e).2
    omega
/-- One is settled. -/
theorem RunSt.add (h : RunSt w wr y b a n c l v d) (hu : Below wr.heap.size wr u) (p : P7) {v' : Value} {w' : World} (ho : w'.ownsRow (w.heap.size + 2) 51 7 v' (d.length + 1) (payL (d ++ [p]))) (g : u.grownBy w' v.ownBlock) (hv : v'.ownBlock = v.ownBlock ∨ v'.ownBlock = some u.heap.size) : RunSt w w' y b a n c l v' (d ++ [p]) := by
  have h' := h.below hu
  have hlo : ∀ j, v.ownBlock = some j → w.heap.size + 2 ≤ j := fun j hj => (h'.own.lt j hj).1
  have hty : ∀ j, v.ownBlock = some j → ∃ cs f, u.heap[j]? = some (.cells cs 51 f) := fun j hj => by
    rcases h'.own.2 with ⟨hv0, _⟩ | ⟨g0, cap, cur, hv0, _, hg0, _⟩
    · rw [hv0] at hj; cases hj
    · rw [hv0] at hj
      have : g0 = j := by simpa [Value.ownBlock] using hj
      subst this
      exact ⟨_, _, hg0⟩
  have at0 : 0 < n → ∀ x, a = some x → x.block < u.heap.size := fun hn x hx => by
    obtain ⟨b1, o1, ha1, hc1⟩ := h'.row.at hn
    have hx2 := ha1.symm.trans hx
    simp at hx2
    rw [← hx2]
    exact block_lt_of_cell (hc1 0 hn).1
  have hbk : Bk w y b ∨ NewBk w' (w.heap.size + 2) y b := by
    rcases h'.bk with h1 | h1
    · exact .inl h1
    · refine .inr (h1.turn fun g0 cs T f hB hg hT => g.block g0 (lt_of_block hg) fun e => ?_)
      obtain ⟨cs', f', he⟩ := hty g0 e.symm
      rw [hg] at he
      simp at he
      exact hT he.2.1
  have hrow : PGood w' a n c l := h'.row.turn fun x hx hn => g.block _ (at0 hn x hx) fun e => (h'.off hn x hx).2 e.symm
  have hoff : 0 < n → ∀ x, a = some x → (x.block < w.heap.size ∨ w.heap.size + 2 ≤ x.block) ∧ v'.ownBlock ≠ some x.block := fun hn x hx => by
    refine ⟨(h'.off hn x hx).1, ?_⟩
    rcases hv with hv | hv
    · rw [hv]; exact (h'.off hn x hx).2
    · rw [hv]
      intro e
      have := at0 hn x hx
      simp at e
      omega
  have hbox : BVar w' w.heap.size y := (g.block _ h'.box.lt fun e => by have := hlo _ e.symm; omega).trans h'.box
  have hres : BVar w' (w.heap.size + 1) ba0 := (g.block _ h'.res.lt fun e => by have := hlo _ e.symm; omega).trans h'.res
  exact ⟨hbk, h'.good, hrow, hoff, h'.que, by rw [List.length_append]; exact ho, hbox, hres, h'.low.grown g (by have := h'.low.size; omega) fun j hj => by have := hlo j hj; omega⟩
/-- At its end what it answers is laid out. -/
theorem RunSt.end (h : RunSt w wr y b a n c l v d) (cs : Array Value) : Bk (wr.setRow (w.heap.size + 1) cs) y b ∧ PGood (wr.setRow (w.heap.size + 1) cs) a n c l ∧ (∃ ad cd, v = .slice ad d.length cd ∧ PGood (wr.setRow (w.heap.size + 1) cs) ad d.length cd d) ∧ Below w.heap.size w (wr.setRow (w.heap.size + 1) cs) := by
  have hb : Below w.heap.size w (wr.setRow (w.heap.size + 1) cs) := Below.setRow h.low (by omega) _
  refine ⟨?_, h.row.turn fun x hx hn => setRow_other wr (w.heap.size + 1) x.block _ (by have := (h.off hn x hx).1; omega), ?_, hb⟩
  · rcases h.bk with h1 | h1
    · exact h1.below hb
    · exact (h1.kept fun k hk => setRow_other wr (w.heap.size + 1) k _ (by have hk : w.heap.size + 2 ≤ k := hk; omega)).bk
  · obtain ⟨ad, cd, h1, h2, _⟩ := PGood.own (own_kept h.own (w' := wr.setRow (w.heap.size + 1) cs) fun k hk => setRow_other wr (w.heap.size + 1) k _ (by have hk : w.heap.size + 2 ≤ k := hk; omega))
    exact ⟨ad, cd, h1, h2⟩
/-- At its begin. -/
theorem RunSt.new {x : BA} (hk : Bk w x b) (g : Good b) (h : PGood w a n c l) (hq : Que l) : RunSt w ((w.alloc (.cells #[.slice x.aA x.nA x.cA, .slice x.aB x.nB x.cB, .slice x.aM x.nM x.cM, .slice x.aP x.nP x.cP] 27)).alloc (.cells #[.slice none 0 0, .slice none 0 0, .slice none 0 0, .slice none 0 0] 27)) x b a n c l (.slice none 0 0) [] := by
  have hb : Below w.heap.size w ((w.alloc (.cells #[.slice x.aA x.nA x.cA, .slice x.aB x.nB x.cB, .slice x.aM x.nM x.cM, .slice x.aP x.nP x.cP] 27)).alloc (.cells #[.slice none 0 0, .slice none 0 0, .slice none 0 0, .slice none 0 0] 27)) := (box_below _ _).alloc (box_below _ _).size _
  refine ⟨.inl hk, g, h.below hb, fun hn y hy => ⟨.inl ?_, by simp [Value.ownBlock]⟩, hq, World.ownsRow_nil _ _ _ _, (BVar.new w x).below (box_below _ _), ?_, hb⟩
  · obtain ⟨b1, o1, ha1, hc1⟩ := h.at hn
    have hx2 := ha1.symm.trans hy
    simp at hx2
    have hyb : y.block = b1 := by rw [← hx2]
    rw [hyb]
    exact block_lt_of_cell (hc1 0 hn).1
  · have := BVar.new (w.alloc (.cells #[.slice x.aA x.nA x.cA, .slice x.aB x.nB x.cB, .slice x.aM x.nM x.cM, .slice x.aP x.nP x.cP] 27)) ba0
    rw [size_alloc] at this
    exact this
end

/-- What Run leaves. -/
def FreeEnd (w : World) (R : Bks × List P7 × List P7) (e : Ending) (w' : World) : Prop := ∃ (y : BA) (a : Option Addr) (n c : Nat) (a2 : Option Addr) (n2 c2 : Nat), e = .returned (.tuple #[y.val, .slice a n c, .slice a2 n2 c2]) ∧ Bk w' y R.1 ∧ Good R.1 ∧ PGood w' a n c R.2.1 ∧ Que R.2.1 ∧ PGood w' a2 n2 c2 R.2.2 ∧ R.2.2.length ≤ 40 ∧ Below w.heap.size w w'

end Go.Proofs.Ytlackjldopeigaa
