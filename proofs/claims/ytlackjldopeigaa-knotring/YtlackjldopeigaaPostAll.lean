/-
  Texts of this seat in one: CopyApart, PostSpec, PostLay, PostMove, PostStep, PostDo, PostRef.
-/
import Derived.Test.YtlackjldopeigaaLimTwo
import Derived.Test.YtlackjldopeigaaLimSome
import Derived.Test.YtlackjldopeigaaRowBase
import Derived.Test.YtlackjldopeigaaFitsAll
import Derived.Deep.AppendLies
import Derived.Test.YtlackjldopeigaaLimOne
import Derived.BigQuiet
import Derived.Test.YtlackjldopeigaaFitsRefAll

/-
  lim.Copy and giroref10.Copy: books in new memory, the positions apart from all else.
-/
namespace Go.Proofs.Ytlackjldopeigaa
open Go.RowKit
set_option linter.unusedVariables false
set_option linter.unusedSimpArgs false

/-- A slice's block is below S. -/
def Low (S : Nat) (v : Value) : Prop := ∀ g, v.ownBlock = some g → g < S
theorem Low.own {w : World} {B s n : Nat} {T : TypeId} {v : Value} {xs : List Value} (h : w.ownsRow B T s v n xs) : Low w.heap.size v := fun g hg => (h.lt g hg).2
/-- Books that lie in blocks from B on, made by the call; the positions from S on, all else below S. -/
structure NewBkA (w : World) (B S : Nat) (x : BA) (b : Bks) : Prop where
  acc : w.ownsRow B 53 3 (.slice x.aA x.nA x.cA) b.A.length (accL b.A)
  bil : ∃ vs, MadeI w B (.slice x.aB x.nB x.cB) vs b.B ∧ Low S (.slice x.aB x.nB x.cB) ∧ ∀ i, i < b.B.length → Low S (vs.getD i undef)
  mul : w.ownsRow B 2 1 (.slice x.aM x.nM x.cM) b.M.length (b.M.map (Value.int .i64))
  pos : ∃ vs, MadeI w S (.slice x.aP x.nP x.cP) vs b.P
  lowA : Low S (.slice x.aA x.nA x.cA)
  lowM : Low S (.slice x.aM x.nM x.cM)
  up : B ≤ S
  wf : W64 b.M
theorem NewBkA.new {w : World} {B S : Nat} {x : BA} {b : Bks} (h : NewBkA w B S x b) : NewBk w B x b :=
  ⟨h.acc, h.bil.imp fun _ h => h.1, h.mul, h.pos.imp fun _ k => k.base h.up, h.wf⟩
theorem NewBkA.below {w w' : World} {B S : Nat} {x : BA} {b : Bks} (h : NewBkA w B S x b) (k : Below w.heap.size w w') : NewBkA w' B S x b :=
  ⟨own_below h.acc k, h.bil.imp fun _ h => ⟨h.1.below k, h.2⟩, own_below h.mul k, h.pos.imp fun _ h => h.below k, h.lowA, h.lowM, h.up, h.wf⟩
theorem NewBkA.kept {w w' : World} {B S : Nat} {x : BA} {b : Bks} (h : NewBkA w B S x b) (k : Kept (fun n => B ≤ n) w w') : NewBkA w' B S x b :=
  ⟨own_kept h.acc k, h.bil.imp fun _ h => ⟨h.1.kept k, h.2⟩, own_kept h.mul k, h.pos.imp fun _ p => p.kept (fun i hi => k i (Nat.le_trans h.up hi)), h.lowA, h.lowM, h.up, h.wf⟩
theorem NewBkA.base {w : World} {B B' S : Nat} {x : BA} {b : Bks} (h : NewBkA w B S x b) (k : B' ≤ B) : NewBkA w B' S x b :=
  ⟨own_base h.acc k, h.bil.imp fun _ h => ⟨h.1.base k, h.2⟩, own_base h.mul k, h.pos, h.lowA, h.lowM, Nat.le_trans k h.up, h.wf⟩
/-- What a copy of books leaves. -/
def BooksEndA (w : World) (b : Bks) (e : Ending) (w' : World) : Prop := ∃ (y : BA) (S : Nat), e = .returned y.val ∧ NewBkA w' w.heap.size S y b ∧ Below w.heap.size w w'
theorem BooksEndA.low {w : World} {b : Bks} {e : Ending} {w' : World} (h : BooksEndA w b e w') : BooksEnd w b e w' := by
  obtain ⟨y, S, h1, h2, h3⟩ := h
  exact ⟨y, h1, h2.new, h3⟩

/-- Three slices, and the positions behind them, are books. -/
theorem books_apart {w w4 : World} {B nA nM : Nat} {b : Bks} {v0 v1 v2 v3 : Value} {vs : List Value} (wf : W64 b.M) (lA : nA = b.A.length) (lM : nM = b.M.length) (h0 : (Fact.ownR B 53 3 nA (accL b.A)).1 w v0) (h1 : (Fact.rows64 B b.B).1 w v1) (h2 : (Fact.ownR B 2 1 nM (b.M.map (Value.int .i64))).1 w v2)
    (hB : B ≤ w.heap.size) (h3 : MadeI w4 w.heap.size v3 vs b.P) (hb : Below w.heap.size w w4) :
    ∃ x : BA, v0 = .slice x.aA x.nA x.cA ∧ v1 = .slice x.aB x.nB x.cB ∧ v2 = .slice x.aM x.nM x.cM ∧ v3 = .slice x.aP x.nP x.cP ∧ NewBkA w4 B w.heap.size x b := by
  subst lA lM
  obtain ⟨vb, h1⟩ := h1
  obtain ⟨aA, cA, rfl⟩ := own_slice h0
  obtain ⟨aB, cB, rfl⟩ := own_slice h1.own
  obtain ⟨aM, cM, rfl⟩ := own_slice h2
  obtain ⟨aP, cP, rfl⟩ := own_slice h3.own
  exact ⟨⟨aA, _, cA, aB, _, cB, aM, _, cM, aP, _, cP⟩, rfl, rfl, rfl, rfl, ⟨own_below h0 hb, ⟨vb, h1.below hb, Low.own h1.own, fun i hi => Low.own (h1.row i hi)⟩, own_below h2 hb, ⟨vs, h3⟩, Low.own h0, Low.own h2, hB, wf⟩⟩

/-- A call among the last ones; an operation that only reads. -/
theorem wp_call {P : Program} {o : Oper} {a : Act} {w : World} {K : Act → World → Prop} {Q : Exit → Act → World → Prop} (f : FuncId) {fn : Func} (hfn : P.funcs[f]? = some fn) (hname : (fn.name == "runtime.NumGoroutine") = false) (hbody : fn.body.isNone = false) (xs : List Operand) (ts : Array TypeId) (ho : o.op = .call { callee := .value (.func f), args := xs.toArray, argTypes := ts })
    (h : Calls P f (xs.map a.eval).toArray w fun e w' => ∃ v, e = .returned v ∧ K (a.put o.dst v) w') : o.wp P a w K Q := by
  unfold Oper.wp
  have hr : (execOp a.eval o).run P w = (.ok (.enter f (xs.map a.eval).toArray) w) := by
    unfold execOp
    rw [ho]
    simp [resolve, invoke, Act.eval, Deferred.ofValue, run_enter hfn hname hbody]
  rw [hr]
  refine h.mono ?_
  rintro e w' ⟨v, rfl, hk⟩
  exact hk
theorem wp_value {P : Program} {o : Oper} {a : Act} {w : World} {K : Act → World → Prop} {Q : Exit → Act → World → Prop} (v : Value) (hr : (execOp a.eval o).run P w = .ok (.value v) w) (h : K (a.put o.dst v) w) : o.wp P a w K Q := by
  unfold Oper.wp
  rw [hr]
  exact h
set_option maxHeartbeats 4000000 in
set_option maxRecDepth 100000 in
theorem limCopyA_any (x : BA) (b : Bks) (w : World) (h : Bk w x b) (hs : Small b) : Calls Try.prog 63 #[x.val] w (BooksEndA w b) := by
  obtain ⟨aA, nA, cA, aB, nB, cB, aM, nM, cM, aP, nP, cP⟩ := x
  obtain ⟨w2, hw2⟩ : ∃ w2, w2 = (w.alloc (.cells #[.slice aA nA cA, .slice aB nB cB, .slice aM nM cM, .slice aP nP cP] 27)).alloc (.cells #[.slice none 0 0, .slice none 0 0, .slice none 0 0, .slice none 0 0] 27) := ⟨_, rfl⟩
  have B2 : Hid (Below w.heap.size w w2) := by rw [hw2]; exact (box_below _ _).alloc (box_below _ _).size _
  have X2 : Hid (Box4 w2 w.heap.size ⟨aA, nA, cA, aB, nB, cB, aM, nM, cM, aP, nP, cP⟩) := by rw [hw2]; exact (Box4.new w ⟨aA, nA, cA, aB, nB, cB, aM, nM, cM, aP, nP, cP⟩ _ _).below (box_below _ _)
  have G2 : Hid (w2.heap[w.heap.size + 1]? = some (.cells #[.slice none 0 0, .slice none 0 0, .slice none 0 0, .slice none 0 0] 27 (0, 0)) ∧ w2.heap.size = w.heap.size + 2) := by
    have := heap_alloc_new (w.alloc (.cells #[.slice aA nA cA, .slice aB nB cB, .slice aM nM cM, .slice aP nP cP] 27)) (.cells #[.slice none 0 0, .slice none 0 0, .slice none 0 0, .slice none 0 0] 27)
    rw [size_alloc] at this
    rw [hw2]
    exact ⟨this, by rw [size_alloc, size_alloc]⟩
  have HX : Hid (Bk w2 ⟨aA, nA, cA, aB, nB, cB, aM, nM, cM, aP, nP, cP⟩ b) := h.below B2.out
  have HM : Hid (W64 b.M) := h.mul.2.1
  have lA : nA = b.A.length := h.acc.1
  have lB : nB = b.B.length := h.bil.1
  have lM : nM = b.M.length := h.mul.1
  have lP : nP = b.P.length := h.pos.1
  have CA : Hid (∀ u, Below w2.heap.size w2 u → Calls Try.prog 76 #[.slice aA nA cA] u (AccsEnd u b.A)) := fun u hu => copyAccs_any aA nA cA b.A u (HX.out.acc.below hu) (by rw [lA]; exact hs.A)
  have CM : Hid (∀ u, Below w2.heap.size w2 u → Calls Try.prog 78 #[.slice aM nM cM] u (RowEnd u b.M)) := fun u hu => copyList_any aM nM cM b.M u (HX.out.mul.below hu) (by rw [lM]; exact hs.M)
  have CB : Hid (∀ u, Below w2.heap.size w2 u → Calls Try.prog 77 #[.slice aB nB cB] u (RowsEnd u b.B)) := fun u hu => copyRows_any aB nB cB b.B u (HX.out.bil.below hu) (by rw [lB]; exact hs.B) hs.rB
  have CP : Hid (∀ u, Below w2.heap.size w2 u → Calls Try.prog 77 #[.slice aP nP cP] u (RowsEnd u b.P)) := fun u hu => copyRows_any aP nP cP b.P u (HX.out.pos.below hu) (by rw [lP]; exact hs.P) hs.rP
  clear h hs lA lB lM lP
  go_enter Try.func63, Try.ntmps63
  go_wp2
  rw [← hw2]
  clear hw2
  refine region_owes_tail 11 (L := [Fact.is (.pointer (some ⟨w.heap.size, 0, none⟩)),
    Fact.is (.slice aA nA cA),
    Fact.ownR w2.heap.size 53 3 b.A.length (accL b.A),
    Fact.is (.pointer (some ⟨w.heap.size, 1, none⟩)),
    Fact.is (.slice aB nB cB),
    Fact.rows64 w2.heap.size b.B,
    Fact.is (.pointer (some ⟨w.heap.size, 2, none⟩)),
    Fact.is (.slice aM nM cM),
    Fact.ownR w2.heap.size 2 1 b.M.length (b.M.map (Value.int .i64)),
    Fact.is (.pointer (some ⟨w.heap.size, 3, none⟩)),
    Fact.is (.slice aP nP cP)])
    (T := [3, 4, 5, 6, 7, 8, 9, 10, 11, 12, 13]) (by kernel_rfl) rfl (Nat.le_of_ble_eq_true rfl) (by kernel_rfl) (by kernel_rfl) (by kernel_rfl) rfl ?owes ?_
  case owes =>
    simp only [List.take_succ_cons, List.take_zero]
    refine .cons (owes_value fun q u lh => ⟨wants_free rfl, .pointer (some ⟨w.heap.size, 0, none⟩), by have e1 : q.tmps.getD 1 undef = .pointer (some ⟨w.heap.size, 0, none⟩) := lh.old 1 rfl; simp [execOp, Act.eval, e1, go_sem], rfl⟩) ?_
    refine .cons (owes_value fun q u lh => ⟨wants_free rfl, .slice aA nA cA, by have e3 : q.tmps.getD 3 undef = .pointer (some ⟨w.heap.size, 0, none⟩) := lh.dep 0 rfl; obtain ⟨p0, p1, p2, p3⟩ := X2.out.below lh.below; simp [execOp, Act.eval, e3, p0, go_sem], rfl⟩) ?_
    refine .cons (owes_call 76 Try.func76 (by kernel_rfl) (by kernel_rfl) [.tmp 4] #[24] rfl fun q u lh => ⟨wants_free rfl, by have e4 : q.tmps.getD 4 undef = .slice aA nA cA := lh.dep 1 rfl; show Calls Try.prog 76 #[q.tmps.getD 4 undef] u _; rw [e4]; exact accs_fact lh.below.size (CA.out u lh.below)⟩) ?_
    refine .cons (owes_value fun q u lh => ⟨wants_free rfl, .pointer (some ⟨w.heap.size, 1, none⟩), by have e1 : q.tmps.getD 1 undef = .pointer (some ⟨w.heap.size, 0, none⟩) := lh.old 1 rfl; simp [execOp, Act.eval, e1, go_sem], rfl⟩) ?_
    refine .cons (owes_value fun q u lh => ⟨wants_free rfl, .slice aB nB cB, by have e6 : q.tmps.getD 6 undef = .pointer (some ⟨w.heap.size, 1, none⟩) := lh.dep 3 rfl; obtain ⟨p0, p1, p2, p3⟩ := X2.out.below lh.below; simp [execOp, Act.eval, e6, p1, go_sem], rfl⟩) ?_
    refine .cons (owes_call 77 Try.func77 (by kernel_rfl) (by kernel_rfl) [.tmp 7] #[25] rfl fun q u lh => ⟨wants_free rfl, by have e7 : q.tmps.getD 7 undef = .slice aB nB cB := lh.dep 4 rfl; show Calls Try.prog 77 #[q.tmps.getD 7 undef] u _; rw [e7]; exact rows_fact lh.below.size (CB.out u lh.below)⟩) ?_
    refine .cons (owes_value fun q u lh => ⟨wants_free rfl, .pointer (some ⟨w.heap.size, 2, none⟩), by have e1 : q.tmps.getD 1 undef = .pointer (some ⟨w.heap.size, 0, none⟩) := lh.old 1 rfl; simp [execOp, Act.eval, e1, go_sem], rfl⟩) ?_
    refine .cons (owes_value fun q u lh => ⟨wants_free rfl, .slice aM nM cM, by have e9 : q.tmps.getD 9 undef = .pointer (some ⟨w.heap.size, 2, none⟩) := lh.dep 6 rfl; obtain ⟨p0, p1, p2, p3⟩ := X2.out.below lh.below; simp [execOp, Act.eval, e9, p2, go_sem], rfl⟩) ?_
    refine .cons (owes_call 78 Try.func78 (by kernel_rfl) (by kernel_rfl) [.tmp 10] #[22] rfl fun q u lh => ⟨wants_free rfl, by have e10 : q.tmps.getD 10 undef = .slice aM nM cM := lh.dep 7 rfl; show Calls Try.prog 78 #[q.tmps.getD 10 undef] u _; rw [e10]; exact row_fact lh.below.size (CM.out u lh.below)⟩) ?_
    refine .cons (owes_value fun q u lh => ⟨wants_free rfl, .pointer (some ⟨w.heap.size, 3, none⟩), by have e1 : q.tmps.getD 1 undef = .pointer (some ⟨w.heap.size, 0, none⟩) := lh.old 1 rfl; simp [execOp, Act.eval, e1, go_sem], rfl⟩) ?_
    refine .cons (owes_value fun q u lh => ⟨wants_free rfl, .slice aP nP cP, by have e12 : q.tmps.getD 12 undef = .pointer (some ⟨w.heap.size, 3, none⟩) := lh.dep 9 rfl; obtain ⟨p0, p1, p2, p3⟩ := X2.out.below lh.below; simp [execOp, Act.eval, e12, p3, go_sem], rfl⟩) ?_
    exact .nil _
  intro q u hb hsz hdf hold hfact
  obtain ⟨v5, e5⟩ : ∃ v, q.tmps.getD 5 undef = v := ⟨_, rfl⟩
  have f5 : (Fact.ownR w2.heap.size 53 3 b.A.length (accL b.A)).1 u v5 := by rw [← e5]; exact hfact 2 (by decide)
  obtain ⟨v8, e8⟩ : ∃ v, q.tmps.getD 8 undef = v := ⟨_, rfl⟩
  have f8 : (Fact.rows64 w2.heap.size b.B).1 u v8 := by rw [← e8]; exact hfact 5 (by decide)
  obtain ⟨v11, e11⟩ : ∃ v, q.tmps.getD 11 undef = v := ⟨_, rfl⟩
  have f11 : (Fact.ownR w2.heap.size 2 1 b.M.length (b.M.map (Value.int .i64))).1 u v11 := by rw [← e11]; exact hfact 8 (by decide)
  have ep : q.tmps.getD 13 undef = .slice aP nP cP := hfact 10 (by decide)
  simp only [List.drop_succ_cons, List.drop_zero, TailWp]
  refine wp_call 77 Try.func77 (by kernel_rfl) (by kernel_rfl) [.tmp 13] #[25] rfl ?_
  show Calls Try.prog 77 #[q.tmps.getD 13 undef] u _
  rw [ep]
  refine (CP.out u hb).mono ?_
  rintro e w4 ⟨v14, vs, rfl, hm, hb4⟩
  refine ⟨v14, rfl, ?_⟩
  obtain ⟨⟨yA, mA, eA, yB, mB, eB, yM, mM, eM, yP, mP, eP⟩, h5, h8, h11, h14, hn⟩ := books_apart HM.out rfl rfl f5 f8 f11 hb.size hm hb4
  subst h5
  subst h8
  subst h11
  subst h14
  obtain rfl := frame_puts hsz hdf [3, 4, 5, 6, 7, 8, 9, 10, 11, 12, 13] hold [(3, Value.pointer (some ⟨w.heap.size, 0, none⟩)), (4, Value.slice aA nA cA), (5, Value.slice yA mA eA), (6, Value.pointer (some ⟨w.heap.size, 1, none⟩)), (7, Value.slice aB nB cB), (8, Value.slice yB mB eB), (9, Value.pointer (some ⟨w.heap.size, 2, none⟩)), (10, Value.slice aM nM cM), (11, Value.slice yM mM eM), (12, Value.pointer (some ⟨w.heap.size, 3, none⟩)), (13, Value.slice aP nP cP)] ⟨hfact 0 (by decide), hfact 1 (by decide), e5, hfact 3 (by decide), hfact 4 (by decide), e8, hfact 6 (by decide), hfact 7 (by decide), e11, hfact 9 (by decide), hfact 10 (by decide), trivial⟩ rfl
  clear hsz hdf hold hfact
  have B4 : Hid (Below w2.heap.size w2 w4) := hb.trans (hb4.mono hb.size)
  have hg : w4.heap[w.heap.size + 1]? = some (.cells #[.slice none 0 0, .slice none 0 0, .slice none 0 0, .slice none 0 0] 27 (0, 0)) := (B4.out.block _ (by rw [G2.out.2]; omega)).trans G2.out.1
  have R : Hid (BooksEndA w b (.returned (BA.val ⟨yA, mA, eA, yB, mB, eB, yM, mM, eM, yP, mP, eP⟩)) (w4.setRow (w.heap.size + 1) #[.slice yA mA eA, .slice yB mB eB, .slice yM mM eM, .slice yP mP eP])) := by
    refine ⟨_, _, rfl, (hn.kept ?_).base B2.out.size, below_setRow (B2.out.trans (B4.out.mono B2.out.size)) (by omega) _⟩
    intro k hk
    have hk : w2.heap.size ≤ k := hk
    rw [G2.out.2] at hk
    exact setRow_other w4 (w.heap.size + 1) k _ (by omega)
  have D : Hid (Box4 (w4.setRow (w.heap.size + 1) #[.slice yA mA eA, .slice yB mB eB, .slice yM mM eM, .slice yP mP eP]) (w.heap.size + 1) ⟨yA, mA, eA, yB, mB, eB, yM, mM, eM, yP, mP, eP⟩) := by
    have hr := setRow_heap w4 (w.heap.size + 1) _ #[.slice yA mA eA, .slice yB mB eB, .slice yM mM eM, .slice yP mP eP] _ _ hg
    refine ⟨?_, ?_, ?_, ?_⟩ <;> (rw [cell_of_row _ _ _ _ _ _ hr]; rfl)
  simp only [puts, Act.put, List.setIfInBounds_toArray, List.set_cons_zero, List.set_cons_succ]
  refine wp_value (BA.val ⟨yA, mA, eA, yB, mB, eB, yM, mM, eM, yP, mP, eP⟩) (by simp [execOp, Act.eval, go_sem]) ?_
  simp only [Act.put, List.setIfInBounds_toArray, List.set_cons_zero, List.set_cons_succ]
  refine wp_store_row 27 (.tmp 2) (.tmp 15) rfl (w.heap.size + 1) #[.slice yA mA eA, .slice yB mB eB, .slice yM mM eM, .slice yP mP eP] rfl rfl _ _ hg booksSize (by simp) (by simp [Value.oneCell']) ?_
  generalize w4.setRow (w.heap.size + 1) #[.slice yA mA eA, .slice yB mB eB, .slice yM mM eM, .slice yP mP eP] = w5 at R D ⊢
  obtain ⟨d0, d1, d2, d3⟩ := D.out
  clear hg hn hb hb4 hm G2 X2 B2
  go_wp2
  exact bodyPost_ret (v := BA.val ⟨yA, mA, eA, yB, mB, eB, yM, mM, eM, yP, mP, eP⟩) (by simp [results, Try.results63, d0, d1, d2, d3, go_sem]) rfl R.out
set_option maxHeartbeats 4000000 in
set_option maxRecDepth 100000 in
theorem refCopyA_any (x : BA) (b : Bks) (w : World) (h : Bk w x b) (hs : Small b) : Calls Try.prog 45 #[x.val] w (BooksEndA w b) := by
  obtain ⟨aA, nA, cA, aB, nB, cB, aM, nM, cM, aP, nP, cP⟩ := x
  obtain ⟨w2, hw2⟩ : ∃ w2, w2 = (w.alloc (.cells #[.slice aA nA cA, .slice aB nB cB, .slice aM nM cM, .slice aP nP cP] 27)).alloc (.cells #[.slice none 0 0, .slice none 0 0, .slice none 0 0, .slice none 0 0] 27) := ⟨_, rfl⟩
  have B2 : Hid (Below w.heap.size w w2) := by rw [hw2]; exact (box_below _ _).alloc (box_below _ _).size _
  have X2 : Hid (Box4 w2 w.heap.size ⟨aA, nA, cA, aB, nB, cB, aM, nM, cM, aP, nP, cP⟩) := by rw [hw2]; exact (Box4.new w ⟨aA, nA, cA, aB, nB, cB, aM, nM, cM, aP, nP, cP⟩ _ _).below (box_below _ _)
  have G2 : Hid (w2.heap[w.heap.size + 1]? = some (.cells #[.slice none 0 0, .slice none 0 0, .slice none 0 0, .slice none 0 0] 27 (0, 0)) ∧ w2.heap.size = w.heap.size + 2) := by
    have := heap_alloc_new (w.alloc (.cells #[.slice aA nA cA, .slice aB nB cB, .slice aM nM cM, .slice aP nP cP] 27)) (.cells #[.slice none 0 0, .slice none 0 0, .slice none 0 0, .slice none 0 0] 27)
    rw [size_alloc] at this
    rw [hw2]
    exact ⟨this, by rw [size_alloc, size_alloc]⟩
  have HX : Hid (Bk w2 ⟨aA, nA, cA, aB, nB, cB, aM, nM, cM, aP, nP, cP⟩ b) := h.below B2.out
  have HM : Hid (W64 b.M) := h.mul.2.1
  have lA : nA = b.A.length := h.acc.1
  have lB : nB = b.B.length := h.bil.1
  have lM : nM = b.M.length := h.mul.1
  have lP : nP = b.P.length := h.pos.1
  obtain ⟨i0, hi, hz0, hz1, hz2⟩ := info_parts infoI64
  obtain ⟨k0, hk, hx0, hx1, hx2⟩ := info_parts infoAcct
  have hnA : nA ≤ 1000000 := by rw [lA]; exact hs.A
  have hnM : nM ≤ 1000000 := by rw [lM]; exact hs.M
  have HLA : Hid (nA = b.A.length) := lA
  have HLM : Hid (nM = b.M.length) := lM
  have HA : Hid ((accL b.A).length = nA * 3 ∧ (0 < nA → ∃ x, aA = some x ∧ ∀ j v, (accL b.A)[j]? = some v → w2.cell? (x.add j) = some v) ∧ (aA = none → nA = 0 ∧ cA = 0)) := by
    refine ⟨by rw [accL_length, lA], fun h0 => HX.out.acc.src h0, fun hn => ⟨?_, HX.out.oA hn⟩⟩
    rcases Nat.eq_zero_or_pos nA with h0 | h0
    · exact h0
    · obtain ⟨x, hx, _⟩ := HX.out.acc.src h0
      rw [show aA = some x from hx] at hn
      simp at hn
  have HMM : Hid ((b.M.map (Value.int .i64)).length = nM * 1 ∧ (0 < nM → ∃ x, aM = some x ∧ ∀ j v, (b.M.map (Value.int .i64))[j]? = some v → w2.cell? (x.add j) = some v) ∧ (aM = none → nM = 0 ∧ cM = 0)) := by
    have key : 0 < nM → ∃ x, aM = some x ∧ ∀ j v, (b.M.map (Value.int .i64))[j]? = some v → w2.cell? (x.add j) = some v := fun h0 => HX.out.mul.src (by rw [List.length_map, ← lM]; exact h0)
    refine ⟨by rw [List.length_map, lM, Nat.mul_one], key, fun hn => ⟨?_, HX.out.oM hn⟩⟩
    rcases Nat.eq_zero_or_pos nM with h0 | h0
    · exact h0
    · obtain ⟨x, hx, _⟩ := key h0
      rw [hx] at hn
      simp at hn
  have CB : Hid (∀ u, Below w2.heap.size w2 u → Calls Try.prog 68 #[.slice aB nB cB] u (RowsEnd u b.B)) := fun u hu => refCopyRows_any aB nB cB b.B u (HX.out.bil.below hu) (by rw [lB]; exact hs.B) hs.rB
  have CP : Hid (∀ u, Below w2.heap.size w2 u → Calls Try.prog 68 #[.slice aP nP cP] u (RowsEnd u b.P)) := fun u hu => refCopyRows_any aP nP cP b.P u (HX.out.pos.below hu) (by rw [lP]; exact hs.P) hs.rP
  clear h hs lA lB lM lP
  go_enter Try.func45, Try.ntmps45
  go_wp2
  rw [← hw2]
  clear hw2
  refine region_owes_tail 13 (L := [Fact.lit0 w2.heap.size 53 3,
    Fact.is (.pointer (some ⟨w.heap.size, 0, none⟩)),
    Fact.is (.slice aA nA cA),
    Fact.ownR w2.heap.size 53 3 nA (accL b.A),
    Fact.is (.pointer (some ⟨w.heap.size, 1, none⟩)),
    Fact.is (.slice aB nB cB),
    Fact.rows64 w2.heap.size b.B,
    Fact.lit0 w2.heap.size 2 1,
    Fact.is (.pointer (some ⟨w.heap.size, 2, none⟩)),
    Fact.is (.slice aM nM cM),
    Fact.ownR w2.heap.size 2 1 nM (b.M.map (Value.int .i64)),
    Fact.is (.pointer (some ⟨w.heap.size, 3, none⟩)),
    Fact.is (.slice aP nP cP)])
    (T := [3, 4, 5, 6, 7, 8, 9, 10, 11, 12, 13, 14, 15]) (by kernel_rfl) rfl (Nat.le_of_ble_eq_true rfl) (by kernel_rfl) (by kernel_rfl) (by kernel_rfl) rfl ?owes ?_
  case owes =>
    simp only [List.take_succ_cons, List.take_zero]
    refine .cons (owes_make fun q u lh => ⟨wants_free rfl, .slice (some ⟨u.heap.size, 0, none⟩) 0 0, u.alloc (.cells #[] 53), by simp [execOp, Act.eval, go_sem], box_below _ _, ⟨u.heap.size, rfl, own_lit3 lh.below.size⟩⟩) ?_
    refine .cons (owes_value fun q u lh => ⟨wants_free rfl, .pointer (some ⟨w.heap.size, 0, none⟩), by have e1 : q.tmps.getD 1 undef = .pointer (some ⟨w.heap.size, 0, none⟩) := lh.old 1 rfl; simp [execOp, Act.eval, e1, go_sem], rfl⟩) ?_
    refine .cons (owes_value fun q u lh => ⟨wants_free rfl, .slice aA nA cA, by have e4 : q.tmps.getD 4 undef = .pointer (some ⟨w.heap.size, 0, none⟩) := lh.dep 1 rfl; obtain ⟨p0, p1, p2, p3⟩ := X2.out.below lh.below; simp [execOp, Act.eval, e4, p0, go_sem], rfl⟩) ?_
    refine .cons (owes_append_new 24 53 w2.heap.size 3 5 0 2 nA cA 3 k0 _ 24 (accL b.A) aA rfl rfl rfl rfl rfl rfl rfl rfl HA.out.1 HA.out.2.1 HA.out.2.2 (Nat.le_refl _) Try.underlying24 hk hx0 hx1 hx2 rfl (by decide) (by unfold maxLen; omega) (by omega) fun q u lh => wants_free rfl) ?_
    refine .cons (owes_value fun q u lh => ⟨wants_free rfl, .pointer (some ⟨w.heap.size, 1, none⟩), by have e1 : q.tmps.getD 1 undef = .pointer (some ⟨w.heap.size, 0, none⟩) := lh.old 1 rfl; simp [execOp, Act.eval, e1, go_sem], rfl⟩) ?_
    refine .cons (owes_value fun q u lh => ⟨wants_free rfl, .slice aB nB cB, by have e7 : q.tmps.getD 7 undef = .pointer (some ⟨w.heap.size, 1, none⟩) := lh.dep 4 rfl; obtain ⟨p0, p1, p2, p3⟩ := X2.out.below lh.below; simp [execOp, Act.eval, e7, p1, go_sem], rfl⟩) ?_
    refine .cons (owes_call 68 Try.func68 (by kernel_rfl) (by kernel_rfl) [.tmp 8] #[25] rfl fun q u lh => ⟨wants_free rfl, by have e8 : q.tmps.getD 8 undef = .slice aB nB cB := lh.dep 5 rfl; show Calls Try.prog 68 #[q.tmps.getD 8 undef] u _; rw [e8]; exact rows_fact lh.below.size (CB.out u lh.below)⟩) ?_
    refine .cons (owes_make fun q u lh => ⟨wants_free rfl, .slice (some ⟨u.heap.size, 0, none⟩) 0 0, u.alloc (.cells #[] 2), by simp [execOp, Act.eval, go_sem], box_below _ _, ⟨u.heap.size, rfl, World.ownsRow_lit u #[] 0 lh.below.size (by decide) rfl⟩⟩) ?_
    refine .cons (owes_value fun q u lh => ⟨wants_free rfl, .pointer (some ⟨w.heap.size, 2, none⟩), by have e1 : q.tmps.getD 1 undef = .pointer (some ⟨w.heap.size, 0, none⟩) := lh.old 1 rfl; simp [execOp, Act.eval, e1, go_sem], rfl⟩) ?_
    refine .cons (owes_value fun q u lh => ⟨wants_free rfl, .slice aM nM cM, by have e11 : q.tmps.getD 11 undef = .pointer (some ⟨w.heap.size, 2, none⟩) := lh.dep 8 rfl; obtain ⟨p0, p1, p2, p3⟩ := X2.out.below lh.below; simp [execOp, Act.eval, e11, p2, go_sem], rfl⟩) ?_
    refine .cons (owes_append_new 22 2 w2.heap.size 10 12 7 9 nM cM 1 i0 _ 8 (b.M.map (Value.int .i64)) aM rfl rfl rfl rfl rfl rfl rfl rfl HMM.out.1 HMM.out.2.1 HMM.out.2.2 (Nat.le_refl _) Try.underlying22 hi hz0 hz1 hz2 rfl (by decide) (by unfold maxLen; omega) (by omega) fun q u lh => wants_free rfl) ?_
    refine .cons (owes_value fun q u lh => ⟨wants_free rfl, .pointer (some ⟨w.heap.size, 3, none⟩), by have e1 : q.tmps.getD 1 undef = .pointer (some ⟨w.heap.size, 0, none⟩) := lh.old 1 rfl; simp [execOp, Act.eval, e1, go_sem], rfl⟩) ?_
    refine .cons (owes_value fun q u lh => ⟨wants_free rfl, .slice aP nP cP, by have e14 : q.tmps.getD 14 undef = .pointer (some ⟨w.heap.size, 3, none⟩) := lh.dep 11 rfl; obtain ⟨p0, p1, p2, p3⟩ := X2.out.below lh.below; simp [execOp, Act.eval, e14, p3, go_sem], rfl⟩) ?_
    exact .nil _
  intro q u hb hsz hdf hold hfact
  obtain ⟨v3, e3⟩ : ∃ v, q.tmps.getD 3 undef = v := ⟨_, rfl⟩
  have f3 : (Fact.lit0 w2.heap.size 53 3).1 u v3 := by rw [← e3]; exact hfact 0 (by decide)
  obtain ⟨v6, e6⟩ : ∃ v, q.tmps.getD 6 undef = v := ⟨_, rfl⟩
  have f6 : (Fact.ownR w2.heap.size 53 3 nA (accL b.A)).1 u v6 := by rw [← e6]; exact hfact 3 (by decide)
  obtain ⟨v9, e9⟩ : ∃ v, q.tmps.getD 9 undef = v := ⟨_, rfl⟩
  have f9 : (Fact.rows64 w2.heap.size b.B).1 u v9 := by rw [← e9]; exact hfact 6 (by decide)
  obtain ⟨v10, e10⟩ : ∃ v, q.tmps.getD 10 undef = v := ⟨_, rfl⟩
  have f10 : (Fact.lit0 w2.heap.size 2 1).1 u v10 := by rw [← e10]; exact hfact 7 (by decide)
  obtain ⟨v13, e13⟩ : ∃ v, q.tmps.getD 13 undef = v := ⟨_, rfl⟩
  have f13 : (Fact.ownR w2.heap.size 2 1 nM (b.M.map (Value.int .i64))).1 u v13 := by rw [← e13]; exact hfact 10 (by decide)
  have ep : q.tmps.getD 15 undef = .slice aP nP cP := hfact 12 (by decide)
  simp only [List.drop_succ_cons, List.drop_zero, TailWp]
  refine wp_call 68 Try.func68 (by kernel_rfl) (by kernel_rfl) [.tmp 15] #[25] rfl ?_
  show Calls Try.prog 68 #[q.tmps.getD 15 undef] u _
  rw [ep]
  refine (CP.out u hb).mono ?_
  rintro e w4 ⟨v16, vs, rfl, hm, hb4⟩
  refine ⟨v16, rfl, ?_⟩
  obtain ⟨⟨yA, mA, eA, yB, mB, eB, yM, mM, eM, yP, mP, eP⟩, h5, h8, h11, h14, hn⟩ := books_apart HM.out HLA.out HLM.out f6 f9 f13 hb.size hm hb4
  subst h5
  subst h8
  subst h11
  subst h14
  obtain rfl := frame_puts hsz hdf [3, 4, 5, 6, 7, 8, 9, 10, 11, 12, 13, 14, 15] hold [(3, v3), (4, Value.pointer (some ⟨w.heap.size, 0, none⟩)), (5, Value.slice aA nA cA), (6, Value.slice yA mA eA), (7, Value.pointer (some ⟨w.heap.size, 1, none⟩)), (8, Value.slice aB nB cB), (9, Value.slice yB mB eB), (10, v10), (11, Value.pointer (some ⟨w.heap.size, 2, none⟩)), (12, Value.slice aM nM cM), (13, Value.slice yM mM eM), (14, Value.pointer (some ⟨w.heap.size, 3, none⟩)), (15, Value.slice aP nP cP)] ⟨e3, hfact 1 (by decide), hfact 2 (by decide), e6, hfact 4 (by decide), hfact 5 (by decide), e9, e10, hfact 8 (by decide), hfact 9 (by decide), e13, hfact 11 (by decide), hfact 12 (by decide), trivial⟩ rfl
  clear hsz hdf hold hfact
  have B4 : Hid (Below w2.heap.size w2 w4) := hb.trans (hb4.mono hb.size)
  have hg : w4.heap[w.heap.size + 1]? = some (.cells #[.slice none 0 0, .slice none 0 0, .slice none 0 0, .slice none 0 0] 27 (0, 0)) := (B4.out.block _ (by rw [G2.out.2]; omega)).trans G2.out.1
  have R : Hid (BooksEndA w b (.returned (BA.val ⟨yA, mA, eA, yB, mB, eB, yM, mM, eM, yP, mP, eP⟩)) (w4.setRow (w.heap.size + 1) #[.slice yA mA eA, .slice yB mB eB, .slice yM mM eM, .slice yP mP eP])) := by
    refine ⟨_, _, rfl, (hn.kept ?_).base B2.out.size, below_setRow (B2.out.trans (B4.out.mono B2.out.size)) (by omega) _⟩
    intro k hk
    have hk : w2.heap.size ≤ k := hk
    rw [G2.out.2] at hk
    exact setRow_other w4 (w.heap.size + 1) k _ (by omega)
  have D : Hid (Box4 (w4.setRow (w.heap.size + 1) #[.slice yA mA eA, .slice yB mB eB, .slice yM mM eM, .slice yP mP eP]) (w.heap.size + 1) ⟨yA, mA, eA, yB, mB, eB, yM, mM, eM, yP, mP, eP⟩) := by
    have hr := setRow_heap w4 (w.heap.size + 1) _ #[.slice yA mA eA, .slice yB mB eB, .slice yM mM eM, .slice yP mP eP] _ _ hg
    refine ⟨?_, ?_, ?_, ?_⟩ <;> (rw [cell_of_row _ _ _ _ _ _ hr]; rfl)
  simp only [puts, Act.put, List.setIfInBounds_toArray, List.set_cons_zero, List.set_cons_succ]
  refine wp_value (BA.val ⟨yA, mA, eA, yB, mB, eB, yM, mM, eM, yP, mP, eP⟩) (by simp [execOp, Act.eval, go_sem]) ?_
  simp only [Act.put, List.setIfInBounds_toArray, List.set_cons_zero, List.set_cons_succ]
  refine wp_store_row 27 (.tmp 2) (.tmp 17) rfl (w.heap.size + 1) #[.slice yA mA eA, .slice yB mB eB, .slice yM mM eM, .slice yP mP eP] rfl rfl _ _ hg booksSize (by simp) (by simp [Value.oneCell']) ?_
  generalize w4.setRow (w.heap.size + 1) #[.slice yA mA eA, .slice yB mB eB, .slice yM mM eM, .slice yP mP eP] = w5 at R D ⊢
  obtain ⟨d0, d1, d2, d3⟩ := D.out
  clear hg hn hb hb4 hm G2 X2 B2
  go_wp2
  exact bodyPost_ret (v := BA.val ⟨yA, mA, eA, yB, mB, eB, yM, mM, eM, yP, mP, eP⟩) (by simp [results, Try.results45, d0, d1, d2, d3, go_sem]) rfl R.out

end Go.Proofs.Ytlackjldopeigaa

/-
  post: payments are posted, as plain lists.
-/
namespace Go.Proofs.Ytlackjldopeigaa
open Go.RowKit
set_option linter.unusedVariables false
set_option linter.unusedSimpArgs false

/-- An account behind them; a position; the books. n: how many parties. -/
def postA (b : Bks) (L : List P7) (n i : Nat) : A3 := ((b.A.getD i a30).1 - dTo L i n, (b.A.getD i a30).2.1, keptV (b.A.getD i a30).2.2 (spentS L i))
def postP (b : Bks) (L : List P7) (n i : Nat) : List Int := (List.range n).map fun k => at2 b.P i k + netS L i k
def postB (b : Bks) (L : List P7) : Bks := ⟨(List.range b.A.length).map (postA b L b.A.length), b.B, b.M, (List.range b.A.length).map (postP b L b.A.length)⟩
/-- Which error; what is answered. -/
def postE (b : Bks) (L : List P7) : Int := if allB b L then (if booksB (postB b L) then 0 else 8) else 1
def postR (b : Bks) (L : List P7) : Bks := if allB b L && booksB (postB b L) then postB b L else b

theorem postB_len (b : Bks) (L : List P7) : (postB b L).A.length = b.A.length := by simp [postB]
theorem postB_acct (b : Bks) (L : List P7) {i : Nat} (h : i < b.A.length) : (postB b L).A.getD i a30 = postA b L b.A.length i := by simp [postB, h]
theorem postB_row (b : Bks) (L : List P7) {i : Nat} (h : i < b.A.length) : (postB b L).P.getD i [] = postP b L b.A.length i := by simp [postB, h]
theorem postB_at (b : Bks) (L : List P7) {i k : Nat} (h : i < b.A.length) (hk : k < b.A.length) : at2 (postB b L).P i k = at2 b.P i k + netS L i k := by
  unfold at2
  rw [postB_row b L h]
  simp [postP, hk]
  rfl
theorem netS_turn (L : List P7) (i k : Int) : netS L i k = -netS L k i := by unfold netS; omega
theorem netS_append (L M : List P7) (i k : Int) : netS (L ++ M) i k = netS L i k + netS M i k := by
  unfold netS sentS
  rw [sumS_append, sumS_append]
  omega
theorem dTo_append (L M : List P7) (i : Int) (n : Nat) : dTo (L ++ M) i n = dTo L i n + dTo M i n := by
  induction n with
  | zero => rfl
  | succ n ih => simp only [dTo, ih, netS_append]; omega
theorem spentS_append (L M : List P7) (i : Int) : spentS (L ++ M) i = spentS L i + spentS M i := sumS_append _ _ _
theorem keptV_twice {r x y : Int} (hx : 0 ≤ x) (hy : 0 ≤ y) : keptV (keptV r x) y = keptV r (x + y) := by
  by_cases h : r ≤ x
  · rw [← kept_none h, ← kept_none (show (0 : Int) ≤ y by omega), ← kept_none (show r ≤ x + y by omega)]
  · rw [← kept_some (show x < r by omega)]
    by_cases k : r - x ≤ y
    · rw [← kept_none k, ← kept_none (show r ≤ x + y by omega)]
    · rw [← kept_some (show y < r - x by omega), ← kept_some (show x + y < r by omega)]
      omega
/-- In which order, does not matter. -/
theorem postB_perm (b : Bks) {L M : List P7} (h : L.Perm M) : postB b L = postB b M := by
  have ea : postA b L b.A.length = postA b M b.A.length := by
    funext i
    unfold postA
    rw [dTo_perm h]
    unfold spentS
    rw [sumS_perm _ h]
  have ep : postP b L b.A.length = postP b M b.A.length := by
    funext i
    unfold postP
    refine List.map_congr_left fun k _ => ?_
    rw [netS_perm h]
  unfold postB
  rw [ea, ep]
/-- Two posts, or one. -/
theorem postB_twice (b : Bks) (L M : List P7) (hL : ∀ i : Int, 0 ≤ spentS L i) (hM : ∀ i : Int, 0 ≤ spentS M i) : postB (postB b L) M = postB b (L ++ M) := by
  have hl := postB_len b L
  have ea : (List.range b.A.length).map (postA (postB b L) M b.A.length) = (List.range b.A.length).map (postA b (L ++ M) b.A.length) := by
    refine List.map_congr_left fun i hi => ?_
    have hi := List.mem_range.1 hi
    unfold postA
    rw [postB_acct b L hi]
    unfold postA
    simp only []
    rw [dTo_append, spentS_append, keptV_twice (hL _) (hM _), Int.sub_sub]
  have ep : (List.range b.A.length).map (postP (postB b L) M b.A.length) = (List.range b.A.length).map (postP b (L ++ M) b.A.length) := by
    refine List.map_congr_left fun i hi => ?_
    have hi := List.mem_range.1 hi
    unfold postP
    refine List.map_congr_left fun k hk => ?_
    have hk := List.mem_range.1 hk
    rw [postB_at b L hi hk, netS_append, Int.add_assoc]
  show Bks.mk _ _ _ _ = Bks.mk _ _ _ _
  rw [hl, ea, ep]
  rfl

/-- What fits leaves nobody that sends too low, nor beyond a limit. -/
theorem fits_floor {b : Bks} {L : List P7} (h : fitsB b L = true) {i : Nat} (hi : i < b.A.length) (hs : ¬ plainS L i + spentS L i = 0) :
    0 ≤ (postA b L b.A.length i).1 + (postA b L b.A.length i).2.1 ∧ (0 < plainS L i → (postA b L b.A.length i).2.2 ≤ (postA b L b.A.length i).1 + (postA b L b.A.length i).2.1) ∧
      (∀ k, k < b.A.length → 0 < sentS L i k → at2 b.B i k = -1 ∨ at2 b.P i k + netS L i k ≤ at2 b.B i k) ∧ (b.M.getD i 0 = -1 ∨ netTo b.P i b.A.length + dTo L i b.A.length ≤ b.M.getD i 0) := by
  unfold fitsB at h
  rw [Bool.and_eq_true, decide_eq_true_eq, List.length_eq_zero_iff] at h
  have hno : shortB b L b.A.length i = false := by
    rw [Bool.eq_false_iff]
    intro hy
    have : i ∈ shortL b L := List.mem_filter.2 ⟨List.mem_range.2 hi, hy⟩
    rw [h.2] at this
    simp at this
  unfold shortB at hno
  rw [decide_eq_true hs, Bool.true_and, Bool.or_eq_false_iff, Bool.or_eq_false_iff] at hno
  obtain ⟨h1, h2, h3⟩ := hno
  unfold lowB at h2
  rw [Bool.or_eq_false_iff, decide_eq_false_iff_not, Bool.and_eq_false_iff, decide_eq_false_iff_not, decide_eq_false_iff_not] at h2
  unfold wideB at h3
  rw [Bool.and_eq_false_iff, decide_eq_false_iff_not, decide_eq_false_iff_not] at h3
  unfold postA
  simp only []
  refine ⟨by omega, fun hp => by omega, fun k hk hsk => ?_, by omega⟩
  have h4 : overB b L i k = false := by
    rw [Bool.eq_false_iff]
    intro hy
    rw [List.any_eq_true.2 ⟨k, List.mem_range.2 hk, hy⟩] at h1
    exact Bool.noConfusion h1
  unfold overB at h4
  rw [decide_eq_true hsk, Bool.true_and, Bool.and_eq_false_iff, decide_eq_false_iff_not, decide_eq_false_iff_not] at h4
  omega

/-- What all have together stays. -/
def balTo (A : List A3) : Nat → Int
  | 0 => 0
  | i + 1 => balTo A i + (A.getD i a30).1
def netR (L : List P7) (n : Nat) : List (List Int) := (List.range n).map fun i : Nat => (List.range n).map fun k : Nat => netS L (i : Int) (k : Int)
theorem netR_at (L : List P7) {n i k : Nat} (hi : i < n) (hk : k < n) : at2 (netR L n) i k = netS L i k := by simp [at2, netR, hi, hk]
theorem netR_to (L : List P7) {n i : Nat} (hi : i < n) : ∀ k, k ≤ n → netTo (netR L n) i k = dTo L i k := by
  intro k
  induction k with
  | zero => intro _; rfl
  | succ k ih => intro hk; simp only [netTo, dTo, ih (by omega), netR_at L hi (show k < n by omega)]
theorem netR_sum (L : List P7) (n : Nat) : netSum (netR L n) n n = 0 := netSum_zero fun i k hi hk => by
  rw [netR_at L hi hk, netR_at L hk hi]
  exact netS_turn L i k
theorem balTo_post (b : Bks) (L : List P7) : ∀ i, i ≤ b.A.length → balTo (postB b L).A i = balTo b.A i - netSum (netR L b.A.length) b.A.length i := by
  intro i
  induction i with
  | zero => intro _; simp [balTo, netSum]
  | succ i ih =>
    intro hi
    have e : ((postB b L).A.getD i a30).1 = (b.A.getD i a30).1 - dTo L i b.A.length := by rw [postB_acct b L (by omega)]; rfl
    simp only [balTo, netSum, ih (by omega), e, netR_to L (show i < b.A.length by omega) _ (Nat.le_refl _)]
    omega
theorem balTo_stays (b : Bks) (L : List P7) : balTo (postB b L).A b.A.length = balTo b.A b.A.length := by
  rw [balTo_post b L _ (Nat.le_refl _), netR_sum]
  omega

end Go.Proofs.Ytlackjldopeigaa

/-
  Books of n parties that a call made, cell by cell, as functions: what is written into accounts and positions.
-/
namespace Go.Proofs.Ytlackjldopeigaa
open Go.RowKit
set_option linter.unusedVariables false
set_option linter.unusedSimpArgs false

def mkA (n : Nat) (fA : Nat → A3) : List A3 := (List.range n).map fA
def mkP (n : Nat) (fP : Nat → Nat → Int) : List (List Int) := (List.range n).map fun i => (List.range n).map (fP i)
theorem mkA_len (n : Nat) (fA : Nat → A3) : (mkA n fA).length = n := by simp [mkA]
theorem mkP_len (n : Nat) (fP : Nat → Nat → Int) : (mkP n fP).length = n := by simp [mkP]
theorem mkA_at {n i : Nat} (fA : Nat → A3) (h : i < n) : (mkA n fA).getD i a30 = fA i := by simp [mkA, h]
theorem mkP_row {n i : Nat} (fP : Nat → Nat → Int) (h : i < n) : (mkP n fP).getD i [] = (List.range n).map (fP i) := by simp [mkP, h]
theorem mkP_at {n i k : Nat} (fP : Nat → Nat → Int) (h : i < n) (hk : k < n) : at2 (mkP n fP) i k = fP i k := by
  unfold at2
  rw [mkP_row fP h]
  simp [hk]
theorem mkA_congr {n : Nat} {f g : Nat → A3} (h : ∀ i, i < n → f i = g i) : mkA n f = mkA n g := List.map_congr_left fun i hi => h i (List.mem_range.1 hi)
theorem mkP_congr {n : Nat} {f g : Nat → Nat → Int} (h : ∀ i k, i < n → k < n → f i k = g i k) : mkP n f = mkP n g :=
  List.map_congr_left fun i hi => List.map_congr_left fun k hk => h i k (List.mem_range.1 hi) (List.mem_range.1 hk)
theorem mkA_self (A : List A3) : mkA A.length (fun i => A.getD i a30) = A := by
  refine List.ext_getElem (by simp [mkA]) fun i h1 h2 => ?_
  simp [mkA, h2]
theorem mkP_self {P : List (List Int)} (hs : ∀ i, i < P.length → (P.getD i []).length = P.length) : mkP P.length (at2 P) = P := by
  refine List.ext_getElem (by simp [mkP]) fun i h1 h2 => ?_
  have hi := hs i h2
  simp [h2] at hi
  refine List.ext_getElem (by simp [mkP, hi]) fun k h3 h4 => ?_
  simp [mkP, at2, h2, h4]

/-- An account, a position is written. -/
def updA (fA : Nat → A3) (i : Nat) (a : A3) : Nat → A3 := fun k => if k = i then a else fA k
def updP (fP : Nat → Nat → Int) (i j : Nat) (y : Int) : Nat → Nat → Int := fun k l => if k = i ∧ l = j then y else fP k l
theorem accL_get (A : List A3) (j : Nat) (h : j < A.length * 3) : (accL A)[j]? = some (if j % 3 = 0 then .int .i64 (A.getD (j / 3) a30).1 else if j % 3 = 1 then .int .i64 (A.getD (j / 3) a30).2.1 else .int .i64 (A.getD (j / 3) a30).2.2) := by
  obtain ⟨c0, c1, c2⟩ := accL_at A (j / 3) (by omega)
  rcases (by omega : j % 3 = 0 ∨ j % 3 = 1 ∨ j % 3 = 2) with e | e | e
  · rw [if_pos e, ← c0]; congr 1; omega
  · rw [if_neg (by omega), if_pos e, ← c1]; congr 1; omega
  · rw [if_neg (by omega), if_neg (by omega), ← c2]; congr 1; omega
theorem accL_upd {n i : Nat} (fA : Nat → A3) (hi : i < n) (j : Nat) (hj : j < 3) (a : A3) (u : Value)
    (h0 : j = 0 → u = .int .i64 a.1 ∧ a.2 = (fA i).2) (h1 : j = 1 → u = .int .i64 a.2.1 ∧ a.1 = (fA i).1 ∧ a.2.2 = (fA i).2.2) (h2 : j = 2 → u = .int .i64 a.2.2 ∧ a.1 = (fA i).1 ∧ a.2.1 = (fA i).2.1) :
    accL (mkA n (updA fA i a)) = (accL (mkA n fA)).set (i * 3 + j) u := by
  refine List.ext_getElem? fun k => ?_
  by_cases hk : k < n * 3
  · rw [accL_get _ k (by rw [mkA_len]; exact hk), List.getElem?_set]
    have hk3 : k / 3 < n := by omega
    rw [mkA_at _ hk3]
    by_cases he : i * 3 + j = k
    · have hlen : i * 3 + j < (accL (mkA n fA)).length := by rw [accL_length, mkA_len]; omega
      rw [if_pos he, if_pos hlen]
      have hk1 : k / 3 = i := by omega
      have hk2 : k % 3 = j := by omega
      rw [hk1, hk2]
      simp only [updA, if_pos]
      rcases (by omega : j = 0 ∨ j = 1 ∨ j = 2) with rfl | rfl | rfl
      · simp [(h0 rfl).1]
      · simp [(h1 rfl).1]
      · simp [(h2 rfl).1]
    · rw [if_neg he, accL_get _ k (by rw [mkA_len]; exact hk), mkA_at _ hk3]
      by_cases hki : k / 3 = i
      · have hkj : ¬ k % 3 = j := by omega
        rw [hki]
        simp only [updA, if_pos]
        rcases (by omega : j = 0 ∨ j = 1 ∨ j = 2) with rfl | rfl | rfl
        · rw [if_neg hkj, if_neg hkj, (h0 rfl).2]
        · obtain ⟨_, e1, e2⟩ := h1 rfl
          rw [e1, e2]
          simp [hkj]
        · obtain ⟨_, e1, e2⟩ := h2 rfl
          rw [e1, e2]
          rcases (by omega : k % 3 = 0 ∨ k % 3 = 1) with e | e <;> simp [e]
      · simp only [updA, if_neg hki]
  · rw [List.getElem?_eq_none (by rw [accL_length, mkA_len]; omega), List.getElem?_eq_none (by rw [List.length_set, accL_length, mkA_len]; omega)]

/-- Of what was there only blocks from B on and below T may have turned. -/
structure Within (B T : Nat) (w w' : World) : Prop where
  os : w'.os = w.os
  tape : w'.tape = w.tape
  output : w'.output = w.output
  size : w.heap.size ≤ w'.heap.size
  block : ∀ k, k < w.heap.size → k < B ∨ T ≤ k → w'.heap[k]? = w.heap[k]?
theorem Within.refl (B T : Nat) (w : World) : Within B T w w := ⟨rfl, rfl, rfl, Nat.le_refl _, fun _ _ _ => rfl⟩
theorem Within.trans {B T : Nat} {a b c : World} (h : Within B T a b) (k : Within B T b c) : Within B T a c :=
  ⟨k.os.trans h.os, k.tape.trans h.tape, k.output.trans h.output, Nat.le_trans h.size k.size, fun i hi ho => (k.block i (Nat.lt_of_lt_of_le hi h.size) ho).trans (h.block i hi ho)⟩
theorem Within.of {B T : Nat} {w w' : World} (h : Below w.heap.size w w') : Within B T w w' := ⟨h.os, h.tape, h.output, h.size, fun k hk _ => h.block k hk⟩
theorem Within.below {B T : Nat} {w w' : World} (h : Within B T w w') (hB : B ≤ w.heap.size) : Below B w w' := ⟨h.os, h.tape, h.output, h.size, fun k hk => h.block k (by omega) (.inl hk)⟩
theorem Within.set {B T : Nat} {a w : World} (h : Within B T a w) {p : Addr} (hp : B ≤ p.block) (ht : p.block < T) (u : Value) : Within B T a (w.setCell p u) :=
  h.trans ⟨rfl, rfl, rfl, by simp [World.setCell], fun k _ ho => heap_setCell_other w p k u (by omega)⟩
theorem Within.cell {B T : Nat} {w w' : World} (h : Within B T w w') {p : Addr} {v : Value} (hc : w.cell? p = some v) (ho : p.block < B ∨ T ≤ p.block) : w'.cell? p = some v := by
  have : w'.cell? p = w.cell? p := by
    unfold World.cell?
    rw [h.block _ (block_lt_of_cell hc) ho]
  rw [this]
  exact hc

/-- Where books of n parties lie that a call made. -/
structure PLay (w : World) (B T : Nat) (x : BA) (b : Bks) (gA sp : Nat) (g cg : Nat → Nat) (n : Nat) (fA : Nat → A3) (fP : Nat → Nat → Int) : Prop where
  eA : x.aA = some ⟨gA, 0, none⟩
  nA : x.nA = n
  eP : x.aP = some ⟨sp, 0, none⟩
  nP : x.nP = n
  acc : w.ownsRow B 53 3 (.slice (some ⟨gA, 0, none⟩) n x.cA) n (accL (mkA n fA))
  rest : ∃ S vb vs, B ≤ S ∧ MadeI w B (.slice x.aB x.nB x.cB) vb b.B ∧ Low S (.slice x.aB x.nB x.cB) ∧ (∀ i, i < b.B.length → Low S (vb.getD i undef)) ∧ w.ownsRow B 2 1 (.slice x.aM x.nM x.cM) b.M.length (b.M.map (Value.int .i64)) ∧ Low S (.slice x.aM x.nM x.cM) ∧
    MadeI w S (.slice (some ⟨sp, 0, none⟩) n x.cP) vs (mkP n fP) ∧ gA < S ∧ ∀ i, i < n → vs.getD i undef = .slice (some ⟨g i, 0, none⟩) n (cg i)
  wf : W64 b.M
  top : gA < T ∧ sp < T ∧ ∀ i, i < n → g i < T
  le : T ≤ w.heap.size

section
variable {w : World} {B T : Nat} {x : BA} {b : Bks} {gA sp : Nat} {g cg : Nat → Nat} {n : Nat} {fA : Nat → A3} {fP : Nat → Nat → Int}

theorem PLay.mk' {S : Nat} (h : NewBkA w B S x b) (gd : Good b) : ∃ gA sp g cg, PLay w B w.heap.size x b gA sp g cg b.A.length (fun i => b.A.getD i a30) (at2 b.P) := by
  obtain ⟨aA, nA, cA, aB, nB, cB, aM, nM, cM, aP, nP, cP⟩ := x
  obtain ⟨vs, hp⟩ := h.pos
  obtain ⟨vb, hb, lb, lbs⟩ := h.bil
  have n1 := gd.n1
  have ho := h.acc
  obtain ⟨gA, c1, hv, h1, h2⟩ := World.ownsRow.form ho (by omega)
  simp at hv
  obtain ⟨rfl, rfl, rfl⟩ := hv
  have hq := hp.own
  have lp := gd.pos
  obtain ⟨sp, c2, hv, h3, h4⟩ := World.ownsRow.form hq (by omega)
  simp at hv
  obtain ⟨rfl, rfl, rfl⟩ := hv
  have fr : ∀ i, i < b.A.length → ∃ gg cc, vs.getD i undef = .slice (some ⟨gg, 0, none⟩) b.A.length cc ∧ gg < w.heap.size := by
    intro i hi
    have hr := hp.row i (by omega)
    rw [gd.poss i hi] at hr
    obtain ⟨gg, cc, e, _, hlt⟩ := World.ownsRow.form hr (by omega)
    exact ⟨gg, cc, e, hlt⟩
  refine ⟨gA, sp, fun i => ((vs.getD i undef).ownBlock).getD 0, fun i => (match vs.getD i undef with | .slice _ _ c => c | _ => 0), ⟨rfl, rfl, rfl, lp, by rw [mkA_self]; exact ho, ?_, h.wf, ⟨h2, h4, fun i hi => ?_⟩, Nat.le_refl _⟩⟩
  · refine ⟨S, vb, vs, h.up, hb, lb, lbs, h.mul, h.lowM, ?_, h.lowA gA rfl, fun i hi => ?_⟩
    · have e : mkP b.A.length (at2 b.P) = b.P := by rw [← lp]; exact mkP_self (fun i hi => by rw [lp] at hi ⊢; exact gd.poss i hi)
      rw [e]
      have := hp
      simp only [lp] at this
      exact this
    · obtain ⟨gg, cc, e, _⟩ := fr i hi
      rw [e]
      rfl
  · obtain ⟨gg, cc, e, hlt⟩ := fr i hi
    rw [e]
    exact hlt

theorem PLay.below (h : PLay w B T x b gA sp g cg n fA fP) {w' : World} (k : Below w.heap.size w w') : PLay w' B T x b gA sp g cg n fA fP := by
  obtain ⟨S, vb, vs, h1, h2, h3, h4, h5, h6, h7, h8, h9⟩ := h.rest
  exact ⟨h.eA, h.nA, h.eP, h.nP, own_below h.acc k, ⟨S, vb, vs, h1, h2.below k, h3, h4, own_below h5 k, h6, h7.below k, h8, h9⟩, h.wf, h.top, Nat.le_trans h.le k.size⟩
theorem PLay.congr (h : PLay w B T x b gA sp g cg n fA fP) {fA' : Nat → A3} {fP' : Nat → Nat → Int} (hA : ∀ i, i < n → fA i = fA' i) (hP : ∀ i k, i < n → k < n → fP i k = fP' i k) : PLay w B T x b gA sp g cg n fA' fP' := by
  obtain ⟨S, vb, vs, h1, h2, h3, h4, h5, h6, h7, h8, h9⟩ := h.rest
  exact ⟨h.eA, h.nA, h.eP, h.nP, by rw [← mkA_congr hA]; exact h.acc, ⟨S, vb, vs, h1, h2, h3, h4, h5, h6, by rw [← mkP_congr hP]; exact h7, h8, h9⟩, h.wf, h.top, h.le⟩
theorem PLay.new (h : PLay w B T x b gA sp g cg n fA fP) : NewBk w B x ⟨mkA n fA, b.B, b.M, mkP n fP⟩ := by
  obtain ⟨aA, nA, cA, aB, nB, cB, aM, nM, cM, aP, nP, cP⟩ := x
  obtain ⟨S, vb, vs, h1, h2, h3, h4, h5, h6, h7, h8, h9⟩ := h.rest
  have e1 := h.eA
  have e2 := h.nA
  have e3 := h.eP
  have e4 := h.nP
  simp only at e1 e2 e3 e4
  subst e1 e2 e3 e4
  exact ⟨by rw [mkA_len]; exact h.acc, ⟨vb, h2⟩, h5, ⟨vs, h7.base h1⟩, h.wf⟩
theorem PLay.base (h : PLay w B T x b gA sp g cg n fA fP) : B ≤ gA ∧ (0 < n → B ≤ sp) ∧ ∀ i, i < n → B ≤ g i := by
  obtain ⟨S, vb, vs, h1, h2, h3, h4, h5, h6, h7, h8, h9⟩ := h.rest
  refine ⟨(own_row_block h.acc).1, fun h0 => ?_, fun i hi => ?_⟩
  · have := h7.own
    rw [mkP_len] at this
    have := (own_row_block this).1
    omega
  · have := (h7.row i (by rw [mkP_len]; exact hi)).lt (g i) (by rw [h9 i hi]; rfl)
    omega
theorem PLay.acct (h : PLay w B T x b gA sp g cg n fA fP) {i : Nat} (hi : i < n) : w.cell? ⟨gA, i * 3, none⟩ = some (.int .i64 (fA i).1) ∧ w.cell? ⟨gA, i * 3 + 1, none⟩ = some (.int .i64 (fA i).2.1) ∧ w.cell? ⟨gA, i * 3 + 2, none⟩ = some (.int .i64 (fA i).2.2) := by
  obtain ⟨_, _, hc⟩ := own_row_block h.acc
  obtain ⟨c0, c1, c2⟩ := accL_at (mkA n fA) i (by rw [mkA_len]; exact hi)
  rw [mkA_at fA hi] at c0 c1 c2
  exact ⟨(hc _ (by omega)).trans c0, (hc _ (by omega)).trans c1, (hc _ (by omega)).trans c2⟩
theorem PLay.freeA (h : PLay w B T x b gA sp g cg n fA fP) (j : Nat) : w.frozen? ⟨gA, j, none⟩ = false := (own_row_block h.acc).2.1 j
theorem PLay.spine (h : PLay w B T x b gA sp g cg n fA fP) {i : Nat} (hi : i < n) : w.cell? ⟨sp, i, none⟩ = some (.slice (some ⟨g i, 0, none⟩) n (cg i)) := by
  obtain ⟨S, vb, vs, h1, h2, h3, h4, h5, h6, h7, h8, h9⟩ := h.rest
  have ho := h7.own
  rw [mkP_len] at ho
  obtain ⟨_, _, hc⟩ := own_row_block ho
  rw [hc i (by omega), ← h9 i hi]
  have := ho.1
  simp [List.getD_eq_getElem?_getD, show i < vs.length by omega]
theorem PLay.row (h : PLay w B T x b gA sp g cg n fA fP) {i : Nat} (hi : i < n) : w.ownsRow B 2 1 (.slice (some ⟨g i, 0, none⟩) n (cg i)) n (((List.range n).map (fP i)).map (Value.int .i64)) := by
  obtain ⟨S, vb, vs, h1, h2, h3, h4, h5, h6, h7, h8, h9⟩ := h.rest
  have hr := h7.row i (by rw [mkP_len]; exact hi)
  rw [h9 i hi, mkP_row fP hi, List.length_map, List.length_range] at hr
  exact own_base hr h1
theorem PLay.at' (h : PLay w B T x b gA sp g cg n fA fP) {i k : Nat} (hi : i < n) (hk : k < n) : w.cell? ⟨g i, k, none⟩ = some (.int .i64 (fP i k)) := by
  rw [(own_row_block (h.row hi)).2.2 k (by omega)]
  simp [hk]
theorem PLay.freeP (h : PLay w B T x b gA sp g cg n fA fP) {i : Nat} (hi : i < n) (j : Nat) : w.frozen? ⟨g i, j, none⟩ = false := (own_row_block (h.row hi)).2.1 j
theorem PLay.wrap (h : PLay w B T x b gA sp g cg n fA fP) {i k : Nat} (hi : i < n) (hk : k < n) : IntKind.i64.wrap (fP i k) = fP i k := by
  obtain ⟨S, vb, vs, h1, h2, h3, h4, h5, h6, h7, h8, h9⟩ := h.rest
  have := getD_w64 h7.bs i
  rw [mkP_row fP hi] at this
  exact this _ (List.mem_map.2 ⟨k, List.mem_range.2 hk, rfl⟩)

/-- A number of an account is written. -/
theorem PLay.setA (h : PLay w B T x b gA sp g cg n fA fP) {i : Nat} (hi : i < n) (j : Nat) (hj : j < 3) (a : A3) (u : Value)
    (h0 : j = 0 → u = .int .i64 a.1 ∧ a.2 = (fA i).2) (h1 : j = 1 → u = .int .i64 a.2.1 ∧ a.1 = (fA i).1 ∧ a.2.2 = (fA i).2.2) (h2 : j = 2 → u = .int .i64 a.2.2 ∧ a.1 = (fA i).1 ∧ a.2.1 = (fA i).2.1) :
    PLay (w.setCell ⟨gA, i * 3 + j, none⟩ u) B T x b gA sp g cg n (updA fA i a) fP := by
  obtain ⟨S, vb, vs, k1, k2, k3, k4, k5, k6, k7, k8, k9⟩ := h.rest
  have hs := h.acc.stored (i * 3 + j) u
  rw [← accL_upd fA hi j hj a u h0 h1 h2] at hs
  obtain ⟨cur, hgA⟩ : ∃ cur, w.heap[gA]? = some (.cells cur 53 (0, 0)) := by
    rcases h.acc.2 with ⟨hv, _⟩ | ⟨g', cap, cur, hv, _, hg, _⟩
    · simp at hv
    · simp at hv
      obtain ⟨rfl, rfl⟩ := hv
      exact ⟨cur, hg⟩
  have ne : ∀ {t : TypeId} {B' s' n' : Nat} {v' : Value} {xs' : List Value}, w.ownsRow B' t s' v' n' xs' → t ≠ 53 → (w.setCell ⟨gA, i * 3 + j, none⟩ u).ownsRow B' t s' v' n' xs' := fun ho' ht => by
    refine ho'.kept hs.2 ?_
    rcases ho'.2 with ⟨hv, _⟩ | ⟨g', cap', cur', hv', hb', hg', _⟩
    · left; rw [hv]; rfl
    · right
      rw [hv']
      intro e
      have e : g' = gA := by simpa [Value.ownBlock] using e
      subst e
      rw [hgA] at hg'
      simp at hg'
      exact ht hg'.2.symm
  have mk : ∀ {B' : Nat} {v : Value} {vs : List Value} {R : List (List Int)}, MadeI w B' v vs R → MadeI (w.setCell ⟨gA, i * 3 + j, none⟩ u) B' v vs R := fun hm =>
    ⟨ne hm.own (by decide), fun i hi => ne (hm.row i hi) (by decide), hm.spine, hm.rows, hm.bs⟩
  exact ⟨h.eA, h.nA, h.eP, h.nP, hs.1, ⟨S, vb, vs, k1, mk k2, k3, k4, ne k5 (by decide), k6, mk k7, k8, k9⟩, h.wf, h.top, by rw [show (w.setCell ⟨gA, i * 3 + j, none⟩ u).heap.size = w.heap.size by simp [World.setCell]]; exact h.le⟩

theorem low_ne {S : Nat} {v : Value} (h : Low S v) {g : Nat} (hg : S ≤ g) : v.ownBlock = none ∨ v.ownBlock ≠ some g := by
  cases hv : v.ownBlock with
  | none => exact .inl rfl
  | some k => exact .inr fun e => by have := h k hv; simp at e; omega

/-- A position is written. -/
theorem PLay.setP (h : PLay w B T x b gA sp g cg n fA fP) {i k : Nat} (hi : i < n) (hk : k < n) {y : Int} (hy : IntKind.i64.wrap y = y) :
    PLay (w.setCell ⟨g i, k, none⟩ (.int .i64 y)) B T x b gA sp g cg n fA (updP fP i k y) := by
  obtain ⟨S, vb, vs, k1, k2, k3, k4, k5, k6, k7, k8, k9⟩ := h.rest
  have hr := k7.row i (by rw [mkP_len]; exact hi)
  rw [k9 i hi, mkP_row fP hi, List.length_map, List.length_range] at hr
  have hst := hr.stored k (.int .i64 y)
  have hgS : S ≤ g i := (own_row_block hr).1
  have low : ∀ {t : TypeId} {B' s' n' : Nat} {v' : Value} {xs' : List Value}, w.ownsRow B' t s' v' n' xs' → Low S v' → (w.setCell ⟨g i, k, none⟩ (.int .i64 y)).ownsRow B' t s' v' n' xs' := fun ho' hl => ho'.kept hst.2 (low_ne hl hgS)
  have hvi : (vs.getD i undef).ownBlock = some (g i) := by rw [k9 i hi]; rfl
  have lP := mkP_len n fP
  refine ⟨h.eA, h.nA, h.eP, h.nP, low h.acc (fun gg hg => by simp [Value.ownBlock] at hg; omega), ⟨S, vb, vs, k1, ⟨low k2.own k3, fun j hj => low (k2.row j hj) (k4 j hj), k2.spine, k2.rows, k2.bs⟩, k3, k4, low k5 k6, k6, ⟨?_, fun j hj => ?_, fun j hj => k7.spine j (by rw [mkP_len] at hj ⊢; exact hj), fun j l hj hl => k7.rows j l (by rw [mkP_len] at hj ⊢; exact hj) (by rw [mkP_len] at hl ⊢; exact hl), fun z hz => ?_⟩, k8, k9⟩, h.wf, h.top, by rw [show (w.setCell ⟨g i, k, none⟩ (.int .i64 y)).heap.size = w.heap.size by simp [World.setCell]]; exact h.le⟩
  · have ho := k7.own
    rw [mkP_len] at ho ⊢
    refine ho.kept hst.2 ?_
    rcases k7.spine i (by rw [mkP_len]; exact hi) with e | e
    · rw [hvi] at e; cases e
    · right; rw [← hvi]; exact fun e' => e e'.symm
  · have hjn : j < n := by rw [mkP_len] at hj; exact hj
    rw [mkP_row _ hjn, List.length_map, List.length_range]
    by_cases hji : j = i
    · subst hji
      rw [k9 j hjn]
      have e : ((List.range n).map (updP fP j k y j)).map (Value.int .i64) = (((List.range n).map (fP j)).map (Value.int .i64)).set k (.int .i64 y) := by
        refine List.ext_getElem? fun l => ?_
        rw [List.getElem?_set]
        by_cases hl : l < n
        · by_cases hlk : k = l
          · subst hlk
            simp [hl, updP]
          · have hlk' : ¬ l = k := fun e => hlk e.symm
            simp [hl, updP, hlk, hlk']
        · rw [List.getElem?_eq_none (by simp; omega), if_neg (by omega), List.getElem?_eq_none (by simp; omega)]
      rw [e]
      exact hst.1
    · have e : (List.range n).map (updP fP i k y j) = (List.range n).map (fP j) := List.map_congr_left fun l _ => by simp [updP, hji]
      rw [e]
      have hrj := k7.row j (by rw [mkP_len]; exact hjn)
      rw [mkP_row fP hjn, List.length_map, List.length_range] at hrj
      refine hrj.kept hst.2 ?_
      have := k7.rows j i (by rw [mkP_len]; exact hjn) (by rw [mkP_len]; exact hi) hji
      rw [hvi] at this
      exact this
  · obtain ⟨j, hj, rfl⟩ := List.mem_map.1 hz
    intro v hv
    obtain ⟨l, hl, rfl⟩ := List.mem_map.1 hv
    unfold updP
    split
    · exact hy
    · exact h.wrap (List.mem_range.1 hj) (List.mem_range.1 hl)
end

end Go.Proofs.Ytlackjldopeigaa

/-
  post: a payment moves.
-/
namespace Go.Proofs.Ytlackjldopeigaa
open Go.RowKit
set_option linter.unusedVariables false
set_option linter.unusedSimpArgs false

set_option maxHeartbeats 4000000 in
theorem movePos_any (w : World) (B T : Nat) (x : BA) (b : Bks) (gA sp : Nat) (g cg : Nat → Nat) (n : Nat) (fA : Nat → A3) (fP : Nat → Nat → Int) (h : PLay w B T x b gA sp g cg n fA fP) (c i j : Nat) (hi : i < n) (hj : j < n) (d : Int) (r0 : -9223372036854775808 ≤ fP i j + d) (r1 : fP i j + d ≤ 9223372036854775807) :
    Calls Try.prog 80 #[.slice (some ⟨sp, 0, none⟩) n c, .int .i64 i, .int .i64 j, .int .i64 d] w fun e w' => e = .returned (.tuple #[]) ∧ PLay w' B T x b gA sp g cg n fA (updP fP i j (fP i j + d)) ∧ Within B T w w' := by
  have s0 := h.spine hi
  have c0 := h.at' hi hj
  have f0 := h.freeP hi j
  have R : Hid (PLay (w.setCell ⟨g i, j, none⟩ (.int .i64 (fP i j + d))) B T x b gA sp g cg n fA (updP fP i j (fP i j + d)) ∧ Within B T w (w.setCell ⟨g i, j, none⟩ (.int .i64 (fP i j + d)))) :=
    ⟨h.setP hi hj (by rw [IntKind.wrap_i64]; omega), (Within.refl _ _ _).set (h.base.2.2 i hi) (h.top.2.2 i hi) _⟩
  generalize updP fP i j (fP i j + d) = fP' at R ⊢
  generalize fP i j = y at c0 r0 r1 R
  generalize g i = gi at s0 c0 f0 R
  generalize cg i = ci at s0
  have i1 : (i : Int) < (n : Int) := by omega
  have j1 : (j : Int) < (n : Int) := by omega
  clear h hi hj
  go_enter Try.func80, Try.ntmps80
  go_wp2
  go_end0
  exact ⟨rfl, R.out⟩

/-- What a payment moves. -/
def movA (fA : Nat → A3) (f t : Nat) (am cl : Int) : Nat → A3 := fun i => if i = f then ((fA f).1 - am, (fA f).2.1, if cl = 3 then (fA f).2.2 else keptV (fA f).2.2 am) else if i = t then ((fA t).1 + am, (fA t).2.1, (fA t).2.2) else fA i
def movP (fP : Nat → Nat → Int) (f t : Nat) (am : Int) : Nat → Nat → Int := fun i k => if i = f ∧ k = t then fP f t + am else if i = t ∧ k = f then fP t f - am else fP i k
theorem movP_upd (fP : Nat → Nat → Int) {f t : Nat} (h : ¬ f = t) (am : Int) : updP (updP fP f t (fP f t + am)) t f (fP t f + -am) = movP fP f t am := by
  funext i k
  unfold updP movP
  by_cases h1 : i = f ∧ k = t
  · rw [if_neg (by omega), if_pos h1, if_pos h1]
  · by_cases h2 : i = t ∧ k = f
    · rw [if_pos h2, if_neg h1, if_pos h2]; omega
    · rw [if_neg h2, if_neg h1, if_neg h1, if_neg h2]
theorem movA_plain (fA : Nat → A3) {f t : Nat} (h : ¬ f = t) (am : Int) : updA (updA fA f ((fA f).1 - am, (fA f).2)) t ((fA t).1 + am, (fA t).2) = movA fA f t am 3 := by
  funext i
  unfold updA movA
  by_cases h1 : i = f
  · rw [if_neg (by omega), if_pos h1, if_pos h1]; simp
  · by_cases h2 : i = t
    · rw [if_pos h2, if_neg h1, if_pos h2]
    · rw [if_neg h2, if_neg h1, if_neg h1, if_neg h2]
theorem movA_spent (fA : Nat → A3) {f t : Nat} (h : ¬ f = t) (am : Int) {cl : Int} (hc : ¬ cl = 3) : updA (updA (updA fA f ((fA f).1 - am, (fA f).2)) t ((fA t).1 + am, (fA t).2)) f ((fA f).1 - am, (fA f).2.1, keptV (fA f).2.2 am) = movA fA f t am cl := by
  funext i
  unfold updA movA
  by_cases h1 : i = f
  · rw [if_pos h1, if_pos h1, if_neg hc]
  · by_cases h2 : i = t
    · rw [if_neg h1, if_pos h2, if_neg h1, if_pos h2]
    · rw [if_neg h1, if_neg h2, if_neg h1, if_neg h1, if_neg h2]
section
variable {w : World} {B T : Nat} {x : BA} {b : Bks} {gA sp : Nat} {g cg : Nat → Nat} {n : Nat} {fA : Nat → A3} {fP : Nat → Nat → Int}
/-- A balance, a reserve is written. -/
theorem PLay.bal (h : PLay w B T x b gA sp g cg n fA fP) {i : Nat} (hi : i < n) (y : Int) : PLay (w.setCell ⟨gA, i * 3, none⟩ (.int .i64 y)) B T x b gA sp g cg n (updA fA i (y, (fA i).2)) fP :=
  h.setA hi 0 (by omega) (y, (fA i).2) (.int .i64 y) (fun _ => ⟨rfl, rfl⟩) (fun e => by omega) (fun e => by omega)
theorem PLay.res (h : PLay w B T x b gA sp g cg n fA fP) {i : Nat} (hi : i < n) (y : Int) : PLay (w.setCell ⟨gA, i * 3 + 2, none⟩ (.int .i64 y)) B T x b gA sp g cg n (updA fA i ((fA i).1, (fA i).2.1, y)) fP :=
  h.setA hi 2 (by omega) ((fA i).1, (fA i).2.1, y) (.int .i64 y) (fun e => by omega) (fun e => by omega) (fun _ => ⟨rfl, rfl, rfl⟩)
theorem PLay.inA (h : PLay w B T x b gA sp g cg n fA fP) (j : Nat) (u : Value) : Within B T w (w.setCell ⟨gA, j, none⟩ u) := (Within.refl _ _ _).set h.base.1 h.top.1 _
end
/-- What lies behind it stays. -/
theorem Within.box4 {B T : Nat} {w w' : World} (h : Within B T w w') {z : Nat} {x : BA} (k : Box4 w z x) (hz : T ≤ z) : Box4 w' z x :=
  ⟨h.cell k.1 (.inr hz), h.cell k.2.1 (.inr hz), h.cell k.2.2.1 (.inr hz), h.cell k.2.2.2 (.inr hz)⟩
theorem Within.at7 {B T : Nat} {w w' : World} (h : Within B T w w') {z o : Nat} {p : P7} (k : At7 w z o p) (hz : T ≤ z) : At7 w' z o p := by
  obtain ⟨h0, h1, h2, h3, h4, h5, h6⟩ := k
  exact ⟨h.cell h0 (.inr hz), h.cell h1 (.inr hz), h.cell h2 (.inr hz), h.cell h3 (.inr hz), h.cell h4 (.inr hz), h.cell h5 (.inr hz), h.cell h6 (.inr hz)⟩

set_option maxHeartbeats 8000000 in
set_option maxRecDepth 100000 in
theorem move_any (w : World) (B T : Nat) (x : BA) (b : Bks) (gA sp : Nat) (g cg : Nat → Nat) (n : Nat) (fA : Nat → A3) (fP : Nat → Nat → Int) (h : PLay w B T x b gA sp g cg n fA fP) (f t : Nat) (hf : f < n) (ht : t < n) (hne : ¬ f = t) (x0 am cl x5 x6 : Int) (m0 : 0 ≤ am) (m1 : am ≤ 9223372036854775807)
    (r0 : -9223372036854775808 ≤ (fA f).1 - am ∧ (fA f).1 - am ≤ 9223372036854775807) (r1 : -9223372036854775808 ≤ (fA t).1 + am ∧ (fA t).1 + am ≤ 9223372036854775807) (r2 : 0 ≤ (fA f).2.2 ∧ (fA f).2.2 ≤ 9223372036854775807)
    (r3 : -9223372036854775808 ≤ fP f t + am ∧ fP f t + am ≤ 9223372036854775807) (r4 : -9223372036854775808 ≤ fP t f + -am ∧ fP t f + -am ≤ 9223372036854775807) :
    Calls Try.prog 64 #[x.val, .agg #[.int .i64 x0, .int .i64 f, .int .i64 t, .int .i64 am, .int .i64 cl, .int .i64 x5, .int .i64 x6]] w fun e w' => e = .returned (.tuple #[]) ∧ PLay w' B T x b gA sp g cg n (movA fA f t am cl) (movP fP f t am) ∧ Within B T w w' := by
  have e1 := h.eA
  have e2 := h.nA
  have e3 := h.eP
  have e4 := h.nP
  obtain ⟨aA, nA, cA, aB, nB, cB, aM, nM, cM, aP, nP, cP⟩ := x
  simp only at e1 e2 e3 e4
  subst aA nA aP nP
  obtain ⟨w2, hw2⟩ : ∃ w2, w2 = (w.alloc (.cells #[.slice (some ⟨gA, 0, none⟩) n cA, .slice aB nB cB, .slice aM nM cM, .slice (some ⟨sp, 0, none⟩) n cP] 27)).alloc (.cells #[.int .i64 x0, .int .i64 f, .int .i64 t, .int .i64 am, .int .i64 cl, .int .i64 x5, .int .i64 x6] 51) := ⟨_, rfl⟩
  have B2 : Hid (Below w.heap.size w w2) := by rw [hw2]; exact (box_below _ _).alloc (box_below _ _).size _
  have X2 : Hid (Box4 w2 w.heap.size ⟨some ⟨gA, 0, none⟩, n, cA, aB, nB, cB, aM, nM, cM, some ⟨sp, 0, none⟩, n, cP⟩) := by rw [hw2]; exact (Box4.new w ⟨some ⟨gA, 0, none⟩, n, cA, aB, nB, cB, aM, nM, cM, some ⟨sp, 0, none⟩, n, cP⟩ _ _).below (box_below _ _)
  have Y2 : Hid (At7 w2 (w.heap.size + 1) 0 (x0, f, t, am, cl, x5, x6)) := by
    rw [hw2, ← size_alloc w (.cells #[.slice (some ⟨gA, 0, none⟩) n cA, .slice aB nB cB, .slice aM nM cM, .slice (some ⟨sp, 0, none⟩) n cP] 27)]
    exact At7.new _ (x0, f, t, am, cl, x5, x6) _ _
  have L2 : Hid (PLay w2 B T ⟨some ⟨gA, 0, none⟩, n, cA, aB, nB, cB, aM, nM, cM, some ⟨sp, 0, none⟩, n, cP⟩ b gA sp g cg n fA fP) := h.below B2.out
  have HT : Hid (T ≤ w.heap.size ∧ T ≤ w.heap.size + 1) := ⟨h.le, by have := h.le; omega⟩
  have HN : Hid (¬ f = t ∧ f < n ∧ t < n) := ⟨hne, hf, ht⟩
  have HR : Hid (0 ≤ (fA f).2.2 ∧ (fA f).2.2 ≤ 9223372036854775807) := r2
  have HM : Hid (0 ≤ am ∧ am ≤ 9223372036854775807) := ⟨m0, m1⟩
  have H3 : Hid (-9223372036854775808 ≤ fP f t + am ∧ fP f t + am ≤ 9223372036854775807) := r3
  have H4 : Hid (-9223372036854775808 ≤ fP t f + -am ∧ fP t f + -am ≤ 9223372036854775807) := r4
  have i1 : (f : Int) < (n : Int) := by omega
  have j1 : (t : Int) < (n : Int) := by omega
  obtain ⟨r00, r01⟩ := r0
  obtain ⟨r10, r11⟩ := r1
  obtain ⟨p0, p1, p2, p3⟩ := X2.out
  replace p0 : w2.cell? ⟨w.heap.size, 0, none⟩ = some (.slice (some ⟨gA, 0, none⟩) n cA) := p0
  obtain ⟨c0, c1, c2, c3, c4, c5, c6⟩ := Y2.out
  replace c1 : w2.cell? ⟨w.heap.size + 1, 1, none⟩ = some (.int .i64 f) := c1
  replace c2 : w2.cell? ⟨w.heap.size + 1, 2, none⟩ = some (.int .i64 t) := c2
  clear h p1 p2 p3 c0 c3 c4 c5 c6 m0 m1 r2 r3 r4 hf ht hne
  go_enter Try.func64, Try.ntmps64
  go_upto_region 1 with fail
  rw [← hw2]
  clear hw2
  go_quiet (fail)
  have X3 : Hid (Box4 (w2.drewN nq) w.heap.size ⟨some ⟨gA, 0, none⟩, n, cA, aB, nB, cB, aM, nM, cM, some ⟨sp, 0, none⟩, n, cP⟩) := X2.out.below (drawn_below w2 nq)
  have Y3 : Hid (At7 (w2.drewN nq) (w.heap.size + 1) 0 (x0, f, t, am, cl, x5, x6)) := Y2.out.below (drawn_below w2 nq)
  have L3 : Hid (PLay (w2.drewN nq) B T ⟨some ⟨gA, 0, none⟩, n, cA, aB, nB, cB, aM, nM, cM, some ⟨sp, 0, none⟩, n, cP⟩ b gA sp g cg n fA fP) := L2.out.below (drawn_below w2 nq)
  have W3 : Hid (Within B T w (w2.drewN nq)) := (Within.of B2.out).trans (Within.of (drawn_below w2 nq))
  generalize w2.drewN nq = w3 at X3 Y3 L3 W3 ⊢
  clear p0 c1 c2 X2 Y2 L2 B2 i1 j1
  obtain ⟨_, _, _, c3, _, _, _⟩ := Y3.out
  replace c3 : w3.cell? ⟨w.heap.size + 1, 3, none⟩ = some (.int .i64 am) := c3
  obtain ⟨a0, _, _⟩ := L3.out.acct HN.out.2.1
  have f0 := L3.out.freeA (f * 3)
  have L4 : Hid (PLay (w3.setCell ⟨gA, f * 3, none⟩ (.int .i64 ((fA f).1 - am))).drew B T ⟨some ⟨gA, 0, none⟩, n, cA, aB, nB, cB, aM, nM, cM, some ⟨sp, 0, none⟩, n, cP⟩ b gA sp g cg n (updA fA f ((fA f).1 - am, (fA f).2)) fP) := (L3.out.bal HN.out.2.1 _).below (drawn_below _ 1)
  have V4 : Hid (Within B T w3 (w3.setCell ⟨gA, f * 3, none⟩ (.int .i64 ((fA f).1 - am))).drew) := (L3.out.inA _ _).trans (Within.of (drawn_below _ 1))
  have A4 : Hid ((updA fA f ((fA f).1 - am, (fA f).2)) t = fA t) := by show _ = _; unfold updA; rw [if_neg (fun e => HN.out.1 e.symm)]
  go_wp2_with fail
  go_region
  generalize (w3.setCell ⟨gA, f * 3, none⟩ (.int .i64 ((fA f).1 - am))).drew = w4 at L4 V4 ⊢
  have X4 : Hid (Box4 w4 w.heap.size ⟨some ⟨gA, 0, none⟩, n, cA, aB, nB, cB, aM, nM, cM, some ⟨sp, 0, none⟩, n, cP⟩) := V4.out.box4 X3.out HT.out.1
  have Y4 : Hid (At7 w4 (w.heap.size + 1) 0 (x0, f, t, am, cl, x5, x6)) := V4.out.at7 Y3.out HT.out.2
  have W4 : Hid (Within B T w w4) := W3.out.trans V4.out
  clear X3 Y3 W3 L3 V4 c3 a0 f0
  obtain ⟨_, _, _, c3, _, _, _⟩ := Y4.out
  replace c3 : w4.cell? ⟨w.heap.size + 1, 3, none⟩ = some (.int .i64 am) := c3
  obtain ⟨a0, _, _⟩ := L4.out.acct HN.out.2.2
  rw [A4.out] at a0
  have f0 := L4.out.freeA (t * 3)
  have L5 : Hid (PLay (w4.setCell ⟨gA, t * 3, none⟩ (.int .i64 ((fA t).1 + am))).drew B T ⟨some ⟨gA, 0, none⟩, n, cA, aB, nB, cB, aM, nM, cM, some ⟨sp, 0, none⟩, n, cP⟩ b gA sp g cg n (updA (updA fA f ((fA f).1 - am, (fA f).2)) t ((fA t).1 + am, (fA t).2)) fP) := by
    have := (L4.out.bal HN.out.2.2 ((fA t).1 + am)).below (drawn_below _ 1)
    rw [A4.out] at this
    exact this
  have V5 : Hid (Within B T w4 (w4.setCell ⟨gA, t * 3, none⟩ (.int .i64 ((fA t).1 + am))).drew) := (L4.out.inA _ _).trans (Within.of (drawn_below _ 1))
  have A5 : Hid ((updA (updA fA f ((fA f).1 - am, (fA f).2)) t ((fA t).1 + am, (fA t).2)) f = ((fA f).1 - am, (fA f).2)) := by show _ = _; unfold updA; rw [if_neg HN.out.1, if_pos rfl]
  go_wp2_with fail
  go_region
  generalize (w4.setCell ⟨gA, t * 3, none⟩ (.int .i64 ((fA t).1 + am))).drew = w5 at L5 V5 ⊢
  have X5 : Hid (Box4 w5 w.heap.size ⟨some ⟨gA, 0, none⟩, n, cA, aB, nB, cB, aM, nM, cM, some ⟨sp, 0, none⟩, n, cP⟩) := V5.out.box4 X4.out HT.out.1
  have Y5 : Hid (At7 w5 (w.heap.size + 1) 0 (x0, f, t, am, cl, x5, x6)) := V5.out.at7 Y4.out HT.out.2
  have W5 : Hid (Within B T w w5) := W4.out.trans V5.out
  clear X4 Y4 W4 L4 V5 c3 a0 f0 A4 r00 r01 r10 r11
  obtain ⟨_, z1, z2, z3, z4, _, _⟩ := Y5.out
  replace z1 : w5.cell? ⟨w.heap.size + 1, 1, none⟩ = some (.int .i64 f) := z1
  replace z2 : w5.cell? ⟨w.heap.size + 1, 2, none⟩ = some (.int .i64 t) := z2
  replace z3 : w5.cell? ⟨w.heap.size + 1, 3, none⟩ = some (.int .i64 am) := z3
  replace z4 : w5.cell? ⟨w.heap.size + 1, 4, none⟩ = some (.int .i64 cl) := z4
  by_cases hc : cl = 3
  · subst hc
    have L6 : Hid (PLay w5 B T ⟨some ⟨gA, 0, none⟩, n, cA, aB, nB, cB, aM, nM, cM, some ⟨sp, 0, none⟩, n, cP⟩ b gA sp g cg n (movA fA f t am 3) fP) := by
      have := L5.out
      rw [movA_plain fA HN.out.1] at this
      exact this
    obtain ⟨fA6, h6⟩ : ∃ z, z = movA fA f t am 3 := ⟨_, rfl⟩
    rw [← h6] at L6
    have H6 : Hid (fA6 = movA fA f t am 3) := h6
    clear L5 A5 h6
    obtain ⟨_, _, _, p3⟩ := X5.out
    replace p3 : w5.cell? ⟨w.heap.size, 3, none⟩ = some (.slice (some ⟨sp, 0, none⟩) n cP) := p3
    have M := movePos_any w5 B T ⟨some ⟨gA, 0, none⟩, n, cA, aB, nB, cB, aM, nM, cM, some ⟨sp, 0, none⟩, n, cP⟩ b gA sp g cg n fA6 fP L6.out cP f t HN.out.2.1 HN.out.2.2 am H3.out.1 H3.out.2
    have HP : Hid (updP (updP fP f t (fP f t + am)) t f (fP t f + -am) = movP fP f t am) := movP_upd fP HN.out.1 am
    have HQ : Hid ((updP fP f t (fP f t + am)) t f = fP t f) := by show _ = _; unfold updP; rw [if_neg (fun e => HN.out.1 e.2)]
    go_wp2_with fail
    go_at_call 80
    refine M.mono ?_
    rintro e w8 ⟨rfl, l8, v8⟩
    have L8 : Hid (PLay w8 B T ⟨some ⟨gA, 0, none⟩, n, cA, aB, nB, cB, aM, nM, cM, some ⟨sp, 0, none⟩, n, cP⟩ b gA sp g cg n fA6 (updP fP f t (fP f t + am))) := l8
    have X8 : Hid (Box4 w8 w.heap.size ⟨some ⟨gA, 0, none⟩, n, cA, aB, nB, cB, aM, nM, cM, some ⟨sp, 0, none⟩, n, cP⟩) := v8.box4 X5.out HT.out.1
    have Y8 : Hid (At7 w8 (w.heap.size + 1) 0 (x0, f, t, am, 3, x5, x6)) := v8.at7 Y5.out HT.out.2
    have W8 : Hid (Within B T w w8) := W5.out.trans v8
    clear l8 v8 M L6 X5 Y5 W5 p3 z1 z2 z3
    obtain ⟨_, _, _, p3⟩ := X8.out
    replace p3 : w8.cell? ⟨w.heap.size, 3, none⟩ = some (.slice (some ⟨sp, 0, none⟩) n cP) := p3
    obtain ⟨_, z1, z2, z3, _, _, _⟩ := Y8.out
    replace z1 : w8.cell? ⟨w.heap.size + 1, 1, none⟩ = some (.int .i64 f) := z1
    replace z2 : w8.cell? ⟨w.heap.size + 1, 2, none⟩ = some (.int .i64 t) := z2
    replace z3 : w8.cell? ⟨w.heap.size + 1, 3, none⟩ = some (.int .i64 am) := z3
    have M := movePos_any w8 B T ⟨some ⟨gA, 0, none⟩, n, cA, aB, nB, cB, aM, nM, cM, some ⟨sp, 0, none⟩, n, cP⟩ b gA sp g cg n fA6 (updP fP f t (fP f t + am)) L8.out cP t f HN.out.2.2 HN.out.2.1 (-am) (by rw [HQ.out]; exact H4.out.1) (by rw [HQ.out]; exact H4.out.2)
    rw [HQ.out, HP.out] at M
    have g1 : -9223372036854775808 ≤ -am := by have := HM.out; omega
    have g2 : -am ≤ 9223372036854775807 := by have := HM.out; omega
    go_wp2_with fail
    go_at_call 80
    refine M.mono ?_
    rintro e w9 ⟨rfl, l9, v9⟩
    have R : Hid (PLay w9 B T ⟨some ⟨gA, 0, none⟩, n, cA, aB, nB, cB, aM, nM, cM, some ⟨sp, 0, none⟩, n, cP⟩ b gA sp g cg n (movA fA f t am 3) (movP fP f t am) ∧ Within B T w w9) := ⟨by rw [← H6.out]; exact l9, W8.out.trans v9⟩
    clear l9 v9 M L8 X8 Y8 W8 p3 z1 z2 z3 g1 g2
    go_wp2
    go_end0
    exact ⟨rfl, R.out⟩
  · have hcb : (cl == 3) = false := by simpa using hc
    have L5' : Hid (PLay w5 B T ⟨some ⟨gA, 0, none⟩, n, cA, aB, nB, cB, aM, nM, cM, some ⟨sp, 0, none⟩, n, cP⟩ b gA sp g cg n (updA (updA fA f ((fA f).1 - am, (fA f).2)) t ((fA t).1 + am, (fA t).2)) fP) := L5.out
    have HK : Hid (updA (updA (updA fA f ((fA f).1 - am, (fA f).2)) t ((fA t).1 + am, (fA t).2)) f ((fA f).1 - am, (fA f).2.1, keptV (fA f).2.2 am) = movA fA f t am cl) := movA_spent fA HN.out.1 am hc
    obtain ⟨vb, hvb⟩ : ∃ v, (fA f).1 - am = v := ⟨_, rfl⟩
    obtain ⟨vc, hvc⟩ : ∃ v, (fA f).2.1 = v := ⟨_, rfl⟩
    obtain ⟨vr, hvr⟩ : ∃ v, (fA f).2.2 = v := ⟨_, rfl⟩
    have KP := kept_any vb vc vr am (by rw [← hvr]; exact HR.out.1) (by rw [← hvr]; exact HR.out.2) HM.out.1 HM.out.2
    rw [hvr] at HK
    generalize hkv : keptV vr am = kv at KP HK
    have L6 : Hid (∀ u, Below w5.heap.size w5 u → PLay (u.setCell ⟨gA, f * 3 + 2, none⟩ (.int .i64 kv)) B T ⟨some ⟨gA, 0, none⟩, n, cA, aB, nB, cB, aM, nM, cM, some ⟨sp, 0, none⟩, n, cP⟩ b gA sp g cg n (movA fA f t am cl) fP ∧ Within B T w5 (u.setCell ⟨gA, f * 3 + 2, none⟩ (.int .i64 kv))) := fun u hu => by
      have k5 := L5.out.below hu
      have := k5.res HN.out.2.1 kv
      rw [A5.out] at this
      simp only at this
      rw [HK.out] at this
      exact ⟨this, (Within.of hu).trans (k5.inA _ _)⟩
    have F5 : Hid (∀ u, Below w5.heap.size w5 u → u.frozen? ⟨gA, f * 3 + 2, none⟩ = false) := fun u hu => (L5.out.below hu).freeA _
    have C5 : Hid (∀ u, Below w5.heap.size w5 u → u.cell? ⟨gA, f * 3, none⟩ = some (.int .i64 vb) ∧ u.cell? ⟨gA, f * 3 + 1, none⟩ = some (.int .i64 vc) ∧ u.cell? ⟨gA, f * 3 + 2, none⟩ = some (.int .i64 vr)) := fun u hu => by
      have := (L5.out.below hu).acct HN.out.2.1
      rw [A5.out] at this
      simp only [hvb, hvc, hvr] at this
      exact this
    clear hvb hvc hvr hkv L5 L5' A5 HK HR
    obtain ⟨fA6, h6⟩ : ∃ z, z = movA fA f t am cl := ⟨_, rfl⟩
    rw [← h6] at L6
    have H6 : Hid (fA6 = movA fA f t am cl) := h6
    clear h6
    go_wp2_with fail
    refine region_owes_endN 9 (L := [Fact.is (.pointer (some ⟨gA, f * 3, none⟩)),
      Fact.is (.pointer (some ⟨gA, f * 3, none⟩)),
      Fact.is (.pointer (some ⟨gA, f * 3, none⟩)),
      Fact.is (.agg #[.int .i64 vb, .int .i64 vc, .int .i64 vr]),
      Fact.is (.pointer (some ⟨w.heap.size + 1, 3, none⟩)),
      Fact.is (.int .i64 am),
      Fact.is (.int .i64 kv),
      Fact.is (.pointer (some ⟨gA, f * 3, none⟩)),
      Fact.is (.pointer (some ⟨gA, f * 3 + 2, none⟩))])
      (T := [37, 38, 39, 40, 41, 42, 43, 44, 45]) (by kernel_rfl) rfl rfl (by kernel_rfl) (by kernel_rfl) rfl ?owes ?_
    case owes =>
      simp only [List.take_succ_cons, List.take_zero]
      refine .cons (owes_move (.tmp 4) (.inl rfl) fun q u lh => ⟨wants_free rfl, lh.old 4 rfl⟩) ?_
      refine .cons (owes_move (.tmp 4) (.inl rfl) fun q u lh => ⟨wants_free rfl, lh.old 4 rfl⟩) ?_
      refine .cons (owes_value fun q u lh => ⟨wants_free rfl, .pointer (some ⟨gA, f * 3, none⟩), by have e38 : q.tmps.getD 38 undef = .pointer (some ⟨gA, f * 3, none⟩) := lh.dep 1 rfl; simp [execOp, Act.eval, e38, go_sem], rfl⟩) ?_
      refine .cons (owes_value fun q u lh => ⟨wants_free rfl, .agg #[.int .i64 vb, .int .i64 vc, .int .i64 vr], by have e39 : q.tmps.getD 39 undef = .pointer (some ⟨gA, f * 3, none⟩) := lh.dep 2 rfl; obtain ⟨y0, y1, y2⟩ := C5.out u lh.below; simp [execOp, Act.eval, e39, y0, y1, y2, go_sem], rfl⟩) ?_
      refine .cons (owes_value fun q u lh => ⟨wants_free rfl, .pointer (some ⟨w.heap.size + 1, 3, none⟩), by have e3 : q.tmps.getD 3 undef = .pointer (some ⟨w.heap.size + 1, 0, none⟩) := lh.old 3 rfl; simp [execOp, Act.eval, e3, go_sem], rfl⟩) ?_
      refine .cons (owes_value fun q u lh => ⟨wants_free rfl, .int .i64 am, by have e41 : q.tmps.getD 41 undef = .pointer (some ⟨w.heap.size + 1, 3, none⟩) := lh.dep 4 rfl; obtain ⟨_, _, _, y3, _, _, _⟩ := Y5.out.below lh.below; simp [execOp, Act.eval, e41, y3, go_sem], rfl⟩) ?_
      refine .cons (owes_call 79 Try.func79 (by kernel_rfl) (by kernel_rfl) [.tmp 40, .tmp 42] #[53, 2] rfl fun q u lh => ⟨wants_free rfl, by have e40 : q.tmps.getD 40 undef = .agg #[.int .i64 vb, .int .i64 vc, .int .i64 vr] := lh.dep 3 rfl; have e42 : q.tmps.getD 42 undef = .int .i64 am := lh.dep 5 rfl; show Calls Try.prog 79 #[q.tmps.getD 40 undef, q.tmps.getD 42 undef] u _; rw [e40, e42]; exact int_fact (KP u)⟩) ?_
      refine .cons (owes_value fun q u lh => ⟨wants_free rfl, .pointer (some ⟨gA, f * 3, none⟩), by have e37 : q.tmps.getD 37 undef = .pointer (some ⟨gA, f * 3, none⟩) := lh.dep 0 rfl; simp [execOp, Act.eval, e37, go_sem], rfl⟩) ?_
      refine .cons (owes_value fun q u lh => ⟨wants_free rfl, .pointer (some ⟨gA, f * 3 + 2, none⟩), by have e44 : q.tmps.getD 44 undef = .pointer (some ⟨gA, f * 3, none⟩) := lh.dep 7 rfl; simp [execOp, Act.eval, e44, go_sem], rfl⟩) ?_
      exact .nil _
    intro q u hb hsz hdf hold hfact
    obtain ⟨l6, v6⟩ := L6.out u hb
    have f0 := F5.out u hb
    obtain ⟨_, _, y2⟩ := C5.out u hb
    obtain ⟨w6, hw6⟩ : ∃ w6, w6 = u.setCell ⟨gA, f * 3 + 2, none⟩ (.int .i64 kv) := ⟨_, rfl⟩
    rw [← hw6] at l6 v6
    have L7 : Hid (PLay w6 B T ⟨some ⟨gA, 0, none⟩, n, cA, aB, nB, cB, aM, nM, cM, some ⟨sp, 0, none⟩, n, cP⟩ b gA sp g cg n fA6 fP) := l6
    have X6 : Hid (Box4 w6 w.heap.size ⟨some ⟨gA, 0, none⟩, n, cA, aB, nB, cB, aM, nM, cM, some ⟨sp, 0, none⟩, n, cP⟩) := v6.box4 X5.out HT.out.1
    have Y6 : Hid (At7 w6 (w.heap.size + 1) 0 (x0, f, t, am, cl, x5, x6)) := v6.at7 Y5.out HT.out.2
    have W6 : Hid (Within B T w w6) := W5.out.trans v6
    clear l6 v6 hb L6 F5 C5
    obtain rfl := frame_puts hsz hdf [37, 38, 39, 40, 41, 42, 43, 44, 45] hold [(37, Value.pointer (some ⟨gA, f * 3, none⟩)), (38, Value.pointer (some ⟨gA, f * 3, none⟩)), (39, Value.pointer (some ⟨gA, f * 3, none⟩)), (40, Value.agg #[.int .i64 vb, .int .i64 vc, .int .i64 vr]), (41, Value.pointer (some ⟨w.heap.size + 1, 3, none⟩)), (42, Value.int .i64 am), (43, Value.int .i64 kv), (44, Value.pointer (some ⟨gA, f * 3, none⟩)), (45, Value.pointer (some ⟨gA, f * 3 + 2, none⟩))] ⟨hfact 0 (by decide), hfact 1 (by decide), hfact 2 (by decide), hfact 3 (by decide), hfact 4 (by decide), hfact 5 (by decide), hfact 6 (by decide), hfact 7 (by decide), hfact 8 (by decide), trivial⟩ rfl
    clear hsz hdf hold hfact
    clear X5 Y5 W5 KP z1 z2 z3 z4
    simp only [puts, Act.put, List.setIfInBounds_toArray, List.set_cons_zero, List.set_cons_succ]
    go_upto_region 6 with fail
    rw [← hw6]
    clear hw6 y2 f0
    obtain ⟨_, z1, z2, z3, _, _, _⟩ := Y6.out
    replace z1 : w6.cell? ⟨w.heap.size + 1, 1, none⟩ = some (.int .i64 f) := z1
    replace z2 : w6.cell? ⟨w.heap.size + 1, 2, none⟩ = some (.int .i64 t) := z2
    replace z3 : w6.cell? ⟨w.heap.size + 1, 3, none⟩ = some (.int .i64 am) := z3
    obtain ⟨_, _, _, p3⟩ := X6.out
    replace p3 : w6.cell? ⟨w.heap.size, 3, none⟩ = some (.slice (some ⟨sp, 0, none⟩) n cP) := p3
    have M := movePos_any w6 B T ⟨some ⟨gA, 0, none⟩, n, cA, aB, nB, cB, aM, nM, cM, some ⟨sp, 0, none⟩, n, cP⟩ b gA sp g cg n fA6 fP L7.out cP f t HN.out.2.1 HN.out.2.2 am H3.out.1 H3.out.2
    have HP : Hid (updP (updP fP f t (fP f t + am)) t f (fP t f + -am) = movP fP f t am) := movP_upd fP HN.out.1 am
    have HQ : Hid ((updP fP f t (fP f t + am)) t f = fP t f) := by show _ = _; unfold updP; rw [if_neg (fun e => HN.out.1 e.2)]
    go_wp2_with fail
    go_at_call 80
    refine M.mono ?_
    rintro e w8 ⟨rfl, l8, v8⟩
    have L8 : Hid (PLay w8 B T ⟨some ⟨gA, 0, none⟩, n, cA, aB, nB, cB, aM, nM, cM, some ⟨sp, 0, none⟩, n, cP⟩ b gA sp g cg n fA6 (updP fP f t (fP f t + am))) := l8
    have X8 : Hid (Box4 w8 w.heap.size ⟨some ⟨gA, 0, none⟩, n, cA, aB, nB, cB, aM, nM, cM, some ⟨sp, 0, none⟩, n, cP⟩) := v8.box4 X6.out HT.out.1
    have Y8 : Hid (At7 w8 (w.heap.size + 1) 0 (x0, f, t, am, cl, x5, x6)) := v8.at7 Y6.out HT.out.2
    have W8 : Hid (Within B T w w8) := W6.out.trans v8
    clear l8 v8 M L7 X6 Y6 W6 p3 z1 z2 z3
    obtain ⟨_, _, _, p3⟩ := X8.out
    replace p3 : w8.cell? ⟨w.heap.size, 3, none⟩ = some (.slice (some ⟨sp, 0, none⟩) n cP) := p3
    obtain ⟨_, z1, z2, z3, _, _, _⟩ := Y8.out
    replace z1 : w8.cell? ⟨w.heap.size + 1, 1, none⟩ = some (.int .i64 f) := z1
    replace z2 : w8.cell? ⟨w.heap.size + 1, 2, none⟩ = some (.int .i64 t) := z2
    replace z3 : w8.cell? ⟨w.heap.size + 1, 3, none⟩ = some (.int .i64 am) := z3
    have M := movePos_any w8 B T ⟨some ⟨gA, 0, none⟩, n, cA, aB, nB, cB, aM, nM, cM, some ⟨sp, 0, none⟩, n, cP⟩ b gA sp g cg n fA6 (updP fP f t (fP f t + am)) L8.out cP t f HN.out.2.2 HN.out.2.1 (-am) (by rw [HQ.out]; exact H4.out.1) (by rw [HQ.out]; exact H4.out.2)
    rw [HQ.out, HP.out] at M
    have g1 : -9223372036854775808 ≤ -am := by have := HM.out; omega
    have g2 : -am ≤ 9223372036854775807 := by have := HM.out; omega
    go_wp2_with fail
    go_at_call 80
    refine M.mono ?_
    rintro e w9 ⟨rfl, l9, v9⟩
    have R : Hid (PLay w9 B T ⟨some ⟨gA, 0, none⟩, n, cA, aB, nB, cB, aM, nM, cM, some ⟨sp, 0, none⟩, n, cP⟩ b gA sp g cg n (movA fA f t am cl) (movP fP f t am) ∧ Within B T w w9) := ⟨by rw [← H6.out]; exact l9, W8.out.trans v9⟩
    clear l9 v9 M L8 X8 Y8 W8 p3 z1 z2 z3 g1 g2
    go_wp2
    go_end0
    exact ⟨rfl, R.out⟩

end Go.Proofs.Ytlackjldopeigaa

/-
  What one payment more moves; one party, one other more: as plain functions.
-/
namespace Go.Proofs.Ytlackjldopeigaa
open Go.RowKit
set_option linter.unusedVariables false
set_option linter.unusedSimpArgs false

theorem netS_one (p : P7) (i k : Int) : netS [p] i k = sentG i k p - sentG k i p := by unfold netS sentS sumS sumS; omega
theorem dTo_one {p : P7} {f t : Nat} (hf : p.fr = f) (ht : p.to = t) (hne : ¬ f = t) (i : Nat) (m : Nat) : dTo [p] i m = (if i = f ∧ t < m then p.am else 0) - (if i = t ∧ f < m then p.am else 0) := by
  induction m with
  | zero => simp [dTo]
  | succ m ih =>
    simp only [dTo, ih, netS_one]
    unfold sentG
    rw [hf, ht]
    have e1 : ((f : Int) = (i : Int) ∧ (t : Int) = (m : Int)) ↔ (f = i ∧ t = m) := by omega
    have e2 : ((f : Int) = (m : Int) ∧ (t : Int) = (i : Int)) ↔ (f = m ∧ t = i) := by omega
    simp only [e1, e2]
    by_cases h1 : i = f
    · have h2 : ¬ i = t := by omega
      by_cases h3 : t = m
      · rw [if_neg (by omega), if_neg (by omega), if_pos (by omega), if_neg (by omega), if_pos (by omega), if_neg (by omega)]; omega
      · rw [if_neg (show ¬ (f = i ∧ t = m) by omega), if_neg (show ¬ (f = m ∧ t = i) by omega), if_neg (show ¬ (i = t ∧ f < m) by omega), if_neg (show ¬ (i = t ∧ f < m + 1) by omega)]
        by_cases h4 : t < m
        · rw [if_pos ⟨h1, h4⟩, if_pos ⟨h1, by omega⟩]; omega
        · rw [if_neg (by omega), if_neg (by omega)]; omega
    · by_cases h2 : i = t
      · by_cases h3 : f = m
        · rw [if_neg (show ¬ (f = i ∧ t = m) by omega), if_pos (show f = m ∧ t = i by omega), if_neg (show ¬ (i = f ∧ t < m) by omega), if_neg (show ¬ (i = t ∧ f < m) by omega), if_neg (show ¬ (i = f ∧ t < m + 1) by omega), if_pos (show i = t ∧ f < m + 1 by omega)]; omega
        · rw [if_neg (show ¬ (f = i ∧ t = m) by omega), if_neg (show ¬ (f = m ∧ t = i) by omega), if_neg (show ¬ (i = f ∧ t < m) by omega), if_neg (show ¬ (i = f ∧ t < m + 1) by omega)]
          by_cases h4 : f < m
          · rw [if_pos ⟨h2, h4⟩, if_pos ⟨h2, by omega⟩]; omega
          · rw [if_neg (by omega), if_neg (by omega)]; omega
      · rw [if_neg (show ¬ (f = i ∧ t = m) by omega), if_neg (show ¬ (f = m ∧ t = i) by omega), if_neg (show ¬ (i = f ∧ t < m) by omega), if_neg (show ¬ (i = t ∧ f < m) by omega), if_neg (show ¬ (i = f ∧ t < m + 1) by omega), if_neg (show ¬ (i = t ∧ f < m + 1) by omega)]; omega
theorem keptV_zero {r : Int} (h : 0 ≤ r) : keptV r 0 = r := by unfold keptV; split <;> omega
theorem spentS_one (p : P7) (i : Int) : spentS [p] i = spentG i p := by unfold spentS sumS sumS; omega

/-- The balances, and what is kept, with one more. -/
theorem movA_post (b : Bks) (L : List P7) {p : P7} {n f t : Nat} (hf : p.fr = f) (ht : p.to = t) (hne : ¬ f = t) (hfn : f < n) (htn : t < n) (ham : 0 ≤ p.am) (hs : ∀ i : Int, 0 ≤ spentS L i) (hr : ∀ i, i < n → 0 ≤ (b.A.getD i a30).2.2) :
    ∀ i, i < n → movA (postA b L n) f t p.am p.cl i = postA b (L ++ [p]) n i := by
  intro i hi
  unfold movA postA
  simp only []
  rw [dTo_append, dTo_one hf ht hne, spentS_append, spentS_one]
  unfold spentG
  rw [hf]
  by_cases h1 : i = f
  · subst h1
    have h2 : ¬ i = t := hne
    have q1 : i = i ∧ t < n := ⟨rfl, htn⟩
    have q2 : ¬ (i = t ∧ i < n) := fun e => h2 e.1
    rw [if_pos (show i = i from rfl), if_pos q1, if_neg q2]
    by_cases h3 : p.cl = 3
    · have q3 : ¬ ((i : Int) = (i : Int) ∧ ¬ p.cl = 3) := fun e => e.2 h3
      rw [if_pos h3, if_neg q3]
      refine Prod.ext (by show _ - _ - _ = _ - (_ + _); omega) (Prod.ext rfl ?_)
      show keptV _ _ = keptV _ (_ + 0)
      rw [Int.add_zero]
    · have q3 : (i : Int) = (i : Int) ∧ ¬ p.cl = 3 := ⟨rfl, h3⟩
      rw [if_neg h3, if_pos q3]
      refine Prod.ext (by show _ - _ - _ = _ - (_ + _); omega) (Prod.ext rfl ?_)
      show keptV (keptV _ _) _ = keptV _ (_ + _)
      exact keptV_twice (hs _) ham
  · have q1 : ¬ (i = f ∧ t < n) := fun e => h1 e.1
    have q2 : ¬ ((f : Int) = (i : Int) ∧ ¬ p.cl = 3) := by omega
    rw [if_neg h1, if_neg q1, if_neg q2]
    by_cases h2 : i = t
    · subst h2
      have q3 : i = i ∧ f < n := ⟨rfl, hfn⟩
      rw [if_pos (show i = i from rfl), if_pos q3]
      refine Prod.ext (by show _ - _ + _ = _ - (_ + _); omega) (Prod.ext rfl ?_)
      show keptV _ _ = keptV _ (_ + 0)
      rw [Int.add_zero]
    · have q3 : ¬ (i = t ∧ f < n) := fun e => h2 e.1
      rw [if_neg h2, if_neg q3]
      refine Prod.ext (by show _ - _ = _ - (_ + _); omega) (Prod.ext rfl ?_)
      show keptV _ _ = keptV _ (_ + 0)
      rw [Int.add_zero]
/-- The positions, with one more. -/
theorem movP_post (b : Bks) (L : List P7) {p : P7} {f t : Nat} (hf : p.fr = f) (ht : p.to = t) (hne : ¬ f = t) (i k : Nat) :
    movP (fun i k => at2 b.P i k + netS L i k) f t p.am i k = at2 b.P i k + netS (L ++ [p]) i k := by
  unfold movP
  simp only []
  rw [netS_append, netS_one]
  unfold sentG
  rw [hf, ht]
  by_cases h1 : i = f ∧ k = t
  · obtain ⟨rfl, rfl⟩ := h1
    have q1 : i = i ∧ k = k := ⟨rfl, rfl⟩
    have q2 : (i : Int) = (i : Int) ∧ (k : Int) = (k : Int) := ⟨rfl, rfl⟩
    have q3 : ¬ ((i : Int) = (k : Int) ∧ (k : Int) = (i : Int)) := by omega
    rw [if_pos q1, if_pos q2, if_neg q3]; omega
  · rw [if_neg h1, if_neg (show ¬ ((f : Int) = (i : Int) ∧ (t : Int) = (k : Int)) by omega)]
    by_cases h2 : i = t ∧ k = f
    · obtain ⟨rfl, rfl⟩ := h2
      have q1 : i = i ∧ k = k := ⟨rfl, rfl⟩
      have q2 : (k : Int) = (k : Int) ∧ (i : Int) = (i : Int) := ⟨rfl, rfl⟩
      rw [if_pos q1, if_pos q2]; omega
    · rw [if_neg h2, if_neg (show ¬ ((f : Int) = (k : Int) ∧ (t : Int) = (i : Int)) by omega)]; omega
/-- None posted. -/
theorem postA_nil (b : Bks) (n : Nat) (hr : ∀ i, i < n → 0 ≤ (b.A.getD i a30).2.2) : ∀ i, i < n → b.A.getD i a30 = postA b [] n i := by
  intro i hi
  have hd : ∀ m, dTo [] (i : Int) m = 0 := by
    intro m
    induction m with
    | zero => rfl
    | succ m ih => simp [dTo, ih, netS, sentS, sumS]
  unfold postA
  rw [hd, Int.sub_zero]
  show _ = (_, _, keptV _ (spentS [] _))
  rw [show spentS [] (i : Int) = 0 from rfl, keptV_zero (hr i hi)]
theorem postP_nil (b : Bks) (i k : Nat) : at2 b.P i k = at2 b.P i k + netS [] i k := by simp [netS, sentS, sumS]

/-- What is posted of good books can be held. -/
theorem Good.reserve {b : Bks} (g : Good b) : ∀ i, i < b.A.length → 0 ≤ (b.A.getD i a30).2.2 ∧ (b.A.getD i a30).2.2 ≤ 2305843009213693952 ∧ -4611686018427387904 < (b.A.getD i a30).1 ∧ (b.A.getD i a30).1 < 4611686018427387904 := by
  intro i hi
  have := g.acc i hi
  unfold acctAt at this
  rw [acctB_yes] at this
  omega
theorem post_range {b : Bks} (g : Good b) {L : List P7} (h : MvPays L) (hl : L.length ≤ 64) : ∀ i, i < b.A.length → -5000000000000000000 ≤ (postA b L b.A.length i).1 ∧ (postA b L b.A.length i).1 ≤ 5000000000000000000 ∧ 0 ≤ (postA b L b.A.length i).2.2 ∧ (postA b L b.A.length i).2.2 ≤ 2305843009213693952 := by
  intro i hi
  have h1 := g.reserve i hi
  have h2 := dTo_range h hl (i : Int) b.A.length
  have h3 := g.n6
  have h4 := keptV_range h1.1 (h.spent hl (i : Int)).1
  unfold postA
  simp only []
  have h5 : (b.A.length * 70368744177664 : Int) ≤ 6 * 70368744177664 := by
    have : (b.A.length : Int) ≤ 6 := by omega
    omega
  omega
theorem post_pos {b : Bks} (g : Good b) {L : List P7} (h : MvPays L) (hl : L.length ≤ 64) : ∀ i k, i < b.A.length → k < b.A.length → -100000000000000000 ≤ at2 b.P i k + netS L i k ∧ at2 b.P i k + netS L i k ≤ 100000000000000000 := by
  intro i k hi hk
  have h1 := posB_yes (g.may i k hi hk)
  have h2 := netS_range h hl (i : Int) (k : Int)
  omega
theorem postB_mk (b : Bks) (L : List P7) : postB b L = ⟨mkA b.A.length (postA b L b.A.length), b.B, b.M, mkP b.A.length fun i k => at2 b.P i k + netS L i k⟩ := rfl

end Go.Proofs.Ytlackjldopeigaa

/-
  post.mayBe, post.Post.
-/
namespace Go.Proofs.Ytlackjldopeigaa
open Go.RowKit
set_option linter.unusedVariables false
set_option linter.unusedSimpArgs false

set_option maxHeartbeats 4000000 in
set_option maxRecDepth 100000 in
theorem mayBe_any (x : BA) (b : Bks) (a : Option Addr) (n c : Nat) (L : List P7) (w : World) (hx : x.nA = b.A.length) (h : PGood w a n c L) :
    Calls Try.prog 62 #[x.val, .slice a n c] w fun e w' => e = .returned (.bool (allB b L)) ∧ Below w.heap.size w w' := by
  have HL : Hid (n = L.length) := h.len
  have HG : Hid (PGood w a n c L) := h
  have MY := fun (p : P7) u => fitsMay_any x p u
  rw [hx] at MY
  obtain ⟨aA, nA, cA, aB, nB, cB, aM, nM, cM, aP, nP, cP⟩ := x
  obtain ⟨w2, hw2⟩ : ∃ w2, w2 = w.alloc (.cells #[.slice aA nA cA, .slice aB nB cB, .slice aM nM cM, .slice aP nP cP] 27) := ⟨_, rfl⟩
  have B2 : Hid (Below w.heap.size w w2) := by rw [hw2]; exact box_below _ _
  have X2 : Hid (Box4 w2 w.heap.size ⟨aA, nA, cA, aB, nB, cB, aM, nM, cM, aP, nP, cP⟩) := by rw [hw2]; exact Box4.new w ⟨aA, nA, cA, aB, nB, cB, aM, nM, cM, aP, nP, cP⟩ _ _
  have HM : Hid (∀ (z0 z1 z2 z3 z4 z5 z6 : Int) (u : World), Calls Try.prog 71 #[.agg #[.slice aA nA cA, .slice aB nB cB, .slice aM nM cM, .slice aP nP cP], .agg #[.int .i64 z0, .int .i64 z1, .int .i64 z2, .int .i64 z3, .int .i64 z4, .int .i64 z5, .int .i64 z6]] u fun e w' => e = .returned (.bool (mayB b.A.length (z0, z1, z2, z3, z4, z5, z6))) ∧ Below u.heap.size u w') := fun z0 z1 z2 z3 z4 z5 z6 u => MY (z0, z1, z2, z3, z4, z5, z6) u
  clear MY hx h
  by_cases h64 : n ≤ 64
  case neg =>
    have HE : Hid (false = allB b L) := by
      show false = _
      unfold allB
      rw [decide_eq_false (by have := HL.out; omega), Bool.and_false]
    have g1 : (64 : Int) < (n : Int) := by omega
    clear h64
    go_enter Try.func62, Try.ntmps62
    go_upto_region 1 with fail
    rw [← hw2]
    clear hw2
    go_wp2
    go_ret
    exact ⟨rt_bool HE.out, B2.out⟩
  have H64 : Hid (n ≤ 64) := h64
  have g1 : (n : Int) ≤ 64 := by omega
  clear h64
  go_enter Try.func62, Try.ntmps62
  go_upto_region 1 with fail
  rw [← hw2]
  clear hw2
  go_wp2
  go_loopw [6, 12] (fun _ t wr => ∃ k : Nat, k ≤ n ∧ t = .int .i64 k ∧ Hid ((L.take k).all (mayB b.A.length) = true) ∧ Hid (Below w2.heap.size w2 wr)) (fun _ t _ => n - (intOf t).toNat)
  case atStart => exact ⟨0, by omega, rfl, rfl, Below.refl _ _⟩
  case round =>
    obtain ⟨k, hk, rfl, HA, HB⟩ := hrel
    have BW : Hid (Below w.heap.size w wr) := B2.out.trans (HB.out.mono B2.out.size)
    by_cases hlt : k < n
    · have k1 : (k : Int) < (n : Int) := by omega
      obtain ⟨ba, off, rfl, HC⟩ := HG.out.at hlt
      have C0 := (HC k hlt).below BW.out
      have HT : Hid (L.take (k + 1) = L.take k ++ [L.getD k p70]) := take_snocA L p70 k (by have := HL.out; omega)
      have HIN : Hid (L.getD k p70 ∈ L) := by show _ ∈ _; rw [getD_get (by have := HL.out; omega)]; exact List.getElem_mem _
      generalize L.getD k p70 = y at C0 HT HIN
      obtain ⟨x0, x1, x2, x3, x4, x5, x6⟩ := y
      have M := fun u => HM.out x0 x1 x2 x3 x4 x5 x6 u
      obtain ⟨qm, hq⟩ : ∃ qm, mayB b.A.length (x0, x1, x2, x3, x4, x5, x6) = qm := ⟨_, rfl⟩
      rw [hq] at M
      have HQ : Hid (mayB b.A.length (x0, x1, x2, x3, x4, x5, x6) = qm) := hq
      obtain ⟨z0, z1, z2, z3, z4, z5, z6⟩ := C0
      simp only [P7.id, P7.fr, P7.to, P7.am, P7.cl, P7.st, P7.ti] at z0 z1 z2 z3 z4 z5 z6
      obtain ⟨w3, hw3⟩ : ∃ w3, w3 = wr.alloc (.cells #[.int .i64 x0, .int .i64 x1, .int .i64 x2, .int .i64 x3, .int .i64 x4, .int .i64 x5, .int .i64 x6] 51) := ⟨_, rfl⟩
      have B3 : Hid (Below w2.heap.size w2 w3) := by rw [hw3]; exact HB.out.alloc HB.out.size _
      have X3 : Hid (Box4 w3 w.heap.size ⟨aA, nA, cA, aB, nB, cB, aM, nM, cM, aP, nP, cP⟩) := X2.out.below B3.out
      have Y3 : Hid (At7 w3 wr.heap.size 0 (x0, x1, x2, x3, x4, x5, x6)) := by rw [hw3]; exact At7.new _ (x0, x1, x2, x3, x4, x5, x6) _ _
      clear hq HC
      go_upto_region 6 with fail
      rw [← hw3]
      clear hw3 z0 z1 z2 z3 z4 z5 z6
      obtain ⟨p0, p1, p2, p3⟩ := X3.out
      replace p0 : w3.cell? ⟨w.heap.size, 0, none⟩ = some (.slice aA nA cA) := p0
      replace p1 : w3.cell? ⟨w.heap.size, 1, none⟩ = some (.slice aB nB cB) := p1
      replace p2 : w3.cell? ⟨w.heap.size, 2, none⟩ = some (.slice aM nM cM) := p2
      replace p3 : w3.cell? ⟨w.heap.size, 3, none⟩ = some (.slice aP nP cP) := p3
      obtain ⟨z0, z1, z2, z3, z4, z5, z6⟩ := Y3.out
      simp only [P7.id, P7.fr, P7.to, P7.am, P7.cl, P7.st, P7.ti] at z0 z1 z2 z3 z4 z5 z6
      go_wp2_with fail
      go_at_call 71
      refine (M _).mono ?_
      rintro e w4 ⟨rfl, hb⟩
      have B4 : Hid (Below w2.heap.size w2 w4) := B3.out.trans (hb.mono B3.out.size)
      have BW4 : Hid (Below w.heap.size w w4) := B2.out.trans (B4.out.mono B2.out.size)
      clear hb M X3 Y3 HB BW p0 p1 p2 p3 z0 z1 z2 z3 z4 z5 z6 B3
      cases qm with
      | false =>
        have HE : Hid (false = allB b L) := by
          show false = _
          unfold allB
          have : L.all (mayB b.A.length) = false := by
            rw [Bool.eq_false_iff]
            intro ha
            rw [List.all_eq_true] at ha
            have := ha _ HIN.out
            rw [HQ.out] at this
            exact Bool.noConfusion this
          rw [this, Bool.false_and]
        go_wp2
        go_ret
        exact ⟨rt_bool HE.out, BW4.out⟩
      | true =>
        have HA2 : Hid ((L.take (k + 1)).all (mayB b.A.length) = true) := by
          show _ = true
          rw [HT.out, List.all_append, HA.out, List.all_cons, HQ.out]; rfl
        go_wp2
        go_roundw
        case rel => exact ⟨k + 1, by omega, by go_num, HA2, B4⟩
        case measure => simp [intOf]; omega
    · obtain rfl : k = n := by omega
      have HE : Hid (true = allB b L) := by
        show true = _
        have := HA.out
        rw [HL.out, List.take_length] at this
        unfold allB
        rw [this, Bool.true_and]
        symm
        rw [decide_eq_true_eq]
        have := HL.out
        have := H64.out
        omega
      go_wp2
      go_ret
      exact ⟨rt_bool HE.out, BW.out⟩

theorem Good.small {b : Bks} (g : Good b) : Small b := by
  have n6 := g.n6
  refine ⟨by omega, by rw [g.bil]; omega, by rw [g.mul]; omega, by rw [g.pos]; omega, fun z hz => ?_, fun z hz => ?_⟩
  · obtain ⟨i, hi, rfl⟩ := List.getElem_of_mem hz
    have := g.bils i (by rw [← g.bil]; exact hi)
    simp [hi] at this
    omega
  · obtain ⟨i, hi, rfl⟩ := List.getElem_of_mem hz
    have := g.poss i (by rw [← g.pos]; exact hi)
    simp [hi] at this
    omega
/-- Books are laid over a variable. -/
theorem store_books {ops : Array Oper} {rest : List Oper} {o : Oper} {a : Act} {w : World} {Q : Exit → Act → World → Prop} (hgd : o.guard = none) (x y : Operand) (ho : o.op = .store 27 x y) (z : Nat) (k : BA) (hx : a.eval x = .pointer (some ⟨z, 0, none⟩)) (hy : a.eval y = k.val)
    (cs : Array Value) (hg : w.heap[z]? = some (.cells cs 27 (0, 0))) (hs : cs.size = 4)
    (h : wpList Try.prog ops Q rest (a.put o.dst undef) (w.setRow z #[.slice k.aA k.nA k.cA, .slice k.aB k.nB k.cB, .slice k.aM k.nM k.cM, .slice k.aP k.nP k.cP])) : wpList Try.prog ops Q (o :: rest) a w :=
  wpList_store_row hgd 27 x y ho z _ hx hy _ _ hg booksSize (by simp [hs]) (by simp [Value.oneCell']) h
theorem box_set {w : World} {z : Nat} {cs : Array Value} (hg : w.heap[z]? = some (.cells cs 27 (0, 0))) (k : BA) : Box4 (w.setRow z #[.slice k.aA k.nA k.cA, .slice k.aB k.nB k.cB, .slice k.aM k.nM k.cM, .slice k.aP k.nP k.cP]) z k := by
  have hr := setRow_heap w z _ #[.slice k.aA k.nA k.cA, .slice k.aB k.nB k.cB, .slice k.aM k.nM k.cM, .slice k.aP k.nP k.cP] _ _ hg
  refine ⟨?_, ?_, ?_, ?_⟩ <;> (rw [cell_of_row _ _ _ _ _ _ hr]; rfl)
/-- What Post leaves. -/
def PostEnd (w : World) (b : Bks) (L : List P7) (e : Ending) (w' : World) : Prop := ∃ y : BA, e = .returned (.tuple #[y.val, .int .i64 (postE b L)]) ∧ NewBk w' w.heap.size y (postR b L) ∧ Below w.heap.size w w'
theorem post_no {b : Bks} {L : List P7} (h : allB b L = false) : postE b L = 1 ∧ postR b L = b := by simp [postE, postR, h]
theorem post_over {b : Bks} {L : List P7} (h : allB b L = true) (k : booksB (postB b L) = false) : postE b L = 8 ∧ postR b L = b := by simp [postE, postR, h, k]
theorem post_yes {b : Bks} {L : List P7} (h : allB b L = true) (k : booksB (postB b L) = true) : postE b L = 0 ∧ postR b L = postB b L := by simp [postE, postR, h, k]

set_option maxHeartbeats 8000000 in
set_option maxRecDepth 100000 in
theorem post_any (x : BA) (b : Bks) (a : Option Addr) (n c : Nat) (L : List P7) (w : World) (hk : Bk w x b) (gd : Good b) (h : PGood w a n c L) :
    Calls Try.prog 35 #[x.val, .slice a n c] w (PostEnd w b L) := by
  have MB := fun u (hu : Below w.heap.size w u) => mayBe_any x b a n c L u hk.acc.1 (h.below hu)
  have CO : Hid (∀ u, Below w.heap.size w u → Calls Try.prog 63 #[x.val] u (BooksEnd u b)) := fun u hu => limCopy_any x b u (hk.below hu) gd.small
  have CA : Hid (∀ u, Below w.heap.size w u → Calls Try.prog 63 #[x.val] u (BooksEndA u b)) := fun u hu => limCopyA_any x b u (hk.below hu) gd.small
  have HG : Hid (PGood w a n c L) := h
  have HD : Hid (Good b) := gd
  have HL : Hid (n = L.length) := h.len
  clear hk gd h
  obtain ⟨aA, nA, cA, aB, nB, cB, aM, nM, cM, aP, nP, cP⟩ := x
  obtain ⟨w2, hw2⟩ : ∃ w2, w2 = (w.alloc (.cells #[.slice aA nA cA, .slice aB nB cB, .slice aM nM cM, .slice aP nP cP] 27)).alloc (.cells #[.slice none 0 0, .slice none 0 0, .slice none 0 0, .slice none 0 0] 27) := ⟨_, rfl⟩
  have B2 : Hid (Below w.heap.size w w2) := by rw [hw2]; exact (box_below _ _).alloc (box_below _ _).size _
  have X2 : Hid (Box4 w2 w.heap.size ⟨aA, nA, cA, aB, nB, cB, aM, nM, cM, aP, nP, cP⟩) := by rw [hw2]; exact (Box4.new w ⟨aA, nA, cA, aB, nB, cB, aM, nM, cM, aP, nP, cP⟩ _ _).below (box_below _ _)
  have G2 : Hid (w2.heap[w.heap.size + 1]? = some (.cells #[.slice none 0 0, .slice none 0 0, .slice none 0 0, .slice none 0 0] 27 (0, 0)) ∧ w.heap.size + 1 < w2.heap.size) := by
    have := heap_alloc_new (w.alloc (.cells #[.slice aA nA cA, .slice aB nB cB, .slice aM nM cM, .slice aP nP cP] 27)) (.cells #[.slice none 0 0, .slice none 0 0, .slice none 0 0, .slice none 0 0] 27)
    rw [size_alloc] at this
    rw [hw2]
    exact ⟨this, by rw [size_alloc, size_alloc]; omega⟩
  have M := MB w2 B2.out
  obtain ⟨q, hq⟩ : ∃ q, allB b L = q := ⟨_, rfl⟩
  rw [hq] at M
  have HQ : Hid (allB b L = q) := hq
  clear hq MB
  obtain ⟨p0, p1, p2, p3⟩ := X2.out
  replace p0 : w2.cell? ⟨w.heap.size, 0, none⟩ = some (.slice aA nA cA) := p0
  replace p1 : w2.cell? ⟨w.heap.size, 1, none⟩ = some (.slice aB nB cB) := p1
  replace p2 : w2.cell? ⟨w.heap.size, 2, none⟩ = some (.slice aM nM cM) := p2
  replace p3 : w2.cell? ⟨w.heap.size, 3, none⟩ = some (.slice aP nP cP) := p3
  go_enter Try.func35, Try.ntmps35
  go_upto_region 1 with fail
  rw [← hw2]
  clear hw2
  go_wp2_with fail
  go_at_call 62
  refine M.mono ?_
  rintro e w3 ⟨rfl, hb⟩
  have XB : Hid (Box4 w3 w.heap.size ⟨aA, nA, cA, aB, nB, cB, aM, nM, cM, aP, nP, cP⟩) := X2.out.below hb
  have BB : Hid (Below w.heap.size w w3) := B2.out.trans (hb.mono B2.out.size)
  have GB : Hid (w3.heap[w.heap.size + 1]? = some (.cells #[.slice none 0 0, .slice none 0 0, .slice none 0 0, .slice none 0 0] 27 (0, 0)) ∧ w.heap.size + 1 < w3.heap.size) := ⟨(hb.block _ G2.out.2).trans G2.out.1, by have := hb.size; have := G2.out.2; omega⟩
  clear hb M X2 B2 G2 p0 p1 p2 p3
  cases q
  · have HE : Hid (True ∧ ∀ (y : BA) (u : World), NewBk u w.heap.size y b ∧ Below w.heap.size w u → PostEnd w b L (.returned (.tuple #[y.val, .int .i64 1])) u) := ⟨trivial, fun y u hh => ⟨y, by rw [(post_no HQ.out).1], by rw [(post_no HQ.out).2]; exact hh.1, hh.2⟩⟩
    clear CA HQ HD HG
    obtain ⟨p0, p1, p2, p3⟩ := XB.out
    replace p0 : w3.cell? ⟨w.heap.size, 0, none⟩ = some (.slice aA nA cA) := p0
    replace p1 : w3.cell? ⟨w.heap.size, 1, none⟩ = some (.slice aB nB cB) := p1
    replace p2 : w3.cell? ⟨w.heap.size, 2, none⟩ = some (.slice aM nM cM) := p2
    replace p3 : w3.cell? ⟨w.heap.size, 3, none⟩ = some (.slice aP nP cP) := p3
    have CC := CO.out w3 BB.out
    go_wp2_with fail
    go_at_call 63
    refine CC.mono ?_
    rintro e w9 ⟨y, rfl, hn, hb⟩
    obtain ⟨yA, mA, eA, yB, mB, eB, yM, mM, eM, yP, mP, eP⟩ := y
    have hg := GB.out.1
    have hg9 : w9.heap[w.heap.size + 1]? = some (.cells #[.slice none 0 0, .slice none 0 0, .slice none 0 0, .slice none 0 0] 27 (0, 0)) := (hb.block _ GB.out.2).trans hg
    have R : Hid (NewBk (w9.setRow (w.heap.size + 1) #[.slice yA mA eA, .slice yB mB eB, .slice yM mM eM, .slice yP mP eP]) w.heap.size ⟨yA, mA, eA, yB, mB, eB, yM, mM, eM, yP, mP, eP⟩ b ∧ Below w.heap.size w (w9.setRow (w.heap.size + 1) #[.slice yA mA eA, .slice yB mB eB, .slice yM mM eM, .slice yP mP eP])) :=
      ⟨(hn.kept (fun k hk => setRow_other w9 (w.heap.size + 1) k _ (by have hk : w3.heap.size ≤ k := hk; have := GB.out.2; omega))).base BB.out.size, Below.setRow (BB.out.trans (hb.mono BB.out.size)) (by omega) _⟩
    have D : Hid (Box4 (w9.setRow (w.heap.size + 1) #[.slice yA mA eA, .slice yB mB eB, .slice yM mM eM, .slice yP mP eP]) (w.heap.size + 1) ⟨yA, mA, eA, yB, mB, eB, yM, mM, eM, yP, mP, eP⟩) := box_set hg9 ⟨yA, mA, eA, yB, mB, eB, yM, mM, eM, yP, mP, eP⟩
    clear hb hn CC hg p0 p1 p2 p3 XB BB GB
    go_wp2_with (refine store_books rfl _ _ rfl (w.heap.size + 1) ⟨yA, mA, eA, yB, mB, eB, yM, mM, eM, yP, mP, eP⟩ rfl rfl _ hg9 rfl ?_)
    generalize w9.setRow (w.heap.size + 1) #[.slice yA mA eA, .slice yB mB eB, .slice yM mM eM, .slice yP mP eP] = wf at R D ⊢
    obtain ⟨d0, d1, d2, d3⟩ := D.out
    clear hg9
    go_wp2
    exact bodyPost_ret (v := .tuple #[BA.val ⟨yA, mA, eA, yB, mB, eB, yM, mM, eM, yP, mP, eP⟩, .int .i64 1]) (by simp [results, Try.results35, d0, d1, d2, d3, go_sem]) rfl (HE.out.2 _ _ R.out)
  · obtain ⟨p0, p1, p2, p3⟩ := XB.out
    replace p0 : w3.cell? ⟨w.heap.size, 0, none⟩ = some (.slice aA nA cA) := p0
    replace p1 : w3.cell? ⟨w.heap.size, 1, none⟩ = some (.slice aB nB cB) := p1
    replace p2 : w3.cell? ⟨w.heap.size, 2, none⟩ = some (.slice aM nM cM) := p2
    replace p3 : w3.cell? ⟨w.heap.size, 3, none⟩ = some (.slice aP nP cP) := p3
    have CC := CA.out w3 BB.out
    go_wp2_with fail
    go_at_call 63
    refine CC.mono ?_
    rintro e w4 ⟨y, S, rfl, hn, hb⟩
    obtain ⟨gA, sp, g, cg, lay⟩ := PLay.mk' hn HD.out
    have X4 : Hid (Box4 w4 w.heap.size ⟨aA, nA, cA, aB, nB, cB, aM, nM, cM, aP, nP, cP⟩) := XB.out.below hb
    have B4 : Hid (Below w.heap.size w w4 ∧ w3.heap.size ≤ w4.heap.size) := ⟨BB.out.trans (hb.mono BB.out.size), hb.size⟩
    have G4 : Hid (w4.heap[w.heap.size + 1]? = some (.cells #[.slice none 0 0, .slice none 0 0, .slice none 0 0, .slice none 0 0] 27 (0, 0)) ∧ w.heap.size + 1 < w3.heap.size) := ⟨(hb.block _ GB.out.2).trans GB.out.1, GB.out.2⟩
    have LY : Hid (PLay w4 w3.heap.size w4.heap.size y b gA sp g cg b.A.length (postA b (L.take 0) b.A.length) (fun i k => at2 b.P i k + netS (L.take 0) i k)) := by
      rw [List.take_zero]
      exact lay.congr (postA_nil b _ fun i hi => (HD.out.reserve i hi).1) (fun i k _ _ => postP_nil b i k)
    have HB0 : Hid (w.heap.size ≤ w3.heap.size) := BB.out.size
    clear hb hn CC lay p0 p1 p2 p3 XB BB GB CA
    obtain ⟨B, hB⟩ : ∃ B, w3.heap.size = B := ⟨_, rfl⟩
    obtain ⟨T, hT⟩ : ∃ T, w4.heap.size = T := ⟨_, rfl⟩
    rw [hB] at B4 G4 LY HB0
    rw [hT] at B4 LY
    have HTT : Hid (w4.heap.size = T) := hT
    clear hB hT
    obtain ⟨yA, mA, eA, yB, mB, eB, yM, mM, eM, yP, mP, eP⟩ := y
    obtain ⟨w5, hw5⟩ : ∃ w5, w5 = w4.alloc (.cells #[.slice yA mA eA, .slice yB mB eB, .slice yM mM eM, .slice yP mP eP] 27) := ⟨_, rfl⟩
    have b45 : Below w4.heap.size w4 w5 := by rw [hw5]; exact box_below _ _
    have X5 : Hid (Box4 w5 w.heap.size ⟨aA, nA, cA, aB, nB, cB, aM, nM, cM, aP, nP, cP⟩) := X4.out.below b45
    have Y5 : Hid (Box4 w5 w4.heap.size ⟨yA, mA, eA, yB, mB, eB, yM, mM, eM, yP, mP, eP⟩) := by rw [hw5]; exact Box4.new w4 ⟨yA, mA, eA, yB, mB, eB, yM, mM, eM, yP, mP, eP⟩ _ _
    have B5 : Hid (Below w.heap.size w w5 ∧ B ≤ w5.heap.size) := ⟨B4.out.1.trans (b45.mono B4.out.1.size), by have h1 := B4.out.2; have h2 := b45.size; rw [HTT.out] at h2; omega⟩
    have G5 : Hid (w5.heap[w.heap.size + 1]? = some (.cells #[.slice none 0 0, .slice none 0 0, .slice none 0 0, .slice none 0 0] 27 (0, 0)) ∧ w.heap.size + 1 < B) := ⟨(b45.block _ (by have := B4.out.2; have := G4.out.2; have := HTT.out; omega)).trans G4.out.1, G4.out.2⟩
    have L5 : Hid (PLay w5 B T ⟨yA, mA, eA, yB, mB, eB, yM, mM, eM, yP, mP, eP⟩ b gA sp g cg b.A.length (postA b (L.take 0) b.A.length) (fun i k => at2 b.P i k + netS (L.take 0) i k)) := LY.out.below b45
    have n64 : (n : Int) ≤ 64 := by have := (allB_mv HD.out HQ.out).1; have := HL.out; omega
    clear b45 X4 B4 G4 LY
    go_upto_region 4 with fail
    rw [← hw5]
    clear hw5
    go_wp2
    go_loopw [8, 19] (fun _ t wr => ∃ k : Nat, k ≤ n ∧ t = .int .i64 k ∧ Hid (PLay wr B T ⟨yA, mA, eA, yB, mB, eB, yM, mM, eM, yP, mP, eP⟩ b gA sp g cg b.A.length (postA b (L.take k) b.A.length) (fun i j => at2 b.P i j + netS (L.take k) i j)) ∧ Hid (Within B T w5 wr)) (fun _ t _ => n - (intOf t).toNat)
    case atStart => exact ⟨0, by omega, rfl, L5, Within.refl _ _ _⟩
    case round =>
      obtain ⟨k, hk, rfl, LR, WR⟩ := hrel
      have BW : Hid (Below w.heap.size w wr) := B5.out.1.trans ((WR.out.below B5.out.2).mono HB0.out)
      have XR : Hid (Box4 wr w.heap.size ⟨aA, nA, cA, aB, nB, cB, aM, nM, cM, aP, nP, cP⟩) := ⟨WR.out.cell X5.out.1 (.inl (by have := G5.out.2; show w.heap.size < B; omega)), WR.out.cell X5.out.2.1 (.inl (by have := G5.out.2; show w.heap.size < B; omega)), WR.out.cell X5.out.2.2.1 (.inl (by have := G5.out.2; show w.heap.size < B; omega)), WR.out.cell X5.out.2.2.2 (.inl (by have := G5.out.2; show w.heap.size < B; omega))⟩
      have YR : Hid (Box4 wr w4.heap.size ⟨yA, mA, eA, yB, mB, eB, yM, mM, eM, yP, mP, eP⟩) := WR.out.box4 Y5.out (by rw [HTT.out]; exact Nat.le_refl _)
      by_cases hlt : k < n
      · have k1 : (k : Int) < (n : Int) := by omega
        obtain ⟨ba, off, rfl, HC⟩ := HG.out.at hlt
        have hkl : k < L.length := by have := HL.out; omega
        have C0 := (HC k hlt).below BW.out
        obtain ⟨hl64, hmv, hma⟩ := allB_mv HD.out HQ.out
        have hmem : L.getD k p70 ∈ L := by rw [getD_get hkl]; exact List.getElem_mem _
        have hmay := mayB_yes.1 (hma _ hmem)
        have HT : Hid (L.take (k + 1) = L.take k ++ [L.getD k p70]) := take_snocA L p70 k hkl
        have hmk := hmv.take k
        have hlk : (L.take k).length ≤ 64 := by rw [List.length_take]; omega
        generalize L.getD k p70 = p at C0 hmay HT
        obtain ⟨f, hf⟩ : ∃ f : Nat, p.fr = f := ⟨p.fr.toNat, by omega⟩
        obtain ⟨t, ht⟩ : ∃ t : Nat, p.to = t := ⟨p.to.toNat, by omega⟩
        have fn : f < b.A.length := by omega
        have tn : t < b.A.length := by omega
        have ne : ¬ f = t := by omega
        have rf := post_range HD.out hmk hlk f fn
        have rt := post_range HD.out hmk hlk t tn
        have pf := post_pos HD.out hmk hlk f t fn tn
        have pt := post_pos HD.out hmk hlk t f tn fn
        have EA : Hid (∀ i, i < b.A.length → movA (postA b (L.take k) b.A.length) f t p.am p.cl i = postA b (L.take (k + 1)) b.A.length i) := by
          rw [HT.out]
          exact movA_post b (L.take k) hf ht ne fn tn (by omega) (fun i => (hmk.spent hlk i).1) (fun i hi => (HD.out.reserve i hi).1)
        have EP : Hid (∀ i j, movP (fun i j => at2 b.P i j + netS (L.take k) i j) f t p.am i j = at2 b.P i j + netS (L.take (k + 1)) i j) := by
          rw [HT.out]
          exact fun i j => movP_post b (L.take k) hf ht ne i j
        obtain ⟨x0, x1, x2, x3, x4, x5, x6⟩ := p
        obtain ⟨z0, z1, z2, z3, z4, z5, z6⟩ := C0
        simp only [P7.id, P7.fr, P7.to, P7.am, P7.cl, P7.st, P7.ti] at z0 z1 z2 z3 z4 z5 z6 hf ht hmay EA EP
        subst hf ht
        obtain ⟨w6, hw6⟩ : ∃ w6, w6 = wr.alloc (.cells #[.int .i64 x0, .int .i64 f, .int .i64 t, .int .i64 x3, .int .i64 x4, .int .i64 x5, .int .i64 x6] 51) := ⟨_, rfl⟩
        have b6 : Below wr.heap.size wr w6 := by rw [hw6]; exact box_below _ _
        have V6 : Hid (Within B T w5 w6) := WR.out.trans (Within.of b6)
        have Y6 : Hid (Box4 w6 w4.heap.size ⟨yA, mA, eA, yB, mB, eB, yM, mM, eM, yP, mP, eP⟩) := YR.out.below b6
        have P6 : Hid (At7 w6 wr.heap.size 0 (x0, (f : Int), (t : Int), x3, x4, x5, x6)) := by rw [hw6]; exact At7.new _ (x0, (f : Int), (t : Int), x3, x4, x5, x6) _ _
        have L6 := LR.out.below b6
        have M := move_any w6 B T ⟨yA, mA, eA, yB, mB, eB, yM, mM, eM, yP, mP, eP⟩ b gA sp g cg b.A.length _ _ L6 f t fn tn ne x0 x3 x4 x5 x6 (by omega) (by omega) (by omega) (by omega) (by omega) (by omega) (by omega)
        clear L6 b6 rf rt pf pt hmk hlk hmem hmay hl64 hmv hma HC hkl LR BW XR YR WR fn tn ne HT
        go_upto_region 7 with fail
        rw [← hw6]
        clear hw6 z0 z1 z2 z3 z4 z5 z6
        obtain ⟨p0, p1, p2, p3⟩ := Y6.out
        replace p0 : w6.cell? ⟨w4.heap.size, 0, none⟩ = some (.slice yA mA eA) := p0
        replace p1 : w6.cell? ⟨w4.heap.size, 1, none⟩ = some (.slice yB mB eB) := p1
        replace p2 : w6.cell? ⟨w4.heap.size, 2, none⟩ = some (.slice yM mM eM) := p2
        replace p3 : w6.cell? ⟨w4.heap.size, 3, none⟩ = some (.slice yP mP eP) := p3
        obtain ⟨z0, z1, z2, z3, z4, z5, z6⟩ := P6.out
        simp only [P7.id, P7.fr, P7.to, P7.am, P7.cl, P7.st, P7.ti] at z0 z1 z2 z3 z4 z5 z6
        go_wp2_with fail
        go_at_call 64
        refine M.mono ?_
        rintro e w7 ⟨rfl, l7, v7⟩
        have L7 : Hid (PLay w7 B T ⟨yA, mA, eA, yB, mB, eB, yM, mM, eM, yP, mP, eP⟩ b gA sp g cg b.A.length (postA b (L.take (k + 1)) b.A.length) (fun i j => at2 b.P i j + netS (L.take (k + 1)) i j)) := l7.congr EA.out (fun i j _ _ => EP.out i j)
        have V7 : Hid (Within B T w5 w7) := V6.out.trans v7
        clear l7 v7 M EA EP V6 Y6 P6 p0 p1 p2 p3 z0 z1 z2 z3 z4 z5 z6
        go_wp2
        go_roundw
        case rel => exact ⟨k + 1, by omega, by go_num, L7, V7⟩
        case measure => simp [intOf]; omega
      · obtain rfl : k = n := by omega
        have LE : Hid (L.take k = L) := by show _ = _; rw [HL.out, List.take_length]
        have NB : Hid (NewBk wr B ⟨yA, mA, eA, yB, mB, eB, yM, mM, eM, yP, mP, eP⟩ (postB b L)) := by
          have := LR.out.new
          rw [LE.out] at this
          exact this
        have GR : Hid (wr.heap[w.heap.size + 1]? = some (.cells #[.slice none 0 0, .slice none 0 0, .slice none 0 0, .slice none 0 0] 27 (0, 0)) ∧ w.heap.size + 1 < B) := ⟨(WR.out.block _ (by have := G5.out.2; have := B5.out.2; omega) (.inl G5.out.2)).trans G5.out.1, G5.out.2⟩
        have BR : Hid (B ≤ wr.heap.size) := by have h1 := B5.out.2; have h2 := WR.out.size; show B ≤ _; omega
        have I := limIs_any ⟨yA, mA, eA, yB, mB, eB, yM, mM, eM, yP, mP, eP⟩ (postB b L) wr NB.out.bk
        obtain ⟨v, hv⟩ : ∃ v, booksB (postB b L) = v := ⟨_, rfl⟩
        rw [hv] at I
        have HV : Hid (booksB (postB b L) = v) := hv
        clear hv LR WR LE X5 Y5 B5 G5 L5
        obtain ⟨p0, p1, p2, p3⟩ := YR.out
        replace p0 : wr.cell? ⟨w4.heap.size, 0, none⟩ = some (.slice yA mA eA) := p0
        replace p1 : wr.cell? ⟨w4.heap.size, 1, none⟩ = some (.slice yB mB eB) := p1
        replace p2 : wr.cell? ⟨w4.heap.size, 2, none⟩ = some (.slice yM mM eM) := p2
        replace p3 : wr.cell? ⟨w4.heap.size, 3, none⟩ = some (.slice yP mP eP) := p3
        go_wp2_with fail
        go_at_call 65
        refine I.mono ?_
        rintro e w8 ⟨rfl, hb⟩
        have XB : Hid (Box4 w8 w.heap.size ⟨aA, nA, cA, aB, nB, cB, aM, nM, cM, aP, nP, cP⟩) := XR.out.below hb
        have YB : Hid (Box4 w8 w4.heap.size ⟨yA, mA, eA, yB, mB, eB, yM, mM, eM, yP, mP, eP⟩) := YR.out.below hb
        have BB : Hid (Below w.heap.size w w8) := BW.out.trans (hb.mono BW.out.size)
        have GB : Hid (w8.heap[w.heap.size + 1]? = some (.cells #[.slice none 0 0, .slice none 0 0, .slice none 0 0, .slice none 0 0] 27 (0, 0)) ∧ w.heap.size + 1 < w8.heap.size) := ⟨(hb.block _ (by have := GR.out.2; have := BR.out; omega)).trans GR.out.1, by have := GR.out.2; have := BR.out; have := hb.size; omega⟩
        have NB8 : Hid (NewBk w8 B ⟨yA, mA, eA, yB, mB, eB, yM, mM, eM, yP, mP, eP⟩ (postB b L)) := NB.out.below hb
        clear hb I XR YR BW NB BR p0 p1 p2 p3
        cases v
        · have HE : Hid (True ∧ ∀ (y : BA) (u : World), NewBk u w.heap.size y b ∧ Below w.heap.size w u → PostEnd w b L (.returned (.tuple #[y.val, .int .i64 8])) u) := ⟨trivial, fun y u hh => ⟨y, by rw [(post_over HQ.out HV.out).1], by rw [(post_over HQ.out HV.out).2]; exact hh.1, hh.2⟩⟩
          clear HQ HD HG HV YB NB8 GR
          obtain ⟨p0, p1, p2, p3⟩ := XB.out
          replace p0 : w8.cell? ⟨w.heap.size, 0, none⟩ = some (.slice aA nA cA) := p0
          replace p1 : w8.cell? ⟨w.heap.size, 1, none⟩ = some (.slice aB nB cB) := p1
          replace p2 : w8.cell? ⟨w.heap.size, 2, none⟩ = some (.slice aM nM cM) := p2
          replace p3 : w8.cell? ⟨w.heap.size, 3, none⟩ = some (.slice aP nP cP) := p3
          have CC := CO.out w8 BB.out
          go_wp2_with fail
          go_at_call 63
          refine CC.mono ?_
          rintro e w9 ⟨y, rfl, hn, hb⟩
          obtain ⟨vA, lA, dA, vB, lB, dB, vM, lM, dM, vP, lP, dP⟩ := y
          have hg := GB.out.1
          have hg9 : w9.heap[w.heap.size + 1]? = some (.cells #[.slice none 0 0, .slice none 0 0, .slice none 0 0, .slice none 0 0] 27 (0, 0)) := (hb.block _ GB.out.2).trans hg
          have R : Hid (NewBk (w9.setRow (w.heap.size + 1) #[.slice vA lA dA, .slice vB lB dB, .slice vM lM dM, .slice vP lP dP]) w.heap.size ⟨vA, lA, dA, vB, lB, dB, vM, lM, dM, vP, lP, dP⟩ b ∧ Below w.heap.size w (w9.setRow (w.heap.size + 1) #[.slice vA lA dA, .slice vB lB dB, .slice vM lM dM, .slice vP lP dP])) :=
            ⟨(hn.kept (fun k hk => setRow_other w9 (w.heap.size + 1) k _ (by have hk : w8.heap.size ≤ k := hk; have := GB.out.2; omega))).base BB.out.size, Below.setRow (BB.out.trans (hb.mono BB.out.size)) (by omega) _⟩
          have D : Hid (Box4 (w9.setRow (w.heap.size + 1) #[.slice vA lA dA, .slice vB lB dB, .slice vM lM dM, .slice vP lP dP]) (w.heap.size + 1) ⟨vA, lA, dA, vB, lB, dB, vM, lM, dM, vP, lP, dP⟩) := box_set hg9 ⟨vA, lA, dA, vB, lB, dB, vM, lM, dM, vP, lP, dP⟩
          clear hb hn CC hg p0 p1 p2 p3 XB BB GB
          go_wp2_with (refine store_books rfl _ _ rfl (w.heap.size + 1) ⟨vA, lA, dA, vB, lB, dB, vM, lM, dM, vP, lP, dP⟩ rfl rfl _ hg9 rfl ?_)
          generalize w9.setRow (w.heap.size + 1) #[.slice vA lA dA, .slice vB lB dB, .slice vM lM dM, .slice vP lP dP] = wf at R D ⊢
          obtain ⟨d0, d1, d2, d3⟩ := D.out
          clear hg9
          go_wp2
          exact bodyPost_ret (v := .tuple #[BA.val ⟨vA, lA, dA, vB, lB, dB, vM, lM, dM, vP, lP, dP⟩, .int .i64 8]) (by simp [results, Try.results35, d0, d1, d2, d3, go_sem]) rfl (HE.out.2 _ _ R.out)
        · have HE : Hid (True ∧ ∀ (y : BA) (u : World), NewBk u w.heap.size y (postB b L) ∧ Below w.heap.size w u → PostEnd w b L (.returned (.tuple #[y.val, .int .i64 0])) u) := ⟨trivial, fun y u hh => ⟨y, by rw [(post_yes HQ.out HV.out).1], by rw [(post_yes HQ.out HV.out).2]; exact hh.1, hh.2⟩⟩
          obtain ⟨p0, p1, p2, p3⟩ := YB.out
          replace p0 : w8.cell? ⟨w4.heap.size, 0, none⟩ = some (.slice yA mA eA) := p0
          replace p1 : w8.cell? ⟨w4.heap.size, 1, none⟩ = some (.slice yB mB eB) := p1
          replace p2 : w8.cell? ⟨w4.heap.size, 2, none⟩ = some (.slice yM mM eM) := p2
          replace p3 : w8.cell? ⟨w4.heap.size, 3, none⟩ = some (.slice yP mP eP) := p3
          have hg8 := GB.out.1
          have R : Hid (NewBk (w8.setRow (w.heap.size + 1) #[.slice yA mA eA, .slice yB mB eB, .slice yM mM eM, .slice yP mP eP]) w.heap.size ⟨yA, mA, eA, yB, mB, eB, yM, mM, eM, yP, mP, eP⟩ (postB b L) ∧ Below w.heap.size w (w8.setRow (w.heap.size + 1) #[.slice yA mA eA, .slice yB mB eB, .slice yM mM eM, .slice yP mP eP])) :=
            ⟨(NB8.out.kept (fun k hk => setRow_other w8 (w.heap.size + 1) k _ (by have hk : B ≤ k := hk; have := GR.out.2; omega))).base HB0.out, Below.setRow BB.out (by omega) _⟩
          have D : Hid (Box4 (w8.setRow (w.heap.size + 1) #[.slice yA mA eA, .slice yB mB eB, .slice yM mM eM, .slice yP mP eP]) (w.heap.size + 1) ⟨yA, mA, eA, yB, mB, eB, yM, mM, eM, yP, mP, eP⟩) := box_set hg8 ⟨yA, mA, eA, yB, mB, eB, yM, mM, eM, yP, mP, eP⟩
          clear XB YB BB GB NB8 GR
          go_wp2_with (refine store_books rfl _ _ rfl (w.heap.size + 1) ⟨yA, mA, eA, yB, mB, eB, yM, mM, eM, yP, mP, eP⟩ rfl rfl _ hg8 rfl ?_)
          generalize w8.setRow (w.heap.size + 1) #[.slice yA mA eA, .slice yB mB eB, .slice yM mM eM, .slice yP mP eP] = wf at R D ⊢
          obtain ⟨d0, d1, d2, d3⟩ := D.out
          clear hg8 p0 p1 p2 p3
          go_wp2
          exact bodyPost_ret (v := .tuple #[BA.val ⟨yA, mA, eA, yB, mB, eB, yM, mM, eM, yP, mP, eP⟩, .int .i64 0]) (by simp [results, Try.results35, d0, d1, d2, d3, go_sem]) rfl (HE.out.2 _ _ R.out)

end Go.Proofs.Ytlackjldopeigaa

/-
  giroref16.Post.
-/
namespace Go.Proofs.Ytlackjldopeigaa
open Go.RowKit
set_option linter.unusedVariables false
set_option linter.unusedSimpArgs false

/-- Ahead of party i; of it, and of its k-th other one. -/
def outA (b : Bks) (L : List P7) (n i : Nat) : Nat → A3 := fun j => if j < i then postA b L n j else b.A.getD j a30
def outP (b : Bks) (L : List P7) (i : Nat) : Nat → Nat → Int := fun j l => at2 b.P j l + if j < i then netS L j l else 0
def inA (b : Bks) (L : List P7) (n i k : Nat) : Nat → A3 := fun j => if j < i then postA b L n j else if j = i then ((b.A.getD i a30).1 - dTo L i k, (b.A.getD i a30).2.1, keptV (b.A.getD i a30).2.2 (spentS L i)) else b.A.getD j a30
def inP (b : Bks) (L : List P7) (i k : Nat) : Nat → Nat → Int := fun j l => at2 b.P j l + if j < i ∨ (j = i ∧ l < k) then netS L j l else 0
theorem outA_at (b : Bks) (L : List P7) (n i : Nat) : outA b L n i i = b.A.getD i a30 := by unfold outA; rw [if_neg (Nat.lt_irrefl _)]
theorem inA_at (b : Bks) (L : List P7) (n i k : Nat) : inA b L n i k i = ((b.A.getD i a30).1 - dTo L i k, (b.A.getD i a30).2.1, keptV (b.A.getD i a30).2.2 (spentS L i)) := by unfold inA; rw [if_neg (Nat.lt_irrefl _), if_pos rfl]
theorem inP_at (b : Bks) (L : List P7) (i k : Nat) : inP b L i k i k = at2 b.P i k := by
  unfold inP
  have h : ¬ (i < i ∨ (i = i ∧ k < k)) := by omega
  rw [if_neg h, Int.add_zero]
theorem outA_zero (b : Bks) (L : List P7) (n j : Nat) : b.A.getD j a30 = outA b L n 0 j := by unfold outA; rw [if_neg (Nat.not_lt_zero _)]
theorem outP_zero (b : Bks) (L : List P7) (j l : Nat) : at2 b.P j l = outP b L 0 j l := by unfold outP; rw [if_neg (Nat.not_lt_zero _), Int.add_zero]
theorem in_start (b : Bks) (L : List P7) (n i j : Nat) : updA (outA b L n i) i ((b.A.getD i a30).1, (b.A.getD i a30).2.1, keptV (b.A.getD i a30).2.2 (spentS L i)) j = inA b L n i 0 j := by
  unfold updA outA inA
  by_cases h : j = i
  · subst h
    rw [if_pos rfl, if_neg (Nat.lt_irrefl _), if_pos rfl]
    simp [dTo]
  · rw [if_neg h, if_neg h]
theorem inP_start (b : Bks) (L : List P7) (i j l : Nat) : outP b L i j l = inP b L i 0 j l := by
  unfold outP inP
  by_cases h : j < i
  · rw [if_pos h, if_pos (.inl h)]
  · have h2 : ¬ (j < i ∨ (j = i ∧ l < 0)) := by omega
    rw [if_neg h, if_neg h2]
theorem in_step (b : Bks) (L : List P7) (n i k j : Nat) : updA (inA b L n i k) i ((inA b L n i k i).1 - netS L i k, (inA b L n i k i).2) j = inA b L n i (k + 1) j := by
  rw [inA_at]
  unfold updA inA
  by_cases h : j = i
  · subst h
    rw [if_pos rfl, if_neg (Nat.lt_irrefl _), if_pos rfl]
    simp only [dTo]
    exact Prod.ext (by show _ - _ - _ = _ - (_ + _); omega) rfl
  · rw [if_neg h, if_neg h, if_neg h]
theorem inP_step (b : Bks) (L : List P7) (i k j l : Nat) : updP (inP b L i k) i k (at2 b.P i k + netS L i k) j l = inP b L i (k + 1) j l := by
  unfold updP inP
  by_cases h : j = i ∧ l = k
  · obtain ⟨rfl, rfl⟩ := h
    have h2 : j < j ∨ (j = j ∧ l < l + 1) := .inr ⟨rfl, by omega⟩
    have h1 : j = j ∧ l = l := ⟨rfl, rfl⟩
    rw [if_pos h1, if_pos h2]
  · rw [if_neg h]
    by_cases h3 : j < i ∨ (j = i ∧ l < k)
    · have h4 : j < i ∨ (j = i ∧ l < k + 1) := by omega
      rw [if_pos h3, if_pos h4]
    · have h4 : ¬ (j < i ∨ (j = i ∧ l < k + 1)) := by omega
      rw [if_neg h3, if_neg h4]
theorem in_end (b : Bks) (L : List P7) (n i j : Nat) : inA b L n i n j = outA b L n (i + 1) j := by
  unfold inA outA
  by_cases h : j < i
  · rw [if_pos h, if_pos (by omega)]
  · rw [if_neg h]
    by_cases h2 : j = i
    · subst h2
      rw [if_pos rfl, if_pos (by omega)]
      rfl
    · rw [if_neg h2, if_neg (by omega)]
theorem inP_end (b : Bks) (L : List P7) (n i j l : Nat) (hl : l < n) : inP b L i n j l = outP b L (i + 1) j l := by
  unfold inP outP
  by_cases h : j < i + 1
  · have h1 : j < i ∨ (j = i ∧ l < n) := by omega
    rw [if_pos h, if_pos h1]
  · have h1 : ¬ (j < i ∨ (j = i ∧ l < n)) := by omega
    rw [if_neg h, if_neg h1]
theorem out_end (b : Bks) (L : List P7) (n j : Nat) (hj : j < n) : outA b L n n j = postA b L n j := by unfold outA; rw [if_pos hj]
theorem outP_end (b : Bks) (L : List P7) (n j l : Nat) (hj : j < n) : outP b L n j l = at2 b.P j l + netS L j l := by unfold outP; rw [if_pos hj]

set_option maxHeartbeats 1000000 in
theorem refSent_any (a : Option Addr) (n c : Nat) (L : List P7) (i o : Int) (w : World) (h : PGood w a n c L) (hn : n ≤ 64) (hp : MvPays L) :
    Calls Try.prog 48 #[.slice a n c, .int .i64 i, .int .i64 o] w fun e w' => e = .returned (.int .i64 (netS L i o)) ∧ w' = w := by
  have A := refFSent_any a n c L i o w h hn hp
  have B := refFSent_any a n c L o i w h hn hp
  have hl := h.len
  obtain ⟨r0, r1⟩ := netS_range hp (by omega) i o
  unfold netS at r0 r1 ⊢
  generalize sentS L i o = s at A r0 r1 ⊢
  generalize sentS L o i = t at B r0 r1 ⊢
  clear h hp hn hl
  go_enter Try.func48, Try.ntmps48
  go_wp2_with fail
  go_at_call 70
  refine A.mono ?_
  rintro e w1 ⟨rfl, hw⟩
  obtain rfl := hw.symm
  go_wp2_with fail
  go_at_call 70
  refine B.mono ?_
  rintro e w2 ⟨rfl, hw⟩
  obtain rfl := hw.symm
  go_wp2
  go_ret
  exact ⟨rfl, rfl⟩
theorem refSpent_any (a : Option Addr) (n c : Nat) (L : List P7) (i : Int) (w : World) (h : PGood w a n c L) (hn : n ≤ 64) (hp : MvPays L) :
    Calls Try.prog 47 #[.slice a n c, .int .i64 i] w fun e w' => e = .returned (.int .i64 (spentS L i)) ∧ w' = w := by
  have A := refClassed_any a n c L i w h hn hp
  generalize spentS L i = s at A ⊢
  generalize plainS L i = t at A
  clear h hp hn
  go_enter Try.func47, Try.ntmps47
  go_wp2_with fail
  go_at_call 69
  refine A.mono ?_
  rintro e w1 ⟨rfl, hw⟩
  obtain rfl := hw.symm
  go_wp2
  go_ret
  exact ⟨rfl, rfl⟩

/-- What the document's Post leaves. -/
def RefPostEnd (w : World) (b : Bks) (L : List P7) (e : Ending) (w' : World) : Prop := ∃ y : BA, e = .returned (.tuple #[y.val, .int .i64 (postE b L)]) ∧ Bk w' y (postR b L) ∧ Below w.heap.size w w'
/-- Where there is no error, in new memory. -/
def RefPostNew (w : World) (b : Bks) (L : List P7) (e : Ending) (w' : World) : Prop := ∃ y : BA, e = .returned (.tuple #[y.val, .int .i64 (postE b L)]) ∧ Bk w' y (postR b L) ∧ (postE b L = 0 → NewBk w' w.heap.size y (postR b L)) ∧ Below w.heap.size w w'

set_option maxHeartbeats 16000000 in
set_option maxRecDepth 100000 in
theorem refPost_new (x : BA) (b : Bks) (a : Option Addr) (n c : Nat) (L : List P7) (w : World) (hk : Bk w x b) (gd : Good b) (h : PGood w a n c L) :
    Calls Try.prog 24 #[x.val, .slice a n c] w (RefPostNew w b L) := by
  have MB := fun u (hu : Below w.heap.size w u) => refFAll_any x b a n c L u hk.acc.1 (h.below hu)
  have CA : Hid (∀ u, Below w.heap.size w u → Calls Try.prog 45 #[x.val] u (BooksEndA u b)) := fun u hu => refCopyA_any x b u (hk.below hu) gd.small
  have HX : Hid (Bk w x b) := hk
  have HG : Hid (PGood w a n c L) := h
  have HD : Hid (Good b) := gd
  have HL : Hid (n = L.length) := h.len
  clear hk gd h
  obtain ⟨aA, nA, cA, aB, nB, cB, aM, nM, cM, aP, nP, cP⟩ := x
  obtain ⟨w2, hw2⟩ : ∃ w2, w2 = (w.alloc (.cells #[.slice aA nA cA, .slice aB nB cB, .slice aM nM cM, .slice aP nP cP] 27)).alloc (.cells #[.slice none 0 0, .slice none 0 0, .slice none 0 0, .slice none 0 0] 27) := ⟨_, rfl⟩
  have B2 : Hid (Below w.heap.size w w2) := by rw [hw2]; exact (box_below _ _).alloc (box_below _ _).size _
  have X2 : Hid (Box4 w2 w.heap.size ⟨aA, nA, cA, aB, nB, cB, aM, nM, cM, aP, nP, cP⟩) := by rw [hw2]; exact (Box4.new w ⟨aA, nA, cA, aB, nB, cB, aM, nM, cM, aP, nP, cP⟩ _ _).below (box_below _ _)
  have G2 : Hid (w2.heap[w.heap.size + 1]? = some (.cells #[.slice none 0 0, .slice none 0 0, .slice none 0 0, .slice none 0 0] 27 (0, 0)) ∧ w.heap.size + 1 < w2.heap.size) := by
    have := heap_alloc_new (w.alloc (.cells #[.slice aA nA cA, .slice aB nB cB, .slice aM nM cM, .slice aP nP cP] 27)) (.cells #[.slice none 0 0, .slice none 0 0, .slice none 0 0, .slice none 0 0] 27)
    rw [size_alloc] at this
    rw [hw2]
    exact ⟨this, by rw [size_alloc, size_alloc]; omega⟩
  have M := MB w2 B2.out
  obtain ⟨q, hq⟩ : ∃ q, allB b L = q := ⟨_, rfl⟩
  rw [hq] at M
  have HQ : Hid (allB b L = q) := hq
  clear hq MB
  obtain ⟨p0, p1, p2, p3⟩ := X2.out
  replace p0 : w2.cell? ⟨w.heap.size, 0, none⟩ = some (.slice aA nA cA) := p0
  replace p1 : w2.cell? ⟨w.heap.size, 1, none⟩ = some (.slice aB nB cB) := p1
  replace p2 : w2.cell? ⟨w.heap.size, 2, none⟩ = some (.slice aM nM cM) := p2
  replace p3 : w2.cell? ⟨w.heap.size, 3, none⟩ = some (.slice aP nP cP) := p3
  go_enter Try.func24, Try.ntmps24
  go_upto_region 1 with fail
  rw [← hw2]
  clear hw2
  go_wp2_with fail
  go_at_call 19
  refine M.mono ?_
  rintro e w3 ⟨rfl, hb⟩
  have XB : Hid (Box4 w3 w.heap.size ⟨aA, nA, cA, aB, nB, cB, aM, nM, cM, aP, nP, cP⟩) := X2.out.below hb
  have BB : Hid (Below w.heap.size w w3) := B2.out.trans (hb.mono B2.out.size)
  have GB : Hid (w3.heap[w.heap.size + 1]? = some (.cells #[.slice none 0 0, .slice none 0 0, .slice none 0 0, .slice none 0 0] 27 (0, 0)) ∧ w.heap.size + 1 < w3.heap.size) := ⟨(hb.block _ G2.out.2).trans G2.out.1, by have := hb.size; have := G2.out.2; omega⟩
  clear hb M X2 B2 G2 p0 p1 p2 p3
  cases q
  · have HE : Hid (True ∧ ∀ (y : BA) (u : World), Bk u y b ∧ Below w.heap.size w u → RefPostNew w b L (.returned (.tuple #[y.val, .int .i64 1])) u) := ⟨trivial, fun y u hh => ⟨y, by rw [(post_no HQ.out).1], by rw [(post_no HQ.out).2]; exact hh.1, fun h0 => absurd h0 (by rw [(post_no HQ.out).1]; decide), hh.2⟩⟩
    clear CA HQ HD HG
    obtain ⟨p0, p1, p2, p3⟩ := XB.out
    replace p0 : w3.cell? ⟨w.heap.size, 0, none⟩ = some (.slice aA nA cA) := p0
    replace p1 : w3.cell? ⟨w.heap.size, 1, none⟩ = some (.slice aB nB cB) := p1
    replace p2 : w3.cell? ⟨w.heap.size, 2, none⟩ = some (.slice aM nM cM) := p2
    replace p3 : w3.cell? ⟨w.heap.size, 3, none⟩ = some (.slice aP nP cP) := p3
    have hg := GB.out.1
    have R : Hid (Bk (w3.setRow (w.heap.size + 1) #[.slice aA nA cA, .slice aB nB cB, .slice aM nM cM, .slice aP nP cP]) ⟨aA, nA, cA, aB, nB, cB, aM, nM, cM, aP, nP, cP⟩ b ∧ Below w.heap.size w (w3.setRow (w.heap.size + 1) #[.slice aA nA cA, .slice aB nB cB, .slice aM nM cM, .slice aP nP cP])) :=
      ⟨HX.out.below (Below.setRow BB.out (by omega) _), Below.setRow BB.out (by omega) _⟩
    have D : Hid (Box4 (w3.setRow (w.heap.size + 1) #[.slice aA nA cA, .slice aB nB cB, .slice aM nM cM, .slice aP nP cP]) (w.heap.size + 1) ⟨aA, nA, cA, aB, nB, cB, aM, nM, cM, aP, nP, cP⟩) := box_set hg ⟨aA, nA, cA, aB, nB, cB, aM, nM, cM, aP, nP, cP⟩
    clear XB BB GB
    go_wp2_with (refine store_books rfl _ _ rfl (w.heap.size + 1) ⟨aA, nA, cA, aB, nB, cB, aM, nM, cM, aP, nP, cP⟩ rfl rfl _ hg rfl ?_)
    generalize w3.setRow (w.heap.size + 1) #[.slice aA nA cA, .slice aB nB cB, .slice aM nM cM, .slice aP nP cP] = wf at R D ⊢
    clear hg p0 p1 p2 p3
    obtain ⟨d0, d1, d2, d3⟩ := D.out
    go_wp2
    exact bodyPost_ret (v := .tuple #[BA.val ⟨aA, nA, cA, aB, nB, cB, aM, nM, cM, aP, nP, cP⟩, .int .i64 1]) (by simp [results, Try.results24, d0, d1, d2, d3, go_sem]) rfl (HE.out.2 _ _ R.out)
  · obtain ⟨p0, p1, p2, p3⟩ := XB.out
    replace p0 : w3.cell? ⟨w.heap.size, 0, none⟩ = some (.slice aA nA cA) := p0
    replace p1 : w3.cell? ⟨w.heap.size, 1, none⟩ = some (.slice aB nB cB) := p1
    replace p2 : w3.cell? ⟨w.heap.size, 2, none⟩ = some (.slice aM nM cM) := p2
    replace p3 : w3.cell? ⟨w.heap.size, 3, none⟩ = some (.slice aP nP cP) := p3
    have CC := CA.out w3 BB.out
    go_wp2_with fail
    go_at_call 45
    refine CC.mono ?_
    rintro e w4 ⟨y, S, rfl, hn, hb⟩
    obtain ⟨gA, sp, g, cg, lay⟩ := PLay.mk' hn HD.out
    obtain ⟨m, hm⟩ : ∃ m, b.A.length = m := ⟨_, rfl⟩
    rw [hm] at lay
    have HMM : Hid (b.A.length = m) := hm
    have X4 : Hid (Box4 w4 w.heap.size ⟨aA, nA, cA, aB, nB, cB, aM, nM, cM, aP, nP, cP⟩) := XB.out.below hb
    have B4 : Hid (Below w.heap.size w w4 ∧ w3.heap.size ≤ w4.heap.size) := ⟨BB.out.trans (hb.mono BB.out.size), hb.size⟩
    have G4 : Hid (w4.heap[w.heap.size + 1]? = some (.cells #[.slice none 0 0, .slice none 0 0, .slice none 0 0, .slice none 0 0] 27 (0, 0)) ∧ w.heap.size + 1 < w3.heap.size) := ⟨(hb.block _ GB.out.2).trans GB.out.1, GB.out.2⟩
    have LY : Hid (PLay w4 w3.heap.size w4.heap.size y b gA sp g cg m (outA b L m 0) (outP b L 0)) := lay.congr (fun i _ => outA_zero b L m i) (fun i k _ _ => outP_zero b L i k)
    have HB0 : Hid (w.heap.size ≤ w3.heap.size) := BB.out.size
    have e1 := lay.eA
    have e2 := lay.nA
    have e3 := lay.eP
    have e4 := lay.nP
    clear hb hn CC lay p0 p1 p2 p3 XB BB GB CA hm
    obtain ⟨yA, mA, eA, yB, mB, eB, yM, mM, eM, yP, mP, eP⟩ := y
    simp only at e1 e2 e3 e4
    subst yA mA yP mP
    obtain ⟨B, hB⟩ : ∃ B, w3.heap.size = B := ⟨_, rfl⟩
    obtain ⟨T, hT⟩ : ∃ T, w4.heap.size = T := ⟨_, rfl⟩
    rw [hB] at B4 G4 LY HB0
    rw [hT] at B4 LY
    have HTT : Hid (w4.heap.size = T) := hT
    clear hB hT
    obtain ⟨w5, hw5⟩ : ∃ w5, w5 = w4.alloc (.cells #[.slice (some ⟨gA, 0, none⟩) m eA, .slice yB mB eB, .slice yM mM eM, .slice (some ⟨sp, 0, none⟩) m eP] 27) := ⟨_, rfl⟩
    have b45 : Below w4.heap.size w4 w5 := by rw [hw5]; exact box_below _ _
    have X5 : Hid (Box4 w5 w.heap.size ⟨aA, nA, cA, aB, nB, cB, aM, nM, cM, aP, nP, cP⟩) := X4.out.below b45
    have Y5 : Hid (Box4 w5 w4.heap.size ⟨some ⟨gA, 0, none⟩, m, eA, yB, mB, eB, yM, mM, eM, some ⟨sp, 0, none⟩, m, eP⟩) := by rw [hw5]; exact Box4.new w4 ⟨some ⟨gA, 0, none⟩, m, eA, yB, mB, eB, yM, mM, eM, some ⟨sp, 0, none⟩, m, eP⟩ _ _
    have B5 : Hid (Below w.heap.size w w5 ∧ B ≤ w5.heap.size) := ⟨B4.out.1.trans (b45.mono B4.out.1.size), by have h1 := B4.out.2; have h2 := b45.size; rw [HTT.out] at h2; omega⟩
    have G5 : Hid (w5.heap[w.heap.size + 1]? = some (.cells #[.slice none 0 0, .slice none 0 0, .slice none 0 0, .slice none 0 0] 27 (0, 0)) ∧ w.heap.size + 1 < B) := ⟨(b45.block _ (by have := B4.out.2; have := G4.out.2; have := HTT.out; omega)).trans G4.out.1, G4.out.2⟩
    have L5 : Hid (PLay w5 B T ⟨some ⟨gA, 0, none⟩, m, eA, yB, mB, eB, yM, mM, eM, some ⟨sp, 0, none⟩, m, eP⟩ b gA sp g cg m (outA b L m 0) (outP b L 0)) := LY.out.below b45
    have n64 : (n : Int) ≤ 64 := by have := (allB_mv HD.out HQ.out).1; have := HL.out; omega
    have m6 : (m : Int) ≤ 6 := by have := HD.out.n6; have := HMM.out; omega
    have HN6 : Hid (n ≤ 64 ∧ MvPays L ∧ L.length ≤ 64) := ⟨by omega, (allB_mv HD.out HQ.out).2.1, (allB_mv HD.out HQ.out).1⟩
    clear b45 X4 B4 G4 LY
    go_upto_region 4 with fail
    rw [← hw5]
    clear hw5
    go_wp2
    go_loopw [7] (fun t wr => ∃ i : Nat, i ≤ m ∧ t = .int .i64 i ∧ Hid (PLay wr B T ⟨some ⟨gA, 0, none⟩, m, eA, yB, mB, eB, yM, mM, eM, some ⟨sp, 0, none⟩, m, eP⟩ b gA sp g cg m (outA b L m i) (outP b L i)) ∧ Hid (Within B T w5 wr)) (fun t _ => m - (intOf t).toNat)
    case atStart => exact ⟨0, by omega, rfl, L5, Within.refl _ _ _⟩
    case round =>
      obtain ⟨wo, rfl⟩ : ∃ wo, wo = wr := ⟨wr, rfl⟩
      obtain ⟨i, hi, rfl, LR, WR⟩ := hrel
      have BW : Hid (Below w.heap.size w wo) := B5.out.1.trans ((WR.out.below B5.out.2).mono HB0.out)
      have YR : Hid (Box4 wo w4.heap.size ⟨some ⟨gA, 0, none⟩, m, eA, yB, mB, eB, yM, mM, eM, some ⟨sp, 0, none⟩, m, eP⟩) := WR.out.box4 Y5.out (by rw [HTT.out]; exact Nat.le_refl _)
      obtain ⟨p0, p1, p2, p3⟩ := YR.out
      replace p0 : wo.cell? ⟨w4.heap.size, 0, none⟩ = some (.slice (some ⟨gA, 0, none⟩) m eA) := p0
      replace p1 : wo.cell? ⟨w4.heap.size, 1, none⟩ = some (.slice yB mB eB) := p1
      replace p2 : wo.cell? ⟨w4.heap.size, 2, none⟩ = some (.slice yM mM eM) := p2
      replace p3 : wo.cell? ⟨w4.heap.size, 3, none⟩ = some (.slice (some ⟨sp, 0, none⟩) m eP) := p3
      by_cases hlt : i < m
      · have i1 : (i : Int) < (m : Int) := by omega
        obtain ⟨vb, hvb⟩ : ∃ v, (b.A.getD i a30).1 = v := ⟨_, rfl⟩
        obtain ⟨vc, hvc⟩ : ∃ v, (b.A.getD i a30).2.1 = v := ⟨_, rfl⟩
        obtain ⟨vr, hvr⟩ : ∃ v, (b.A.getD i a30).2.2 = v := ⟨_, rfl⟩
        obtain ⟨s, hs⟩ : ∃ s, spentS L i = s := ⟨_, rfl⟩
        have rg := HD.out.reserve i (by rw [HMM.out]; exact hlt)
        have sg := HN6.out.2.1.spent HN6.out.2.2 (i : Int)
        rw [hvr] at rg
        rw [hs] at sg
        have KP := refKept_any vb vc vr s (by omega) (by omega) (by omega) (by omega)
        obtain ⟨kv, hkv⟩ : ∃ v, keptV vr s = v := ⟨_, rfl⟩
        rw [hkv] at KP
        have SP : Hid (∀ u, Below wo.heap.size wo u → Calls Try.prog 47 #[.slice a n c, .int .i64 i] u fun e w' => e = .returned (.int .i64 s) ∧ Below u.heap.size u w') := fun u hu => by
          have := refSpent_any a n c L i u (HG.out.below (BW.out.trans (hu.mono BW.out.size))) HN6.out.1 HN6.out.2.1
          rw [hs] at this
          exact this.mono fun e w' hh => ⟨hh.1, by rw [hh.2]; exact Below.refl _ _⟩
        have L6 : Hid (∀ u, Below wo.heap.size wo u → PLay (u.setCell ⟨gA, i * 3 + 2, none⟩ (.int .i64 kv)) B T ⟨some ⟨gA, 0, none⟩, m, eA, yB, mB, eB, yM, mM, eM, some ⟨sp, 0, none⟩, m, eP⟩ b gA sp g cg m (inA b L m i 0) (inP b L i 0) ∧ Within B T wo (u.setCell ⟨gA, i * 3 + 2, none⟩ (.int .i64 kv))) := fun u hu => by
          have k5 := LR.out.below hu
          have := k5.res hlt kv
          rw [outA_at] at this
          refine ⟨this.congr (fun j _ => ?_) (fun j l _ _ => inP_start b L i j l), (Within.of hu).trans (k5.inA _ _)⟩
          rw [← hkv, ← hvr, ← hs]
          exact in_start b L m i j
        have F5 : Hid (∀ u, Below wo.heap.size wo u → u.frozen? ⟨gA, i * 3 + 2, none⟩ = false) := fun u hu => (LR.out.below hu).freeA _
        have C5 : Hid (∀ u, Below wo.heap.size wo u → u.cell? ⟨gA, i * 3, none⟩ = some (.int .i64 vb) ∧ u.cell? ⟨gA, i * 3 + 1, none⟩ = some (.int .i64 vc) ∧ u.cell? ⟨gA, i * 3 + 2, none⟩ = some (.int .i64 vr)) := fun u hu => by
          have := (LR.out.below hu).acct hlt
          rw [outA_at] at this
          simp only [hvb, hvc, hvr] at this
          exact this
        have HLT : Hid (i < m) := hlt
        clear hvb hvc hvr hs hkv rg sg BW LR hlt
        go_wp2_with fail
        refine region_owes_endN 14 (L := [Fact.is (.pointer (some ⟨w4.heap.size, 0, none⟩)),
          Fact.is (.slice (some ⟨gA, 0, none⟩) m eA),
          Fact.is (.int .i64 i),
          Fact.is (.pointer (some ⟨w4.heap.size, 0, none⟩)),
          Fact.is (.slice (some ⟨gA, 0, none⟩) m eA),
          Fact.is (.int .i64 i),
          Fact.is (.pointer (some ⟨gA, i * 3, none⟩)),
          Fact.is (.agg #[.int .i64 vb, .int .i64 vc, .int .i64 vr]),
          Fact.is (.slice a n c),
          Fact.is (.int .i64 i),
          Fact.is (.int .i64 s),
          Fact.is (.int .i64 kv),
          Fact.is (.pointer (some ⟨gA, i * 3, none⟩)),
          Fact.is (.pointer (some ⟨gA, i * 3 + 2, none⟩))])
          (T := [24, 25, 26, 27, 28, 29, 30, 31, 32, 33, 34, 35, 36, 37]) (by kernel_rfl) rfl rfl (by kernel_rfl) (by kernel_rfl) rfl ?owes ?_
        case owes =>
          simp only [List.take_succ_cons, List.take_zero]
          refine .cons (owes_value fun q u lh => ⟨wants_free rfl, .pointer (some ⟨w4.heap.size, 0, none⟩), by have e6 : q.tmps.getD 6 undef = .pointer (some ⟨w4.heap.size, 0, none⟩) := lh.old 6 rfl; simp [execOp, Act.eval, e6, go_sem], rfl⟩) ?_
          refine .cons (owes_value fun q u lh => ⟨wants_free rfl, .slice (some ⟨gA, 0, none⟩) m eA, by have e24 : q.tmps.getD 24 undef = .pointer (some ⟨w4.heap.size, 0, none⟩) := lh.dep 0 rfl; obtain ⟨y0, y1, y2, y3⟩ := YR.out.below lh.below; simp [execOp, Act.eval, e24, y0, go_sem], rfl⟩) ?_
          refine .cons (owes_move (.tmp 7) (.inl rfl) fun q u lh => ⟨wants_free rfl, lh.old 7 rfl⟩) ?_
          refine .cons (owes_value fun q u lh => ⟨wants_free rfl, .pointer (some ⟨w4.heap.size, 0, none⟩), by have e6 : q.tmps.getD 6 undef = .pointer (some ⟨w4.heap.size, 0, none⟩) := lh.old 6 rfl; simp [execOp, Act.eval, e6, go_sem], rfl⟩) ?_
          refine .cons (owes_value fun q u lh => ⟨wants_free rfl, .slice (some ⟨gA, 0, none⟩) m eA, by have e27 : q.tmps.getD 27 undef = .pointer (some ⟨w4.heap.size, 0, none⟩) := lh.dep 3 rfl; obtain ⟨y0, y1, y2, y3⟩ := YR.out.below lh.below; simp [execOp, Act.eval, e27, y0, go_sem], rfl⟩) ?_
          refine .cons (owes_move (.tmp 7) (.inl rfl) fun q u lh => ⟨wants_free rfl, lh.old 7 rfl⟩) ?_
          refine .cons (owes_value fun q u lh => ⟨wants_free rfl, .pointer (some ⟨gA, i * 3, none⟩), by have e28 : q.tmps.getD 28 undef = .slice (some ⟨gA, 0, none⟩) m eA := lh.dep 4 rfl; have e29 : q.tmps.getD 29 undef = .int .i64 i := lh.dep 5 rfl; simp [execOp, Act.eval, e28, e29, i1, go_sem], rfl⟩) ?_
          refine .cons (owes_value fun q u lh => ⟨wants_free rfl, .agg #[.int .i64 vb, .int .i64 vc, .int .i64 vr], by have e30 : q.tmps.getD 30 undef = .pointer (some ⟨gA, i * 3, none⟩) := lh.dep 6 rfl; obtain ⟨y0, y1, y2⟩ := C5.out u lh.below; simp [execOp, Act.eval, e30, y0, y1, y2, go_sem], rfl⟩) ?_
          refine .cons (owes_move (.tmp 1) (.inl rfl) fun q u lh => ⟨wants_free rfl, lh.old 1 rfl⟩) ?_
          refine .cons (owes_move (.tmp 7) (.inl rfl) fun q u lh => ⟨wants_free rfl, lh.old 7 rfl⟩) ?_
          refine .cons (owes_call 47 Try.func47 (by kernel_rfl) (by kernel_rfl) [.tmp 32, .tmp 33] #[23, 3] rfl fun q u lh => ⟨wants_free rfl, by have e32 : q.tmps.getD 32 undef = .slice a n c := lh.dep 8 rfl; have e33 : q.tmps.getD 33 undef = .int .i64 i := lh.dep 9 rfl; show Calls Try.prog 47 #[q.tmps.getD 32 undef, q.tmps.getD 33 undef] u _; rw [e32, e33]; exact int_fact (SP.out u lh.below)⟩) ?_
          refine .cons (owes_call 46 Try.func46 (by kernel_rfl) (by kernel_rfl) [.tmp 31, .tmp 34] #[53, 2] rfl fun q u lh => ⟨wants_free rfl, by have e31 : q.tmps.getD 31 undef = .agg #[.int .i64 vb, .int .i64 vc, .int .i64 vr] := lh.dep 7 rfl; have e34 : q.tmps.getD 34 undef = .int .i64 s := lh.dep 10 rfl; show Calls Try.prog 46 #[q.tmps.getD 31 undef, q.tmps.getD 34 undef] u _; rw [e31, e34]; exact int_fact (KP u)⟩) ?_
          refine .cons (owes_value fun q u lh => ⟨wants_free rfl, .pointer (some ⟨gA, i * 3, none⟩), by have e25 : q.tmps.getD 25 undef = .slice (some ⟨gA, 0, none⟩) m eA := lh.dep 1 rfl; have e26 : q.tmps.getD 26 undef = .int .i64 i := lh.dep 2 rfl; simp [execOp, Act.eval, e25, e26, i1, go_sem], rfl⟩) ?_
          refine .cons (owes_value fun q u lh => ⟨wants_free rfl, .pointer (some ⟨gA, i * 3 + 2, none⟩), by have e36 : q.tmps.getD 36 undef = .pointer (some ⟨gA, i * 3, none⟩) := lh.dep 12 rfl; simp [execOp, Act.eval, e36, go_sem], rfl⟩) ?_
          exact .nil _
        intro q u hb hsz hdf hold hfact
        obtain ⟨l6, v6⟩ := L6.out u hb
        have f0 := F5.out u hb
        obtain ⟨_, _, y2⟩ := C5.out u hb
        obtain ⟨w6, hw6⟩ : ∃ w6, w6 = u.setCell ⟨gA, i * 3 + 2, none⟩ (.int .i64 kv) := ⟨_, rfl⟩
        rw [← hw6] at l6 v6
        have L7 : Hid (PLay w6 B T ⟨some ⟨gA, 0, none⟩, m, eA, yB, mB, eB, yM, mM, eM, some ⟨sp, 0, none⟩, m, eP⟩ b gA sp g cg m (inA b L m i 0) (inP b L i 0)) := l6
        have W6 : Hid (Within B T w5 w6) := WR.out.trans v6
        clear l6 v6 hb L6 F5 C5
        obtain rfl := frame_puts hsz hdf [24, 25, 26, 27, 28, 29, 30, 31, 32, 33, 34, 35, 36, 37] hold [(24, Value.pointer (some ⟨w4.heap.size, 0, none⟩)), (25, Value.slice (some ⟨gA, 0, none⟩) m eA), (26, Value.int .i64 i), (27, Value.pointer (some ⟨w4.heap.size, 0, none⟩)), (28, Value.slice (some ⟨gA, 0, none⟩) m eA), (29, Value.int .i64 i), (30, Value.pointer (some ⟨gA, i * 3, none⟩)), (31, Value.agg #[.int .i64 vb, .int .i64 vc, .int .i64 vr]), (32, Value.slice a n c), (33, Value.int .i64 i), (34, Value.int .i64 s), (35, Value.int .i64 kv), (36, Value.pointer (some ⟨gA, i * 3, none⟩)), (37, Value.pointer (some ⟨gA, i * 3 + 2, none⟩))] ⟨hfact 0 (by decide), hfact 1 (by decide), hfact 2 (by decide), hfact 3 (by decide), hfact 4 (by decide), hfact 5 (by decide), hfact 6 (by decide), hfact 7 (by decide), hfact 8 (by decide), hfact 9 (by decide), hfact 10 (by decide), hfact 11 (by decide), hfact 12 (by decide), hfact 13 (by decide), trivial⟩ rfl
        clear hsz hdf hold hfact
        clear KP SP YR p0 p1 p2 p3 WR
        simp only [puts, Act.put, List.setIfInBounds_toArray, List.set_cons_zero, List.set_cons_succ]
        go_upto_region 8 with fail
        rw [← hw6]
        clear hw6 y2 f0
        go_wp2
        go_loopw [8, 9] (fun t _ wr => ∃ k : Nat, k ≤ m ∧ t = .int .i64 k ∧ Hid (PLay wr B T ⟨some ⟨gA, 0, none⟩, m, eA, yB, mB, eB, yM, mM, eM, some ⟨sp, 0, none⟩, m, eP⟩ b gA sp g cg m (inA b L m i k) (inP b L i k)) ∧ Hid (Within B T w5 wr)) (fun t _ _ => m - (intOf t).toNat)
        case atStart => exact ⟨0, by omega, rfl, L7, W6⟩
        case round =>
          obtain ⟨k, hk, rfl, LI, WI⟩ := hrel
          have BW : Hid (Below w.heap.size w wr) := B5.out.1.trans ((WI.out.below B5.out.2).mono HB0.out)
          have YI : Hid (Box4 wr w4.heap.size ⟨some ⟨gA, 0, none⟩, m, eA, yB, mB, eB, yM, mM, eM, some ⟨sp, 0, none⟩, m, eP⟩) := WI.out.box4 Y5.out (by rw [HTT.out]; exact Nat.le_refl _)
          obtain ⟨p0, p1, p2, p3⟩ := YI.out
          replace p0 : wr.cell? ⟨w4.heap.size, 0, none⟩ = some (.slice (some ⟨gA, 0, none⟩) m eA) := p0
          replace p1 : wr.cell? ⟨w4.heap.size, 1, none⟩ = some (.slice yB mB eB) := p1
          replace p2 : wr.cell? ⟨w4.heap.size, 2, none⟩ = some (.slice yM mM eM) := p2
          replace p3 : wr.cell? ⟨w4.heap.size, 3, none⟩ = some (.slice (some ⟨sp, 0, none⟩) m eP) := p3
          by_cases hlk : k < m
          · have k1 : (k : Int) < (m : Int) := by omega
            have SN := refSent_any a n c L i k wr (HG.out.below BW.out) HN6.out.1 HN6.out.2.1
            obtain ⟨d, hd⟩ : ∃ d, netS L i k = d := ⟨_, rfl⟩
            rw [hd] at SN
            have rg := HD.out.reserve i (by rw [HMM.out]; exact HLT.out)
            have g1 := dTo_range HN6.out.2.1 HN6.out.2.2 (i : Int) (k + 1)
            have ps := posB_yes (HD.out.may i k (by rw [HMM.out]; exact HLT.out) (by rw [HMM.out]; exact hlk))
            have g2 := netS_range HN6.out.2.1 HN6.out.2.2 (i : Int) (k : Int)
            rw [hd] at g2
            obtain ⟨vb, hvb⟩ : ∃ v, (inA b L m i k i).1 = v := ⟨_, rfl⟩
            obtain ⟨vp, hvp⟩ : ∃ v, at2 b.P i k = v := ⟨_, rfl⟩
            have LS : Hid (∀ u, Within B T wr u → PLay u B T ⟨some ⟨gA, 0, none⟩, m, eA, yB, mB, eB, yM, mM, eM, some ⟨sp, 0, none⟩, m, eP⟩ b gA sp g cg m (inA b L m i k) (inP b L i k) → PLay (u.setCell ⟨gA, i * 3, none⟩ (.int .i64 (vb - d))).drew B T ⟨some ⟨gA, 0, none⟩, m, eA, yB, mB, eB, yM, mM, eM, some ⟨sp, 0, none⟩, m, eP⟩ b gA sp g cg m (inA b L m i (k + 1)) (inP b L i k) ∧ Within B T wr (u.setCell ⟨gA, i * 3, none⟩ (.int .i64 (vb - d))).drew) := fun u hu k5 => by
              have := (k5.bal HLT.out (vb - d)).below (drawn_below _ 1)
              refine ⟨this.congr (fun j _ => ?_) (fun j l _ _ => rfl), hu.trans ((k5.inA _ _).trans (Within.of (drawn_below _ 1)))⟩
              rw [← hvb, ← hd]
              exact in_step b L m i k j
            have LP : Hid (∀ u, Within B T wr u → PLay u B T ⟨some ⟨gA, 0, none⟩, m, eA, yB, mB, eB, yM, mM, eM, some ⟨sp, 0, none⟩, m, eP⟩ b gA sp g cg m (inA b L m i (k + 1)) (inP b L i k) → PLay (u.setCell ⟨g i, k, none⟩ (.int .i64 (vp + d))).drew B T ⟨some ⟨gA, 0, none⟩, m, eA, yB, mB, eB, yM, mM, eM, some ⟨sp, 0, none⟩, m, eP⟩ b gA sp g cg m (inA b L m i (k + 1)) (inP b L i (k + 1)) ∧ Within B T wr (u.setCell ⟨g i, k, none⟩ (.int .i64 (vp + d))).drew) := fun u hu k5 => by
              have := (k5.setP HLT.out hlk (y := vp + d) (by rw [IntKind.wrap_i64]; omega)).below (drawn_below _ 1)
              refine ⟨this.congr (fun j _ => rfl) (fun j l _ _ => ?_), hu.trans (((Within.refl _ _ _).set (k5.base.2.2 i HLT.out) (k5.top.2.2 i HLT.out) _).trans (Within.of (drawn_below _ 1)))⟩
              rw [← hvp, ← hd]
              exact inP_step b L i k j l
            have b0 : -9223372036854775808 ≤ vb - d := by rw [← hvb, inA_at]; rw [← hd]; simp only [dTo] at g1; have : ((k + 1 : Nat) : Int) * 70368744177664 ≤ 6 * 70368744177664 := by omega
                                                          show _ ≤ _ - _ - _; omega
            have b1 : vb - d ≤ 9223372036854775807 := by rw [← hvb, inA_at]; rw [← hd]; simp only [dTo] at g1; have : ((k + 1 : Nat) : Int) * 70368744177664 ≤ 6 * 70368744177664 := by omega
                                                         show _ - _ - _ ≤ _; omega
            have b2 : -9223372036854775808 ≤ vp + d := by omega
            have b3 : vp + d ≤ 9223372036854775807 := by omega
            obtain ⟨a0, _, _⟩ := LI.out.acct HLT.out
            rw [hvb] at a0
            have f0 := LI.out.freeA (i * 3)
            have HLK : Hid (k < m) := hlk
            have HVP : Hid (inP b L i k i k = vp) := by show _ = _; rw [inP_at, hvp]
            clear rg g1 ps g2 hvb hvp hd hlk
            go_wp2_with fail
            go_at_call 48
            refine SN.mono ?_
            rintro e wz ⟨rfl, hw⟩
            obtain rfl := hw.symm
            clear SN
            go_wp2_with fail
            go_region
            obtain ⟨l6, v6⟩ := LS.out wr (Within.refl _ _ _) LI.out
            have L8 : Hid (PLay (wr.setCell ⟨gA, i * 3, none⟩ (.int .i64 (vb - d))).drew B T ⟨some ⟨gA, 0, none⟩, m, eA, yB, mB, eB, yM, mM, eM, some ⟨sp, 0, none⟩, m, eP⟩ b gA sp g cg m (inA b L m i (k + 1)) (inP b L i k)) := l6
            have V8 : Hid (Within B T wr (wr.setCell ⟨gA, i * 3, none⟩ (.int .i64 (vb - d))).drew) := v6
            clear l6 v6
            generalize (wr.setCell ⟨gA, i * 3, none⟩ (.int .i64 (vb - d))).drew = w8 at L8 V8 ⊢
            have Y8 : Hid (Box4 w8 w4.heap.size ⟨some ⟨gA, 0, none⟩, m, eA, yB, mB, eB, yM, mM, eM, some ⟨sp, 0, none⟩, m, eP⟩) := V8.out.box4 YI.out (by rw [HTT.out]; exact Nat.le_refl _)
            clear LS LI p0 p1 p2 p3 a0 f0 b0 b1
            obtain ⟨_, _, _, p3⟩ := Y8.out
            replace p3 : w8.cell? ⟨w4.heap.size, 3, none⟩ = some (.slice (some ⟨sp, 0, none⟩) m eP) := p3
            have s0 := L8.out.spine HLT.out
            have a0 := L8.out.at' HLT.out HLK.out
            rw [HVP.out] at a0
            have f0 := L8.out.freeP HLT.out k
            obtain ⟨l9, v9⟩ := LP.out w8 V8.out L8.out
            have L9 : Hid (PLay (w8.setCell ⟨g i, k, none⟩ (.int .i64 (vp + d))).drew B T ⟨some ⟨gA, 0, none⟩, m, eA, yB, mB, eB, yM, mM, eM, some ⟨sp, 0, none⟩, m, eP⟩ b gA sp g cg m (inA b L m i (k + 1)) (inP b L i (k + 1))) := l9
            have V9 : Hid (Within B T w5 (w8.setCell ⟨g i, k, none⟩ (.int .i64 (vp + d))).drew) := WI.out.trans v9
            clear l9 v9 LP
            go_wp2_with fail
            go_region
            generalize (w8.setCell ⟨g i, k, none⟩ (.int .i64 (vp + d))).drew = w9 at L9 V9 ⊢
            clear s0 a0 f0 b2 b3 p3 L8 V8 Y8 WI YI BW
            go_wp2
            go_roundw
            case rel => exact ⟨k + 1, by omega, by go_num, L9, V9⟩
            case measure => simp [intOf]; omega
          · obtain rfl : k = m := by omega
            have LO : Hid (PLay wr B T ⟨some ⟨gA, 0, none⟩, k, eA, yB, mB, eB, yM, mM, eM, some ⟨sp, 0, none⟩, k, eP⟩ b gA sp g cg k (outA b L k (i + 1)) (outP b L (i + 1))) := LI.out.congr (fun j _ => in_end b L k i j) (fun j l _ hl => inP_end b L k i j l hl)
            clear LI BW YI
            go_wp2
            go_roundw
            case rel => exact ⟨i + 1, by omega, by go_num, LO, WI⟩
            case measure => simp [intOf]; omega
      · obtain rfl : i = m := by omega
        have NB : Hid (NewBk wo B ⟨some ⟨gA, 0, none⟩, i, eA, yB, mB, eB, yM, mM, eM, some ⟨sp, 0, none⟩, i, eP⟩ (postB b L)) := by
          have := (LR.out.congr (fun j hj => out_end b L i j hj) (fun j l hj _ => outP_end b L i j l hj)).new
          rw [postB_mk, HMM.out]
          exact this
        have GR : Hid (wo.heap[w.heap.size + 1]? = some (.cells #[.slice none 0 0, .slice none 0 0, .slice none 0 0, .slice none 0 0] 27 (0, 0)) ∧ w.heap.size + 1 < B) := ⟨(WR.out.block _ (by have := G5.out.2; have := B5.out.2; omega) (.inl G5.out.2)).trans G5.out.1, G5.out.2⟩
        have BR : Hid (B ≤ wo.heap.size) := by have h1 := B5.out.2; have h2 := WR.out.size; show B ≤ _; omega
        have XR : Hid (Box4 wo w.heap.size ⟨aA, nA, cA, aB, nB, cB, aM, nM, cM, aP, nP, cP⟩) := ⟨WR.out.cell X5.out.1 (.inl (by have := G5.out.2; show w.heap.size < B; omega)), WR.out.cell X5.out.2.1 (.inl (by have := G5.out.2; show w.heap.size < B; omega)), WR.out.cell X5.out.2.2.1 (.inl (by have := G5.out.2; show w.heap.size < B; omega)), WR.out.cell X5.out.2.2.2 (.inl (by have := G5.out.2; show w.heap.size < B; omega))⟩
        have I := refBooksIs_any ⟨some ⟨gA, 0, none⟩, i, eA, yB, mB, eB, yM, mM, eM, some ⟨sp, 0, none⟩, i, eP⟩ (postB b L) wo NB.out.bk
        obtain ⟨v, hv⟩ : ∃ v, booksB (postB b L) = v := ⟨_, rfl⟩
        rw [hv] at I
        have HV : Hid (booksB (postB b L) = v) := hv
        clear hv LR WR X5 Y5 B5 G5 L5
        go_wp2_with fail
        go_at_call 17
        refine I.mono ?_
        rintro e w8 ⟨rfl, hb⟩
        have XB : Hid (Box4 w8 w.heap.size ⟨aA, nA, cA, aB, nB, cB, aM, nM, cM, aP, nP, cP⟩) := XR.out.below hb
        have YB : Hid (Box4 w8 w4.heap.size ⟨some ⟨gA, 0, none⟩, i, eA, yB, mB, eB, yM, mM, eM, some ⟨sp, 0, none⟩, i, eP⟩) := YR.out.below hb
        have BB : Hid (Below w.heap.size w w8) := BW.out.trans (hb.mono BW.out.size)
        have GB : Hid (w8.heap[w.heap.size + 1]? = some (.cells #[.slice none 0 0, .slice none 0 0, .slice none 0 0, .slice none 0 0] 27 (0, 0)) ∧ w.heap.size + 1 < w8.heap.size) := ⟨(hb.block _ (by have := GR.out.2; have := BR.out; omega)).trans GR.out.1, by have := GR.out.2; have := BR.out; have := hb.size; omega⟩
        have NB8 : Hid (NewBk w8 B ⟨some ⟨gA, 0, none⟩, i, eA, yB, mB, eB, yM, mM, eM, some ⟨sp, 0, none⟩, i, eP⟩ (postB b L)) := NB.out.below hb
        clear hb I XR YR BW NB BR p0 p1 p2 p3
        cases v
        · have HE : Hid (True ∧ ∀ (y : BA) (u : World), Bk u y b ∧ Below w.heap.size w u → RefPostNew w b L (.returned (.tuple #[y.val, .int .i64 8])) u) := ⟨trivial, fun y u hh => ⟨y, by rw [(post_over HQ.out HV.out).1], by rw [(post_over HQ.out HV.out).2]; exact hh.1, fun h0 => absurd h0 (by rw [(post_over HQ.out HV.out).1]; decide), hh.2⟩⟩
          clear HQ HD HG HV YB NB8 GR
          obtain ⟨p0, p1, p2, p3⟩ := XB.out
          replace p0 : w8.cell? ⟨w.heap.size, 0, none⟩ = some (.slice aA nA cA) := p0
          replace p1 : w8.cell? ⟨w.heap.size, 1, none⟩ = some (.slice aB nB cB) := p1
          replace p2 : w8.cell? ⟨w.heap.size, 2, none⟩ = some (.slice aM nM cM) := p2
          replace p3 : w8.cell? ⟨w.heap.size, 3, none⟩ = some (.slice aP nP cP) := p3
          have hg := GB.out.1
          have R : Hid (Bk (w8.setRow (w.heap.size + 1) #[.slice aA nA cA, .slice aB nB cB, .slice aM nM cM, .slice aP nP cP]) ⟨aA, nA, cA, aB, nB, cB, aM, nM, cM, aP, nP, cP⟩ b ∧ Below w.heap.size w (w8.setRow (w.heap.size + 1) #[.slice aA nA cA, .slice aB nB cB, .slice aM nM cM, .slice aP nP cP])) :=
            ⟨HX.out.below (Below.setRow BB.out (by omega) _), Below.setRow BB.out (by omega) _⟩
          have D : Hid (Box4 (w8.setRow (w.heap.size + 1) #[.slice aA nA cA, .slice aB nB cB, .slice aM nM cM, .slice aP nP cP]) (w.heap.size + 1) ⟨aA, nA, cA, aB, nB, cB, aM, nM, cM, aP, nP, cP⟩) := box_set hg ⟨aA, nA, cA, aB, nB, cB, aM, nM, cM, aP, nP, cP⟩
          clear XB BB GB
          go_wp2_with (refine store_books rfl _ _ rfl (w.heap.size + 1) ⟨aA, nA, cA, aB, nB, cB, aM, nM, cM, aP, nP, cP⟩ rfl rfl _ hg rfl ?_)
          generalize w8.setRow (w.heap.size + 1) #[.slice aA nA cA, .slice aB nB cB, .slice aM nM cM, .slice aP nP cP] = wf at R D ⊢
          clear hg p0 p1 p2 p3
          obtain ⟨d0, d1, d2, d3⟩ := D.out
          go_wp2
          exact bodyPost_ret (v := .tuple #[BA.val ⟨aA, nA, cA, aB, nB, cB, aM, nM, cM, aP, nP, cP⟩, .int .i64 8]) (by simp [results, Try.results24, d0, d1, d2, d3, go_sem]) rfl (HE.out.2 _ _ R.out)
        · have HE : Hid (True ∧ ∀ (y : BA) (u : World), NewBk u w.heap.size y (postB b L) ∧ Below w.heap.size w u → RefPostNew w b L (.returned (.tuple #[y.val, .int .i64 0])) u) := ⟨trivial, fun y u hh => ⟨y, by rw [(post_yes HQ.out HV.out).1], by rw [(post_yes HQ.out HV.out).2]; exact hh.1.bk, fun _ => by rw [(post_yes HQ.out HV.out).2]; exact hh.1, hh.2⟩⟩
          obtain ⟨p0, p1, p2, p3⟩ := YB.out
          replace p0 : w8.cell? ⟨w4.heap.size, 0, none⟩ = some (.slice (some ⟨gA, 0, none⟩) i eA) := p0
          replace p1 : w8.cell? ⟨w4.heap.size, 1, none⟩ = some (.slice yB mB eB) := p1
          replace p2 : w8.cell? ⟨w4.heap.size, 2, none⟩ = some (.slice yM mM eM) := p2
          replace p3 : w8.cell? ⟨w4.heap.size, 3, none⟩ = some (.slice (some ⟨sp, 0, none⟩) i eP) := p3
          have hg8 := GB.out.1
          have R : Hid (NewBk (w8.setRow (w.heap.size + 1) #[.slice (some ⟨gA, 0, none⟩) i eA, .slice yB mB eB, .slice yM mM eM, .slice (some ⟨sp, 0, none⟩) i eP]) w.heap.size ⟨some ⟨gA, 0, none⟩, i, eA, yB, mB, eB, yM, mM, eM, some ⟨sp, 0, none⟩, i, eP⟩ (postB b L) ∧ Below w.heap.size w (w8.setRow (w.heap.size + 1) #[.slice (some ⟨gA, 0, none⟩) i eA, .slice yB mB eB, .slice yM mM eM, .slice (some ⟨sp, 0, none⟩) i eP])) :=
            ⟨(NB8.out.kept (fun k hk => setRow_other w8 (w.heap.size + 1) k _ (by have hk : B ≤ k := hk; have := GR.out.2; omega))).base HB0.out, Below.setRow BB.out (by omega) _⟩
          have D : Hid (Box4 (w8.setRow (w.heap.size + 1) #[.slice (some ⟨gA, 0, none⟩) i eA, .slice yB mB eB, .slice yM mM eM, .slice (some ⟨sp, 0, none⟩) i eP]) (w.heap.size + 1) ⟨some ⟨gA, 0, none⟩, i, eA, yB, mB, eB, yM, mM, eM, some ⟨sp, 0, none⟩, i, eP⟩) := box_set hg8 ⟨some ⟨gA, 0, none⟩, i, eA, yB, mB, eB, yM, mM, eM, some ⟨sp, 0, none⟩, i, eP⟩
          clear XB YB BB GB NB8 GR
          go_wp2_with (refine store_books rfl _ _ rfl (w.heap.size + 1) ⟨some ⟨gA, 0, none⟩, i, eA, yB, mB, eB, yM, mM, eM, some ⟨sp, 0, none⟩, i, eP⟩ rfl rfl _ hg8 rfl ?_)
          generalize w8.setRow (w.heap.size + 1) #[.slice (some ⟨gA, 0, none⟩) i eA, .slice yB mB eB, .slice yM mM eM, .slice (some ⟨sp, 0, none⟩) i eP] = wf at R D ⊢
          obtain ⟨d0, d1, d2, d3⟩ := D.out
          clear hg8 p0 p1 p2 p3
          go_wp2
          exact bodyPost_ret (v := .tuple #[BA.val ⟨some ⟨gA, 0, none⟩, i, eA, yB, mB, eB, yM, mM, eM, some ⟨sp, 0, none⟩, i, eP⟩, .int .i64 0]) (by simp [results, Try.results24, d0, d1, d2, d3, go_sem]) rfl (HE.out.2 _ _ R.out)

theorem refPost_any (x : BA) (b : Bks) (a : Option Addr) (n c : Nat) (L : List P7) (w : World) (hk : Bk w x b) (gd : Good b) (h : PGood w a n c L) :
    Calls Try.prog 24 #[x.val, .slice a n c] w (RefPostEnd w b L) :=
  (refPost_new x b a n c L w hk gd h).mono fun _ _ ⟨y, h1, h2, _, h3⟩ => ⟨y, h1, h2, h3⟩

end Go.Proofs.Ytlackjldopeigaa
