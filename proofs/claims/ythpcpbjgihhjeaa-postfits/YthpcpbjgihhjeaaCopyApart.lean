/-
  lim.Copy and giroref10.Copy: books in new memory, the positions apart from all else.
-/
import Derived.Test.YthpcpbjgihhjeaaLimTwo
import Derived.Test.YthpcpbjgihhjeaaLimSome
import Derived.Test.YthpcpbjgihhjeaaRowBase
namespace Go.Proofs.Ythpcpbjgihhjeaa
open Go.RowKit
set_option linter.unusedVariables false
set_option linter.unusedSimpArgs false

/-- A slice's block is below S. -/
def Low (S : Nat) (v : Value) : Prop := ∀ g, v.ownBlock = some g → g < S
theorem Low.own {w : World} {B s n : Nat} {T : TypeId} {v : Value} {xs : List Value} (h : w.ownsRow B T s v n xs) : Low w.heap.size v := fun g hg => (h.lt g hg).2
/-- Books that lie in blocks from B on, made by the call; the positions from S on, all else below S. -/
structure NewBkA (w : World) (B S : Nat) (x : BA) (b : Bks) : Prop where
  acc : w.ownsRow B 39 3 (.slice x.aA x.nA x.cA) b.A.length (accL b.A)
  bil : ∃ vs, MadeI w B (.slice x.aB x.nB x.cB) vs b.B ∧ Low S (.slice x.aB x.nB x.cB) ∧ ∀ i, i < b.B.length → Low S (vs.getD i undef)
  mul : w.ownsRow B 2 1 (.slice x.aM x.nM x.cM) b.M.length (b.M.map (Value.int .i64))
  pos : ∃ vs, MadeI w S (.slice x.aP x.nP x.cP) vs b.P
  lowA : Low S (.slice x.aA x.nA x.cA)
  lowM : Low S (.slice x.aM x.nM x.cM)
  up : B ≤ S
  wf : W64 b.M
theorem NewBkA.new {w : World} {B S : Nat} {x : BA} {b : Bks} (h : NewBkA w B S x b) : NewBk w B x b :=
  ⟨h.acc, h.bil.imp fun _ h => h.1, h.mul, h.pos.imp fun _ k => k.base h.up, h.wf⟩
theorem NewBkA.below {w w' : World} {B S : Nat} {x : BA} {b : Bks} (h : NewBkA w B S x b) (k : Below w.heap.size w w') : NewBkA w' B S x b :=
  ⟨own_below h.acc k, h.bil.imp fun _ h => ⟨h.1.below k, h.2⟩, own_below h.mul k, h.pos.imp fun _ h => h.below k, h.lowA, h.lowM, h.up, h.wf⟩
theorem NewBkA.kept {w w' : World} {B S : Nat} {x : BA} {b : Bks} (h : NewBkA w B S x b) (k : Kept (fun n => B ≤ n) w w') : NewBkA w' B S x b :=
  ⟨own_kept h.acc k, h.bil.imp fun _ h => ⟨h.1.kept k, h.2⟩, own_kept h.mul k, h.pos.imp fun _ p => p.kept (fun i hi => k i (Nat.le_trans h.up hi)), h.lowA, h.lowM, h.up, h.wf⟩
theorem NewBkA.base {w : World} {B B' S : Nat} {x : BA} {b : Bks} (h : NewBkA w B S x b) (k : B' ≤ B) : NewBkA w B' S x b :=
  ⟨own_base h.acc k, h.bil.imp fun _ h => ⟨h.1.base k, h.2⟩, own_base h.mul k, h.pos, h.lowA, h.lowM, Nat.le_trans k h.up, h.wf⟩
/-- What a copy of books leaves. -/
def BooksEndA (w : World) (b : Bks) (e : Ending) (w' : World) : Prop := ∃ (y : BA) (S : Nat), e = .returned y.val ∧ NewBkA w' w.heap.size S y b ∧ Below w.heap.size w w'
theorem BooksEndA.low {w : World} {b : Bks} {e : Ending} {w' : World} (h : BooksEndA w b e w') : BooksEnd w b e w' := by
  obtain ⟨y, S, h1, h2, h3⟩ := h
  exact ⟨y, h1, h2.new, h3⟩

/-- Three slices, and the positions behind them, are books. -/
theorem books_apart {w w4 : World} {B nA nM : Nat} {b : Bks} {v0 v1 v2 v3 : Value} {vs : List Value} (wf : W64 b.M) (lA : nA = b.A.length) (lM : nM = b.M.length) (h0 : (Fact.ownR B 39 3 nA (accL b.A)).1 w v0) (h1 : (Fact.rows64 B b.B).1 w v1) (h2 : (Fact.ownR B 2 1 nM (b.M.map (Value.int .i64))).1 w v2)
    (hB : B ≤ w.heap.size) (h3 : MadeI w4 w.heap.size v3 vs b.P) (hb : Below w.heap.size w w4) :
    ∃ x : BA, v0 = .slice x.aA x.nA x.cA ∧ v1 = .slice x.aB x.nB x.cB ∧ v2 = .slice x.aM x.nM x.cM ∧ v3 = .slice x.aP x.nP x.cP ∧ NewBkA w4 B w.heap.size x b := by
  subst lA lM
  obtain ⟨vb, h1⟩ := h1
  obtain ⟨aA, cA, rfl⟩ := own_slice h0
  obtain ⟨aB, cB, rfl⟩ := own_slice h1.own
  obtain ⟨aM, cM, rfl⟩ := own_slice h2
  obtain ⟨aP, cP, rfl⟩ := own_slice h3.own
  exact ⟨⟨aA, _, cA, aB, _, cB, aM, _, cM, aP, _, cP⟩, rfl, rfl, rfl, rfl, ⟨own_below h0 hb, ⟨vb, h1.below hb, Low.own h1.own, fun i hi => Low.own (h1.row i hi)⟩, own_below h2 hb, ⟨vs, h3⟩, Low.own h0, Low.own h2, hB, wf⟩⟩

/-- A call among the last ones; an operation that only reads. -/
theorem wp_call {P : Program} {o : Oper} {a : Act} {w : World} {K : Act → World → Prop} {Q : Exit → Act → World → Prop} (f : FuncId) {fn : Func} (hfn : P.funcs[f]? = some fn) (hname : (fn.name == "runtime.NumGoroutine") = false) (hbody : fn.body.isNone = false) (xs : List Operand) (ts : Array TypeId) (ho : o.op = .call { callee := .value (.func f), args := xs.toArray, argTypes := ts })
    (h : Calls P f (xs.map a.eval).toArray w fun e w' => ∃ v, e = .returned v ∧ K (a.put o.dst v) w') : o.wp P a w K Q := by
  unfold Oper.wp
  have hr : (execOp a.eval o).run P w = (.ok (.enter f (xs.map a.eval).toArray) w) := by
    unfold execOp
    rw [ho]
    simp [resolve, invoke, Act.eval, Deferred.ofValue, run_enter hfn hname hbody]
  rw [hr]
  refine h.mono ?_
  rintro e w' ⟨v, rfl, hk⟩
  exact hk
theorem wp_value {P : Program} {o : Oper} {a : Act} {w : World} {K : Act → World → Prop} {Q : Exit → Act → World → Prop} (v : Value) (hr : (execOp a.eval o).run P w = .ok (.value v) w) (h : K (a.put o.dst v) w) : o.wp P a w K Q := by
  unfold Oper.wp
  rw [hr]
  exact h
set_option maxHeartbeats 4000000 in
set_option maxRecDepth 100000 in
theorem limCopyA_any (x : BA) (b : Bks) (w : World) (h : Bk w x b) (hs : Small b) : Calls Try.prog 25 #[x.val] w (BooksEndA w b) := by
  obtain ⟨aA, nA, cA, aB, nB, cB, aM, nM, cM, aP, nP, cP⟩ := x
  obtain ⟨w2, hw2⟩ : ∃ w2, w2 = (w.alloc (.cells #[.slice aA nA cA, .slice aB nB cB, .slice aM nM cM, .slice aP nP cP] 26)).alloc (.cells #[.slice none 0 0, .slice none 0 0, .slice none 0 0, .slice none 0 0] 26) := ⟨_, rfl⟩
  have B2 : Hid (Below w.heap.size w w2) := by rw [hw2]; exact (box_below _ _).alloc (box_below _ _).size _
  have X2 : Hid (Box4 w2 w.heap.size ⟨aA, nA, cA, aB, nB, cB, aM, nM, cM, aP, nP, cP⟩) := by rw [hw2]; exact (Box4.new w ⟨aA, nA, cA, aB, nB, cB, aM, nM, cM, aP, nP, cP⟩ _ _).below (box_below _ _)
  have G2 : Hid (w2.heap[w.heap.size + 1]? = some (.cells #[.slice none 0 0, .slice none 0 0, .slice none 0 0, .slice none 0 0] 26 (0, 0)) ∧ w2.heap.size = w.heap.size + 2) := by
    have := heap_alloc_new (w.alloc (.cells #[.slice aA nA cA, .slice aB nB cB, .slice aM nM cM, .slice aP nP cP] 26)) (.cells #[.slice none 0 0, .slice none 0 0, .slice none 0 0, .slice none 0 0] 26)
    rw [size_alloc] at this
    rw [hw2]
    exact ⟨this, by rw [size_alloc, size_alloc]⟩
  have HX : Hid (Bk w2 ⟨aA, nA, cA, aB, nB, cB, aM, nM, cM, aP, nP, cP⟩ b) := h.below B2.out
  have HM : Hid (W64 b.M) := h.mul.2.1
  have lA : nA = b.A.length := h.acc.1
  have lB : nB = b.B.length := h.bil.1
  have lM : nM = b.M.length := h.mul.1
  have lP : nP = b.P.length := h.pos.1
  have CA : Hid (∀ u, Below w2.heap.size w2 u → Calls Try.prog 38 #[.slice aA nA cA] u (AccsEnd u b.A)) := fun u hu => copyAccs_any aA nA cA b.A u (HX.out.acc.below hu) (by rw [lA]; exact hs.A)
  have CM : Hid (∀ u, Below w2.heap.size w2 u → Calls Try.prog 40 #[.slice aM nM cM] u (RowEnd u b.M)) := fun u hu => copyList_any aM nM cM b.M u (HX.out.mul.below hu) (by rw [lM]; exact hs.M)
  have CB : Hid (∀ u, Below w2.heap.size w2 u → Calls Try.prog 39 #[.slice aB nB cB] u (RowsEnd u b.B)) := fun u hu => copyRows_any aB nB cB b.B u (HX.out.bil.below hu) (by rw [lB]; exact hs.B) hs.rB
  have CP : Hid (∀ u, Below w2.heap.size w2 u → Calls Try.prog 39 #[.slice aP nP cP] u (RowsEnd u b.P)) := fun u hu => copyRows_any aP nP cP b.P u (HX.out.pos.below hu) (by rw [lP]; exact hs.P) hs.rP
  clear h hs lA lB lM lP
  go_enter Try.func25, Try.ntmps25
  go_wp2
  rw [← hw2]
  clear hw2
  refine region_owes_tail 11 (L := [Fact.is (.pointer (some ⟨w.heap.size, 0, none⟩)),
    Fact.is (.slice aA nA cA),
    Fact.ownR w2.heap.size 39 3 b.A.length (accL b.A),
    Fact.is (.pointer (some ⟨w.heap.size, 1, none⟩)),
    Fact.is (.slice aB nB cB),
    Fact.rows64 w2.heap.size b.B,
    Fact.is (.pointer (some ⟨w.heap.size, 2, none⟩)),
    Fact.is (.slice aM nM cM),
    Fact.ownR w2.heap.size 2 1 b.M.length (b.M.map (Value.int .i64)),
    Fact.is (.pointer (some ⟨w.heap.size, 3, none⟩)),
    Fact.is (.slice aP nP cP)])
    (T := [3, 4, 5, 6, 7, 8, 9, 10, 11, 12, 13]) (by kernel_rfl) rfl (Nat.le_of_ble_eq_true rfl) (by kernel_rfl) (by kernel_rfl) (by kernel_rfl) rfl ?owes ?_
  case owes =>
    simp only [List.take_succ_cons, List.take_zero]
    refine .cons (owes_value fun q u lh => ⟨wants_free rfl, .pointer (some ⟨w.heap.size, 0, none⟩), by have e1 : q.tmps.getD 1 undef = .pointer (some ⟨w.heap.size, 0, none⟩) := lh.old 1 rfl; simp [execOp, Act.eval, e1, go_sem], rfl⟩) ?_
    refine .cons (owes_value fun q u lh => ⟨wants_free rfl, .slice aA nA cA, by have e3 : q.tmps.getD 3 undef = .pointer (some ⟨w.heap.size, 0, none⟩) := lh.dep 0 rfl; obtain ⟨p0, p1, p2, p3⟩ := X2.out.below lh.below; simp [execOp, Act.eval, e3, p0, go_sem], rfl⟩) ?_
    refine .cons (owes_call 38 Try.func38 (by kernel_rfl) (by kernel_rfl) [.tmp 4] #[22] rfl fun q u lh => ⟨wants_free rfl, by have e4 : q.tmps.getD 4 undef = .slice aA nA cA := lh.dep 1 rfl; show Calls Try.prog 38 #[q.tmps.getD 4 undef] u _; rw [e4]; exact accs_fact lh.below.size (CA.out u lh.below)⟩) ?_
    refine .cons (owes_value fun q u lh => ⟨wants_free rfl, .pointer (some ⟨w.heap.size, 1, none⟩), by have e1 : q.tmps.getD 1 undef = .pointer (some ⟨w.heap.size, 0, none⟩) := lh.old 1 rfl; simp [execOp, Act.eval, e1, go_sem], rfl⟩) ?_
    refine .cons (owes_value fun q u lh => ⟨wants_free rfl, .slice aB nB cB, by have e6 : q.tmps.getD 6 undef = .pointer (some ⟨w.heap.size, 1, none⟩) := lh.dep 3 rfl; obtain ⟨p0, p1, p2, p3⟩ := X2.out.below lh.below; simp [execOp, Act.eval, e6, p1, go_sem], rfl⟩) ?_
    refine .cons (owes_call 39 Try.func39 (by kernel_rfl) (by kernel_rfl) [.tmp 7] #[23] rfl fun q u lh => ⟨wants_free rfl, by have e7 : q.tmps.getD 7 undef = .slice aB nB cB := lh.dep 4 rfl; show Calls Try.prog 39 #[q.tmps.getD 7 undef] u _; rw [e7]; exact rows_fact lh.below.size (CB.out u lh.below)⟩) ?_
    refine .cons (owes_value fun q u lh => ⟨wants_free rfl, .pointer (some ⟨w.heap.size, 2, none⟩), by have e1 : q.tmps.getD 1 undef = .pointer (some ⟨w.heap.size, 0, none⟩) := lh.old 1 rfl; simp [execOp, Act.eval, e1, go_sem], rfl⟩) ?_
    refine .cons (owes_value fun q u lh => ⟨wants_free rfl, .slice aM nM cM, by have e9 : q.tmps.getD 9 undef = .pointer (some ⟨w.heap.size, 2, none⟩) := lh.dep 6 rfl; obtain ⟨p0, p1, p2, p3⟩ := X2.out.below lh.below; simp [execOp, Act.eval, e9, p2, go_sem], rfl⟩) ?_
    refine .cons (owes_call 40 Try.func40 (by kernel_rfl) (by kernel_rfl) [.tmp 10] #[24] rfl fun q u lh => ⟨wants_free rfl, by have e10 : q.tmps.getD 10 undef = .slice aM nM cM := lh.dep 7 rfl; show Calls Try.prog 40 #[q.tmps.getD 10 undef] u _; rw [e10]; exact row_fact lh.below.size (CM.out u lh.below)⟩) ?_
    refine .cons (owes_value fun q u lh => ⟨wants_free rfl, .pointer (some ⟨w.heap.size, 3, none⟩), by have e1 : q.tmps.getD 1 undef = .pointer (some ⟨w.heap.size, 0, none⟩) := lh.old 1 rfl; simp [execOp, Act.eval, e1, go_sem], rfl⟩) ?_
    refine .cons (owes_value fun q u lh => ⟨wants_free rfl, .slice aP nP cP, by have e12 : q.tmps.getD 12 undef = .pointer (some ⟨w.heap.size, 3, none⟩) := lh.dep 9 rfl; obtain ⟨p0, p1, p2, p3⟩ := X2.out.below lh.below; simp [execOp, Act.eval, e12, p3, go_sem], rfl⟩) ?_
    exact .nil _
  intro q u hb hsz hdf hold hfact
  obtain ⟨v5, e5⟩ : ∃ v, q.tmps.getD 5 undef = v := ⟨_, rfl⟩
  have f5 : (Fact.ownR w2.heap.size 39 3 b.A.length (accL b.A)).1 u v5 := by rw [← e5]; exact hfact 2 (by decide)
  obtain ⟨v8, e8⟩ : ∃ v, q.tmps.getD 8 undef = v := ⟨_, rfl⟩
  have f8 : (Fact.rows64 w2.heap.size b.B).1 u v8 := by rw [← e8]; exact hfact 5 (by decide)
  obtain ⟨v11, e11⟩ : ∃ v, q.tmps.getD 11 undef = v := ⟨_, rfl⟩
  have f11 : (Fact.ownR w2.heap.size 2 1 b.M.length (b.M.map (Value.int .i64))).1 u v11 := by rw [← e11]; exact hfact 8 (by decide)
  have ep : q.tmps.getD 13 undef = .slice aP nP cP := hfact 10 (by decide)
  simp only [List.drop_succ_cons, List.drop_zero, TailWp]
  refine wp_call 39 Try.func39 (by kernel_rfl) (by kernel_rfl) [.tmp 13] #[23] rfl ?_
  show Calls Try.prog 39 #[q.tmps.getD 13 undef] u _
  rw [ep]
  refine (CP.out u hb).mono ?_
  rintro e w4 ⟨v14, vs, rfl, hm, hb4⟩
  refine ⟨v14, rfl, ?_⟩
  obtain ⟨⟨yA, mA, eA, yB, mB, eB, yM, mM, eM, yP, mP, eP⟩, h5, h8, h11, h14, hn⟩ := books_apart HM.out rfl rfl f5 f8 f11 hb.size hm hb4
  subst h5
  subst h8
  subst h11
  subst h14
  obtain rfl := frame_puts hsz hdf [3, 4, 5, 6, 7, 8, 9, 10, 11, 12, 13] hold [(3, Value.pointer (some ⟨w.heap.size, 0, none⟩)), (4, Value.slice aA nA cA), (5, Value.slice yA mA eA), (6, Value.pointer (some ⟨w.heap.size, 1, none⟩)), (7, Value.slice aB nB cB), (8, Value.slice yB mB eB), (9, Value.pointer (some ⟨w.heap.size, 2, none⟩)), (10, Value.slice aM nM cM), (11, Value.slice yM mM eM), (12, Value.pointer (some ⟨w.heap.size, 3, none⟩)), (13, Value.slice aP nP cP)] ⟨hfact 0 (by decide), hfact 1 (by decide), e5, hfact 3 (by decide), hfact 4 (by decide), e8, hfact 6 (by decide), hfact 7 (by decide), e11, hfact 9 (by decide), hfact 10 (by decide), trivial⟩ rfl
  clear hsz hdf hold hfact
  have B4 : Hid (Below w2.heap.size w2 w4) := hb.trans (hb4.mono hb.size)
  have hg : w4.heap[w.heap.size + 1]? = some (.cells #[.slice none 0 0, .slice none 0 0, .slice none 0 0, .slice none 0 0] 26 (0, 0)) := (B4.out.block _ (by rw [G2.out.2]; omega)).trans G2.out.1
  have R : Hid (BooksEndA w b (.returned (BA.val ⟨yA, mA, eA, yB, mB, eB, yM, mM, eM, yP, mP, eP⟩)) (w4.setRow (w.heap.size + 1) #[.slice yA mA eA, .slice yB mB eB, .slice yM mM eM, .slice yP mP eP])) := by
    refine ⟨_, _, rfl, (hn.kept ?_).base B2.out.size, below_setRow (B2.out.trans (B4.out.mono B2.out.size)) (by omega) _⟩
    intro k hk
    have hk : w2.heap.size ≤ k := hk
    rw [G2.out.2] at hk
    exact setRow_other w4 (w.heap.size + 1) k _ (by omega)
  have D : Hid (Box4 (w4.setRow (w.heap.size + 1) #[.slice yA mA eA, .slice yB mB eB, .slice yM mM eM, .slice yP mP eP]) (w.heap.size + 1) ⟨yA, mA, eA, yB, mB, eB, yM, mM, eM, yP, mP, eP⟩) := by
    have hr := setRow_heap w4 (w.heap.size + 1) _ #[.slice yA mA eA, .slice yB mB eB, .slice yM mM eM, .slice yP mP eP] _ _ hg
    refine ⟨?_, ?_, ?_, ?_⟩ <;> (rw [cell_of_row _ _ _ _ _ _ hr]; rfl)
  simp only [puts, Act.put, List.setIfInBounds_toArray, List.set_cons_zero, List.set_cons_succ]
  refine wp_value (BA.val ⟨yA, mA, eA, yB, mB, eB, yM, mM, eM, yP, mP, eP⟩) (by simp [execOp, Act.eval, go_sem]) ?_
  simp only [Act.put, List.setIfInBounds_toArray, List.set_cons_zero, List.set_cons_succ]
  refine wp_store_row 26 (.tmp 2) (.tmp 15) rfl (w.heap.size + 1) #[.slice yA mA eA, .slice yB mB eB, .slice yM mM eM, .slice yP mP eP] rfl rfl _ _ hg booksSize (by simp) (by simp [Value.oneCell']) ?_
  generalize w4.setRow (w.heap.size + 1) #[.slice yA mA eA, .slice yB mB eB, .slice yM mM eM, .slice yP mP eP] = w5 at R D ⊢
  obtain ⟨d0, d1, d2, d3⟩ := D.out
  clear hg hn hb hb4 hm G2 X2 B2
  go_wp2
  exact bodyPost_ret (v := BA.val ⟨yA, mA, eA, yB, mB, eB, yM, mM, eM, yP, mP, eP⟩) (by simp [results, Try.results25, d0, d1, d2, d3, go_sem]) rfl R.out
set_option maxHeartbeats 4000000 in
set_option maxRecDepth 100000 in
theorem refCopyA_any (x : BA) (b : Bks) (w : World) (h : Bk w x b) (hs : Small b) : Calls Try.prog 10 #[x.val] w (BooksEndA w b) := by
  obtain ⟨aA, nA, cA, aB, nB, cB, aM, nM, cM, aP, nP, cP⟩ := x
  obtain ⟨w2, hw2⟩ : ∃ w2, w2 = (w.alloc (.cells #[.slice aA nA cA, .slice aB nB cB, .slice aM nM cM, .slice aP nP cP] 26)).alloc (.cells #[.slice none 0 0, .slice none 0 0, .slice none 0 0, .slice none 0 0] 26) := ⟨_, rfl⟩
  have B2 : Hid (Below w.heap.size w w2) := by rw [hw2]; exact (box_below _ _).alloc (box_below _ _).size _
  have X2 : Hid (Box4 w2 w.heap.size ⟨aA, nA, cA, aB, nB, cB, aM, nM, cM, aP, nP, cP⟩) := by rw [hw2]; exact (Box4.new w ⟨aA, nA, cA, aB, nB, cB, aM, nM, cM, aP, nP, cP⟩ _ _).below (box_below _ _)
  have G2 : Hid (w2.heap[w.heap.size + 1]? = some (.cells #[.slice none 0 0, .slice none 0 0, .slice none 0 0, .slice none 0 0] 26 (0, 0)) ∧ w2.heap.size = w.heap.size + 2) := by
    have := heap_alloc_new (w.alloc (.cells #[.slice aA nA cA, .slice aB nB cB, .slice aM nM cM, .slice aP nP cP] 26)) (.cells #[.slice none 0 0, .slice none 0 0, .slice none 0 0, .slice none 0 0] 26)
    rw [size_alloc] at this
    rw [hw2]
    exact ⟨this, by rw [size_alloc, size_alloc]⟩
  have HX : Hid (Bk w2 ⟨aA, nA, cA, aB, nB, cB, aM, nM, cM, aP, nP, cP⟩ b) := h.below B2.out
  have HM : Hid (W64 b.M) := h.mul.2.1
  have lA : nA = b.A.length := h.acc.1
  have lB : nB = b.B.length := h.bil.1
  have lM : nM = b.M.length := h.mul.1
  have lP : nP = b.P.length := h.pos.1
  obtain ⟨i0, hi, hz0, hz1, hz2⟩ := info_parts infoI64
  obtain ⟨k0, hk, hx0, hx1, hx2⟩ := info_parts infoAcct
  have hnA : nA ≤ 1000000 := by rw [lA]; exact hs.A
  have hnM : nM ≤ 1000000 := by rw [lM]; exact hs.M
  have HLA : Hid (nA = b.A.length) := lA
  have HLM : Hid (nM = b.M.length) := lM
  have HA : Hid ((accL b.A).length = nA * 3 ∧ (0 < nA → ∃ x, aA = some x ∧ ∀ j v, (accL b.A)[j]? = some v → w2.cell? (x.add j) = some v) ∧ (aA = none → nA = 0 ∧ cA = 0)) := by
    refine ⟨by rw [accL_length, lA], fun h0 => HX.out.acc.src h0, fun hn => ⟨?_, HX.out.oA hn⟩⟩
    rcases Nat.eq_zero_or_pos nA with h0 | h0
    · exact h0
    · obtain ⟨x, hx, _⟩ := HX.out.acc.src h0
      rw [show aA = some x from hx] at hn
      simp at hn
  have HMM : Hid ((b.M.map (Value.int .i64)).length = nM * 1 ∧ (0 < nM → ∃ x, aM = some x ∧ ∀ j v, (b.M.map (Value.int .i64))[j]? = some v → w2.cell? (x.add j) = some v) ∧ (aM = none → nM = 0 ∧ cM = 0)) := by
    have key : 0 < nM → ∃ x, aM = some x ∧ ∀ j v, (b.M.map (Value.int .i64))[j]? = some v → w2.cell? (x.add j) = some v := fun h0 => HX.out.mul.src (by rw [List.length_map, ← lM]; exact h0)
    refine ⟨by rw [List.length_map, lM, Nat.mul_one], key, fun hn => ⟨?_, HX.out.oM hn⟩⟩
    rcases Nat.eq_zero_or_pos nM with h0 | h0
    · exact h0
    · obtain ⟨x, hx, _⟩ := key h0
      rw [hx] at hn
      simp at hn
  have CB : Hid (∀ u, Below w2.heap.size w2 u → Calls Try.prog 23 #[.slice aB nB cB] u (RowsEnd u b.B)) := fun u hu => refCopyRows_any aB nB cB b.B u (HX.out.bil.below hu) (by rw [lB]; exact hs.B) hs.rB
  have CP : Hid (∀ u, Below w2.heap.size w2 u → Calls Try.prog 23 #[.slice aP nP cP] u (RowsEnd u b.P)) := fun u hu => refCopyRows_any aP nP cP b.P u (HX.out.pos.below hu) (by rw [lP]; exact hs.P) hs.rP
  clear h hs lA lB lM lP
  go_enter Try.func10, Try.ntmps10
  go_wp2
  rw [← hw2]
  clear hw2
  refine region_owes_tail 13 (L := [Fact.lit0 w2.heap.size 39 3,
    Fact.is (.pointer (some ⟨w.heap.size, 0, none⟩)),
    Fact.is (.slice aA nA cA),
    Fact.ownR w2.heap.size 39 3 nA (accL b.A),
    Fact.is (.pointer (some ⟨w.heap.size, 1, none⟩)),
    Fact.is (.slice aB nB cB),
    Fact.rows64 w2.heap.size b.B,
    Fact.lit0 w2.heap.size 2 1,
    Fact.is (.pointer (some ⟨w.heap.size, 2, none⟩)),
    Fact.is (.slice aM nM cM),
    Fact.ownR w2.heap.size 2 1 nM (b.M.map (Value.int .i64)),
    Fact.is (.pointer (some ⟨w.heap.size, 3, none⟩)),
    Fact.is (.slice aP nP cP)])
    (T := [3, 4, 5, 6, 7, 8, 9, 10, 11, 12, 13, 14, 15]) (by kernel_rfl) rfl (Nat.le_of_ble_eq_true rfl) (by kernel_rfl) (by kernel_rfl) (by kernel_rfl) rfl ?owes ?_
  case owes =>
    simp only [List.take_succ_cons, List.take_zero]
    refine .cons (owes_make fun q u lh => ⟨wants_free rfl, .slice (some ⟨u.heap.size, 0, none⟩) 0 0, u.alloc (.cells #[] 39), by simp [execOp, Act.eval, go_sem], box_below _ _, ⟨u.heap.size, rfl, own_lit3 lh.below.size⟩⟩) ?_
    refine .cons (owes_value fun q u lh => ⟨wants_free rfl, .pointer (some ⟨w.heap.size, 0, none⟩), by have e1 : q.tmps.getD 1 undef = .pointer (some ⟨w.heap.size, 0, none⟩) := lh.old 1 rfl; simp [execOp, Act.eval, e1, go_sem], rfl⟩) ?_
    refine .cons (owes_value fun q u lh => ⟨wants_free rfl, .slice aA nA cA, by have e4 : q.tmps.getD 4 undef = .pointer (some ⟨w.heap.size, 0, none⟩) := lh.dep 1 rfl; obtain ⟨p0, p1, p2, p3⟩ := X2.out.below lh.below; simp [execOp, Act.eval, e4, p0, go_sem], rfl⟩) ?_
    refine .cons (owes_append_new 22 39 w2.heap.size 3 5 0 2 nA cA 3 k0 _ 24 (accL b.A) aA rfl rfl rfl rfl rfl rfl rfl rfl HA.out.1 HA.out.2.1 HA.out.2.2 (Nat.le_refl _) Try.underlying22 hk hx0 hx1 hx2 rfl (by decide) (by unfold maxLen; omega) (by omega) fun q u lh => wants_free rfl) ?_
    refine .cons (owes_value fun q u lh => ⟨wants_free rfl, .pointer (some ⟨w.heap.size, 1, none⟩), by have e1 : q.tmps.getD 1 undef = .pointer (some ⟨w.heap.size, 0, none⟩) := lh.old 1 rfl; simp [execOp, Act.eval, e1, go_sem], rfl⟩) ?_
    refine .cons (owes_value fun q u lh => ⟨wants_free rfl, .slice aB nB cB, by have e7 : q.tmps.getD 7 undef = .pointer (some ⟨w.heap.size, 1, none⟩) := lh.dep 4 rfl; obtain ⟨p0, p1, p2, p3⟩ := X2.out.below lh.below; simp [execOp, Act.eval, e7, p1, go_sem], rfl⟩) ?_
    refine .cons (owes_call 23 Try.func23 (by kernel_rfl) (by kernel_rfl) [.tmp 8] #[23] rfl fun q u lh => ⟨wants_free rfl, by have e8 : q.tmps.getD 8 undef = .slice aB nB cB := lh.dep 5 rfl; show Calls Try.prog 23 #[q.tmps.getD 8 undef] u _; rw [e8]; exact rows_fact lh.below.size (CB.out u lh.below)⟩) ?_
    refine .cons (owes_make fun q u lh => ⟨wants_free rfl, .slice (some ⟨u.heap.size, 0, none⟩) 0 0, u.alloc (.cells #[] 2), by simp [execOp, Act.eval, go_sem], box_below _ _, ⟨u.heap.size, rfl, World.ownsRow_lit u #[] 0 lh.below.size (by decide) rfl⟩⟩) ?_
    refine .cons (owes_value fun q u lh => ⟨wants_free rfl, .pointer (some ⟨w.heap.size, 2, none⟩), by have e1 : q.tmps.getD 1 undef = .pointer (some ⟨w.heap.size, 0, none⟩) := lh.old 1 rfl; simp [execOp, Act.eval, e1, go_sem], rfl⟩) ?_
    refine .cons (owes_value fun q u lh => ⟨wants_free rfl, .slice aM nM cM, by have e11 : q.tmps.getD 11 undef = .pointer (some ⟨w.heap.size, 2, none⟩) := lh.dep 8 rfl; obtain ⟨p0, p1, p2, p3⟩ := X2.out.below lh.below; simp [execOp, Act.eval, e11, p2, go_sem], rfl⟩) ?_
    refine .cons (owes_append_new 24 2 w2.heap.size 10 12 7 9 nM cM 1 i0 _ 8 (b.M.map (Value.int .i64)) aM rfl rfl rfl rfl rfl rfl rfl rfl HMM.out.1 HMM.out.2.1 HMM.out.2.2 (Nat.le_refl _) Try.underlying24 hi hz0 hz1 hz2 rfl (by decide) (by unfold maxLen; omega) (by omega) fun q u lh => wants_free rfl) ?_
    refine .cons (owes_value fun q u lh => ⟨wants_free rfl, .pointer (some ⟨w.heap.size, 3, none⟩), by have e1 : q.tmps.getD 1 undef = .pointer (some ⟨w.heap.size, 0, none⟩) := lh.old 1 rfl; simp [execOp, Act.eval, e1, go_sem], rfl⟩) ?_
    refine .cons (owes_value fun q u lh => ⟨wants_free rfl, .slice aP nP cP, by have e14 : q.tmps.getD 14 undef = .pointer (some ⟨w.heap.size, 3, none⟩) := lh.dep 11 rfl; obtain ⟨p0, p1, p2, p3⟩ := X2.out.below lh.below; simp [execOp, Act.eval, e14, p3, go_sem], rfl⟩) ?_
    exact .nil _
  intro q u hb hsz hdf hold hfact
  obtain ⟨v3, e3⟩ : ∃ v, q.tmps.getD 3 undef = v := ⟨_, rfl⟩
  have f3 : (Fact.lit0 w2.heap.size 39 3).1 u v3 := by rw [← e3]; exact hfact 0 (by decide)
  obtain ⟨v6, e6⟩ : ∃ v, q.tmps.getD 6 undef = v := ⟨_, rfl⟩
  have f6 : (Fact.ownR w2.heap.size 39 3 nA (accL b.A)).1 u v6 := by rw [← e6]; exact hfact 3 (by decide)
  obtain ⟨v9, e9⟩ : ∃ v, q.tmps.getD 9 undef = v := ⟨_, rfl⟩
  have f9 : (Fact.rows64 w2.heap.size b.B).1 u v9 := by rw [← e9]; exact hfact 6 (by decide)
  obtain ⟨v10, e10⟩ : ∃ v, q.tmps.getD 10 undef = v := ⟨_, rfl⟩
  have f10 : (Fact.lit0 w2.heap.size 2 1).1 u v10 := by rw [← e10]; exact hfact 7 (by decide)
  obtain ⟨v13, e13⟩ : ∃ v, q.tmps.getD 13 undef = v := ⟨_, rfl⟩
  have f13 : (Fact.ownR w2.heap.size 2 1 nM (b.M.map (Value.int .i64))).1 u v13 := by rw [← e13]; exact hfact 10 (by decide)
  have ep : q.tmps.getD 15 undef = .slice aP nP cP := hfact 12 (by decide)
  simp only [List.drop_succ_cons, List.drop_zero, TailWp]
  refine wp_call 23 Try.func23 (by kernel_rfl) (by kernel_rfl) [.tmp 15] #[23] rfl ?_
  show Calls Try.prog 23 #[q.tmps.getD 15 undef] u _
  rw [ep]
  refine (CP.out u hb).mono ?_
  rintro e w4 ⟨v16, vs, rfl, hm, hb4⟩
  refine ⟨v16, rfl, ?_⟩
  obtain ⟨⟨yA, mA, eA, yB, mB, eB, yM, mM, eM, yP, mP, eP⟩, h5, h8, h11, h14, hn⟩ := books_apart HM.out HLA.out HLM.out f6 f9 f13 hb.size hm hb4
  subst h5
  subst h8
  subst h11
  subst h14
  obtain rfl := frame_puts hsz hdf [3, 4, 5, 6, 7, 8, 9, 10, 11, 12, 13, 14, 15] hold [(3, v3), (4, Value.pointer (some ⟨w.heap.size, 0, none⟩)), (5, Value.slice aA nA cA), (6, Value.slice yA mA eA), (7, Value.pointer (some ⟨w.heap.size, 1, none⟩)), (8, Value.slice aB nB cB), (9, Value.slice yB mB eB), (10, v10), (11, Value.pointer (some ⟨w.heap.size, 2, none⟩)), (12, Value.slice aM nM cM), (13, Value.slice yM mM eM), (14, Value.pointer (some ⟨w.heap.size, 3, none⟩)), (15, Value.slice aP nP cP)] ⟨e3, hfact 1 (by decide), hfact 2 (by decide), e6, hfact 4 (by decide), hfact 5 (by decide), e9, e10, hfact 8 (by decide), hfact 9 (by decide), e13, hfact 11 (by decide), hfact 12 (by decide), trivial⟩ rfl
  clear hsz hdf hold hfact
  have B4 : Hid (Below w2.heap.size w2 w4) := hb.trans (hb4.mono hb.size)
  have hg : w4.heap[w.heap.size + 1]? = some (.cells #[.slice none 0 0, .slice none 0 0, .slice none 0 0, .slice none 0 0] 26 (0, 0)) := (B4.out.block _ (by rw [G2.out.2]; omega)).trans G2.out.1
  have R : Hid (BooksEndA w b (.returned (BA.val ⟨yA, mA, eA, yB, mB, eB, yM, mM, eM, yP, mP, eP⟩)) (w4.setRow (w.heap.size + 1) #[.slice yA mA eA, .slice yB mB eB, .slice yM mM eM, .slice yP mP eP])) := by
    refine ⟨_, _, rfl, (hn.kept ?_).base B2.out.size, below_setRow (B2.out.trans (B4.out.mono B2.out.size)) (by omega) _⟩
    intro k hk
    have hk : w2.heap.size ≤ k := hk
    rw [G2.out.2] at hk
    exact setRow_other w4 (w.heap.size + 1) k _ (by omega)
  have D : Hid (Box4 (w4.setRow (w.heap.size + 1) #[.slice yA mA eA, .slice yB mB eB, .slice yM mM eM, .slice yP mP eP]) (w.heap.size + 1) ⟨yA, mA, eA, yB, mB, eB, yM, mM, eM, yP, mP, eP⟩) := by
    have hr := setRow_heap w4 (w.heap.size + 1) _ #[.slice yA mA eA, .slice yB mB eB, .slice yM mM eM, .slice yP mP eP] _ _ hg
    refine ⟨?_, ?_, ?_, ?_⟩ <;> (rw [cell_of_row _ _ _ _ _ _ hr]; rfl)
  simp only [puts, Act.put, List.setIfInBounds_toArray, List.set_cons_zero, List.set_cons_succ]
  refine wp_value (BA.val ⟨yA, mA, eA, yB, mB, eB, yM, mM, eM, yP, mP, eP⟩) (by simp [execOp, Act.eval, go_sem]) ?_
  simp only [Act.put, List.setIfInBounds_toArray, List.set_cons_zero, List.set_cons_succ]
  refine wp_store_row 26 (.tmp 2) (.tmp 17) rfl (w.heap.size + 1) #[.slice yA mA eA, .slice yB mB eB, .slice yM mM eM, .slice yP mP eP] rfl rfl _ _ hg booksSize (by simp) (by simp [Value.oneCell']) ?_
  generalize w4.setRow (w.heap.size + 1) #[.slice yA mA eA, .slice yB mB eB, .slice yM mM eM, .slice yP mP eP] = w5 at R D ⊢
  obtain ⟨d0, d1, d2, d3⟩ := D.out
  clear hg hn hb hb4 hm G2 X2 B2
  go_wp2
  exact bodyPost_ret (v := BA.val ⟨yA, mA, eA, yB, mB, eB, yM, mM, eM, yP, mP, eP⟩) (by simp [results, Try.results10, d0, d1, d2, d3, go_sem]) rfl R.out

end Go.Proofs.Ythpcpbjgihhjeaa
