/-
  row.Drop.
-/
import Derived.Test.YtjibnbheegcnkaaRowPut
import Derived.Test.YtjibnbheegcnkaaFactsTail
namespace Go.Proofs.Ytjibnbheegcnkaa
open Go.RowKit
set_option linter.unusedVariables false
set_option linter.unusedSimpArgs false

/-- A payment that lies at g by itself. -/
def PBox (w : World) (g : Nat) (p : P7) : Prop := w.heap[g]? = some (.cells #[.int .i64 p.id, .int .i64 p.fr, .int .i64 p.to, .int .i64 p.am, .int .i64 p.cl, .int .i64 p.st, .int .i64 p.ti] 25 (0, 0))
theorem PBox.at7 {w : World} {g : Nat} {p : P7} (h : PBox w g p) : At7 w g 0 p :=
  ⟨cell_of_row w g 0 _ _ _ h, cell_of_row w g 1 _ _ _ h, cell_of_row w g 2 _ _ _ h, cell_of_row w g 3 _ _ _ h, cell_of_row w g 4 _ _ _ h, cell_of_row w g 5 _ _ _ h, cell_of_row w g 6 _ _ _ h⟩
theorem PBox.lt {w : World} {g : Nat} {p : P7} (h : PBox w g p) : g < w.heap.size := block_lt_of_cell h.at7.1
theorem PBox.below {w w' : World} {g : Nat} {p : P7} (h : PBox w g p) (hb : Below w.heap.size w w') : PBox w' g p := by
  unfold PBox; rw [hb.block g h.lt]; exact h
theorem PBox.new (w : World) (p : P7) : PBox (w.alloc (.cells #[.int .i64 p.id, .int .i64 p.fr, .int .i64 p.to, .int .i64 p.am, .int .i64 p.cl, .int .i64 p.st, .int .i64 p.ti] 25)) w.heap.size p := heap_alloc_new w _
theorem PBox.set {w : World} {g : Nat} {p : P7} (h : PBox w g p) (q : P7) : PBox (w.setRow g #[.int .i64 q.id, .int .i64 q.fr, .int .i64 q.to, .int .i64 q.am, .int .i64 q.cl, .int .i64 q.st, .int .i64 q.ti]) g q := setRow_heap w g _ _ _ _ h
theorem PBox.far {w : World} {g k : Nat} {p : P7} (h : PBox w g p) (hk : g ≠ k) (cs : Array Value) : PBox (w.setRow k cs) g p := by unfold PBox; rw [setRow_other _ _ _ _ hk]; exact h

/-- A payment is laid over another one. -/
theorem store_pay {ops : Array Oper} {rest : List Oper} {o : Oper} {a : Act} {w : World} {Q : Exit → Act → World → Prop} (hgd : o.guard = none) (x y : Operand) (ho : o.op = .store 25 x y)
    (g : Nat) (p : P7) (hx : a.eval x = .pointer (some ⟨g, 0, none⟩)) (hy : a.eval y = p.val)
    (p' : P7) (hg : PBox w g p')
    (h : wpList Try.prog ops Q rest (a.put o.dst undef) (w.setRow g #[.int .i64 p.id, .int .i64 p.fr, .int .i64 p.to, .int .i64 p.am, .int .i64 p.cl, .int .i64 p.st, .int .i64 p.ti])) : wpList Try.prog ops Q (o :: rest) a w :=
  wpList_store_row hgd 25 x y ho g _ hx hy _ _ hg sizePay (by simp) (by simp [Value.oneCell']) h

/-- What Drop leaves. -/
def DropEnd7 (w : World) (L : List P7) (p : P7) (n : Int) (e : Ending) (w' : World) : Prop := ∃ a c, e = .returned (.tuple #[.slice a L.length c, p.val, .int .i64 n]) ∧ PGood w' a L.length c L ∧ (∀ x, a = some x → w.heap.size ≤ x.block) ∧ Below w.heap.size w w'

set_option maxHeartbeats 4000000 in
theorem drop_no_any (a : Option Addr) (n c : Nat) (L : List P7) (x : Int) (w : World) (h : PGood w a n c L) (hm : n ≤ 100000) (hh : qHas L x = false) :
    Calls Try.prog 10 #[.slice a n c, .int .i64 x] w (DropEnd7 w (qDrop L x) (qDropP L x) (qDropE L x)) := by
  rw [(drop_no hh).1, (drop_no hh).2.1, (drop_no hh).2.2]
  have F := fun u (hb : Below w.heap.size w u) => find_any a n c x L u (by omega) (h.below hb).pays
  have C := fun u (hb : Below w.heap.size w u) => copyP_any a n c L u (h.below hb) (by omega)
  have r1 := qFind_nn L x
  rw [hh] at r1
  obtain ⟨r, hr⟩ : ∃ r, qFind L x = r := ⟨_, rfl⟩
  rw [hr] at r1
  simp only [hr] at F
  have r2 : ¬ 0 ≤ r := of_decide_eq_false r1
  have r3 : r < 0 := by omega
  obtain ⟨nl, hnl⟩ : ∃ nl, L.length = nl := ⟨_, rfl⟩
  unfold PEnd at C
  simp only [hnl] at C
  unfold DropEnd7
  rw [hnl]
  have B0 : Hid (Below w.heap.size w (w.alloc (.cells #[.int .i64 0, .int .i64 0, .int .i64 0, .int .i64 0, .int .i64 0, .int .i64 0, .int .i64 0] 25))) := box_below _ _
  have X0 : Hid (PBox (w.alloc (.cells #[.int .i64 0, .int .i64 0, .int .i64 0, .int .i64 0, .int .i64 0, .int .i64 0, .int .i64 0] 25)) w.heap.size p70) := PBox.new w p70
  have Z0 : Hid (w.heap.size < (w.alloc (.cells #[.int .i64 0, .int .i64 0, .int .i64 0, .int .i64 0, .int .i64 0, .int .i64 0, .int .i64 0] 25)).heap.size) := by show _ < _; rw [size_alloc]; omega
  have F1 := F _ B0.out
  clear hh r1 r2 hnl h hr F
  go_enter Try.func10, Try.ntmps10
  go_wp2_with fail
  go_at_call 18
  refine F1.mono ?_
  rintro e w1 ⟨rfl, hb⟩
  have B1 : Hid (Below w.heap.size w w1) := B0.out.trans (hb.mono B0.out.size)
  have X1 : Hid (PBox w1 w.heap.size p70) := X0.out.below hb
  have Z1 : Hid (w.heap.size < w1.heap.size) := Nat.lt_of_lt_of_le Z0.out hb.size
  have C1 := C w1 B1.out
  clear hb F1 C B0 X0 Z0
  go_wp2_with fail
  go_at_call 24
  refine C1.mono ?_
  rintro e w2 ⟨a2, c2, rfl, g2, hn2, hb⟩
  have B2 : Hid (Below w.heap.size w w2) := B1.out.trans (hb.mono B1.out.size)
  have X2 : Hid (PBox w2 w.heap.size p70) := X1.out.below hb
  have R : Hid (PGood (w2.setRow w.heap.size #[.int .i64 0, .int .i64 0, .int .i64 0, .int .i64 0, .int .i64 0, .int .i64 0, .int .i64 0]) a2 nl c2 L ∧ (∀ x, a2 = some x → w.heap.size ≤ x.block) ∧ Below w.heap.size w (w2.setRow w.heap.size #[.int .i64 0, .int .i64 0, .int .i64 0, .int .i64 0, .int .i64 0, .int .i64 0, .int .i64 0])) :=
    ⟨g2.far (fun x hx => by have := hn2 x hx; have := Z1.out; omega) _, fun x hx => by have := hn2 x hx; have := Z1.out; omega, Below.setRow B2.out (Nat.le_refl _) _⟩
  have Y : Hid (PBox (w2.setRow w.heap.size #[.int .i64 0, .int .i64 0, .int .i64 0, .int .i64 0, .int .i64 0, .int .i64 0, .int .i64 0]) w.heap.size p70) := X2.out.set p70
  clear hb C1 B1 X1 g2 hn2 Z1
  go_wp2_with (refine store_pay rfl _ _ rfl w.heap.size p70 rfl rfl p70 X2.out ?_)
  simp only [p70] at Y ⊢
  generalize w2.setRow w.heap.size #[.int .i64 0, .int .i64 0, .int .i64 0, .int .i64 0, .int .i64 0, .int .i64 0, .int .i64 0] = w3 at R Y ⊢
  obtain ⟨d0, d1, d2, d3, d4, d5, d6⟩ := Y.out.at7
  go_wp2
  exact bodyPost_ret (v := .tuple #[.slice a2 nl c2, .agg #[.int .i64 0, .int .i64 0, .int .i64 0, .int .i64 0, .int .i64 0, .int .i64 0, .int .i64 0], .int .i64 4]) (by simp [results, Try.results10, d0, d1, d2, d3, d4, d5, d6, go_sem]) rfl ⟨a2, c2, rfl, R.out.1, R.out.2.1, R.out.2.2⟩

set_option maxHeartbeats 4000000 in
set_option maxRecDepth 100000 in
theorem drop_yes_any (a : Option Addr) (n c : Nat) (L : List P7) (x : Int) (w : World) (h : PGood w a n c L) (hm : n ≤ 100000) (hh : qHas L x = true) :
    Calls Try.prog 10 #[.slice a n c, .int .i64 x] w (DropEnd7 w (qDrop L x) (qDropP L x) (qDropE L x)) := by
  rw [(drop_yes hh).1, (drop_yes hh).2.1, (drop_yes hh).2.2]
  have F := fun u (hb : Below w.heap.size w u) => find_any a n c x L u (by omega) (h.below hb).pays
  rw [qFind_yes hh] at F
  have hl := h.len
  have hk := at_lt hh
  obtain ⟨k, hkk⟩ : ∃ k, qAt L x = k := ⟨_, rfl⟩
  rw [hkk] at F hk ⊢
  have hc := h.cap
  have hmx := h.max
  obtain ⟨b, off, rfl, HC⟩ := h.at (i := k) (by omega)
  obtain ⟨p, hp⟩ : ∃ p, L.getD k p70 = p := ⟨_, rfl⟩
  have HX0 := HC k (by omega)
  rw [hp] at HX0 ⊢
  obtain ⟨p0, p1, p2, p3, p4, p5, p6⟩ := p
  have HX : Hid (At7 w b (off + k * 7) (p0, p1, p2, p3, p4, p5, p6)) := HX0
  have k0 : (0 : Int) ≤ (k : Int) := by omega
  have k1 : (k : Int) < (n : Int) := by omega
  have k2 : (k : Int) + 1 ≤ (n : Int) := by omega
  have k3 : (k : Int) + 1 ≤ (c : Int) := by omega
  have k4 : (n : Int) ≤ (c : Int) := by omega
  have k5 : ¬ (k : Int) < 0 := by omega
  have H : Hid (PGood w (some ⟨b, off, none⟩) n c L) := h
  have HKn : Hid (k + 1 ≤ n) := by show k + 1 ≤ n; omega
  have HE : Hid ([L.take k, L.drop (k + 1)].flatten = qRest L k) := by simp [Hid, qRest]
  have HL : Hid ([L.take k, L.drop (k + 1)].flatten.length ≤ 1000000) := by
    show _ ≤ _
    rw [HE.out, qRest_len hk]
    omega
  have B0 : Hid (Below w.heap.size w (w.alloc (.cells #[.int .i64 0, .int .i64 0, .int .i64 0, .int .i64 0, .int .i64 0, .int .i64 0, .int .i64 0] 25))) := box_below _ _
  have X0 : Hid (PBox (w.alloc (.cells #[.int .i64 0, .int .i64 0, .int .i64 0, .int .i64 0, .int .i64 0, .int .i64 0, .int .i64 0] 25)) w.heap.size p70) := PBox.new w p70
  have Z0 : Hid (w.heap.size < (w.alloc (.cells #[.int .i64 0, .int .i64 0, .int .i64 0, .int .i64 0, .int .i64 0, .int .i64 0, .int .i64 0] 25)).heap.size) := by show _ < _; rw [size_alloc]; omega
  have F1 := F _ B0.out
  clear hh h F hkk HC hp HX0 hl hk hc hmx
  go_enter Try.func10, Try.ntmps10
  go_wp2_with fail
  go_at_call 18
  refine F1.mono ?_
  rintro e w1 ⟨rfl, hb⟩
  have B1 : Hid (Below w.heap.size w w1) := B0.out.trans (hb.mono B0.out.size)
  have X1 : Hid (PBox w1 w.heap.size p70) := X0.out.below hb
  have Z1 : Hid (w.heap.size < w1.heap.size) := Nat.lt_of_lt_of_le Z0.out hb.size
  obtain ⟨c0, c1, c2, c3, c4, c5, c6⟩ := HX.out.below B1.out
  simp only [P7.id, P7.fr, P7.to, P7.am, P7.cl, P7.st, P7.ti] at c0 c1 c2 c3 c4 c5 c6
  clear hb F1 B0 X0 Z0
  go_wp2_with fail
  refine region_owes_tail 14 (L := [Fact.is (.slice (some ⟨b, off, none⟩) n c),
    Fact.is (.int .i64 k),
    Fact.is (.slice (some ⟨b, off, none⟩) k c),
    Fact.is (.slice (some ⟨b, off, none⟩) n c),
    Fact.is (.int .i64 k),
    Fact.is (.int .i64 (k + 1)),
    Fact.is (.slice (pcut (some ⟨b, off, none⟩) c (k + 1)) (n - (k + 1)) (c - (k + 1))),
    Fact.spine [L.take k, L.drop (k + 1)],
    Fact.pnew w1.heap.size (qRest L k),
    Fact.is (.slice (some ⟨b, off, none⟩) n c),
    Fact.is (.int .i64 k),
    Fact.is (.pointer (some ⟨b, off + k * 7, none⟩)),
    Fact.is (.agg #[.int .i64 p0, .int .i64 p1, .int .i64 p2, .int .i64 p3, .int .i64 p4, .int .i64 p5, .int .i64 p6]),
    Fact.pnew w1.heap.size (qRest L k)])
    (T := [16, 17, 18, 19, 20, 21, 22, 23, 24, 25, 26, 27, 28, 4]) (by kernel_rfl) rfl (Nat.le_of_ble_eq_true rfl) (by kernel_rfl) (by kernel_rfl) (by kernel_rfl) rfl ?owes ?_
  case owes =>
    simp only [List.take_succ_cons, List.take_zero]
    refine .cons (owes_move (.tmp 0) (.inl rfl) fun q u lh => ⟨wants_free rfl, lh.old 0 rfl⟩) ?_
    refine .cons (owes_move (.tmp 7) (.inl rfl) fun q u lh => ⟨wants_free rfl, lh.old 7 rfl⟩) ?_
    refine .cons (owes_value fun q u lh => ⟨wants_free rfl, .slice (some ⟨b, off, none⟩) k c, by have e16 : q.tmps.getD 16 undef = .slice (some ⟨b, off, none⟩) n c := lh.dep 0 rfl; have e17 : q.tmps.getD 17 undef = .int .i64 k := lh.dep 1 rfl; have z1 : k ≤ c := (by omega); have z2 : ¬ c < k := (by omega); simp [execOp, Act.eval, e16, e17, z1, z2, go_sem], rfl⟩) ?_
    refine .cons (owes_move (.tmp 0) (.inl rfl) fun q u lh => ⟨wants_free rfl, lh.old 0 rfl⟩) ?_
    refine .cons (owes_move (.tmp 7) (.inl rfl) fun q u lh => ⟨wants_free rfl, lh.old 7 rfl⟩) ?_
    refine .cons (owes_value fun q u lh => ⟨wants_free rfl, .int .i64 (k + 1), by have e20 : q.tmps.getD 20 undef = .int .i64 k := lh.dep 4 rfl; have z1 : IntKind.i64.wrap ((k : Int) + 1) = k + 1 := (i64_wf (by omega) (by omega)); simp [execOp, Act.eval, e20, z1, go_sem], rfl⟩) ?_
    refine .cons (owes_value fun q u lh => ⟨wants_free rfl, .slice (pcut (some ⟨b, off, none⟩) c (k + 1)) (n - (k + 1)) (c - (k + 1)), by have e19 : q.tmps.getD 19 undef = .slice (some ⟨b, off, none⟩) n c := lh.dep 3 rfl; have e21 : q.tmps.getD 21 undef = .int .i64 (k + 1) := lh.dep 5 rfl; have z1 : (k : Int) + 1 ≤ n := (by omega); have z2 : ((k : Int) + 1).toNat = k + 1 := (by omega); have z3 : (0 : Int) ≤ (k : Int) + 1 := (by omega); simp [execOp, Act.eval, e19, e21, z1, z2, z3, pcut, go_sem], rfl⟩) ?_
    refine .cons (owes_make fun q u lh => by have e18 : q.tmps[18]?.getD undef = .slice (some ⟨b, off, none⟩) k c := (Array.getD_eq_getD_getElem? ..).symm.trans (lh.dep 2 rfl); have e22 : q.tmps[22]?.getD undef = .slice (pcut (some ⟨b, off, none⟩) c (k + 1)) (n - (k + 1)) (c - (k + 1)) := (Array.getD_eq_getD_getElem? ..).symm.trans (lh.dep 6 rfl); exact ⟨wants_free rfl, .slice (some ⟨u.heap.size, 0, none⟩) 2 2, u.alloc (.cells #[.slice (some ⟨b, off, none⟩) k c, .slice (pcut (some ⟨b, off, none⟩) c (k + 1)) (n - (k + 1)) (c - (k + 1))] 23), by simp [execOp, Act.eval, e18, e22, go_sem], box_below _ _, ⟨_, rfl, Spine.new2 (((H.out.below B1.out).below lh.below).take k (by have := HKn.out; omega)) (((H.out.below B1.out).below lh.below).from (k + 1) HKn.out) _⟩⟩) ?_
    refine .cons (owes_call 29 Try.func29 (by kernel_rfl) (by kernel_rfl) [.tmp 23] #[58] rfl fun q u lh => ⟨wants_free rfl, by obtain ⟨bb, e23, th⟩ := lh.dep 7 rfl; have e23 : q.tmps.getD 23 undef = .slice (some ⟨bb, 0, none⟩) 2 2 := e23; show Calls Try.prog 29 #[q.tmps.getD 23 undef] u _; rw [e23, ← HE.out]; exact pend_fact lh.below.size (concatP_any bb 2 2 _ u th rfl (by omega) HL.out)⟩) ?_
    refine .cons (owes_move (.tmp 0) (.inl rfl) fun q u lh => ⟨wants_free rfl, lh.old 0 rfl⟩) ?_
    refine .cons (owes_move (.tmp 7) (.inl rfl) fun q u lh => ⟨wants_free rfl, lh.old 7 rfl⟩) ?_
    refine .cons (owes_value fun q u lh => ⟨wants_free rfl, .pointer (some ⟨b, off + k * 7, none⟩), by have e25 : q.tmps.getD 25 undef = .slice (some ⟨b, off, none⟩) n c := lh.dep 9 rfl; have e26 : q.tmps.getD 26 undef = .int .i64 k := lh.dep 10 rfl; simp [execOp, Act.eval, e25, e26, k1, go_sem], rfl⟩) ?_
    refine .cons (owes_value fun q u lh => ⟨wants_free rfl, .agg #[.int .i64 p0, .int .i64 p1, .int .i64 p2, .int .i64 p3, .int .i64 p4, .int .i64 p5, .int .i64 p6], by have e27 : q.tmps.getD 27 undef = .pointer (some ⟨b, off + k * 7, none⟩) := lh.dep 11 rfl; obtain ⟨z0, z1, z2, z3, z4, z5, z6⟩ := (HX.out.below B1.out).below lh.below; simp [execOp, Act.eval, e27, z0, z1, z2, z3, z4, z5, z6, go_sem], rfl⟩) ?_
    refine .cons (owes_move (.tmp 24) (.inr rfl) fun q u lh => ⟨wants_free rfl, lh.dep 8 rfl⟩) ?_
    exact .nil _
  intro q u hb hsz hdf hold hfact
  obtain ⟨v23, e23⟩ : ∃ v, q.tmps.getD 23 undef = v := ⟨_, rfl⟩
  have f23 : (Fact.spine [L.take k, L.drop (k + 1)]).1 u v23 := by rw [← e23]; exact hfact 7 (by decide)
  obtain ⟨v24, e24⟩ : ∃ v, q.tmps.getD 24 undef = v := ⟨_, rfl⟩
  have f24 : (Fact.pnew w1.heap.size (qRest L k)).1 u v24 := by rw [← e24]; exact hfact 8 (by decide)
  obtain ⟨a4, m4, e4, g4, n4⟩ : (Fact.pnew w1.heap.size (qRest L k)).1 u (q.tmps.getD 4 undef) := hfact 13 (by decide)
  obtain rfl := frame_puts hsz hdf [16, 17, 18, 19, 20, 21, 22, 23, 24, 25, 26, 27, 28, 4] hold [(16, Value.slice (some ⟨b, off, none⟩) n c), (17, Value.int .i64 k), (18, Value.slice (some ⟨b, off, none⟩) k c), (19, Value.slice (some ⟨b, off, none⟩) n c), (20, Value.int .i64 k), (21, Value.int .i64 (k + 1)), (22, Value.slice (pcut (some ⟨b, off, none⟩) c (k + 1)) (n - (k + 1)) (c - (k + 1))), (23, v23), (24, v24), (25, Value.slice (some ⟨b, off, none⟩) n c), (26, Value.int .i64 k), (27, Value.pointer (some ⟨b, off + k * 7, none⟩)), (28, Value.agg #[.int .i64 p0, .int .i64 p1, .int .i64 p2, .int .i64 p3, .int .i64 p4, .int .i64 p5, .int .i64 p6]), (4, Value.slice a4 (qRest L k).length m4)] ⟨hfact 0 (by decide), hfact 1 (by decide), hfact 2 (by decide), hfact 3 (by decide), hfact 4 (by decide), hfact 5 (by decide), hfact 6 (by decide), e23, e24, hfact 9 (by decide), hfact 10 (by decide), hfact 11 (by decide), hfact 12 (by decide), e4, trivial⟩ rfl
  clear hsz hdf hold hfact
  simp only [List.drop_succ_cons, List.drop_zero, TailWp]
  have XU : PBox u w.heap.size p70 := X1.out.below hb
  have Y : Hid (PBox (u.setRow w.heap.size #[.int .i64 p0, .int .i64 p1, .int .i64 p2, .int .i64 p3, .int .i64 p4, .int .i64 p5, .int .i64 p6]) w.heap.size (p0, p1, p2, p3, p4, p5, p6)) := XU.set (p0, p1, p2, p3, p4, p5, p6)
  have R : Hid (PGood (u.setRow w.heap.size #[.int .i64 p0, .int .i64 p1, .int .i64 p2, .int .i64 p3, .int .i64 p4, .int .i64 p5, .int .i64 p6]) a4 (qRest L k).length m4 (qRest L k) ∧ (∀ x, a4 = some x → w.heap.size ≤ x.block) ∧ Below w.heap.size w (u.setRow w.heap.size #[.int .i64 p0, .int .i64 p1, .int .i64 p2, .int .i64 p3, .int .i64 p4, .int .i64 p5, .int .i64 p6])) :=
    ⟨g4.far (fun x hx => by have := n4 x hx; have := Z1.out; omega) _, fun x hx => by have := n4 x hx; have := Z1.out; omega, Below.setRow (B1.out.trans (hb.mono B1.out.size)) (Nat.le_refl _) _⟩
  clear hb g4 n4 X1 Z1 HX H c0 c1 c2 c3 c4 c5 c6
  simp only [puts, Act.put, List.setIfInBounds_toArray, List.set_cons_zero, List.set_cons_succ]
  refine wp_store_row 25 (.tmp 5) (.tmp 28) rfl w.heap.size #[.int .i64 p0, .int .i64 p1, .int .i64 p2, .int .i64 p3, .int .i64 p4, .int .i64 p5, .int .i64 p6] rfl rfl _ _ XU sizePay (by simp) (by simp [Value.oneCell']) ?_
  refine wp_assign _ rfl ?_
  clear XU
  generalize u.setRow w.heap.size #[.int .i64 p0, .int .i64 p1, .int .i64 p2, .int .i64 p3, .int .i64 p4, .int .i64 p5, .int .i64 p6] = w3 at R Y ⊢
  obtain ⟨d0, d1, d2, d3, d4, d5, d6⟩ := Y.out.at7
  go_wp2
  exact bodyPost_ret (v := .tuple #[.slice a4 (qRest L k).length m4, .agg #[.int .i64 p0, .int .i64 p1, .int .i64 p2, .int .i64 p3, .int .i64 p4, .int .i64 p5, .int .i64 p6], .int .i64 0]) (by simp [results, Try.results10, d0, d1, d2, d3, d4, d5, d6, go_sem]) rfl ⟨a4, m4, rfl, R.out.1, R.out.2.1, R.out.2.2⟩

theorem drop_any7 (a : Option Addr) (n c : Nat) (L : List P7) (x : Int) (w : World) (h : PGood w a n c L) (hm : n ≤ 100000) :
    Calls Try.prog 10 #[.slice a n c, .int .i64 x] w (DropEnd7 w (qDrop L x) (qDropP L x) (qDropE L x)) := by
  cases hh : qHas L x with
  | true => exact drop_yes_any a n c L x w h hm hh
  | false => exact drop_no_any a n c L x w h hm hh

end Go.Proofs.Ytjibnbheegcnkaa
