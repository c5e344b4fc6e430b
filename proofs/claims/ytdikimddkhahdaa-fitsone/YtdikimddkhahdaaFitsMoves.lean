/-
  fits: what payments move: the program's answer.
-/
import Derived.Test.YtdikimddkhahdaaFitsMoved
import Derived.Test.YtdikimddkhahdaaRowBase
namespace Go.Proofs.Ytdikimddkhahdaa
open Go.RowKit
set_option linter.unusedVariables false
set_option linter.unusedSimpArgs false

/-- 42 numbers that lie by themselves. -/
def MvBlk (w : World) (g : Nat) (z : List Int) : Prop := w.heap[g]? = some (.cells (mvA z) 60 (0, 0))
theorem MvBlk.below {w w' : World} {g : Nat} {z : List Int} (h : MvBlk w g z) (hb : Below w.heap.size w w') : MvBlk w' g z := by
  unfold MvBlk; rw [hb.block g (Array.getElem?_eq_some_iff.1 h).1]; exact h
theorem MvBlk.cell {w : World} {g : Nat} {z : List Int} (h : MvBlk w g z) {j : Nat} (hj : j < z.length) : w.cell? ⟨g, j, none⟩ = some (.int .i64 (z.getD j 0)) := by
  rw [cell_of_row w g j _ _ _ h, mvA_at z j hj]
theorem MvBlk.at {w : World} {g : Nat} {z : List Int} (h : MvBlk w g z) (hz : z.length = 42) : MvAt w g z := fun j hj => h.cell (by omega)
theorem MvBlk.set {w : World} {g : Nat} {z : List Int} (h : MvBlk w g z) (y : List Int) : MvBlk (w.setRow g (mvA y)) g y := setRow_heap w g _ _ _ _ h
theorem MvBlk.far {w : World} {g k : Nat} {z : List Int} (h : MvBlk w g z) (hk : g ≠ k) (cs : Array Value) : MvBlk (w.setRow k cs) g z := by unfold MvBlk; rw [setRow_other _ _ _ _ hk]; exact h

set_option maxHeartbeats 8000000 in
set_option maxRecDepth 100000 in
theorem movesOf_any (a : Option Addr) (n c : Nat) (L : List P7) (w : World) (h : PGood w a n c L) (hn : n ≤ 64) (hp : MvPays L) :
    Calls Try.prog 31 #[.slice a n c] w fun e w' => e = .returned (.agg (mvA (mvL L))) ∧ Below w.heap.size w w' := by
  have HL : Hid (n = L.length) := h.len
  have HG : Hid (PGood w a n c L) := h
  have HP : Hid (MvPays L) := hp
  obtain ⟨w2, hw2⟩ : ∃ w2, w2 = (w.alloc (.cells #[.int .i64 0, .int .i64 0, .int .i64 0, .int .i64 0, .int .i64 0, .int .i64 0, .int .i64 0, .int .i64 0, .int .i64 0, .int .i64 0, .int .i64 0, .int .i64 0, .int .i64 0, .int .i64 0, .int .i64 0, .int .i64 0, .int .i64 0, .int .i64 0, .int .i64 0, .int .i64 0, .int .i64 0, .int .i64 0, .int .i64 0, .int .i64 0, .int .i64 0, .int .i64 0, .int .i64 0, .int .i64 0, .int .i64 0, .int .i64 0, .int .i64 0, .int .i64 0, .int .i64 0, .int .i64 0, .int .i64 0, .int .i64 0, .int .i64 0, .int .i64 0, .int .i64 0, .int .i64 0, .int .i64 0, .int .i64 0] 60)).alloc (.cells #[.int .i64 0, .int .i64 0, .int .i64 0, .int .i64 0, .int .i64 0, .int .i64 0, .int .i64 0, .int .i64 0, .int .i64 0, .int .i64 0, .int .i64 0, .int .i64 0, .int .i64 0, .int .i64 0, .int .i64 0, .int .i64 0, .int .i64 0, .int .i64 0, .int .i64 0, .int .i64 0, .int .i64 0, .int .i64 0, .int .i64 0, .int .i64 0, .int .i64 0, .int .i64 0, .int .i64 0, .int .i64 0, .int .i64 0, .int .i64 0, .int .i64 0, .int .i64 0, .int .i64 0, .int .i64 0, .int .i64 0, .int .i64 0, .int .i64 0, .int .i64 0, .int .i64 0, .int .i64 0, .int .i64 0, .int .i64 0] 60) := ⟨_, rfl⟩
  have B2 : Hid (Below w.heap.size w w2) := by rw [hw2]; exact (box_below _ _).alloc (box_below _ _).size _
  have G2 : Hid (MvBlk w2 w.heap.size (mvL [])) := by rw [hw2, ← mvA_nil]; exact MvBlk.below (heap_alloc_new w _) (box_below _ _)
  have M2 : Hid (MvBlk w2 (w.heap.size + 1) (mvL [])) := by
    rw [hw2, ← size_alloc w (.cells #[.int .i64 0, .int .i64 0, .int .i64 0, .int .i64 0, .int .i64 0, .int .i64 0, .int .i64 0, .int .i64 0, .int .i64 0, .int .i64 0, .int .i64 0, .int .i64 0, .int .i64 0, .int .i64 0, .int .i64 0, .int .i64 0, .int .i64 0, .int .i64 0, .int .i64 0, .int .i64 0, .int .i64 0, .int .i64 0, .int .i64 0, .int .i64 0, .int .i64 0, .int .i64 0, .int .i64 0, .int .i64 0, .int .i64 0, .int .i64 0, .int .i64 0, .int .i64 0, .int .i64 0, .int .i64 0, .int .i64 0, .int .i64 0, .int .i64 0, .int .i64 0, .int .i64 0, .int .i64 0, .int .i64 0, .int .i64 0] 60), ← mvA_nil]
    exact heap_alloc_new _ _
  clear h hp
  go_enter Try.func31, Try.ntmps31
  go_upto_region 2 with fail
  rw [← hw2]
  clear hw2
  go_wp2
  go_loopw [5, 8] (fun _ t wr => ∃ k : Nat, k ≤ n ∧ t = .int .i64 k ∧ Hid (MvBlk wr w.heap.size (mvL [])) ∧ Hid (MvBlk wr (w.heap.size + 1) (mvL (L.take k))) ∧ Hid (Below w.heap.size w wr)) (fun _ t _ => n - (intOf t).toNat)
  case atStart => exact ⟨0, by omega, rfl, G2, M2, B2⟩
  case round =>
    obtain ⟨k, hk, rfl, HG2, HM, HB⟩ := hrel
    by_cases hlt : k < n
    · have k1 : (k : Int) < (n : Int) := by omega
      obtain ⟨b, off, rfl, HC⟩ := HG.out.at hlt
      have hkl : k < L.length := by have := HL.out; omega
      have C0 := (HC k hlt).below HB.out
      have hmem : L.getD k p70 ∈ L := by rw [getD_get hkl]; exact List.getElem_mem _
      have hfr := HP.out.fr _ hmem
      have hto := HP.out.to _ hmem
      have ham := HP.out.am _ hmem
      have HT : Hid (L.take (k + 1) = L.take k ++ [L.getD k p70]) := take_snocA L p70 k hkl
      have HV := MvPays.ok (HP.out.take k) (by rw [List.length_take]; have := HL.out; omega)
      generalize L.getD k p70 = x at C0 hfr hto ham HT
      obtain ⟨f, hf⟩ : ∃ f : Nat, x.fr = f := ⟨x.fr.toNat, by omega⟩
      obtain ⟨o, ho⟩ : ∃ o : Nat, x.to = o := ⟨x.to.toNat, by omega⟩
      have f6 : (f : Int) < 6 := by omega
      have o6 : (o : Int) < 6 := by omega
      have vs := HV.le (f * 6 + o)
      have vp := HV.le (36 + f)
      have ms := HM.out.cell (j := f * 6 + o) (by rw [HV.len]; omega)
      rw [mvL_sent _ f o (by omega) (by omega)] at vs ms
      rw [mvL_spent _ f (by omega)] at vp
      have HS1 : x.cl = 3 → mvL (L.take (k + 1)) = (mvL (L.take k)).set (f * 6 + o) (sentS (L.take k) f o + x.am) := fun h => by rw [HT.out]; exact mvL_plain hf ho (by omega) (by omega) h
      have HS2 : ¬ x.cl = 3 → mvL (L.take (k + 1)) = ((mvL (L.take k)).set (f * 6 + o) (sentS (L.take k) f o + x.am)).set (36 + f) (spentS (L.take k) f + x.am) := fun h => by rw [HT.out]; exact mvL_spend hf ho (by omega) (by omega) h
      have HSP : Hid ((mvL (L.take k)).getD (36 + f) 0 = spentS (L.take k) f) := mvL_spent _ f (by omega)
      generalize sentS (L.take k) f o = s at vs ms HS1 HS2
      generalize spentS (L.take k) f = sp at vp HS2 HSP
      obtain ⟨y, hy⟩ : ∃ y, mvL (L.take k) = y := ⟨_, rfl⟩
      rw [hy] at HM HS1 HS2 HSP HV
      have HYL : Hid (y.length = 42) := HV.len
      obtain ⟨x0, x1, x2, x3, x4, x5, x6⟩ := x
      obtain ⟨p0, p1, p2, p3, p4, p5, p6⟩ := C0
      simp only [P7.id, P7.fr, P7.to, P7.am, P7.cl, P7.st, P7.ti] at p0 p1 p2 p3 p4 p5 p6 hf ho ham HS1 HS2
      subst hf ho
      obtain ⟨t1, ht1⟩ : ∃ t1, s + x3 = t1 := ⟨_, rfl⟩
      obtain ⟨t2, ht2⟩ : ∃ t2, sp + x3 = t2 := ⟨_, rfl⟩
      have W1 : Hid (IntKind.i64.wrap (s + x3) = t1) := by show _ = _; rw [ht1]; exact i64_wf (by omega) (by omega)
      have W2 : Hid (IntKind.i64.wrap (sp + x3) = t2) := by show _ = _; rw [ht2]; exact i64_wf (by omega) (by omega)
      rw [ht1] at HS1 HS2
      rw [ht2] at HS2
      have HH1 : Hid (x4 = 3 → mvL (L.take (k + 1)) = y.set (f * 6 + o) t1) := HS1
      have HH2 : Hid (¬ x4 = 3 → mvL (L.take (k + 1)) = (y.set (f * 6 + o) t1).set (36 + f) t2) := HS2
      obtain ⟨w3, hw3⟩ : ∃ w3, w3 = wr.alloc (.cells #[.int .i64 x0, .int .i64 f, .int .i64 o, .int .i64 x3, .int .i64 x4, .int .i64 x5, .int .i64 x6] 31) := ⟨_, rfl⟩
      have X3 : Hid (At7 w3 wr.heap.size 0 (x0, (f : Int), (o : Int), x3, x4, x5, x6)) := by rw [hw3]; exact At7.new _ (x0, (f : Int), (o : Int), x3, x4, x5, x6) _ _
      have B3 : Hid (Below w.heap.size w w3) := by rw [hw3]; exact HB.out.alloc HB.out.size _
      have G3 : Hid (MvBlk w3 w.heap.size (mvL [])) := by rw [hw3]; exact HG2.out.below (box_below _ _)
      have M3 : Hid (MvBlk w3 (w.heap.size + 1) y) := by rw [hw3]; exact HM.out.below (box_below _ _)
      have MS : Hid (∀ u, Below w3.heap.size w3 u → u.cell? ⟨w.heap.size + 1, f * 6 + o, none⟩ = some (.int .i64 s)) := fun u hu => by
        have c0 := (M3.out.below hu).cell (j := f * 6 + o) (by rw [HYL.out]; omega)
        have c1 : wr.cell? ⟨w.heap.size + 1, f * 6 + o, none⟩ = some (.int .i64 (y.getD (f * 6 + o) 0)) := HM.out.cell (j := f * 6 + o) (by rw [HYL.out]; omega)
        rw [c0, ← c1]; exact ms
      have HSZ : Hid (w.heap.size + 1 < wr.heap.size) := (Array.getElem?_eq_some_iff.1 HM.out).1
      clear HC hmem hfr hto HT HV hy vs vp ms HS1 HS2 ht1 ht2 ham HG2 HM HB
      go_upto_region 5 with fail
      rw [← hw3]
      clear hw3 p0 p1 p2 p3 p4 p5 p6
      refine region_owes_endN 14 (L := [Fact.is (.pointer (some ⟨wr.heap.size, 1, none⟩)),
        Fact.is (.int .i64 f),
        Fact.is (.pointer (some ⟨wr.heap.size, 2, none⟩)),
        Fact.is (.int .i64 o),
        Fact.is (.pointer (some ⟨w.heap.size + 1, 0, none⟩)),
        Fact.is (.pointer (some ⟨w.heap.size + 1, f * 6, none⟩)),
        Fact.is (.pointer (some ⟨w.heap.size + 1, f * 6 + o, none⟩)),
        Fact.is (.int .i64 s),
        Fact.is (.pointer (some ⟨wr.heap.size, 3, none⟩)),
        Fact.is (.int .i64 x3),
        Fact.is (.int .i64 t1),
        Fact.is (.pointer (some ⟨w.heap.size + 1, 0, none⟩)),
        Fact.is (.pointer (some ⟨w.heap.size + 1, f * 6, none⟩)),
        Fact.is (.pointer (some ⟨w.heap.size + 1, f * 6 + o, none⟩))])
        (T := [12, 13, 14, 15, 16, 17, 18, 19, 20, 21, 22, 23, 24, 25]) (by kernel_rfl) rfl rfl (by kernel_rfl) (by kernel_rfl) rfl ?owes ?_
      case owes =>
        simp only [List.take_succ_cons, List.take_zero]
        refine .cons (owes_value fun q u lh => ⟨wants_free rfl, .pointer (some ⟨wr.heap.size, 1, none⟩), by have e5 : q.tmps.getD 5 undef = .pointer (some ⟨wr.heap.size, 0, none⟩) := lh.old 5 rfl; simp [execOp, Act.eval, e5, go_sem], rfl⟩) ?_
        refine .cons (owes_value fun q u lh => ⟨wants_free rfl, .int .i64 f, by have e12 : q.tmps.getD 12 undef = .pointer (some ⟨wr.heap.size, 1, none⟩) := lh.dep 0 rfl; obtain ⟨z0, z1, z2, z3, z4, z5, z6⟩ := X3.out.below lh.below; simp [execOp, Act.eval, e12, z1, go_sem], rfl⟩) ?_
        refine .cons (owes_value fun q u lh => ⟨wants_free rfl, .pointer (some ⟨wr.heap.size, 2, none⟩), by have e5 : q.tmps.getD 5 undef = .pointer (some ⟨wr.heap.size, 0, none⟩) := lh.old 5 rfl; simp [execOp, Act.eval, e5, go_sem], rfl⟩) ?_
        refine .cons (owes_value fun q u lh => ⟨wants_free rfl, .int .i64 o, by have e14 : q.tmps.getD 14 undef = .pointer (some ⟨wr.heap.size, 2, none⟩) := lh.dep 2 rfl; obtain ⟨z0, z1, z2, z3, z4, z5, z6⟩ := X3.out.below lh.below; simp [execOp, Act.eval, e14, z2, go_sem], rfl⟩) ?_
        refine .cons (owes_value fun q u lh => ⟨wants_free rfl, .pointer (some ⟨w.heap.size + 1, 0, none⟩), by have e3 : q.tmps.getD 3 undef = .pointer (some ⟨w.heap.size + 1, 0, none⟩) := lh.old 3 rfl; simp [execOp, Act.eval, e3, go_sem], rfl⟩) ?_
        refine .cons (owes_value fun q u lh => ⟨wants_free rfl, .pointer (some ⟨w.heap.size + 1, f * 6, none⟩), by have e13 : q.tmps.getD 13 undef = .int .i64 f := lh.dep 1 rfl; have e16 : q.tmps.getD 16 undef = .pointer (some ⟨w.heap.size + 1, 0, none⟩) := lh.dep 4 rfl; simp [execOp, Act.eval, e13, e16, f6, go_sem], rfl⟩) ?_
        refine .cons (owes_value fun q u lh => ⟨wants_free rfl, .pointer (some ⟨w.heap.size + 1, f * 6 + o, none⟩), by have e15 : q.tmps.getD 15 undef = .int .i64 o := lh.dep 3 rfl; have e17 : q.tmps.getD 17 undef = .pointer (some ⟨w.heap.size + 1, f * 6, none⟩) := lh.dep 5 rfl; simp [execOp, Act.eval, e15, e17, o6, go_sem], rfl⟩) ?_
        refine .cons (owes_value fun q u lh => ⟨wants_free rfl, .int .i64 s, by have e18 : q.tmps.getD 18 undef = .pointer (some ⟨w.heap.size + 1, f * 6 + o, none⟩) := lh.dep 6 rfl; have z1 := MS.out u lh.below; simp [execOp, Act.eval, e18, z1, go_sem], rfl⟩) ?_
        refine .cons (owes_value fun q u lh => ⟨wants_free rfl, .pointer (some ⟨wr.heap.size, 3, none⟩), by have e5 : q.tmps.getD 5 undef = .pointer (some ⟨wr.heap.size, 0, none⟩) := lh.old 5 rfl; simp [execOp, Act.eval, e5, go_sem], rfl⟩) ?_
        refine .cons (owes_value fun q u lh => ⟨wants_free rfl, .int .i64 x3, by have e20 : q.tmps.getD 20 undef = .pointer (some ⟨wr.heap.size, 3, none⟩) := lh.dep 8 rfl; obtain ⟨z0, z1, z2, z3, z4, z5, z6⟩ := X3.out.below lh.below; simp [execOp, Act.eval, e20, z3, go_sem], rfl⟩) ?_
        refine .cons (owes_value fun q u lh => ⟨wants_free rfl, .int .i64 t1, by have e19 : q.tmps.getD 19 undef = .int .i64 s := lh.dep 7 rfl; have e21 : q.tmps.getD 21 undef = .int .i64 x3 := lh.dep 9 rfl; simp [execOp, Act.eval, e19, e21, W1.out, go_sem], rfl⟩) ?_
        refine .cons (owes_value fun q u lh => ⟨wants_free rfl, .pointer (some ⟨w.heap.size + 1, 0, none⟩), by have e3 : q.tmps.getD 3 undef = .pointer (some ⟨w.heap.size + 1, 0, none⟩) := lh.old 3 rfl; simp [execOp, Act.eval, e3, go_sem], rfl⟩) ?_
        refine .cons (owes_value fun q u lh => ⟨wants_free rfl, .pointer (some ⟨w.heap.size + 1, f * 6, none⟩), by have e13 : q.tmps.getD 13 undef = .int .i64 f := lh.dep 1 rfl; have e23 : q.tmps.getD 23 undef = .pointer (some ⟨w.heap.size + 1, 0, none⟩) := lh.dep 11 rfl; simp [execOp, Act.eval, e13, e23, f6, go_sem], rfl⟩) ?_
        refine .cons (owes_value fun q u lh => ⟨wants_free rfl, .pointer (some ⟨w.heap.size + 1, f * 6 + o, none⟩), by have e15 : q.tmps.getD 15 undef = .int .i64 o := lh.dep 3 rfl; have e24 : q.tmps.getD 24 undef = .pointer (some ⟨w.heap.size + 1, f * 6, none⟩) := lh.dep 12 rfl; simp [execOp, Act.eval, e15, e24, o6, go_sem], rfl⟩) ?_
        exact .nil _
      intro q u hb hsz hdf hold hfact
      have hg : u.heap[w.heap.size + 1]? = some (.cells (mvA y) 60 (0, 0)) := M3.out.below hb
      have c0 := MS.out u hb
      have f0 := frozen_of_row u (w.heap.size + 1) (f * 6 + o) _ _ hg
      obtain ⟨w5, hw5⟩ : ∃ w5, w5 = u.setCell ⟨w.heap.size + 1, f * 6 + o, none⟩ (.int .i64 t1) := ⟨_, rfl⟩
      have E5 : w5 = u.setRow (w.heap.size + 1) (mvA (y.set (f * 6 + o) t1)) := by rw [hw5, setCell_eq_setRow _ _ _ _ _ _ _ hg, mvA_set]
      have B5 : Hid (Below w.heap.size w w5) := by rw [E5]; exact Below.setRow (B3.out.trans (hb.mono B3.out.size)) (by omega) _
      have M5 : Hid (MvBlk w5 (w.heap.size + 1) (y.set (f * 6 + o) t1)) := by rw [E5]; exact MvBlk.set hg _
      have G5 : Hid (MvBlk w5 w.heap.size (mvL [])) := by rw [E5]; exact (G3.out.below hb).far (by omega) _
      have X5 : Hid (At7 w5 wr.heap.size 0 (x0, (f : Int), (o : Int), x3, x4, x5, x6)) := by
        have h0 := X3.out.below hb
        rw [E5]
        refine At7.of fun j hj => ?_
        rw [cell_setRow_other _ _ _ _ (by show wr.heap.size ≠ w.heap.size + 1; have := HSZ.out; omega)]
        exact h0.nth j hj
      clear E5 hg hb
      obtain ⟨u5, rfl⟩ : ∃ z, z = u := ⟨u, rfl⟩
      obtain rfl := frame_puts hsz hdf [12, 13, 14, 15, 16, 17, 18, 19, 20, 21, 22, 23, 24, 25] hold [(12, Value.pointer (some ⟨wr.heap.size, 1, none⟩)), (13, Value.int .i64 f), (14, Value.pointer (some ⟨wr.heap.size, 2, none⟩)), (15, Value.int .i64 o), (16, Value.pointer (some ⟨w.heap.size + 1, 0, none⟩)), (17, Value.pointer (some ⟨w.heap.size + 1, f * 6, none⟩)), (18, Value.pointer (some ⟨w.heap.size + 1, f * 6 + o, none⟩)), (19, Value.int .i64 s), (20, Value.pointer (some ⟨wr.heap.size, 3, none⟩)), (21, Value.int .i64 x3), (22, Value.int .i64 t1), (23, Value.pointer (some ⟨w.heap.size + 1, 0, none⟩)), (24, Value.pointer (some ⟨w.heap.size + 1, f * 6, none⟩)), (25, Value.pointer (some ⟨w.heap.size + 1, f * 6 + o, none⟩))] ⟨hfact 0 (by decide), hfact 1 (by decide), hfact 2 (by decide), hfact 3 (by decide), hfact 4 (by decide), hfact 5 (by decide), hfact 6 (by decide), hfact 7 (by decide), hfact 8 (by decide), hfact 9 (by decide), hfact 10 (by decide), hfact 11 (by decide), hfact 12 (by decide), hfact 13 (by decide), trivial⟩ rfl
      clear hsz hdf hold hfact
      clear MS G3 M3 X3 B3
      simp only [puts, Act.put, List.setIfInBounds_toArray, List.set_cons_zero, List.set_cons_succ]
      go_upto_region 6 with fail
      rw [← hw5]
      clear hw5 c0 f0
      obtain ⟨_, z1, _, z3, z4, _, _⟩ := X5.out
      replace z1 : w5.cell? ⟨wr.heap.size, 1, none⟩ = some (.int .i64 f) := z1
      replace z3 : w5.cell? ⟨wr.heap.size, 3, none⟩ = some (.int .i64 x3) := z3
      replace z4 : w5.cell? ⟨wr.heap.size, 4, none⟩ = some (.int .i64 x4) := z4
      by_cases hc : x4 = 3
      · subst hc
        have HE : Hid (mvL (L.take (k + 1)) = y.set (f * 6 + o) t1) := HH1.out rfl
        clear HH1 HH2 z1 z3
        go_wp2
        go_roundw
        case rel => exact ⟨k + 1, by omega, by go_num, G5, by rw [HE.out]; exact M5, B5⟩
        case measure => simp [intOf]; omega
      · have HE : Hid (mvL (L.take (k + 1)) = (y.set (f * 6 + o) t1).set (36 + f) t2) := HH2.out hc
        have hc' : (x4 == 3) = false := by simpa using hc
        have MS : Hid (∀ u, Below w5.heap.size w5 u → u.cell? ⟨w.heap.size + 1, 36 + f, none⟩ = some (.int .i64 sp)) := fun u hu => by
          have c0 := (M5.out.below hu).cell (j := 36 + f) (by rw [List.length_set, HYL.out]; omega)
          rw [c0, set_at _ _ _ _ (by rw [HYL.out]; omega), if_neg (by omega), HSP.out]
        clear HH1 HH2 hc z1 z3
        go_wp2_with fail
        refine region_owes_endN 10 (L := [Fact.is (.pointer (some ⟨wr.heap.size, 1, none⟩)),
          Fact.is (.int .i64 f),
          Fact.is (.pointer (some ⟨w.heap.size + 1, 36, none⟩)),
          Fact.is (.pointer (some ⟨w.heap.size + 1, 36 + f, none⟩)),
          Fact.is (.int .i64 sp),
          Fact.is (.pointer (some ⟨wr.heap.size, 3, none⟩)),
          Fact.is (.int .i64 x3),
          Fact.is (.int .i64 t2),
          Fact.is (.pointer (some ⟨w.heap.size + 1, 36, none⟩)),
          Fact.is (.pointer (some ⟨w.heap.size + 1, 36 + f, none⟩))])
          (T := [29, 30, 31, 32, 33, 34, 35, 36, 37, 38]) (by kernel_rfl) rfl rfl (by kernel_rfl) (by kernel_rfl) rfl ?owes ?_
        case owes =>
          simp only [List.take_succ_cons, List.take_zero]
          refine .cons (owes_value fun q u lh => ⟨wants_free rfl, .pointer (some ⟨wr.heap.size, 1, none⟩), by have e5 : q.tmps.getD 5 undef = .pointer (some ⟨wr.heap.size, 0, none⟩) := lh.old 5 rfl; simp [execOp, Act.eval, e5, go_sem], rfl⟩) ?_
          refine .cons (owes_value fun q u lh => ⟨wants_free rfl, .int .i64 f, by have e29 : q.tmps.getD 29 undef = .pointer (some ⟨wr.heap.size, 1, none⟩) := lh.dep 0 rfl; obtain ⟨z0, z1, z2, z3, z4, z5, z6⟩ := X5.out.below lh.below; simp [execOp, Act.eval, e29, z1, go_sem], rfl⟩) ?_
          refine .cons (owes_value fun q u lh => ⟨wants_free rfl, .pointer (some ⟨w.heap.size + 1, 36, none⟩), by have e3 : q.tmps.getD 3 undef = .pointer (some ⟨w.heap.size + 1, 0, none⟩) := lh.old 3 rfl; simp [execOp, Act.eval, e3, go_sem], rfl⟩) ?_
          refine .cons (owes_value fun q u lh => ⟨wants_free rfl, .pointer (some ⟨w.heap.size + 1, 36 + f, none⟩), by have e30 : q.tmps.getD 30 undef = .int .i64 f := lh.dep 1 rfl; have e31 : q.tmps.getD 31 undef = .pointer (some ⟨w.heap.size + 1, 36, none⟩) := lh.dep 2 rfl; simp [execOp, Act.eval, e30, e31, f6, go_sem], rfl⟩) ?_
          refine .cons (owes_value fun q u lh => ⟨wants_free rfl, .int .i64 sp, by have e32 : q.tmps.getD 32 undef = .pointer (some ⟨w.heap.size + 1, 36 + f, none⟩) := lh.dep 3 rfl; have z1 := MS.out u lh.below; simp [execOp, Act.eval, e32, z1, go_sem], rfl⟩) ?_
          refine .cons (owes_value fun q u lh => ⟨wants_free rfl, .pointer (some ⟨wr.heap.size, 3, none⟩), by have e5 : q.tmps.getD 5 undef = .pointer (some ⟨wr.heap.size, 0, none⟩) := lh.old 5 rfl; simp [execOp, Act.eval, e5, go_sem], rfl⟩) ?_
          refine .cons (owes_value fun q u lh => ⟨wants_free rfl, .int .i64 x3, by have e34 : q.tmps.getD 34 undef = .pointer (some ⟨wr.heap.size, 3, none⟩) := lh.dep 5 rfl; obtain ⟨z0, z1, z2, z3, z4, z5, z6⟩ := X5.out.below lh.below; simp [execOp, Act.eval, e34, z3, go_sem], rfl⟩) ?_
          refine .cons (owes_value fun q u lh => ⟨wants_free rfl, .int .i64 t2, by have e33 : q.tmps.getD 33 undef = .int .i64 sp := lh.dep 4 rfl; have e35 : q.tmps.getD 35 undef = .int .i64 x3 := lh.dep 6 rfl; simp [execOp, Act.eval, e33, e35, W2.out, go_sem], rfl⟩) ?_
          refine .cons (owes_value fun q u lh => ⟨wants_free rfl, .pointer (some ⟨w.heap.size + 1, 36, none⟩), by have e3 : q.tmps.getD 3 undef = .pointer (some ⟨w.heap.size + 1, 0, none⟩) := lh.old 3 rfl; simp [execOp, Act.eval, e3, go_sem], rfl⟩) ?_
          refine .cons (owes_value fun q u lh => ⟨wants_free rfl, .pointer (some ⟨w.heap.size + 1, 36 + f, none⟩), by have e30 : q.tmps.getD 30 undef = .int .i64 f := lh.dep 1 rfl; have e37 : q.tmps.getD 37 undef = .pointer (some ⟨w.heap.size + 1, 36, none⟩) := lh.dep 8 rfl; simp [execOp, Act.eval, e30, e37, f6, go_sem], rfl⟩) ?_
          exact .nil _
        intro q u hb hsz hdf hold hfact
        have hg : u.heap[w.heap.size + 1]? = some (.cells (mvA (y.set (f * 6 + o) t1)) 60 (0, 0)) := M5.out.below hb
        have c0 := MS.out u hb
        have f0 := frozen_of_row u (w.heap.size + 1) (36 + f) _ _ hg
        obtain ⟨w7, hw7⟩ : ∃ w7, w7 = u.setCell ⟨w.heap.size + 1, 36 + f, none⟩ (.int .i64 t2) := ⟨_, rfl⟩
        have E7 : w7 = u.setRow (w.heap.size + 1) (mvA ((y.set (f * 6 + o) t1).set (36 + f) t2)) := by rw [hw7, setCell_eq_setRow _ _ _ _ _ _ _ hg, mvA_set]
        have B7 : Hid (Below w.heap.size w w7) := by rw [E7]; exact Below.setRow (B5.out.trans (hb.mono B5.out.size)) (by omega) _
        have M7 : Hid (MvBlk w7 (w.heap.size + 1) ((y.set (f * 6 + o) t1).set (36 + f) t2)) := by rw [E7]; exact MvBlk.set hg _
        have G7 : Hid (MvBlk w7 w.heap.size (mvL [])) := by rw [E7]; exact (G5.out.below hb).far (by omega) _
        clear E7 hg hb
        obtain ⟨u7, rfl⟩ : ∃ z, z = u := ⟨u, rfl⟩
        obtain rfl := frame_puts hsz hdf [29, 30, 31, 32, 33, 34, 35, 36, 37, 38] hold [(29, Value.pointer (some ⟨wr.heap.size, 1, none⟩)), (30, Value.int .i64 f), (31, Value.pointer (some ⟨w.heap.size + 1, 36, none⟩)), (32, Value.pointer (some ⟨w.heap.size + 1, 36 + f, none⟩)), (33, Value.int .i64 sp), (34, Value.pointer (some ⟨wr.heap.size, 3, none⟩)), (35, Value.int .i64 x3), (36, Value.int .i64 t2), (37, Value.pointer (some ⟨w.heap.size + 1, 36, none⟩)), (38, Value.pointer (some ⟨w.heap.size + 1, 36 + f, none⟩))] ⟨hfact 0 (by decide), hfact 1 (by decide), hfact 2 (by decide), hfact 3 (by decide), hfact 4 (by decide), hfact 5 (by decide), hfact 6 (by decide), hfact 7 (by decide), hfact 8 (by decide), hfact 9 (by decide), trivial⟩ rfl
        clear hsz hdf hold hfact
        clear MS G5 M5 X5 B5 z4
        simp only [puts, Act.put, List.setIfInBounds_toArray, List.set_cons_zero, List.set_cons_succ]
        go_upto_region 8 with fail
        rw [← hw7]
        clear hw7 c0 f0
        go_wp2
        go_roundw
        case rel => exact ⟨k + 1, by omega, by go_num, G7, by rw [HE.out]; exact M7, B7⟩
        case measure => simp [intOf]; omega
    · obtain rfl : k = n := by omega
      have HT : Hid (L.take k = L) := by show _ = _; rw [HL.out, List.take_length]
      rw [HT.out] at HM
      have HZ : Hid ((mvL L).length = 42) := mvL_len L
      have B8 : Hid (Below w.heap.size w (wr.setRow w.heap.size (mvA (mvL L)))) := Below.setRow HB.out (Nat.le_refl _) _
      have hr : (wr.setRow w.heap.size (mvA (mvL L))).heap[w.heap.size]? = some (.cells (mvA (mvL L)) 60 (0, 0)) := MvBlk.set HG2.out _
      have HR : Hid ((wr.setRow w.heap.size (mvA (mvL L))).heap[w.heap.size]? = some (.cells (mvA (mvL L)) 60 (0, 0))) := hr
      clear hr
      go_wp2_with (first
        | (refine load_mv (.tmp 3) rfl rfl (w.heap.size + 1) rfl (mvL L) HZ.out (HM.out.at HZ.out) ?_)
        | (refine wpList_store_row rfl 60 (.tmp 2) (.tmp 40) rfl w.heap.size (mvA (mvL L)) rfl rfl _ _ HG2.out (by rw [infoMv, mvA_size, HZ.out]) (by rw [mvA_size, mvA_size, HZ.out, mvL_len]) (mvA_one _) ?_))
      refine bodyPost_ret (v := .agg (mvA (mvL L))) (results_cell_row rfl _ _ w.heap.size _ _ _ _ rfl HR.out Try.underlying60 rfl (by rw [infoMv, mvA_size, HZ.out])) rfl ?_
      exact ⟨rfl, B8.out⟩

end Go.Proofs.Ytdikimddkhahdaa
