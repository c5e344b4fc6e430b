/-
  giroref18: Goes, Next: the document's answer.
-/
import Derived.Test.YtgcofidkgohogaaFreeSpec
import Derived.Test.YtgcofidkgohogaaPostAll
import Derived.Test.YtgcofidkgohogaaViewAll
import Derived.Test.YtgcofidkgohogaaRowRefs
import Derived.Test.YtgcofidkgohogaaFitsRefAll
import Derived.Test.YtgcofidkgohogaaFactsLate
import Derived.Deep.CutRange
namespace Go.Proofs.Ytgcofidkgohogaa
open Go.RowKit
set_option linter.unusedVariables false
set_option linter.unusedSimpArgs false

theorem postR_good {b : Bks} (g : Good b) (L : List P7) : Good (postR b L) := by
  unfold postR
  by_cases h : (allB b L && booksB (postB b L)) = true
  · rw [if_pos h]
    rw [Bool.and_eq_true] at h
    exact booksB_yes.1 h.2
  · rw [if_neg h]
    exact g
theorem goesB_eq (b : Bks) (L : List P7) : goesB b L = ((postE b L == 0) && fitsB b L) := by
  unfold goesB
  rw [Bool.and_comm]
  congr 1
/-- The first that goes; none. -/
theorem find_here {α : Type} {f : α → Bool} {d : α} : ∀ {m : List α} {k : Nat}, k < m.length → (∀ j, j < k → f (m.getD j d) = false) → f (m.getD k d) = true → m.find? f = some (m.getD k d) := by
  intro m
  induction m with
  | nil => intro k hk; simp at hk
  | cons x m ih =>
    intro k hk hn hy
    cases k with
    | zero =>
      have hy : f x = true := hy
      simp [hy]
    | succ k =>
      have h0 : f x = false := hn 0 (by omega)
      rw [List.find?_cons, h0]
      exact ih (by simpa using hk) (fun j hj => hn (j + 1) (by omega)) hy
theorem find_nothing {α : Type} {f : α → Bool} {d : α} {m : List α} (h : ∀ j, j < m.length → f (m.getD j d) = false) : m.find? f = none := by
  rw [List.find?_eq_none]
  intro x hx
  obtain ⟨j, hj, rfl⟩ := List.getElem_of_mem hx
  have := h j hj
  simp [List.getD_eq_getElem?_getD, hj] at this
  simpa using this

/-- What Goes leaves. -/
def GoesEnd (w : World) (b : Bks) (L : List P7) (e : Ending) (w' : World) : Prop := ∃ y : BA, e = .returned (.tuple #[y.val, .bool (goesB b L)]) ∧ (goesB b L = true → NewBk w' w.heap.size y (postR b L)) ∧ Below w.heap.size w w'

set_option maxHeartbeats 8000000 in
set_option maxRecDepth 100000 in
theorem refGoes_any (x : BA) (b : Bks) (a : Option Addr) (n c : Nat) (L : List P7) (w : World) (hk : Bk w x b) (gd : Good b) (h : PGood w a n c L) :
    Calls Try.prog 28 #[x.val, .slice a n c] w (GoesEnd w b L) := by
  have PO := fun u (hu : Below w.heap.size w u) => refPost_new x b a n c L u (hk.below hu) gd (h.below hu)
  have FI := fun u (hu : Below w.heap.size w u) => refFFits_any x b a n c L u (hk.below hu) gd (h.below hu)
  unfold RefPostNew at PO
  have HG : Hid (goesB b L = ((postE b L == 0) && fitsB b L)) := goesB_eq b L
  have HE : Hid (∀ (y : BA) (u : World), (goesB b L = true → NewBk u w.heap.size y (postR b L)) ∧ Below w.heap.size w u → GoesEnd w b L (.returned (.tuple #[y.val, .bool (goesB b L)])) u) := fun y u ⟨h2, h3⟩ => ⟨y, rfl, h2, h3⟩
  have HP : Hid (goesB b L = true → postE b L = 0) := fun hh => by unfold goesB at hh; rw [Bool.and_eq_true, decide_eq_true_eq] at hh; exact hh.2
  generalize goesB b L = R at HG HE HP
  generalize postE b L = E at PO HG HP
  generalize fitsB b L = F at FI HG
  generalize postR b L = Q at PO HE
  obtain ⟨D1, hD1⟩ : ∃ D1, (E == 0) = D1 := ⟨_, rfl⟩
  have HD1 : Hid ((E == 0) = D1) := hD1
  rw [hD1] at HG
  have HRR : Hid ((D1 && F) = R) := HG.out.symm
  clear hD1 HG
  obtain ⟨aA, nA, cA, aB, nB, cB, aM, nM, cM, aP, nP, cP⟩ := x
  have FT : Hid (∀ u, Below w.heap.size w u → Calls Try.prog 20 #[.agg #[.slice aA nA cA, .slice aB nB cB, .slice aM nM cM, .slice aP nP cP], .slice a n c] u fun e w' => e = .returned (.bool F) ∧ Below u.heap.size u w') := FI
  obtain ⟨w2, hw2⟩ : ∃ w2, w2 = (w.alloc (.cells #[.slice aA nA cA, .slice aB nB cB, .slice aM nM cM, .slice aP nP cP] 27)).alloc (.cells #[.slice none 0 0, .slice none 0 0, .slice none 0 0, .slice none 0 0] 27) := ⟨_, rfl⟩
  have B2 : Hid (Below w.heap.size w w2) := by rw [hw2]; exact (box_below _ _).alloc (box_below _ _).size _
  have X2 : Hid (Box4 w2 w.heap.size ⟨aA, nA, cA, aB, nB, cB, aM, nM, cM, aP, nP, cP⟩) := by rw [hw2]; exact (Box4.new w ⟨aA, nA, cA, aB, nB, cB, aM, nM, cM, aP, nP, cP⟩ _ _).below (box_below _ _)
  have G2 : Hid (w2.heap[w.heap.size + 1]? = some (.cells #[.slice none 0 0, .slice none 0 0, .slice none 0 0, .slice none 0 0] 27 (0, 0)) ∧ w.heap.size + 1 < w2.heap.size) := by
    have := heap_alloc_new (w.alloc (.cells #[.slice aA nA cA, .slice aB nB cB, .slice aM nM cM, .slice aP nP cP] 27)) (.cells #[.slice none 0 0, .slice none 0 0, .slice none 0 0, .slice none 0 0] 27)
    rw [size_alloc] at this
    rw [hw2]
    exact ⟨this, by rw [size_alloc, size_alloc]; omega⟩
  have PO := PO w2 B2.out
  obtain ⟨p0, p1, p2, p3⟩ := X2.out
  replace p0 : w2.cell? ⟨w.heap.size, 0, none⟩ = some (.slice aA nA cA) := p0
  replace p1 : w2.cell? ⟨w.heap.size, 1, none⟩ = some (.slice aB nB cB) := p1
  replace p2 : w2.cell? ⟨w.heap.size, 2, none⟩ = some (.slice aM nM cM) := p2
  replace p3 : w2.cell? ⟨w.heap.size, 3, none⟩ = some (.slice aP nP cP) := p3
  clear FI hk gd h
  go_enter Try.func28, Try.ntmps28
  go_upto_region 1 with fail
  rw [← hw2]
  clear hw2
  go_wp2_with fail
  go_at_call 21
  refine PO.mono ?_
  rintro e w3 ⟨y, rfl, bk, nb, hb⟩
  obtain ⟨yA, mA, eA, yB, mB, eB, yM, mM, eM, yP, mP, eP⟩ := y
  obtain ⟨w4, hw4⟩ : ∃ w4, w4 = w3.alloc (.cells #[.slice yA mA eA, .slice yB mB eB, .slice yM mM eM, .slice yP mP eP] 27) := ⟨_, rfl⟩
  have b4 : Below w3.heap.size w3 w4 := by rw [hw4]; exact box_below _ _
  have b24 : Below w2.heap.size w2 w4 := hb.trans (b4.mono hb.size)
  have B4 : Hid (Below w.heap.size w w4) := B2.out.trans (b24.mono B2.out.size)
  have X4 : Hid (Box4 w4 w.heap.size ⟨aA, nA, cA, aB, nB, cB, aM, nM, cM, aP, nP, cP⟩) := X2.out.below b24
  have G4 : Hid (w4.heap[w.heap.size + 1]? = some (.cells #[.slice none 0 0, .slice none 0 0, .slice none 0 0, .slice none 0 0] 27 (0, 0)) ∧ w.heap.size + 1 < w4.heap.size) := ⟨(b24.block _ G2.out.2).trans G2.out.1, by have := b24.size; have := G2.out.2; omega⟩
  have Y4 : Hid (Box4 w4 w3.heap.size ⟨yA, mA, eA, yB, mB, eB, yM, mM, eM, yP, mP, eP⟩) := by rw [hw4]; exact Box4.new w3 ⟨yA, mA, eA, yB, mB, eB, yM, mM, eM, yP, mP, eP⟩ _ _
  have K4 : Hid (R = true → NewBk w4 w2.heap.size ⟨yA, mA, eA, yB, mB, eB, yM, mM, eM, yP, mP, eP⟩ Q) := fun hr => (nb (HP.out hr)).below b4
  have Z4 : Hid (w.heap.size + 1 < w2.heap.size) := G2.out.2
  clear hb bk nb b4 b24 PO p0 p1 p2 p3 X2 B2 G2
  go_upto_region 2 with fail
  rw [← hw4]
  clear hw4
  refine region_owes_late 8 7 (L := [Fact.is (.agg #[.slice yA mA eA, .slice yB mB eB, .slice yM mM eM, .slice yP mP eP]),
    Fact.is (.int .i64 E),
    Fact.is (.bool D1),
    Fact.is (.bool D1),
    Fact.when (D1 == true) (.agg #[.slice aA nA cA, .slice aB nB cB, .slice aM nM cM, .slice aP nP cP]),
    Fact.when (D1 == true) (.slice a n c),
    Fact.when (D1 == true) (.bool F),
    Fact.is (.bool R)])
    (T := [14, 15, 16, 17, 18, 19, 20, 21]) (by kernel_rfl) rfl (Nat.le_of_ble_eq_true rfl) (by kernel_rfl) (by kernel_rfl) (by kernel_rfl) (by kernel_rfl) (by kernel_rfl) rfl ?owes ?_ ?_
  case owes =>
    simp only [List.take_succ_cons, List.take_zero]
    refine .cons (owes_value fun q u lh => ⟨wants_free rfl, .agg #[.slice yA mA eA, .slice yB mB eB, .slice yM mM eM, .slice yP mP eP], by have e6 : q.tmps.getD 6 undef = .pointer (some ⟨w3.heap.size, 0, none⟩) := lh.old 6 rfl; obtain ⟨p0, p1, p2, p3⟩ := Y4.out.below lh.below; simp [execOp, Act.eval, e6, p0, p1, p2, p3, go_sem], rfl⟩) ?_
    refine .cons (owes_move (.tmp 7) (.inl rfl) fun q u lh => ⟨wants_free rfl, lh.old 7 rfl⟩) ?_
    refine .cons (owes_value fun q u lh => ⟨wants_free rfl, .bool D1, by have e15 : q.tmps.getD 15 undef = .int .i64 E := lh.dep 1 rfl; simp [execOp, Act.eval, e15, HD1.out, go_sem], rfl⟩) ?_
    refine .cons (owes_move (.tmp 16) (.inl rfl) fun q u lh => ⟨wants_free rfl, lh.dep 2 rfl⟩) ?_
    refine .cons (owes_when 3 true D1 (.agg #[.slice aA nA cA, .slice aB nB cB, .slice aM nM cM, .slice aP nP cP]) rfl rfl rfl rfl fun hg q u lh => by have e2 : q.tmps.getD 2 undef = .pointer (some ⟨w.heap.size, 0, none⟩) := lh.old 2 rfl; obtain ⟨p0, p1, p2, p3⟩ := X4.out.below lh.below; simp [execOp, Act.eval, e2, p0, p1, p2, p3, go_sem]) ?_
    refine .cons (owes_when 3 true D1 (.slice a n c) rfl rfl rfl rfl fun hg q u lh => by have e1 : q.tmps.getD 1 undef = .slice a n c := lh.old 1 rfl; simp [execOp, Act.eval, e1, go_sem]) ?_
    refine .cons (owes_when_call 3 true D1 (.bool F) rfl rfl rfl rfl 20 Try.func20 (by kernel_rfl) (by kernel_rfl) [.tmp 18, .tmp 19] #[27, 23] rfl fun hg q u lh => by have e18 : q.tmps.getD 18 undef = .agg #[.slice aA nA cA, .slice aB nB cB, .slice aM nM cM, .slice aP nP cP] := (lh.dep 4 rfl) hg; have e19 : q.tmps.getD 19 undef = .slice a n c := (lh.dep 5 rfl) hg; show Calls Try.prog 20 #[q.tmps.getD 18 undef, q.tmps.getD 19 undef] u _; rw [e18, e19]; exact FT.out u (B4.out.trans (lh.below.mono B4.out.size))) ?_
    refine .cons (owes_and 17 20 3 6 D1 F rfl rfl rfl rfl rfl rfl rfl rfl (congrArg (fun b => Fact.is (.bool b)) HRR.out.symm)) ?_
    exact .nil _
  · intro q u hb hsz hdf hold hfact
    obtain ⟨v18, e18⟩ : ∃ v, q.tmps.getD 18 undef = v := ⟨_, rfl⟩
    obtain ⟨v19, e19⟩ : ∃ v, q.tmps.getD 19 undef = v := ⟨_, rfl⟩
    obtain ⟨v20, e20⟩ : ∃ v, q.tmps.getD 20 undef = v := ⟨_, rfl⟩
    have hgu : u.heap[w.heap.size + 1]? = some (.cells #[.slice none 0 0, .slice none 0 0, .slice none 0 0, .slice none 0 0] 27 (0, 0)) := (hb.block _ G4.out.2).trans G4.out.1
    have RR : Hid ((R = true → NewBk (u.setRow (w.heap.size + 1) #[.slice yA mA eA, .slice yB mB eB, .slice yM mM eM, .slice yP mP eP]) w.heap.size ⟨yA, mA, eA, yB, mB, eB, yM, mM, eM, yP, mP, eP⟩ Q) ∧ Below w.heap.size w (u.setRow (w.heap.size + 1) #[.slice yA mA eA, .slice yB mB eB, .slice yM mM eM, .slice yP mP eP])) := ⟨fun hr => (((K4.out hr).below hb).kept (fun k hk => setRow_other u (w.heap.size + 1) k _ (by have hk : w2.heap.size ≤ k := hk; have := Z4.out; omega))).base (by have := Z4.out; omega), Below.setRow (B4.out.trans (hb.mono B4.out.size)) (by omega) _⟩
    have D : Hid (Box4 (u.setRow (w.heap.size + 1) #[.slice yA mA eA, .slice yB mB eB, .slice yM mM eM, .slice yP mP eP]) (w.heap.size + 1) ⟨yA, mA, eA, yB, mB, eB, yM, mM, eM, yP, mP, eP⟩) := box_set hgu ⟨yA, mA, eA, yB, mB, eB, yM, mM, eM, yP, mP, eP⟩
    obtain rfl := frame_puts hsz hdf [14, 15, 16, 17, 18, 19, 20, 21] hold [(14, Value.agg #[.slice yA mA eA, .slice yB mB eB, .slice yM mM eM, .slice yP mP eP]), (15, Value.int .i64 E), (16, Value.bool D1), (17, Value.bool D1), (18, v18), (19, v19), (20, v20), (21, Value.bool R)] ⟨hfact 0 (by decide), hfact 1 (by decide), hfact 2 (by decide), hfact 3 (by decide), e18, e19, e20, hfact 7 (by decide), trivial⟩ rfl
    clear hsz hdf hold hfact hb
    simp only [List.drop_succ_cons, List.drop_zero, TailWp, LateWp, List.take_succ_cons, List.take_zero, List.getD_cons_zero, List.getD_cons_succ]
    simp only [puts, Act.put, List.setIfInBounds_toArray, List.set_cons_zero, List.set_cons_succ]
    refine wp_store_row 27 (.tmp 4) (.tmp 14) rfl (w.heap.size + 1) #[.slice yA mA eA, .slice yB mB eB, .slice yM mM eM, .slice yP mP eP] rfl rfl _ _ hgu booksSize (by simp) (by simp [Value.oneCell']) ?_
    refine wp_assign _ rfl ?_
    clear hgu
    generalize u.setRow (w.heap.size + 1) #[.slice yA mA eA, .slice yB mB eB, .slice yM mM eM, .slice yP mP eP] = wf at RR D ⊢
    obtain ⟨d0, d1, d2, d3⟩ := D.out
    go_wp2
    exact bodyPost_ret (v := .tuple #[BA.val ⟨yA, mA, eA, yB, mB, eB, yM, mM, eM, yP, mP, eP⟩, .bool R]) (by simp [results, Try.results28, d0, d1, d2, d3, go_sem]) rfl (HE.out _ _ RR.out)
  · intro q u hb hsz hdf hold hfact
    obtain ⟨v18, e18⟩ : ∃ v, q.tmps.getD 18 undef = v := ⟨_, rfl⟩
    obtain ⟨v19, e19⟩ : ∃ v, q.tmps.getD 19 undef = v := ⟨_, rfl⟩
    obtain ⟨v20, e20⟩ : ∃ v, q.tmps.getD 20 undef = v := ⟨_, rfl⟩
    obtain ⟨v21, e21⟩ : ∃ v, q.tmps.getD 21 undef = v := ⟨_, rfl⟩
    have f20 : (D1 == true) = true → v20 = .bool F := fun hd => by rw [← e20]; exact hfact 6 (by decide) (by decide) hd
    have hgu : u.heap[w.heap.size + 1]? = some (.cells #[.slice none 0 0, .slice none 0 0, .slice none 0 0, .slice none 0 0] 27 (0, 0)) := (hb.block _ G4.out.2).trans G4.out.1
    have RR : Hid ((R = true → NewBk (u.setRow (w.heap.size + 1) #[.slice yA mA eA, .slice yB mB eB, .slice yM mM eM, .slice yP mP eP]) w.heap.size ⟨yA, mA, eA, yB, mB, eB, yM, mM, eM, yP, mP, eP⟩ Q) ∧ Below w.heap.size w (u.setRow (w.heap.size + 1) #[.slice yA mA eA, .slice yB mB eB, .slice yM mM eM, .slice yP mP eP])) := ⟨fun hr => (((K4.out hr).below hb).kept (fun k hk => setRow_other u (w.heap.size + 1) k _ (by have hk : w2.heap.size ≤ k := hk; have := Z4.out; omega))).base (by have := Z4.out; omega), Below.setRow (B4.out.trans (hb.mono B4.out.size)) (by omega) _⟩
    have D : Hid (Box4 (u.setRow (w.heap.size + 1) #[.slice yA mA eA, .slice yB mB eB, .slice yM mM eM, .slice yP mP eP]) (w.heap.size + 1) ⟨yA, mA, eA, yB, mB, eB, yM, mM, eM, yP, mP, eP⟩) := box_set hgu ⟨yA, mA, eA, yB, mB, eB, yM, mM, eM, yP, mP, eP⟩
    obtain rfl := frame_puts hsz hdf [14, 15, 16, 17, 18, 19, 20, 21] hold [(14, Value.agg #[.slice yA mA eA, .slice yB mB eB, .slice yM mM eM, .slice yP mP eP]), (15, Value.int .i64 E), (16, Value.bool D1), (17, Value.bool D1), (18, v18), (19, v19), (20, v20), (21, v21)] ⟨hfact 0 (by decide) (by decide), hfact 1 (by decide) (by decide), hfact 2 (by decide) (by decide), hfact 3 (by decide) (by decide), e18, e19, e20, e21, trivial⟩ rfl
    clear hsz hdf hold hfact hb
    simp only [List.drop_succ_cons, List.drop_zero, TailWp, LateWp, List.take_succ_cons, List.take_zero, List.getD_cons_zero, List.getD_cons_succ]
    simp only [puts, Act.put, List.setIfInBounds_toArray, List.set_cons_zero, List.set_cons_succ]
    refine wp_store_row 27 (.tmp 4) (.tmp 14) rfl (w.heap.size + 1) #[.slice yA mA eA, .slice yB mB eB, .slice yM mM eM, .slice yP mP eP] rfl rfl _ _ hgu booksSize (by simp) (by simp [Value.oneCell']) ?_
    refine wp_value (.bool R) (by
      rw [← HRR.out]
      cases D1 with
      | false => simp [execOp, Act.eval, go_sem]
      | true => rw [f20 rfl]; simp [execOp, Act.eval, go_sem]) ?_
    simp only [Act.put, List.setIfInBounds_toArray, List.set_cons_zero, List.set_cons_succ]
    clear f20
    refine wp_assign _ rfl ?_
    clear hgu
    generalize u.setRow (w.heap.size + 1) #[.slice yA mA eA, .slice yB mB eB, .slice yM mM eM, .slice yP mP eP] = wf at RR D ⊢
    obtain ⟨d0, d1, d2, d3⟩ := D.out
    go_wp2
    exact bodyPost_ret (v := .tuple #[BA.val ⟨yA, mA, eA, yB, mB, eB, yM, mM, eM, yP, mP, eP⟩, .bool R]) (by simp [results, Try.results28, d0, d1, d2, d3, go_sem]) rfl (HE.out _ _ RR.out)

/-- Facts: what Goes answered, whatever the books; some books; a variable for books. -/
def Fact.goes (q : Bool) : Fact := ⟨fun _ v => ∃ y : BA, v = .tuple #[y.val, .bool q], fun _ _ _ _ h => h⟩
def Fact.any4 : Fact := ⟨fun _ v => ∃ y : BA, v = y.val, fun _ _ _ _ h => h⟩
def Fact.gvar (B : Nat) : Fact := ⟨fun w v => ∃ z : Nat, v = .pointer (some ⟨z, 0, none⟩) ∧ B ≤ z ∧ w.heap[z]? = some (.cells #[.slice none 0 0, .slice none 0 0, .slice none 0 0, .slice none 0 0] 27 (0, 0)), fun w w' v hb ⟨z, h1, h2, h3⟩ => ⟨z, h1, h2, (hb.block z (lt_of_block h3)).trans h3⟩⟩
theorem goes_fact {f : FuncId} {args : Array Value} {w : World} {b : Bks} {L : List P7} {q : Bool} (hq : goesB b L = q) (h : Calls Try.prog f args w (GoesEnd w b L)) :
    Calls Try.prog f args w fun e w' => ∃ v, e = .returned v ∧ Below w.heap.size w w' ∧ (Fact.goes q).1 w' v :=
  h.mono fun e w' ⟨y, h1, _, h3⟩ => ⟨_, h1, h3, y, by rw [hq]⟩

set_option maxHeartbeats 16000000 in
set_option maxRecDepth 100000 in
theorem refNext_any (x : BA) (b : Bks) (a : Option Addr) (n c : Nat) (L : List P7) (t : Int) (w : World) (hk : Bk w x b) (gd : Good b) (h : PGood w a n c L) (hm : n ≤ 100000) (hq : L.Pairwise QR) :
    Calls Try.prog 10 #[x.val, .slice a n c, .int .i64 t] w fun e w' => e = .returned (.tuple #[((nextP b L t).getD p70).val, .bool (nextP b L t).isSome]) ∧ Below w.heap.size w w' := by
  have MY := fun u (hu : Below w.heap.size w u) => refVMay_any a n c L t u (h.below hu) hm hq
  have GO := fun (a' : Option Addr) (c' : Nat) (p : P7) u (hu : Below w.heap.size w u) (hg : PGood u a' 1 c' [p]) => refGoes_any x b a' 1 c' [p] u (hk.below hu) gd hg
  have HFIND : Hid (∀ k, k < (vMay L t).length → (∀ j, j < k → goesB b [(vMay L t).getD j p70] = false) → goesB b [(vMay L t).getD k p70] = true → nextP b L t = some ((vMay L t).getD k p70)) := fun k h1 h2 h3 => find_here (f := fun p => goesB b [p]) h1 h2 h3
  have HNONE : Hid ((∀ j, j < (vMay L t).length → goesB b [(vMay L t).getD j p70] = false) → nextP b L t = none) := fun h => find_nothing (f := fun p => goesB b [p]) (d := p70) h
  have hmx : (vMay L t).length ≤ 9223372036854775000 := by have h1 := Nat.le_trans (sel_len (mayK (vReady L t)) (vReady L t)) (sel_len (readyK t) L); have h2 := h.len; have h3 : (vMay L t).length ≤ L.length := h1; omega
  unfold PEnd at MY
  generalize vMay L t = M at MY HFIND HNONE hmx
  obtain ⟨m, hml⟩ : ∃ m, M.length = m := ⟨_, rfl⟩
  rw [hml] at HFIND HNONE MY hmx
  have HLM : Hid (m = M.length) := hml.symm
  generalize nextP b L t = N at HFIND HNONE ⊢
  clear hml
  obtain ⟨aA, nA, cA, aB, nB, cB, aM, nM, cM, aP, nP, cP⟩ := x
  obtain ⟨w2, hw2⟩ : ∃ w2, w2 = (w.alloc (.cells #[.slice aA nA cA, .slice aB nB cB, .slice aM nM cM, .slice aP nP cP] 27)).alloc (.cells #[.int .i64 0, .int .i64 0, .int .i64 0, .int .i64 0, .int .i64 0, .int .i64 0, .int .i64 0] 31) := ⟨_, rfl⟩
  have B2 : Hid (Below w.heap.size w w2) := by rw [hw2]; exact (box_below _ _).alloc (box_below _ _).size _
  have X2 : Hid (Box4 w2 w.heap.size ⟨aA, nA, cA, aB, nB, cB, aM, nM, cM, aP, nP, cP⟩) := by rw [hw2]; exact (Box4.new w ⟨aA, nA, cA, aB, nB, cB, aM, nM, cM, aP, nP, cP⟩ _ _).below (box_below _ _)
  have P2 : Hid (PBox w2 (w.heap.size + 1) p70) := by
    rw [hw2]
    have := PBox.new (w.alloc (.cells #[.slice aA nA cA, .slice aB nB cB, .slice aM nM cM, .slice aP nP cP] 27)) p70
    rw [size_alloc] at this
    exact this
  have MY := MY w2 B2.out
  have GOT : Hid (∀ (a' : Option Addr) (c' : Nat) (p : P7) u, Below w.heap.size w u → PGood u a' 1 c' [p] → Calls Try.prog 28 #[.agg #[.slice aA nA cA, .slice aB nB cB, .slice aM nM cM, .slice aP nP cP], .slice a' 1 c'] u (GoesEnd u b [p])) := GO
  have HMX : Hid (m ≤ 9223372036854775000) := hmx
  clear hk gd h hm hq GO hmx
  go_enter Try.func10, Try.ntmps10
  go_upto_region 1 with fail
  rw [← hw2]
  clear hw2
  go_wp2_with fail
  go_at_call 19
  refine MY.mono ?_
  rintro e w3 ⟨a1, c1, rfl, hg, _, hb⟩
  have B3 : Hid (Below w.heap.size w w3) := B2.out.trans (hb.mono B2.out.size)
  have X3 : Hid (Box4 w3 w.heap.size ⟨aA, nA, cA, aB, nB, cB, aM, nM, cM, aP, nP, cP⟩) := X2.out.below hb
  have P3 : Hid (PBox w3 (w.heap.size + 1) p70) := P2.out.below hb
  have G3 : Hid (PGood w3 a1 m c1 M) := hg
  clear hb hg MY X2 P2 B2
  go_wp2
  go_loopw [9] (fun i wr => ∃ k : Nat, k ≤ m ∧ i = .int .i64 k ∧ Hid (∀ j, j < k → goesB b [M.getD j p70] = false) ∧ Hid (Below w3.heap.size w3 wr)) (fun i _ => m - (intOf i).toNat)
  case atStart => exact ⟨0, by omega, rfl, fun j hj => by omega, Below.refl _ _⟩
  case round =>
    obtain ⟨k, hk, rfl, HNO, HB⟩ := hrel
    have BW : Hid (Below w.heap.size w wr) := B3.out.trans (HB.out.mono B3.out.size)
    have m63 := HMX.out
    by_cases hlt : k < m
    · have k1 : (k : Int) < (m : Int) := by omega
      obtain ⟨b1, off, rfl, HC⟩ := G3.out.at hlt
      have C0 : Hid (At7 wr b1 (off + k * 7) (M.getD k p70)) := (HC k hlt).below HB.out
      have hcap := G3.out.cap
      have GK : Hid (PGood wr (pcut (some ⟨b1, off, none⟩) c1 k) 1 (c1 - k) [M.getD k p70]) := by
        have h1 := ((G3.out.below HB.out).from k (by omega)).take 1 (by omega)
        have h2 : (M.drop k).take 1 = [M.getD k p70] := by
          rw [List.drop_eq_getElem_cons (by have := HLM.out; omega), List.take_succ_cons, List.take_zero, getD_get (by have := HLM.out; omega)]
        rw [h2] at h1
        exact h1
      have HF := HFIND.out k hlt HNO.out
      have HS : Hid (goesB b [M.getD k p70] = false → ∀ j, j < k + 1 → goesB b [M.getD j p70] = false) := fun h j hj => by
        by_cases hjk : j < k
        · exact HNO.out j hjk
        · obtain rfl : j = k := by omega
          exact h
      generalize M.getD k p70 = y at C0 GK HF HS
      obtain ⟨x0, x1, x2, x3, x4, x5, x6⟩ := y
      obtain ⟨q, hq⟩ : ∃ q, goesB b [(x0, x1, x2, x3, x4, x5, x6)] = q := ⟨_, rfl⟩
      have HQ : Hid (goesB b [(x0, x1, x2, x3, x4, x5, x6)] = q) := hq
      rw [hq] at HF HS
      have HFF : Hid (q = true → N = some (x0, x1, x2, x3, x4, x5, x6)) := HF
      have kw : IntKind.i64.wrap ((k : Int) + 1) = k + 1 := i64_wf (by omega) (by omega)
      have XR : Hid (Box4 wr w.heap.size ⟨aA, nA, cA, aB, nB, cB, aM, nM, cM, aP, nP, cP⟩) := X3.out.below HB.out
      clear hq HF
      go_upto_region 5 with fail
      go_cut [10, 11] from 21 to 30 (fun s f wc => ∃ z : Nat, s = .pointer (some ⟨z, 0, none⟩) ∧ f = .bool (goesB b [(x0, x1, x2, x3, x4, x5, x6)]) ∧ Hid (Below wr.heap.size wr wc))
      case first =>
        refine region_owes_late 11 9 (L := [Fact.is (.agg #[.slice aA nA cA, .slice aB nB cB, .slice aM nM cM, .slice aP nP cP]),
          Fact.is (.slice (some ⟨b1, off, none⟩) m c1),
          Fact.is (.int .i64 k),
          Fact.is (.int .i64 k),
          Fact.is (.int .i64 (k + 1)),
          Fact.is (.slice (pcut (some ⟨b1, off, none⟩) c1 k) 1 (c1 - k)),
          Fact.goes q,
          Fact.goes q,
          Fact.any4,
          Fact.is (.bool q),
          Fact.gvar wr.heap.size])
          (T := [22, 23, 24, 25, 26, 27, 28, 21, 29, 30, 10]) (by kernel_rfl) rfl (Nat.le_of_ble_eq_true rfl) (by kernel_rfl) (by kernel_rfl) (by kernel_rfl) (by kernel_rfl) (by kernel_rfl) rfl ?owes ?_ ?_
        case owes =>
          simp only [List.take_succ_cons, List.take_zero]
          refine .cons (owes_value fun q u lh => ⟨wants_free rfl, .agg #[.slice aA nA cA, .slice aB nB cB, .slice aM nM cM, .slice aP nP cP], by have e3 : q.tmps.getD 3 undef = .pointer (some ⟨w.heap.size, 0, none⟩) := lh.old 3 rfl; obtain ⟨p0, p1, p2, p3⟩ := XR.out.below lh.below; simp [execOp, Act.eval, e3, p0, p1, p2, p3, go_sem], rfl⟩) ?_
          refine .cons (owes_move (.tmp 8) (.inl rfl) fun q u lh => ⟨wants_free rfl, lh.old 8 rfl⟩) ?_
          refine .cons (owes_move (.tmp 9) (.inl rfl) fun q u lh => ⟨wants_free rfl, lh.old 9 rfl⟩) ?_
          refine .cons (owes_move (.tmp 9) (.inl rfl) fun q u lh => ⟨wants_free rfl, lh.old 9 rfl⟩) ?_
          refine .cons (owes_value fun q u lh => ⟨wants_free rfl, .int .i64 (k + 1), by have e25 : q.tmps.getD 25 undef = .int .i64 k := lh.dep 3 rfl; simp [execOp, Act.eval, e25, kw, go_sem], rfl⟩) ?_
          refine .cons (owes_value fun q u lh => ⟨wants_free rfl, .slice (pcut (some ⟨b1, off, none⟩) c1 k) 1 (c1 - k), by have e23 : q.tmps.getD 23 undef = .slice (some ⟨b1, off, none⟩) m c1 := lh.dep 1 rfl; have e24 : q.tmps.getD 24 undef = .int .i64 k := lh.dep 2 rfl; have e26 : q.tmps.getD 26 undef = .int .i64 (k + 1) := lh.dep 4 rfl; have z1 : (k : Int) + 1 ≤ c1 := (by omega); have z2 : ((k : Int) + 1).toNat = k + 1 := (by omega); have z3 : (k : Int) ≤ (k : Int) + 1 := (by omega); have z4 : k + 1 - k = 1 := (by omega); simp [execOp, Act.eval, e23, e24, e26, z1, z2, z3, z4, pcut, go_sem], rfl⟩) ?_
          refine .cons (owes_call 28 Try.func28 (by kernel_rfl) (by kernel_rfl) [.tmp 22, .tmp 27] #[27, 23] rfl fun q u lh => ⟨wants_free rfl, by have e22 : q.tmps.getD 22 undef = .agg #[.slice aA nA cA, .slice aB nB cB, .slice aM nM cM, .slice aP nP cP] := lh.dep 0 rfl; have e27 : q.tmps.getD 27 undef = .slice (pcut (some ⟨b1, off, none⟩) c1 k) 1 (c1 - k) := lh.dep 5 rfl; show Calls Try.prog 28 #[q.tmps.getD 22 undef, q.tmps.getD 27 undef] u _; rw [e22, e27]; exact goes_fact HQ.out (GOT.out _ _ _ u (BW.out.trans (lh.below.mono BW.out.size)) (GK.out.below lh.below))⟩) ?_
          refine .cons (owes_move (.tmp 28) (.inl rfl) fun q u lh => ⟨wants_free rfl, lh.dep 6 rfl⟩) ?_
          refine .cons (owes_value fun q1 u lh => by obtain ⟨y, e21⟩ := lh.dep 7 rfl; have e21 : q1.tmps[21]?.getD undef = _ := (Array.getD_eq_getD_getElem? ..).symm.trans e21; exact ⟨wants_free rfl, y.val, by simp [execOp, Act.eval, e21, go_sem], y, rfl⟩) ?_
          refine .cons (owes_value fun q1 u lh => by obtain ⟨y, e21⟩ := lh.dep 7 rfl; have e21 : q1.tmps[21]?.getD undef = _ := (Array.getD_eq_getD_getElem? ..).symm.trans e21; exact ⟨wants_free rfl, .bool q, by simp [execOp, Act.eval, e21, go_sem], rfl⟩) ?_
          refine .cons (owes_make fun q1 u lh => ⟨wants_free rfl, .pointer (some ⟨u.heap.size, 0, none⟩), u.alloc (.cells #[.slice none 0 0, .slice none 0 0, .slice none 0 0, .slice none 0 0] 27), by simp [execOp, Act.eval, go_sem], box_below _ _, ⟨_, rfl, lh.below.size, heap_alloc_new u _⟩⟩) ?_
          exact .nil _
        · intro q1 u hb hsz hdf hold hfact
          obtain ⟨y, ec⟩ : (Fact.goes q).1 u (q1.tmps.getD 28 undef) := hfact 6 (by decide)
          obtain ⟨yy, em⟩ : (Fact.goes q).1 u (q1.tmps.getD 21 undef) := hfact 7 (by decide)
          obtain ⟨yx, ex⟩ : (Fact.any4).1 u (q1.tmps.getD 29 undef) := hfact 8 (by decide)
          obtain ⟨z, ez, hz, hzc⟩ : (Fact.gvar wr.heap.size).1 u (q1.tmps.getD 10 undef) := hfact 10 (by decide)
          obtain ⟨gA, hA, iA, gB, hB, iB, gM, hM, iM, gP, hP, iP⟩ := yx
          have BB : Hid (Below wr.heap.size wr (u.setRow z #[.slice gA hA iA, .slice gB hB iB, .slice gM hM iM, .slice gP hP iP])) := Below.setRow hb hz _
          obtain rfl := frame_puts hsz hdf [22, 23, 24, 25, 26, 27, 28, 21, 29, 30, 10] hold [(22, Value.agg #[.slice aA nA cA, .slice aB nB cB, .slice aM nM cM, .slice aP nP cP]), (23, Value.slice (some ⟨b1, off, none⟩) m c1), (24, Value.int .i64 k), (25, Value.int .i64 k), (26, Value.int .i64 (k + 1)), (27, Value.slice (pcut (some ⟨b1, off, none⟩) c1 k) 1 (c1 - k)), (28, Value.tuple #[y.val, .bool q]), (21, Value.tuple #[yy.val, .bool q]), (29, BA.val ⟨gA, hA, iA, gB, hB, iB, gM, hM, iM, gP, hP, iP⟩), (30, Value.bool q), (10, Value.pointer (some ⟨z, 0, none⟩))] ⟨hfact 0 (by decide), hfact 1 (by decide), hfact 2 (by decide), hfact 3 (by decide), hfact 4 (by decide), hfact 5 (by decide), ec, em, ex, hfact 9 (by decide), ez, trivial⟩ rfl
          clear hsz hdf hold hfact
          simp only [List.drop_succ_cons, List.drop_zero, TailWp, LateWp, List.take_succ_cons, List.take_zero, List.getD_cons_zero, List.getD_cons_succ]
          simp only [puts, Act.put, List.setIfInBounds_toArray, List.set_cons_zero, List.set_cons_succ]
          refine wp_store_row 27 (.tmp 10) (.tmp 29) rfl z #[.slice gA hA iA, .slice gB hB iB, .slice gM hM iM, .slice gP hP iP] rfl rfl _ _ hzc booksSize (by simp) (by simp [Value.oneCell']) ?_
          refine wp_assign _ rfl ?_
          generalize u.setRow z #[.slice gA hA iA, .slice gB hB iB, .slice gM hM iM, .slice gP hP iP] = wf at BB ⊢
          clear hb hzc kw k1
          go_wp2
          go_meet
          exact ⟨z, rfl, congrArg Value.bool HQ.out.symm, BB⟩
        · intro q1 u hb hsz hdf hold hfact
          obtain ⟨y, ec⟩ : (Fact.goes q).1 u (q1.tmps.getD 28 undef) := hfact 6 (by decide) (by decide)
          obtain ⟨yy, em⟩ : (Fact.goes q).1 u (q1.tmps.getD 21 undef) := hfact 7 (by decide) (by decide)
          obtain ⟨yx, ex⟩ : (Fact.any4).1 u (q1.tmps.getD 29 undef) := hfact 8 (by decide) (by decide)
          obtain ⟨z, ez, hz, hzc⟩ : (Fact.gvar wr.heap.size).1 u (q1.tmps.getD 10 undef) := hfact 10 (by decide) (by decide)
          obtain ⟨ve, ee⟩ : ∃ v, q1.tmps.getD 30 undef = v := ⟨_, rfl⟩
          obtain ⟨gA, hA, iA, gB, hB, iB, gM, hM, iM, gP, hP, iP⟩ := yx
          have BB : Hid (Below wr.heap.size wr (u.setRow z #[.slice gA hA iA, .slice gB hB iB, .slice gM hM iM, .slice gP hP iP])) := Below.setRow hb hz _
          obtain rfl := frame_puts hsz hdf [22, 23, 24, 25, 26, 27, 28, 21, 29, 30, 10] hold [(22, Value.agg #[.slice aA nA cA, .slice aB nB cB, .slice aM nM cM, .slice aP nP cP]), (23, Value.slice (some ⟨b1, off, none⟩) m c1), (24, Value.int .i64 k), (25, Value.int .i64 k), (26, Value.int .i64 (k + 1)), (27, Value.slice (pcut (some ⟨b1, off, none⟩) c1 k) 1 (c1 - k)), (28, Value.tuple #[y.val, .bool q]), (21, Value.tuple #[yy.val, .bool q]), (29, BA.val ⟨gA, hA, iA, gB, hB, iB, gM, hM, iM, gP, hP, iP⟩), (30, ve), (10, Value.pointer (some ⟨z, 0, none⟩))] ⟨hfact 0 (by decide) (by decide), hfact 1 (by decide) (by decide), hfact 2 (by decide) (by decide), hfact 3 (by decide) (by decide), hfact 4 (by decide) (by decide), hfact 5 (by decide) (by decide), ec, em, ex, ee, ez, trivial⟩ rfl
          clear hsz hdf hold hfact
          simp only [List.drop_succ_cons, List.drop_zero, TailWp, LateWp, List.take_succ_cons, List.take_zero, List.getD_cons_zero, List.getD_cons_succ]
          simp only [puts, Act.put, List.setIfInBounds_toArray, List.set_cons_zero, List.set_cons_succ]
          refine wp_store_row 27 (.tmp 10) (.tmp 29) rfl z #[.slice gA hA iA, .slice gB hB iB, .slice gM hM iM, .slice gP hP iP] rfl rfl _ _ hzc booksSize (by simp) (by simp [Value.oneCell']) ?_
          refine wp_value (.bool q) (by simp [execOp, Act.eval, go_sem]) ?_
          simp only [Act.put, List.setIfInBounds_toArray, List.set_cons_zero, List.set_cons_succ]
          refine wp_assign _ rfl ?_
          generalize u.setRow z #[.slice gA hA iA, .slice gB hB iB, .slice gM hM iM, .slice gP hP iP] = wf at BB ⊢
          clear hb hzc kw k1
          go_wp2
          go_meet
          exact ⟨z, rfl, congrArg Value.bool HQ.out.symm, BB⟩
      case rest =>
      obtain ⟨z, hs, hf, BC⟩ := hcut
      rw [HQ.out] at hf
      subst hs hf
      obtain ⟨w6, rfl⟩ : ∃ z, z = wc := ⟨wc, rfl⟩
      have B6 : Hid (Below w3.heap.size w3 w6) := HB.out.trans (BC.out.mono HB.out.size)
      have P6 : Hid (PBox w6 (w.heap.size + 1) p70) := P3.out.below B6.out
      have C6 : Hid (At7 w6 b1 (off + k * 7) (x0, x1, x2, x3, x4, x5, x6)) := C0.out.below BC.out
      clear BC GK XR BW HB C0
      cases q with
      | true =>
        have hn : N = some (x0, x1, x2, x3, x4, x5, x6) := HFF.out rfl
        have RR : Hid (N = some (x0, x1, x2, x3, x4, x5, x6) ∧ Below w.heap.size w (w6.setRow (w.heap.size + 1) #[.int .i64 x0, .int .i64 x1, .int .i64 x2, .int .i64 x3, .int .i64 x4, .int .i64 x5, .int .i64 x6])) := ⟨hn, Below.setRow (B3.out.trans (B6.out.mono B3.out.size)) (by omega) _⟩
        have Y : Hid (PBox (w6.setRow (w.heap.size + 1) #[.int .i64 x0, .int .i64 x1, .int .i64 x2, .int .i64 x3, .int .i64 x4, .int .i64 x5, .int .i64 x6]) (w.heap.size + 1) (x0, x1, x2, x3, x4, x5, x6)) := P6.out.set (x0, x1, x2, x3, x4, x5, x6)
        obtain ⟨r0, r1, r2, r3, r4, r5, r6⟩ := C6.out
        simp only [P7.id, P7.fr, P7.to, P7.am, P7.cl, P7.st, P7.ti] at r0 r1 r2 r3 r4 r5 r6
        clear hn HFF HS HNO kw
        go_wp2_with (refine store_pay rfl _ _ rfl (w.heap.size + 1) (x0, x1, x2, x3, x4, x5, x6) rfl rfl p70 P6.out ?_)
        simp only [P7.id, P7.fr, P7.to, P7.am, P7.cl, P7.st, P7.ti]
        clear r0 r1 r2 r3 r4 r5 r6 P6
        generalize w6.setRow (w.heap.size + 1) #[.int .i64 x0, .int .i64 x1, .int .i64 x2, .int .i64 x3, .int .i64 x4, .int .i64 x5, .int .i64 x6] = wf at RR Y ⊢
        obtain ⟨d0, d1, d2, d3, d4, d5, d6⟩ := Y.out.at7
        go_wp2
        exact bodyPost_ret (v := .tuple #[.agg #[.int .i64 x0, .int .i64 x1, .int .i64 x2, .int .i64 x3, .int .i64 x4, .int .i64 x5, .int .i64 x6], .bool true]) (by simp [results, Try.results10, d0, d1, d2, d3, d4, d5, d6, go_sem]) rfl ⟨by rw [RR.out.1]; rfl, RR.out.2⟩
      | false =>
        have HN2 : Hid (∀ j, j < k + 1 → goesB b [M.getD j p70] = false) := HS.out rfl
        clear HS HFF HNO C6 P6
        go_wp2
        go_roundw
        case rel => exact ⟨k + 1, by omega, by go_num, HN2, B6⟩
        case measure => simp [intOf]; omega
    · obtain rfl : k = m := by omega
      have hn : N = none := HNONE.out HNO.out
      have PR : Hid (PBox wr (w.heap.size + 1) p70) := P3.out.below HB.out
      have RR : Hid (N = none ∧ Below w.heap.size w (wr.setRow (w.heap.size + 1) #[.int .i64 0, .int .i64 0, .int .i64 0, .int .i64 0, .int .i64 0, .int .i64 0, .int .i64 0])) := ⟨hn, Below.setRow BW.out (by omega) _⟩
      have Y : Hid (PBox (wr.setRow (w.heap.size + 1) #[.int .i64 0, .int .i64 0, .int .i64 0, .int .i64 0, .int .i64 0, .int .i64 0, .int .i64 0]) (w.heap.size + 1) p70) := PR.out.set p70
      clear hn HNO BW HB
      go_wp2_with (refine store_pay rfl _ _ rfl (w.heap.size + 1) p70 rfl rfl p70 PR.out ?_)
      clear PR
      show _
      generalize hwf : wr.setRow (w.heap.size + 1) #[.int .i64 0, .int .i64 0, .int .i64 0, .int .i64 0, .int .i64 0, .int .i64 0, .int .i64 0] = wf at RR Y
      have e70 : wr.setRow (w.heap.size + 1) #[.int .i64 p70.id, .int .i64 p70.fr, .int .i64 p70.to, .int .i64 p70.am, .int .i64 p70.cl, .int .i64 p70.st, .int .i64 p70.ti] = wf := hwf
      rw [e70]
      clear hwf e70
      obtain ⟨d0, d1, d2, d3, d4, d5, d6⟩ := Y.out.at7
      simp only [p70, P7.id, P7.fr, P7.to, P7.am, P7.cl, P7.st, P7.ti] at d0 d1 d2 d3 d4 d5 d6
      go_wp2
      exact bodyPost_ret (v := .tuple #[.agg #[.int .i64 0, .int .i64 0, .int .i64 0, .int .i64 0, .int .i64 0, .int .i64 0, .int .i64 0], .bool false]) (by simp [results, Try.results10, d0, d1, d2, d3, d4, d5, d6, go_sem]) rfl ⟨by rw [RR.out.1]; rfl, RR.out.2⟩

end Go.Proofs.Ytgcofidkgohogaa
