/-
  giroref18: Goes, Next: the document's answer.
-/
import Derived.Test.YtajmbcbochjfmaaFreeSpec
import Derived.Test.YtajmbcbochjfmaaPostAll
import Derived.Test.YtajmbcbochjfmaaViewAll
import Derived.Test.YtajmbcbochjfmaaRowRefs
import Derived.Test.YtajmbcbochjfmaaFitsRefAll
import Derived.Test.YtajmbcbochjfmaaFactsLate
import Derived.Deep.CutRange
namespace Go.Proofs.Ytajmbcbochjfmaa
open Go.RowKit
set_option linter.unusedVariables false
set_option linter.unusedSimpArgs false

theorem postR_good {b : Bks} (g : Good b) (L : List P7) : Good (postR b L) := by
  unfold postR
  by_cases h : (allB b L && booksB (postB b L)) = true
  · rw [if_pos h]
    rw [Bool.and_eq_true] at h
    exact booksB_yes.1 h.2
  · rw [if_neg h]
    exact g
theorem goesB_eq (b : Bks) (L : List P7) : goesB b L = ((postE b L == 0) && fitsB b L) := by
  unfold goesB
  rw [Bool.and_comm]
  congr 1
/-- The first that goes; none. -/
theorem find_here {α : Type} {f : α → Bool} {d : α} : ∀ {m : List α} {k : Nat}, k < m.length → (∀ j, j < k → f (m.getD j d) = false) → f (m.getD k d) = true → m.find? f = some (m.getD k d) := by
  intro m
  induction m with
  | nil => intro k hk; simp at hk
  | cons x m ih =>
    intro k hk hn hy
    cases k with
    | zero =>
      have hy : f x = true := hy
      simp [hy]
    | succ k =>
      have h0 : f x = false := hn 0 (by omega)
      rw [List.find?_cons, h0]
      exact ih (by simpa using hk) (fun j hj => hn (j + 1) (by omega)) hy
theorem find_nothing {α : Type} {f : α → Bool} {d : α} {m : List α} (h : ∀ j, j < m.length → f (m.getD j d) = false) : m.find? f = none := by
  rw [List.find?_eq_none]
  intro x hx
  obtain ⟨j, hj, rfl⟩ := List.getElem_of_mem hx
  have := h j hj
  simp [List.getD_eq_getElem?_getD, hj] at this
  simpa using this

/-- What Goes leaves. -/
def GoesEnd (w : World) (b : Bks) (L : List P7) (e : Ending) (w' : World) : Prop := ∃ y : BA, e = .returned (.tuple #[y.val, .bool (goesB b L)]) ∧ (goesB b L = true → NewBk w' w.heap.size y (postR b L)) ∧ Below w.heap.size w w'

set_option maxHeartbeats 8000000 in
set_option maxRecDepth 100000 in
theorem refGoes_any (x : BA) (b : Bks) (a : Option Addr) (n c : Nat) (L : List P7) (w : World) (hk : Bk w x b) (gd : Good b) (h : PGood w a n c L) :
    Calls Try.prog 24 #[x.val, .slice a n c] w (GoesEnd w b L) := by
  have PO := fun u (hu : Below w.heap.size w u) => refPost_new x b a n c L u (hk.below hu) gd (h.below hu)
  have FI := fun u (hu : Below w.heap.size w u) => refFFits_any x b a n c L u (hk.below hu) gd (h.below hu)
  unfold RefPostNew at PO
  have HG : Hid (goesB b L = ((postE b L == 0) && fitsB b L)) := goesB_eq b L
  have HE : Hid (∀ (y : BA) (u : World), (goesB b L = true → NewBk u w.heap.size y (postR b L)) ∧ Below w.heap.size w u → GoesEnd w b L (.returned (.tuple #[y.val, .bool (goesB b L)])) u) := fun y u ⟨h2, h3⟩ => ⟨y, rfl, h2, h3⟩
  have HP : Hid (goesB b L = true → postE b L = 0) := fun hh => by unfold goesB at hh; rw [Bool.and_eq_true, decide_eq_true_eq] at hh; exact hh.2
  generalize goesB b L = R at HG HE HP
  generalize postE b L = E at PO HG HP
  generalize fitsB b L = F at FI HG
  generalize postR b L = Q at PO HE
  obtain ⟨D1, hD1⟩ : ∃ D1, (E == 0) = D1 := ⟨_, rfl⟩
  have HD1 : Hid ((E == 0) = D1) := hD1
  rw [hD1] at HG
  have HRR : Hid ((D1 && F) = R) := HG.out.symm
  clear hD1 HG
  obtain ⟨aA, nA, cA, aB, nB, cB, aM, nM, cM, aP, nP, cP⟩ := x
  have FT : Hid (∀ u, Below w.heap.size w u → Calls Try.prog 16 #[.agg #[.slice aA nA cA, .slice aB nB cB, .slice aM nM cM, .slice aP nP cP], .slice a n c] u fun e w' => e = .returned (.bool F) ∧ Below u.heap.size u w') := FI
  obtain ⟨w2, hw2⟩ : ∃ w2, w2 = (w.alloc (.cells #[.slice aA nA cA, .slice aB nB cB, .slice aM nM cM, .slice aP nP cP] 27)).alloc (.cells #[.slice none 0 0, .slice none 0 0, .slice none 0 0, .slice none 0 0] 27) := ⟨_, rfl⟩
  have B2 : Hid (Below w.heap.size w w2) := by rw [hw2]; exact (box_below _ _).alloc (box_below _ _).size _
  have X2 : Hid (Box4 w2 w.heap.size ⟨aA, nA, cA, aB, nB, cB, aM, nM, cM, aP, nP, cP⟩) := by rw [hw2]; exact (Box4.new w ⟨aA, nA, cA, aB, nB, cB, aM, nM, cM, aP, nP, cP⟩ _ _).below (box_below _ _)
  have G2 : Hid (w2.heap[w.heap.size + 1]? = some (.cells #[.slice none 0 0, .slice none 0 0, .slice none 0 0, .slice none 0 0] 27 (0, 0)) ∧ w.heap.size + 1 < w2.heap.size) := by
    have := heap_alloc_new (w.alloc (.cells #[.slice aA nA cA, .slice aB nB cB, .slice aM nM cM, .slice aP nP cP] 27)) (.cells #[.slice none 0 0, .slice none 0 0, .slice none 0 0, .slice none 0 0] 27)
    rw [size_alloc] at this
    rw [hw2]
    exact ⟨this, by rw [size_alloc, size_alloc]; omega⟩
  have PO := PO w2 B2.out
  obtain ⟨p0, p1, p2, p3⟩ := X2.out
  replace p0 : w2.cell? ⟨w.heap.size, 0, none⟩ = some (.slice aA nA cA) := p0
  replace p1 : w2.cell? ⟨w.heap.size, 1, none⟩ = some (.slice aB nB cB) := p1
  replace p2 : w2.cell? ⟨w.heap.size, 2, none⟩ = some (.slice aM nM cM) := p2
  replace p3 : w2.cell? ⟨w.heap.size, 3, none⟩ = some (.slice aP nP cP) := p3
  clear FI hk gd h
  go_enter Try.func24, Try.ntmps24
  go_upto_region 1 with fail
  rw [← hw2]
  clear hw2
  go_wp2_with fail
  go_at_call 15
  refine PO.mono ?_
  rintro e w3 ⟨y, rfl, bk, nb, hb⟩
  obtain ⟨yA, mA, eA, yB, mB, eB, yM, mM, eM, yP, mP, eP⟩ := y
  obtain ⟨w4, hw4⟩ : ∃ w4, w4 = w3.alloc (.cells #[.slice yA mA eA, .slice yB mB eB, .slice yM mM eM, .slice yP mP eP] 27) := ⟨_, rfl⟩
  have b4 : Below w3.heap.size w3 w4 := by rw [hw4]; exact box_below _ _
  have b24 : Below w2.heap.size w2 w4 := hb.trans (b4.mono hb.size)
  have B4 : Hid (Below w.heap.size w w4) := B2.out.trans (b24.mono B2.out.size)
  have X4 : Hid (Box4 w4 w.heap.size ⟨aA, nA, cA, aB, nB, cB, aM, nM, cM, aP, nP, cP⟩) := X2.out.below b24
  have G4 : Hid (w4.heap[w.heap.size + 1]? = some (.cells #[.slice none 0 0, .slice none 0 0, .slice none 0 0, .slice none 0 0] 27 (0, 0)) ∧ w.heap.size + 1 < w4.heap.size) := ⟨(b24.block _ G2.out.2).trans G2.out.1, by have := b24.size; have := G2.out.2; omega⟩
  have Y4 : Hid (Box4 w4 w3.heap.size ⟨yA, mA, eA, yB, mB, eB, yM, mM, eM, yP, mP, eP⟩) := by rw [hw4]; exact Box4.new w3 ⟨yA, mA, eA, yB, mB, eB, yM, mM, eM, yP, mP, eP⟩ _ _
  have K4 : Hid (R = true → NewBk w4 w2.heap.size ⟨yA, mA, eA, yB, mB, eB, yM, mM, eM, yP, mP, eP⟩ Q) := fun hr => (nb (HP.out hr)).below b4
  have Z4 : Hid (w.heap.size + 1 < w2.heap.size) := G2.out.2
  clear hb bk nb b4 b24 PO p0 p1 p2 p3 X2 B2 G2
  go_upto_region 2 with fail
  rw [← hw4]
  clear hw4
  refine region_owes_late 8 7 (L := [Fact.is (.agg #[.slice yA mA eA, .slice yB mB eB, .slice yM mM eM, .slice yP mP eP]),
    Fact.is (.int .i64 E),
    Fact.is (.bool D1),
    Fact.is (.bool D1),
    Fact.when (D1 == true) (.agg #[.slice aA nA cA, .slice aB nB cB, .slice aM nM cM, .slice aP nP cP]),
    Fact.when (D1 == true) (.slice a n c),
    Fact.when (D1 == true) (.bool F),
    Fact.is (.bool R)])
    (T := [14, 15, 16, 17, 18, 19, 20, 21]) (by kernel_rfl) rfl (Nat.le_of_ble_eq_true rfl) (by kernel_rfl) (by kernel_rfl) (by kernel_rfl) (by kernel_rfl) (by kernel_rfl) rfl ?owes ?_ ?_
  case owes =>
    simp only [List.take_succ_cons, List.take_zero]
    refine .cons (owes_value fun q u lh => ⟨wants_free rfl, .agg #[.slice yA mA eA, .slice yB mB eB, .slice yM mM eM, .slice yP mP eP], by have e6 : q.tmps.getD 6 undef = .pointer (some ⟨w3.heap.size, 0, none⟩) := lh.old 6 rfl; obtain ⟨p0, p1, p2, p3⟩ := Y4.out.below lh.below; simp [execOp, Act.eval, e6, p0, p1, p2, p3, go_sem], rfl⟩) ?_
    refine .cons (owes_move (.tmp 7) (.inl rfl) fun q u lh => ⟨wants_free rfl, lh.old 7 rfl⟩) ?_
    refine .cons (owes_value fun q u lh => ⟨wants_free rfl, .bool D1, by have e15 : q.tmps.getD 15 undef = .int .i64 E := lh.dep 1 rfl; simp [execOp, Act.eval, e15, HD1.out, go_sem], rfl⟩) ?_
    refine .cons (owes_move (.tmp 16) (.inl rfl) fun q u lh => ⟨wants_free rfl, lh.dep 2 rfl⟩) ?_
    refine .cons (owes_when 3 true D1 (.agg #[.slice aA nA cA, .slice aB nB cB, .slice aM nM cM, .slice aP nP cP]) rfl rfl rfl rfl fun hg q u lh => by have e2 : q.tmps.getD 2 undef = .pointer (some ⟨w.heap.size, 0, none⟩) := lh.old 2 rfl; obtain ⟨p0, p1, p2, p3⟩ := X4.out.below lh.below; simp [execOp, Act.eval, e2, p0, p1, p2, p3, go_sem]) ?_
    refine .cons (owes_when 3 true D1 (.slice a n c) rfl rfl rfl rfl fun hg q u lh => by have e1 : q.tmps.getD 1 undef = .slice a n c := lh.old 1 rfl; simp [execOp, Act.eval, e1, go_sem]) ?_
    refine .cons (owes_when_call 3 true D1 (.bool F) rfl rfl rfl rfl 16 Try.func16 (by kernel_rfl) (by kernel_rfl) [.tmp 18, .tmp 19] #[27, 23] rfl fun hg q u lh => by have e18 : q.tmps.getD 18 undef = .agg #[.slice aA nA cA, .slice aB nB cB, .slice aM nM cM, .slice aP nP cP] := (lh.dep 4 rfl) hg; have e19 : q.tmps.getD 19 undef = .slice a n c := (lh.dep 5 rfl) hg; show Calls Try.prog 16 #[q.tmps.getD 18 undef, q.tmps.getD 19 undef] u _; rw [e18, e19]; exact FT.out u (B4.out.trans (lh.below.mono B4.out.size))) ?_
    refine .cons (owes_and 17 20 3 6 D1 F rfl rfl rfl rfl rfl rfl rfl rfl (congrArg (fun b => Fact.is (.bool b)) HRR.out.symm)) ?_
    exact .nil _
  · intro q u hb hsz hdf hold hfact
    obtain ⟨v18, e18⟩ : ∃ v, q.tmps.getD 18 undef = v := ⟨_, rfl⟩
    obtain ⟨v19, e19⟩ : ∃ v, q.tmps.getD 19 undef = v := ⟨_, rfl⟩
    obtain ⟨v20, e20⟩ : ∃ v, q.tmps.getD 20 undef = v := ⟨_, rfl⟩
    have hgu : u.heap[w.heap.size + 1]? = some (.cells #[.slice none 0 0, .slice none 0 0, .slice none 0 0, .slice none 0 0] 27 (0, 0)) := (hb.block _ G4.out.2).trans G4.out.1
    have RR : Hid ((R = true → NewBk (u.setRow (w.heap.size + 1) #[.slice yA mA eA, .slice yB mB eB, .slice yM mM eM, .slice yP mP eP]) w.heap.size ⟨yA, mA, eA, yB, mB, eB, yM, mM, eM, yP, mP, eP⟩ Q) ∧ Below w.heap.size w (u.setRow (w.heap.size + 1) #[.slice yA mA eA, .slice yB mB eB, .slice yM mM eM, .slice yP mP eP])) := ⟨fun hr => (((K4.out hr).below hb).kept (fun k hk => setRow_other u (w.heap.size + 1) k _ (by have hk : w2.heap.size ≤ k := hk; have := Z4.out; omega))).base (by have := Z4.out; omega), Below.setRow (B4.out.trans (hb.mono B4.out.size)) (by omega) _⟩
    have D : Hid (Box4 (u.setRow (w.heap.size + 1) #[.slice yA mA eA, .slice yB mB eB, .slice yM mM eM, .slice yP mP eP]) (w.heap.size + 1) ⟨yA, mA, eA, yB, mB, eB, yM, mM, eM, yP, mP, eP⟩) := box_set hgu ⟨yA, mA, eA, yB, mB, eB, yM, mM, eM, yP, mP, eP⟩
    obtain rfl := frame_puts hsz hdf [14, 15, 16, 17, 18, 19, 20, 21] hold [(14, Value.agg #[.slice yA mA eA, .slice yB mB eB, .slice yM mM eM, .slice yP mP eP]), (15, Value.int .i64 E), (16, Value.bool D1), (17, Value.bool D1), (18, v18), (19, v19), (20, v20), (21, Value.bool R)] ⟨hfact 0 (by decide), hfact 1 (by decide), hfact 2 (by decide), hfact 3 (by decide), e18, e19, e20, hfact 7 (by decide), trivial⟩ rfl
    clear hsz hdf hold hfact hb
    simp only [List.drop_succ_cons, List.drop_zero, TailWp, LateWp, List.take_succ_cons, List.take_zero, List.getD_cons_zero, List.getD_cons_succ]
    simp only [puts, Act.put, List.setIfInBounds_toArray, List.set_cons_zero, List.set_cons_succ]
    refine wp_store_row 27 (.tmp 4) (.tmp 14) rfl (w.heap.size + 1) #[.slice yA mA eA, .slice yB mB eB, .slice yM mM eM, .slice yP mP eP] rfl rfl _ _ hgu booksSize (by simp) (by simp [Value.oneCell']) ?_
    refine wp_assign _ rfl ?_
    clear hgu
    generalize u.setRow (w.heap.size + 1) #[.slice yA mA eA, .slice yB mB eB, .slice yM mM eM, .slice yP mP eP] = wf at RR D ⊢
    obtain ⟨d0, d1, d2, d3⟩ := D.out
    go_wp2
    exact bodyPost_ret (v := .tuple #[BA.val ⟨yA, mA, eA, yB, mB, eB, yM, mM, eM, yP, mP, eP⟩, .bool R]) (by simp [results, Try.results24, d0, d1, d2, d3, go_sem]) rfl (HE.out _ _ RR.out)
  · intro q u hb hsz hdf hold hfact
    obtain ⟨v18, e18⟩ : ∃ v, q.tmps.getD 18 undef = v := ⟨_, rfl⟩
    obtain ⟨v19, e19⟩ : ∃ v, q.tmps.getD 19 undef = v := ⟨_, rfl⟩
    obtain ⟨v20, e20⟩ : ∃ v, q.tmps.getD 20 undef = v := ⟨_, rfl⟩
    obtain ⟨v21, e21⟩ : ∃ v, q.tmps.getD 21 undef = v := ⟨_, rfl⟩
    have f20 : (D1 == true) = true → v20 = .bool F := fun hd => by rw [← e20]; exact hfact 6 (by decide) (by decide) hd
    have hgu : u.heap[w.heap.size + 1]? = some (.cells #[.slice none 0 0, .slice none 0 0, .slice none 0 0, .slice none 0 0] 27 (0, 0)) := (hb.block _ G4.out.2).trans G4.out.1
    have RR : Hid ((R = true → NewBk (u.setRow (w.heap.size + 1) #[.slice yA mA eA, .slice yB mB eB, .slice yM mM eM, .slice yP mP eP]) w.heap.size ⟨yA, mA, eA, yB, mB, eB, yM, mM, eM, yP, mP, eP⟩ Q) ∧ Below w.heap.size w (u.setRow (w.heap.size + 1) #[.slice yA mA eA, .slice yB mB eB, .slice yM mM eM, .slice yP mP eP])) := ⟨fun hr => (((K4.out hr).below hb).kept (fun k hk => setRow_other u (w.heap.size + 1) k _ (by have hk : w2.heap.size ≤ k := hk; have := Z4.out; omega))).base (by have := Z4.out; omega), Below.setRow (B4.out.trans (hb.mono B4.out.size)) (by omega) _⟩
    have D : Hid (Box4 (u.setRow (w.heap.size + 1) #[.slice yA mA eA, .slice yB mB eB, .slice yM mM eM, .slice yP mP eP]) (w.heap.size + 1) ⟨yA, mA, eA, yB, mB, eB, yM, mM, eM, yP, mP, eP⟩) := box_set hgu ⟨yA, mA, eA, yB, mB, eB, yM, mM, eM, yP, mP, eP⟩
    obtain rfl := frame_puts hsz hdf [14, 15, 16, 17, 18, 19, 20, 21] hold [(14, Value.agg #[.slice yA mA eA, .slice yB mB eB, .slice yM mM eM, .slice yP mP eP]), (15, Value.int .i64 E), (16, Value.bool D1), (17, Value.bool D1), (18, v18), (19, v19), (20, v20), (21, v21)] ⟨hfact 0 (by decide) (by decide), hfact 1 (by decide) (by decide), hfact 2 (by decide) (by decide), hfact 3 (by decide) (by decide), e18, e19, e20, e21, trivial⟩ rfl
    clear hsz hdf hold hfact hb
    simp only [List.drop_succ_cons, List.drop_zero, TailWp, LateWp, List.take_succ_cons, List.take_zero, List.getD_cons_zero, List.getD_cons_succ]
    simp only [puts, Act.put, List.setIfInBounds_toArray, List.set_cons_zero, List.set_cons_succ]
    refine wp_store_row 27 (.tmp 4) (.tmp 14) rfl (w.heap.size + 1) #[.slice yA mA eA, .slice yB mB eB, .slice yM mM eM, .slice yP mP eP] rfl rfl _ _ hgu booksSize (by simp) (by simp [Value.oneCell']) ?_
    refine wp_value (.bool R) (by
      rw [← HRR.out]
      cases D1 with
      | false => simp [execOp, Act.eval, go_sem]
      | true => rw [f20 rfl]; simp [execOp, Act.eval, go_sem]) ?_
    simp only [Act.put, List.setIfInBounds_toArray, List.set_cons_zero, List.set_cons_succ]
    clear f20
    refine wp_assign _ rfl ?_
    clear hgu
    generalize u.setRow (w.heap.size + 1) #[.slice yA mA eA, .slice yB mB eB, .slice yM mM eM, .slice yP mP eP] = wf at RR D ⊢
    obtain ⟨d0, d1, d2, d3⟩ := D.out
    go_wp2
    exact bodyPost_ret (v := .tuple #[BA.val ⟨yA, mA, eA, yB, mB, eB, yM, mM, eM, yP, mP, eP⟩, .bool R]) (by simp [results, Try.results24, d0, d1, d2, d3, go_sem]) rfl (HE.out _ _ RR.out)

/-- Facts: what Goes answered, whatever the books; some books; a variable for books. -/
def Fact.goes (q : Bool) : Fact := ⟨fun _ v => ∃ y : BA, v = .tuple #[y.val, .bool q], fun _ _ _ _ h => h⟩
def Fact.any4 : Fact := ⟨fun _ v => ∃ y : BA, v = y.val, fun _ _ _ _ h => h⟩
def Fact.gvar (B : Nat) : Fact := ⟨fun w v => ∃ z : Nat, v = .pointer (some ⟨z, 0, none⟩) ∧ B ≤ z ∧ w.heap[z]? = some (.cells #[.slice none 0 0, .slice none 0 0, .slice none 0 0, .slice none 0 0] 27 (0, 0)), fun w w' v hb ⟨z, h1, h2, h3⟩ => ⟨z, h1, h2, (hb.block z (lt_of_block h3)).trans h3⟩⟩
theorem goes_fact {f : FuncId} {args : Array Value} {w : World} {b : Bks} {L : List P7} {q : Bool} (hq : goesB b L = q) (h : Calls Try.prog f args w (GoesEnd w b L)) :
    Calls Try.prog f args w fun e w' => ∃ v, e = .returned v ∧ Below w.heap.size w w' ∧ (Fact.goes q).1 w' v :=
  h.mono fun e w' ⟨y, h1, _, h3⟩ => ⟨_, h1, h3, y, by rw [hq]⟩


end Go.Proofs.Ytajmbcbochjfmaa
