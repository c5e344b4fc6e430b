/-
  post.mayBe, post.Post.
-/
import Derived.Test.YthpcpbjgihhjeaaPostStep
import Derived.Test.YthpcpbjgihhjeaaLimTwo
namespace Go.Proofs.Ythpcpbjgihhjeaa
open Go.RowKit
set_option linter.unusedVariables false
set_option linter.unusedSimpArgs false

set_option maxHeartbeats 4000000 in
set_option maxRecDepth 100000 in
theorem mayBe_any (x : BA) (b : Bks) (a : Option Addr) (n c : Nat) (L : List P7) (w : World) (hx : x.nA = b.A.length) (h : PGood w a n c L) :
    Calls Try.prog 24 #[x.val, .slice a n c] w fun e w' => e = .returned (.bool (allB b L)) ∧ Below w.heap.size w w' := by
  have HL : Hid (n = L.length) := h.len
  have HG : Hid (PGood w a n c L) := h
  have MY := fun (p : P7) u => fitsMay_any x p u
  rw [hx] at MY
  obtain ⟨aA, nA, cA, aB, nB, cB, aM, nM, cM, aP, nP, cP⟩ := x
  obtain ⟨w2, hw2⟩ : ∃ w2, w2 = w.alloc (.cells #[.slice aA nA cA, .slice aB nB cB, .slice aM nM cM, .slice aP nP cP] 26) := ⟨_, rfl⟩
  have B2 : Hid (Below w.heap.size w w2) := by rw [hw2]; exact box_below _ _
  have X2 : Hid (Box4 w2 w.heap.size ⟨aA, nA, cA, aB, nB, cB, aM, nM, cM, aP, nP, cP⟩) := by rw [hw2]; exact Box4.new w ⟨aA, nA, cA, aB, nB, cB, aM, nM, cM, aP, nP, cP⟩ _ _
  have HM : Hid (∀ (z0 z1 z2 z3 z4 z5 z6 : Int) (u : World), Calls Try.prog 37 #[.agg #[.slice aA nA cA, .slice aB nB cB, .slice aM nM cM, .slice aP nP cP], .agg #[.int .i64 z0, .int .i64 z1, .int .i64 z2, .int .i64 z3, .int .i64 z4, .int .i64 z5, .int .i64 z6]] u fun e w' => e = .returned (.bool (mayB b.A.length (z0, z1, z2, z3, z4, z5, z6))) ∧ Below u.heap.size u w') := fun z0 z1 z2 z3 z4 z5 z6 u => MY (z0, z1, z2, z3, z4, z5, z6) u
  clear MY hx h
  by_cases h64 : n ≤ 64
  case neg =>
    have HE : Hid (false = allB b L) := by
      show false = _
      unfold allB
      rw [decide_eq_false (by have := HL.out; omega), Bool.and_false]
    have g1 : (64 : Int) < (n : Int) := by omega
    clear h64
    go_enter Try.func24, Try.ntmps24
    go_upto_region 1 with fail
    rw [← hw2]
    clear hw2
    go_wp2
    go_ret
    exact ⟨rt_bool HE.out, B2.out⟩
  have H64 : Hid (n ≤ 64) := h64
  have g1 : (n : Int) ≤ 64 := by omega
  clear h64
  go_enter Try.func24, Try.ntmps24
  go_upto_region 1 with fail
  rw [← hw2]
  clear hw2
  go_wp2
  go_loopw [6, 12] (fun _ t wr => ∃ k : Nat, k ≤ n ∧ t = .int .i64 k ∧ Hid ((L.take k).all (mayB b.A.length) = true) ∧ Hid (Below w2.heap.size w2 wr)) (fun _ t _ => n - (intOf t).toNat)
  case atStart => exact ⟨0, by omega, rfl, rfl, Below.refl _ _⟩
  case round =>
    obtain ⟨k, hk, rfl, HA, HB⟩ := hrel
    have BW : Hid (Below w.heap.size w wr) := B2.out.trans (HB.out.mono B2.out.size)
    by_cases hlt : k < n
    · have k1 : (k : Int) < (n : Int) := by omega
      obtain ⟨ba, off, rfl, HC⟩ := HG.out.at hlt
      have C0 := (HC k hlt).below BW.out
      have HT : Hid (L.take (k + 1) = L.take k ++ [L.getD k p70]) := take_snocA L p70 k (by have := HL.out; omega)
      have HIN : Hid (L.getD k p70 ∈ L) := by show _ ∈ _; rw [getD_get (by have := HL.out; omega)]; exact List.getElem_mem _
      generalize L.getD k p70 = y at C0 HT HIN
      obtain ⟨x0, x1, x2, x3, x4, x5, x6⟩ := y
      have M := fun u => HM.out x0 x1 x2 x3 x4 x5 x6 u
      obtain ⟨qm, hq⟩ : ∃ qm, mayB b.A.length (x0, x1, x2, x3, x4, x5, x6) = qm := ⟨_, rfl⟩
      rw [hq] at M
      have HQ : Hid (mayB b.A.length (x0, x1, x2, x3, x4, x5, x6) = qm) := hq
      obtain ⟨z0, z1, z2, z3, z4, z5, z6⟩ := C0
      simp only [P7.id, P7.fr, P7.to, P7.am, P7.cl, P7.st, P7.ti] at z0 z1 z2 z3 z4 z5 z6
      obtain ⟨w3, hw3⟩ : ∃ w3, w3 = wr.alloc (.cells #[.int .i64 x0, .int .i64 x1, .int .i64 x2, .int .i64 x3, .int .i64 x4, .int .i64 x5, .int .i64 x6] 46) := ⟨_, rfl⟩
      have B3 : Hid (Below w2.heap.size w2 w3) := by rw [hw3]; exact HB.out.alloc HB.out.size _
      have X3 : Hid (Box4 w3 w.heap.size ⟨aA, nA, cA, aB, nB, cB, aM, nM, cM, aP, nP, cP⟩) := X2.out.below B3.out
      have Y3 : Hid (At7 w3 wr.heap.size 0 (x0, x1, x2, x3, x4, x5, x6)) := by rw [hw3]; exact At7.new _ (x0, x1, x2, x3, x4, x5, x6) _ _
      clear hq HC
      go_upto_region 6 with fail
      rw [← hw3]
      clear hw3 z0 z1 z2 z3 z4 z5 z6
      obtain ⟨p0, p1, p2, p3⟩ := X3.out
      replace p0 : w3.cell? ⟨w.heap.size, 0, none⟩ = some (.slice aA nA cA) := p0
      replace p1 : w3.cell? ⟨w.heap.size, 1, none⟩ = some (.slice aB nB cB) := p1
      replace p2 : w3.cell? ⟨w.heap.size, 2, none⟩ = some (.slice aM nM cM) := p2
      replace p3 : w3.cell? ⟨w.heap.size, 3, none⟩ = some (.slice aP nP cP) := p3
      obtain ⟨z0, z1, z2, z3, z4, z5, z6⟩ := Y3.out
      simp only [P7.id, P7.fr, P7.to, P7.am, P7.cl, P7.st, P7.ti] at z0 z1 z2 z3 z4 z5 z6
      go_wp2_with fail
      go_at_call 37
      refine (M _).mono ?_
      rintro e w4 ⟨rfl, hb⟩
      have B4 : Hid (Below w2.heap.size w2 w4) := B3.out.trans (hb.mono B3.out.size)
      have BW4 : Hid (Below w.heap.size w w4) := B2.out.trans (B4.out.mono B2.out.size)
      clear hb M X3 Y3 HB BW p0 p1 p2 p3 z0 z1 z2 z3 z4 z5 z6 B3
      cases qm with
      | false =>
        have HE : Hid (false = allB b L) := by
          show false = _
          unfold allB
          have : L.all (mayB b.A.length) = false := by
            rw [Bool.eq_false_iff]
            intro ha
            rw [List.all_eq_true] at ha
            have := ha _ HIN.out
            rw [HQ.out] at this
            exact Bool.noConfusion this
          rw [this, Bool.false_and]
        go_wp2
        go_ret
        exact ⟨rt_bool HE.out, BW4.out⟩
      | true =>
        have HA2 : Hid ((L.take (k + 1)).all (mayB b.A.length) = true) := by
          show _ = true
          rw [HT.out, List.all_append, HA.out, List.all_cons, HQ.out]; rfl
        go_wp2
        go_roundw
        case rel => exact ⟨k + 1, by omega, by go_num, HA2, B4⟩
        case measure => simp [intOf]; omega
    · obtain rfl : k = n := by omega
      have HE : Hid (true = allB b L) := by
        show true = _
        have := HA.out
        rw [HL.out, List.take_length] at this
        unfold allB
        rw [this, Bool.true_and]
        symm
        rw [decide_eq_true_eq]
        have := HL.out
        have := H64.out
        omega
      go_wp2
      go_ret
      exact ⟨rt_bool HE.out, BW.out⟩

theorem Good.small {b : Bks} (g : Good b) : Small b := by
  have n6 := g.n6
  refine ⟨by omega, by rw [g.bil]; omega, by rw [g.mul]; omega, by rw [g.pos]; omega, fun z hz => ?_, fun z hz => ?_⟩
  · obtain ⟨i, hi, rfl⟩ := List.getElem_of_mem hz
    have := g.bils i (by rw [← g.bil]; exact hi)
    simp [hi] at this
    omega
  · obtain ⟨i, hi, rfl⟩ := List.getElem_of_mem hz
    have := g.poss i (by rw [← g.pos]; exact hi)
    simp [hi] at this
    omega
/-- Books are laid over a variable. -/
theorem store_books {ops : Array Oper} {rest : List Oper} {o : Oper} {a : Act} {w : World} {Q : Exit → Act → World → Prop} (hgd : o.guard = none) (x y : Operand) (ho : o.op = .store 26 x y) (z : Nat) (k : BA) (hx : a.eval x = .pointer (some ⟨z, 0, none⟩)) (hy : a.eval y = k.val)
    (cs : Array Value) (hg : w.heap[z]? = some (.cells cs 26 (0, 0))) (hs : cs.size = 4)
    (h : wpList Try.prog ops Q rest (a.put o.dst undef) (w.setRow z #[.slice k.aA k.nA k.cA, .slice k.aB k.nB k.cB, .slice k.aM k.nM k.cM, .slice k.aP k.nP k.cP])) : wpList Try.prog ops Q (o :: rest) a w :=
  wpList_store_row hgd 26 x y ho z _ hx hy _ _ hg booksSize (by simp [hs]) (by simp [Value.oneCell']) h
theorem box_set {w : World} {z : Nat} {cs : Array Value} (hg : w.heap[z]? = some (.cells cs 26 (0, 0))) (k : BA) : Box4 (w.setRow z #[.slice k.aA k.nA k.cA, .slice k.aB k.nB k.cB, .slice k.aM k.nM k.cM, .slice k.aP k.nP k.cP]) z k := by
  have hr := setRow_heap w z _ #[.slice k.aA k.nA k.cA, .slice k.aB k.nB k.cB, .slice k.aM k.nM k.cM, .slice k.aP k.nP k.cP] _ _ hg
  refine ⟨?_, ?_, ?_, ?_⟩ <;> (rw [cell_of_row _ _ _ _ _ _ hr]; rfl)
/-- What Post leaves. -/
def PostEnd (w : World) (b : Bks) (L : List P7) (e : Ending) (w' : World) : Prop := ∃ y : BA, e = .returned (.tuple #[y.val, .int .i64 (postE b L)]) ∧ NewBk w' w.heap.size y (postR b L) ∧ Below w.heap.size w w'
theorem post_no {b : Bks} {L : List P7} (h : allB b L = false) : postE b L = 1 ∧ postR b L = b := by simp [postE, postR, h]
theorem post_over {b : Bks} {L : List P7} (h : allB b L = true) (k : booksB (postB b L) = false) : postE b L = 8 ∧ postR b L = b := by simp [postE, postR, h, k]
theorem post_yes {b : Bks} {L : List P7} (h : allB b L = true) (k : booksB (postB b L) = true) : postE b L = 0 ∧ postR b L = postB b L := by simp [postE, postR, h, k]

set_option maxHeartbeats 8000000 in
set_option maxRecDepth 100000 in
theorem post_any (x : BA) (b : Bks) (a : Option Addr) (n c : Nat) (L : List P7) (w : World) (hk : Bk w x b) (gd : Good b) (h : PGood w a n c L) :
    Calls Try.prog 11 #[x.val, .slice a n c] w (PostEnd w b L) := by
  have MB := fun u (hu : Below w.heap.size w u) => mayBe_any x b a n c L u hk.acc.1 (h.below hu)
  have CO : Hid (∀ u, Below w.heap.size w u → Calls Try.prog 25 #[x.val] u (BooksEnd u b)) := fun u hu => limCopy_any x b u (hk.below hu) gd.small
  have CA : Hid (∀ u, Below w.heap.size w u → Calls Try.prog 25 #[x.val] u (BooksEndA u b)) := fun u hu => limCopyA_any x b u (hk.below hu) gd.small
  have HG : Hid (PGood w a n c L) := h
  have HD : Hid (Good b) := gd
  have HL : Hid (n = L.length) := h.len
  clear hk gd h
  obtain ⟨aA, nA, cA, aB, nB, cB, aM, nM, cM, aP, nP, cP⟩ := x
  obtain ⟨w2, hw2⟩ : ∃ w2, w2 = (w.alloc (.cells #[.slice aA nA cA, .slice aB nB cB, .slice aM nM cM, .slice aP nP cP] 26)).alloc (.cells #[.slice none 0 0, .slice none 0 0, .slice none 0 0, .slice none 0 0] 26) := ⟨_, rfl⟩
  have B2 : Hid (Below w.heap.size w w2) := by rw [hw2]; exact (box_below _ _).alloc (box_below _ _).size _
  have X2 : Hid (Box4 w2 w.heap.size ⟨aA, nA, cA, aB, nB, cB, aM, nM, cM, aP, nP, cP⟩) := by rw [hw2]; exact (Box4.new w ⟨aA, nA, cA, aB, nB, cB, aM, nM, cM, aP, nP, cP⟩ _ _).below (box_below _ _)
  have G2 : Hid (w2.heap[w.heap.size + 1]? = some (.cells #[.slice none 0 0, .slice none 0 0, .slice none 0 0, .slice none 0 0] 26 (0, 0)) ∧ w.heap.size + 1 < w2.heap.size) := by
    have := heap_alloc_new (w.alloc (.cells #[.slice aA nA cA, .slice aB nB cB, .slice aM nM cM, .slice aP nP cP] 26)) (.cells #[.slice none 0 0, .slice none 0 0, .slice none 0 0, .slice none 0 0] 26)
    rw [size_alloc] at this
    rw [hw2]
    exact ⟨this, by rw [size_alloc, size_alloc]; omega⟩
  have M := MB w2 B2.out
  obtain ⟨q, hq⟩ : ∃ q, allB b L = q := ⟨_, rfl⟩
  rw [hq] at M
  have HQ : Hid (allB b L = q) := hq
  clear hq MB
  obtain ⟨p0, p1, p2, p3⟩ := X2.out
  replace p0 : w2.cell? ⟨w.heap.size, 0, none⟩ = some (.slice aA nA cA) := p0
  replace p1 : w2.cell? ⟨w.heap.size, 1, none⟩ = some (.slice aB nB cB) := p1
  replace p2 : w2.cell? ⟨w.heap.size, 2, none⟩ = some (.slice aM nM cM) := p2
  replace p3 : w2.cell? ⟨w.heap.size, 3, none⟩ = some (.slice aP nP cP) := p3
  go_enter Try.func11, Try.ntmps11
  go_upto_region 1 with fail
  rw [← hw2]
  clear hw2
  go_wp2_with fail
  go_at_call 24
  refine M.mono ?_
  rintro e w3 ⟨rfl, hb⟩
  have XB : Hid (Box4 w3 w.heap.size ⟨aA, nA, cA, aB, nB, cB, aM, nM, cM, aP, nP, cP⟩) := X2.out.below hb
  have BB : Hid (Below w.heap.size w w3) := B2.out.trans (hb.mono B2.out.size)
  have GB : Hid (w3.heap[w.heap.size + 1]? = some (.cells #[.slice none 0 0, .slice none 0 0, .slice none 0 0, .slice none 0 0] 26 (0, 0)) ∧ w.heap.size + 1 < w3.heap.size) := ⟨(hb.block _ G2.out.2).trans G2.out.1, by have := hb.size; have := G2.out.2; omega⟩
  clear hb M X2 B2 G2 p0 p1 p2 p3
  cases q
  · have HE : Hid (True ∧ ∀ (y : BA) (u : World), NewBk u w.heap.size y b ∧ Below w.heap.size w u → PostEnd w b L (.returned (.tuple #[y.val, .int .i64 1])) u) := ⟨trivial, fun y u hh => ⟨y, by rw [(post_no HQ.out).1], by rw [(post_no HQ.out).2]; exact hh.1, hh.2⟩⟩
    clear CA HQ HD HG
    obtain ⟨p0, p1, p2, p3⟩ := XB.out
    replace p0 : w3.cell? ⟨w.heap.size, 0, none⟩ = some (.slice aA nA cA) := p0
    replace p1 : w3.cell? ⟨w.heap.size, 1, none⟩ = some (.slice aB nB cB) := p1
    replace p2 : w3.cell? ⟨w.heap.size, 2, none⟩ = some (.slice aM nM cM) := p2
    replace p3 : w3.cell? ⟨w.heap.size, 3, none⟩ = some (.slice aP nP cP) := p3
    have CC := CO.out w3 BB.out
    go_wp2_with fail
    go_at_call 25
    refine CC.mono ?_
    rintro e w9 ⟨y, rfl, hn, hb⟩
    obtain ⟨yA, mA, eA, yB, mB, eB, yM, mM, eM, yP, mP, eP⟩ := y
    have hg := GB.out.1
    have hg9 : w9.heap[w.heap.size + 1]? = some (.cells #[.slice none 0 0, .slice none 0 0, .slice none 0 0, .slice none 0 0] 26 (0, 0)) := (hb.block _ GB.out.2).trans hg
    have R : Hid (NewBk (w9.setRow (w.heap.size + 1) #[.slice yA mA eA, .slice yB mB eB, .slice yM mM eM, .slice yP mP eP]) w.heap.size ⟨yA, mA, eA, yB, mB, eB, yM, mM, eM, yP, mP, eP⟩ b ∧ Below w.heap.size w (w9.setRow (w.heap.size + 1) #[.slice yA mA eA, .slice yB mB eB, .slice yM mM eM, .slice yP mP eP])) :=
      ⟨(hn.kept (fun k hk => setRow_other w9 (w.heap.size + 1) k _ (by have hk : w3.heap.size ≤ k := hk; have := GB.out.2; omega))).base BB.out.size, Below.setRow (BB.out.trans (hb.mono BB.out.size)) (by omega) _⟩
    have D : Hid (Box4 (w9.setRow (w.heap.size + 1) #[.slice yA mA eA, .slice yB mB eB, .slice yM mM eM, .slice yP mP eP]) (w.heap.size + 1) ⟨yA, mA, eA, yB, mB, eB, yM, mM, eM, yP, mP, eP⟩) := box_set hg9 ⟨yA, mA, eA, yB, mB, eB, yM, mM, eM, yP, mP, eP⟩
    clear hb hn CC hg p0 p1 p2 p3 XB BB GB
    go_wp2_with (refine store_books rfl _ _ rfl (w.heap.size + 1) ⟨yA, mA, eA, yB, mB, eB, yM, mM, eM, yP, mP, eP⟩ rfl rfl _ hg9 rfl ?_)
    generalize w9.setRow (w.heap.size + 1) #[.slice yA mA eA, .slice yB mB eB, .slice yM mM eM, .slice yP mP eP] = wf at R D ⊢
    obtain ⟨d0, d1, d2, d3⟩ := D.out
    clear hg9
    go_wp2
    exact bodyPost_ret (v := .tuple #[BA.val ⟨yA, mA, eA, yB, mB, eB, yM, mM, eM, yP, mP, eP⟩, .int .i64 1]) (by simp [results, Try.results11, d0, d1, d2, d3, go_sem]) rfl (HE.out.2 _ _ R.out)
  · obtain ⟨p0, p1, p2, p3⟩ := XB.out
    replace p0 : w3.cell? ⟨w.heap.size, 0, none⟩ = some (.slice aA nA cA) := p0
    replace p1 : w3.cell? ⟨w.heap.size, 1, none⟩ = some (.slice aB nB cB) := p1
    replace p2 : w3.cell? ⟨w.heap.size, 2, none⟩ = some (.slice aM nM cM) := p2
    replace p3 : w3.cell? ⟨w.heap.size, 3, none⟩ = some (.slice aP nP cP) := p3
    have CC := CA.out w3 BB.out
    go_wp2_with fail
    go_at_call 25
    refine CC.mono ?_
    rintro e w4 ⟨y, S, rfl, hn, hb⟩
    obtain ⟨gA, sp, g, cg, lay⟩ := PLay.mk' hn HD.out
    have X4 : Hid (Box4 w4 w.heap.size ⟨aA, nA, cA, aB, nB, cB, aM, nM, cM, aP, nP, cP⟩) := XB.out.below hb
    have B4 : Hid (Below w.heap.size w w4 ∧ w3.heap.size ≤ w4.heap.size) := ⟨BB.out.trans (hb.mono BB.out.size), hb.size⟩
    have G4 : Hid (w4.heap[w.heap.size + 1]? = some (.cells #[.slice none 0 0, .slice none 0 0, .slice none 0 0, .slice none 0 0] 26 (0, 0)) ∧ w.heap.size + 1 < w3.heap.size) := ⟨(hb.block _ GB.out.2).trans GB.out.1, GB.out.2⟩
    have LY : Hid (PLay w4 w3.heap.size w4.heap.size y b gA sp g cg b.A.length (postA b (L.take 0) b.A.length) (fun i k => at2 b.P i k + netS (L.take 0) i k)) := by
      rw [List.take_zero]
      exact lay.congr (postA_nil b _ fun i hi => (HD.out.reserve i hi).1) (fun i k _ _ => postP_nil b i k)
    have HB0 : Hid (w.heap.size ≤ w3.heap.size) := BB.out.size
    clear hb hn CC lay p0 p1 p2 p3 XB BB GB CA
    obtain ⟨B, hB⟩ : ∃ B, w3.heap.size = B := ⟨_, rfl⟩
    obtain ⟨T, hT⟩ : ∃ T, w4.heap.size = T := ⟨_, rfl⟩
    rw [hB] at B4 G4 LY HB0
    rw [hT] at B4 LY
    have HTT : Hid (w4.heap.size = T) := hT
    clear hB hT
    obtain ⟨yA, mA, eA, yB, mB, eB, yM, mM, eM, yP, mP, eP⟩ := y
    obtain ⟨w5, hw5⟩ : ∃ w5, w5 = w4.alloc (.cells #[.slice yA mA eA, .slice yB mB eB, .slice yM mM eM, .slice yP mP eP] 26) := ⟨_, rfl⟩
    have b45 : Below w4.heap.size w4 w5 := by rw [hw5]; exact box_below _ _
    have X5 : Hid (Box4 w5 w.heap.size ⟨aA, nA, cA, aB, nB, cB, aM, nM, cM, aP, nP, cP⟩) := X4.out.below b45
    have Y5 : Hid (Box4 w5 w4.heap.size ⟨yA, mA, eA, yB, mB, eB, yM, mM, eM, yP, mP, eP⟩) := by rw [hw5]; exact Box4.new w4 ⟨yA, mA, eA, yB, mB, eB, yM, mM, eM, yP, mP, eP⟩ _ _
    have B5 : Hid (Below w.heap.size w w5 ∧ B ≤ w5.heap.size) := ⟨B4.out.1.trans (b45.mono B4.out.1.size), by have h1 := B4.out.2; have h2 := b45.size; rw [HTT.out] at h2; omega⟩
    have G5 : Hid (w5.heap[w.heap.size + 1]? = some (.cells #[.slice none 0 0, .slice none 0 0, .slice none 0 0, .slice none 0 0] 26 (0, 0)) ∧ w.heap.size + 1 < B) := ⟨(b45.block _ (by have := B4.out.2; have := G4.out.2; have := HTT.out; omega)).trans G4.out.1, G4.out.2⟩
    have L5 : Hid (PLay w5 B T ⟨yA, mA, eA, yB, mB, eB, yM, mM, eM, yP, mP, eP⟩ b gA sp g cg b.A.length (postA b (L.take 0) b.A.length) (fun i k => at2 b.P i k + netS (L.take 0) i k)) := LY.out.below b45
    have n64 : (n : Int) ≤ 64 := by have := (allB_mv HD.out HQ.out).1; have := HL.out; omega
    clear b45 X4 B4 G4 LY
    go_upto_region 4 with fail
    rw [← hw5]
    clear hw5
    go_wp2
    go_loopw [8, 19] (fun _ t wr => ∃ k : Nat, k ≤ n ∧ t = .int .i64 k ∧ Hid (PLay wr B T ⟨yA, mA, eA, yB, mB, eB, yM, mM, eM, yP, mP, eP⟩ b gA sp g cg b.A.length (postA b (L.take k) b.A.length) (fun i j => at2 b.P i j + netS (L.take k) i j)) ∧ Hid (Within B T w5 wr)) (fun _ t _ => n - (intOf t).toNat)
    case atStart => exact ⟨0, by omega, rfl, L5, Within.refl _ _ _⟩
    case round =>
      obtain ⟨k, hk, rfl, LR, WR⟩ := hrel
      have BW : Hid (Below w.heap.size w wr) := B5.out.1.trans ((WR.out.below B5.out.2).mono HB0.out)
      have XR : Hid (Box4 wr w.heap.size ⟨aA, nA, cA, aB, nB, cB, aM, nM, cM, aP, nP, cP⟩) := ⟨WR.out.cell X5.out.1 (.inl (by have := G5.out.2; show w.heap.size < B; omega)), WR.out.cell X5.out.2.1 (.inl (by have := G5.out.2; show w.heap.size < B; omega)), WR.out.cell X5.out.2.2.1 (.inl (by have := G5.out.2; show w.heap.size < B; omega)), WR.out.cell X5.out.2.2.2 (.inl (by have := G5.out.2; show w.heap.size < B; omega))⟩
      have YR : Hid (Box4 wr w4.heap.size ⟨yA, mA, eA, yB, mB, eB, yM, mM, eM, yP, mP, eP⟩) := WR.out.box4 Y5.out (by rw [HTT.out]; exact Nat.le_refl _)
      by_cases hlt : k < n
      · have k1 : (k : Int) < (n : Int) := by omega
        obtain ⟨ba, off, rfl, HC⟩ := HG.out.at hlt
        have hkl : k < L.length := by have := HL.out; omega
        have C0 := (HC k hlt).below BW.out
        obtain ⟨hl64, hmv, hma⟩ := allB_mv HD.out HQ.out
        have hmem : L.getD k p70 ∈ L := by rw [getD_get hkl]; exact List.getElem_mem _
        have hmay := mayB_yes.1 (hma _ hmem)
        have HT : Hid (L.take (k + 1) = L.take k ++ [L.getD k p70]) := take_snocA L p70 k hkl
        have hmk := hmv.take k
        have hlk : (L.take k).length ≤ 64 := by rw [List.length_take]; omega
        generalize L.getD k p70 = p at C0 hmay HT
        obtain ⟨f, hf⟩ : ∃ f : Nat, p.fr = f := ⟨p.fr.toNat, by omega⟩
        obtain ⟨t, ht⟩ : ∃ t : Nat, p.to = t := ⟨p.to.toNat, by omega⟩
        have fn : f < b.A.length := by omega
        have tn : t < b.A.length := by omega
        have ne : ¬ f = t := by omega
        have rf := post_range HD.out hmk hlk f fn
        have rt := post_range HD.out hmk hlk t tn
        have pf := post_pos HD.out hmk hlk f t fn tn
        have pt := post_pos HD.out hmk hlk t f tn fn
        have EA : Hid (∀ i, i < b.A.length → movA (postA b (L.take k) b.A.length) f t p.am p.cl i = postA b (L.take (k + 1)) b.A.length i) := by
          rw [HT.out]
          exact movA_post b (L.take k) hf ht ne fn tn (by omega) (fun i => (hmk.spent hlk i).1) (fun i hi => (HD.out.reserve i hi).1)
        have EP : Hid (∀ i j, movP (fun i j => at2 b.P i j + netS (L.take k) i j) f t p.am i j = at2 b.P i j + netS (L.take (k + 1)) i j) := by
          rw [HT.out]
          exact fun i j => movP_post b (L.take k) hf ht ne i j
        obtain ⟨x0, x1, x2, x3, x4, x5, x6⟩ := p
        obtain ⟨z0, z1, z2, z3, z4, z5, z6⟩ := C0
        simp only [P7.id, P7.fr, P7.to, P7.am, P7.cl, P7.st, P7.ti] at z0 z1 z2 z3 z4 z5 z6 hf ht hmay EA EP
        subst hf ht
        obtain ⟨w6, hw6⟩ : ∃ w6, w6 = wr.alloc (.cells #[.int .i64 x0, .int .i64 f, .int .i64 t, .int .i64 x3, .int .i64 x4, .int .i64 x5, .int .i64 x6] 46) := ⟨_, rfl⟩
        have b6 : Below wr.heap.size wr w6 := by rw [hw6]; exact box_below _ _
        have V6 : Hid (Within B T w5 w6) := WR.out.trans (Within.of b6)
        have Y6 : Hid (Box4 w6 w4.heap.size ⟨yA, mA, eA, yB, mB, eB, yM, mM, eM, yP, mP, eP⟩) := YR.out.below b6
        have P6 : Hid (At7 w6 wr.heap.size 0 (x0, (f : Int), (t : Int), x3, x4, x5, x6)) := by rw [hw6]; exact At7.new _ (x0, (f : Int), (t : Int), x3, x4, x5, x6) _ _
        have L6 := LR.out.below b6
        have M := move_any w6 B T ⟨yA, mA, eA, yB, mB, eB, yM, mM, eM, yP, mP, eP⟩ b gA sp g cg b.A.length _ _ L6 f t fn tn ne x0 x3 x4 x5 x6 (by omega) (by omega) (by omega) (by omega) (by omega) (by omega) (by omega)
        clear L6 b6 rf rt pf pt hmk hlk hmem hmay hl64 hmv hma HC hkl LR BW XR YR WR fn tn ne HT
        go_upto_region 7 with fail
        rw [← hw6]
        clear hw6 z0 z1 z2 z3 z4 z5 z6
        obtain ⟨p0, p1, p2, p3⟩ := Y6.out
        replace p0 : w6.cell? ⟨w4.heap.size, 0, none⟩ = some (.slice yA mA eA) := p0
        replace p1 : w6.cell? ⟨w4.heap.size, 1, none⟩ = some (.slice yB mB eB) := p1
        replace p2 : w6.cell? ⟨w4.heap.size, 2, none⟩ = some (.slice yM mM eM) := p2
        replace p3 : w6.cell? ⟨w4.heap.size, 3, none⟩ = some (.slice yP mP eP) := p3
        obtain ⟨z0, z1, z2, z3, z4, z5, z6⟩ := P6.out
        simp only [P7.id, P7.fr, P7.to, P7.am, P7.cl, P7.st, P7.ti] at z0 z1 z2 z3 z4 z5 z6
        go_wp2_with fail
        go_at_call 26
        refine M.mono ?_
        rintro e w7 ⟨rfl, l7, v7⟩
        have L7 : Hid (PLay w7 B T ⟨yA, mA, eA, yB, mB, eB, yM, mM, eM, yP, mP, eP⟩ b gA sp g cg b.A.length (postA b (L.take (k + 1)) b.A.length) (fun i j => at2 b.P i j + netS (L.take (k + 1)) i j)) := l7.congr EA.out (fun i j _ _ => EP.out i j)
        have V7 : Hid (Within B T w5 w7) := V6.out.trans v7
        clear l7 v7 M EA EP V6 Y6 P6 p0 p1 p2 p3 z0 z1 z2 z3 z4 z5 z6
        go_wp2
        go_roundw
        case rel => exact ⟨k + 1, by omega, by go_num, L7, V7⟩
        case measure => simp [intOf]; omega
      · obtain rfl : k = n := by omega
        have LE : Hid (L.take k = L) := by show _ = _; rw [HL.out, List.take_length]
        have NB : Hid (NewBk wr B ⟨yA, mA, eA, yB, mB, eB, yM, mM, eM, yP, mP, eP⟩ (postB b L)) := by
          have := LR.out.new
          rw [LE.out] at this
          exact this
        have GR : Hid (wr.heap[w.heap.size + 1]? = some (.cells #[.slice none 0 0, .slice none 0 0, .slice none 0 0, .slice none 0 0] 26 (0, 0)) ∧ w.heap.size + 1 < B) := ⟨(WR.out.block _ (by have := G5.out.2; have := B5.out.2; omega) (.inl G5.out.2)).trans G5.out.1, G5.out.2⟩
        have BR : Hid (B ≤ wr.heap.size) := by have h1 := B5.out.2; have h2 := WR.out.size; show B ≤ _; omega
        have I := limIs_any ⟨yA, mA, eA, yB, mB, eB, yM, mM, eM, yP, mP, eP⟩ (postB b L) wr NB.out.bk
        obtain ⟨v, hv⟩ : ∃ v, booksB (postB b L) = v := ⟨_, rfl⟩
        rw [hv] at I
        have HV : Hid (booksB (postB b L) = v) := hv
        clear hv LR WR LE X5 Y5 B5 G5 L5
        obtain ⟨p0, p1, p2, p3⟩ := YR.out
        replace p0 : wr.cell? ⟨w4.heap.size, 0, none⟩ = some (.slice yA mA eA) := p0
        replace p1 : wr.cell? ⟨w4.heap.size, 1, none⟩ = some (.slice yB mB eB) := p1
        replace p2 : wr.cell? ⟨w4.heap.size, 2, none⟩ = some (.slice yM mM eM) := p2
        replace p3 : wr.cell? ⟨w4.heap.size, 3, none⟩ = some (.slice yP mP eP) := p3
        go_wp2_with fail
        go_at_call 27
        refine I.mono ?_
        rintro e w8 ⟨rfl, hb⟩
        have XB : Hid (Box4 w8 w.heap.size ⟨aA, nA, cA, aB, nB, cB, aM, nM, cM, aP, nP, cP⟩) := XR.out.below hb
        have YB : Hid (Box4 w8 w4.heap.size ⟨yA, mA, eA, yB, mB, eB, yM, mM, eM, yP, mP, eP⟩) := YR.out.below hb
        have BB : Hid (Below w.heap.size w w8) := BW.out.trans (hb.mono BW.out.size)
        have GB : Hid (w8.heap[w.heap.size + 1]? = some (.cells #[.slice none 0 0, .slice none 0 0, .slice none 0 0, .slice none 0 0] 26 (0, 0)) ∧ w.heap.size + 1 < w8.heap.size) := ⟨(hb.block _ (by have := GR.out.2; have := BR.out; omega)).trans GR.out.1, by have := GR.out.2; have := BR.out; have := hb.size; omega⟩
        have NB8 : Hid (NewBk w8 B ⟨yA, mA, eA, yB, mB, eB, yM, mM, eM, yP, mP, eP⟩ (postB b L)) := NB.out.below hb
        clear hb I XR YR BW NB BR p0 p1 p2 p3
        cases v
        · have HE : Hid (True ∧ ∀ (y : BA) (u : World), NewBk u w.heap.size y b ∧ Below w.heap.size w u → PostEnd w b L (.returned (.tuple #[y.val, .int .i64 8])) u) := ⟨trivial, fun y u hh => ⟨y, by rw [(post_over HQ.out HV.out).1], by rw [(post_over HQ.out HV.out).2]; exact hh.1, hh.2⟩⟩
          clear HQ HD HG HV YB NB8 GR
          obtain ⟨p0, p1, p2, p3⟩ := XB.out
          replace p0 : w8.cell? ⟨w.heap.size, 0, none⟩ = some (.slice aA nA cA) := p0
          replace p1 : w8.cell? ⟨w.heap.size, 1, none⟩ = some (.slice aB nB cB) := p1
          replace p2 : w8.cell? ⟨w.heap.size, 2, none⟩ = some (.slice aM nM cM) := p2
          replace p3 : w8.cell? ⟨w.heap.size, 3, none⟩ = some (.slice aP nP cP) := p3
          have CC := CO.out w8 BB.out
          go_wp2_with fail
          go_at_call 25
          refine CC.mono ?_
          rintro e w9 ⟨y, rfl, hn, hb⟩
          obtain ⟨vA, lA, dA, vB, lB, dB, vM, lM, dM, vP, lP, dP⟩ := y
          have hg := GB.out.1
          have hg9 : w9.heap[w.heap.size + 1]? = some (.cells #[.slice none 0 0, .slice none 0 0, .slice none 0 0, .slice none 0 0] 26 (0, 0)) := (hb.block _ GB.out.2).trans hg
          have R : Hid (NewBk (w9.setRow (w.heap.size + 1) #[.slice vA lA dA, .slice vB lB dB, .slice vM lM dM, .slice vP lP dP]) w.heap.size ⟨vA, lA, dA, vB, lB, dB, vM, lM, dM, vP, lP, dP⟩ b ∧ Below w.heap.size w (w9.setRow (w.heap.size + 1) #[.slice vA lA dA, .slice vB lB dB, .slice vM lM dM, .slice vP lP dP])) :=
            ⟨(hn.kept (fun k hk => setRow_other w9 (w.heap.size + 1) k _ (by have hk : w8.heap.size ≤ k := hk; have := GB.out.2; omega))).base BB.out.size, Below.setRow (BB.out.trans (hb.mono BB.out.size)) (by omega) _⟩
          have D : Hid (Box4 (w9.setRow (w.heap.size + 1) #[.slice vA lA dA, .slice vB lB dB, .slice vM lM dM, .slice vP lP dP]) (w.heap.size + 1) ⟨vA, lA, dA, vB, lB, dB, vM, lM, dM, vP, lP, dP⟩) := box_set hg9 ⟨vA, lA, dA, vB, lB, dB, vM, lM, dM, vP, lP, dP⟩
          clear hb hn CC hg p0 p1 p2 p3 XB BB GB
          go_wp2_with (refine store_books rfl _ _ rfl (w.heap.size + 1) ⟨vA, lA, dA, vB, lB, dB, vM, lM, dM, vP, lP, dP⟩ rfl rfl _ hg9 rfl ?_)
          generalize w9.setRow (w.heap.size + 1) #[.slice vA lA dA, .slice vB lB dB, .slice vM lM dM, .slice vP lP dP] = wf at R D ⊢
          obtain ⟨d0, d1, d2, d3⟩ := D.out
          clear hg9
          go_wp2
          exact bodyPost_ret (v := .tuple #[BA.val ⟨vA, lA, dA, vB, lB, dB, vM, lM, dM, vP, lP, dP⟩, .int .i64 8]) (by simp [results, Try.results11, d0, d1, d2, d3, go_sem]) rfl (HE.out.2 _ _ R.out)
        · have HE : Hid (True ∧ ∀ (y : BA) (u : World), NewBk u w.heap.size y (postB b L) ∧ Below w.heap.size w u → PostEnd w b L (.returned (.tuple #[y.val, .int .i64 0])) u) := ⟨trivial, fun y u hh => ⟨y, by rw [(post_yes HQ.out HV.out).1], by rw [(post_yes HQ.out HV.out).2]; exact hh.1, hh.2⟩⟩
          obtain ⟨p0, p1, p2, p3⟩ := YB.out
          replace p0 : w8.cell? ⟨w4.heap.size, 0, none⟩ = some (.slice yA mA eA) := p0
          replace p1 : w8.cell? ⟨w4.heap.size, 1, none⟩ = some (.slice yB mB eB) := p1
          replace p2 : w8.cell? ⟨w4.heap.size, 2, none⟩ = some (.slice yM mM eM) := p2
          replace p3 : w8.cell? ⟨w4.heap.size, 3, none⟩ = some (.slice yP mP eP) := p3
          have hg8 := GB.out.1
          have R : Hid (NewBk (w8.setRow (w.heap.size + 1) #[.slice yA mA eA, .slice yB mB eB, .slice yM mM eM, .slice yP mP eP]) w.heap.size ⟨yA, mA, eA, yB, mB, eB, yM, mM, eM, yP, mP, eP⟩ (postB b L) ∧ Below w.heap.size w (w8.setRow (w.heap.size + 1) #[.slice yA mA eA, .slice yB mB eB, .slice yM mM eM, .slice yP mP eP])) :=
            ⟨(NB8.out.kept (fun k hk => setRow_other w8 (w.heap.size + 1) k _ (by have hk : B ≤ k := hk; have := GR.out.2; omega))).base HB0.out, Below.setRow BB.out (by omega) _⟩
          have D : Hid (Box4 (w8.setRow (w.heap.size + 1) #[.slice yA mA eA, .slice yB mB eB, .slice yM mM eM, .slice yP mP eP]) (w.heap.size + 1) ⟨yA, mA, eA, yB, mB, eB, yM, mM, eM, yP, mP, eP⟩) := box_set hg8 ⟨yA, mA, eA, yB, mB, eB, yM, mM, eM, yP, mP, eP⟩
          clear XB YB BB GB NB8 GR
          go_wp2_with (refine store_books rfl _ _ rfl (w.heap.size + 1) ⟨yA, mA, eA, yB, mB, eB, yM, mM, eM, yP, mP, eP⟩ rfl rfl _ hg8 rfl ?_)
          generalize w8.setRow (w.heap.size + 1) #[.slice yA mA eA, .slice yB mB eB, .slice yM mM eM, .slice yP mP eP] = wf at R D ⊢
          obtain ⟨d0, d1, d2, d3⟩ := D.out
          clear hg8 p0 p1 p2 p3
          go_wp2
          exact bodyPost_ret (v := .tuple #[BA.val ⟨yA, mA, eA, yB, mB, eB, yM, mM, eM, yP, mP, eP⟩, .int .i64 0]) (by simp [results, Try.results11, d0, d1, d2, d3, go_sem]) rfl (HE.out.2 _ _ R.out)

end Go.Proofs.Ythpcpbjgihhjeaa
