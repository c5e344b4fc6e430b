/-
  free.Run.
-/
import Derived.Test.YtgcofidkgohogaaFreeSame
import Derived.Test.YtgcofidkgohogaaFreeDo
import Derived.Test.YtgcofidkgohogaaRowRefs
namespace Go.Proofs.Ytgcofidkgohogaa
open Go.RowKit
set_option linter.unusedVariables false
set_option linter.unusedSimpArgs false

theorem own_turn {w w' : World} {B : Nat} {T : TypeId} {s : Nat} {v : Value} {n : Nat} {xs : List Value} (h : w.ownsRow B T s v n xs) (k : ∀ j, v.ownBlock = some j → w'.heap[j]? = w.heap[j]?) : w'.ownsRow B T s v n xs := by
  refine ⟨h.1, ?_⟩
  rcases h.2 with h0 | ⟨g, cap, cur, hv, hb, hg, rest⟩
  · exact .inl h0
  · exact .inr ⟨g, cap, cur, hv, hb, (k g (by rw [hv]; rfl)).trans hg, rest⟩
theorem own_cells {w : World} {B s n : Nat} {T : TypeId} {v : Value} {xs : List Value} (h : w.ownsRow B T s v n xs) : ∀ j, v.ownBlock = some j → B ≤ j ∧ ∃ cs f, w.heap[j]? = some (.cells cs T f) := fun j hj => by
  refine ⟨(h.lt j hj).1, ?_⟩
  rcases h.2 with ⟨hv0, _⟩ | ⟨g0, cap, cur, hv0, _, hg0, _⟩
  · rw [hv0] at hj; cases hj
  · rw [hv0] at hj
    have : g0 = j := by simpa [Value.ownBlock] using hj
    subst this
    exact ⟨_, _, hg0⟩

/-- In a call of w: books in the result's variable, its second block; a row; what was settled. -/
structure RunC (w wr : World) (y : BA) (b : Bks) (a : Option Addr) (n c : Nat) (l : List P7) (v : Value) (d : List P7) : Prop where
  bk : NewBk wr (w.heap.size + 2) y b
  good : Good b
  row : PGood wr a n c l
  off : 0 < n → ∀ x, a = some x → w.heap.size + 2 ≤ x.block ∧ v.ownBlock ≠ some x.block
  que : Que l
  fr : FrOk l
  own : wr.ownsRow (w.heap.size + 2) 31 7 v d.length (payL d)
  box : BVar wr (w.heap.size + 1) y
  low : Below w.heap.size w wr
/-- A payment's variable there. -/
def VarC (w wr : World) (a : Option Addr) (n : Nat) (v : Value) (g : Nat) (p : P7) : Prop := PBox wr g p ∧ w.heap.size + 2 ≤ g ∧ v.ownBlock ≠ some g ∧ (0 < n → ∀ x, a = some x → x.block ≠ g)

section
variable {w wr u : World} {y : BA} {b : Bks} {a : Option Addr} {n c : Nat} {l d : List P7} {v : Value} {g : Nat} {p : P7}
theorem RunC.size (h : RunC w wr y b a n c l v d) : w.heap.size + 2 ≤ wr.heap.size := h.box.lt
theorem RunC.lt (h : RunC w wr y b a n c l v d) : 0 < n → ∀ x, a = some x → x.block < wr.heap.size := fun hn x hx => by
  obtain ⟨b1, o1, ha1, hc1⟩ := h.row.at hn
  have hx2 := ha1.symm.trans hx
  simp at hx2
  rw [← hx2]
  exact block_lt_of_cell (hc1 0 hn).1
theorem RunC.below (h : RunC w wr y b a n c l v d) (k : Below wr.heap.size wr u) : RunC w u y b a n c l v d :=
  ⟨h.bk.below k, h.good, h.row.below k, h.off, h.que, h.fr, own_below h.own k, h.box.below k, h.low.trans (k.mono h.low.size)⟩
theorem VarC.below (h : VarC w wr a n v g p) (k : Below wr.heap.size wr u) : VarC w u a n v g p := ⟨h.1.below k, h.2⟩
/-- Other books are laid into the variable. -/
theorem RunC.put (h : RunC w wr y b a n c l v d) {y' : BA} {b' : Bks} {B : Nat} (hn : NewBk wr B y' b') (hB : w.heap.size + 2 ≤ B) (g : Good b') : RunC w (wr.setRow (w.heap.size + 1) #[.slice y'.aA y'.nA y'.cA, .slice y'.aB y'.nB y'.cB, .slice y'.aM y'.nM y'.cM, .slice y'.aP y'.nP y'.cP]) y' b' a n c l v d :=
  ⟨(hn.kept fun k hk => setRow_other wr (w.heap.size + 1) k _ (by have hk : B ≤ k := hk; omega)).base hB, g, h.row.turn fun x hx hn => setRow_other wr (w.heap.size + 1) x.block _ (by have := (h.off hn x hx).1; omega), h.off, h.que, h.fr,
    own_kept h.own fun k hk => setRow_other wr (w.heap.size + 1) k _ (by have hk : w.heap.size + 2 ≤ k := hk; omega), h.box.set y', Below.setRow h.low (by omega) _⟩
theorem VarC.put (h : VarC w wr a n v g p) (cs : Array Value) : VarC w (wr.setRow (w.heap.size + 1) cs) a n v g p := ⟨h.1.far (by have := h.2.1; omega) _, h.2⟩
/-- One is dropped. -/
theorem RunC.drop (h : RunC w wr y b a n c l v d) {a' : Option Addr} {n' c' : Nat} {l' : List P7} (k : Below wr.heap.size wr u) (hg : PGood u a' n' c' l') (ha : ∀ x, a' = some x → wr.heap.size ≤ x.block) (hq : Que l') (hf : FrOk l') : RunC w u y b a' n' c' l' v d := by
  have h' := h.below k
  refine ⟨h'.bk, h'.good, hg, fun _ x hx => ?_, hq, hf, h'.own, h'.box, h'.low⟩
  have h1 := ha x hx
  have h2 := h.size
  refine ⟨by omega, fun e => ?_⟩
  have := (h.own.lt _ e).2
  omega
theorem VarC.drop (h : VarC w wr a n v g p) {a' : Option Addr} {n' : Nat} (k : Below wr.heap.size wr u) (ha : ∀ x, a' = some x → wr.heap.size ≤ x.block) : VarC w u a' n' v g p :=
  ⟨h.1.below k, h.2.1, h.2.2.1, fun _ x hx => by have := ha x hx; have := h.1.lt; omega⟩
/-- One is settled. -/
theorem RunC.add (h : RunC w wr y b a n c l v d) (hu : Below wr.heap.size wr u) (p : P7) {v' : Value} {w' : World} (ho : w'.ownsRow (w.heap.size + 2) 31 7 v' (d.length + 1) (payL (d ++ [p]))) (k : u.grownBy w' v.ownBlock) (hv : v'.ownBlock = v.ownBlock ∨ v'.ownBlock = some u.heap.size) : RunC w w' y b a n c l v' (d ++ [p]) := by
  have h' := h.below hu
  have hc := own_cells h'.own
  have hbk : NewBk w' (w.heap.size + 2) y b := h'.bk.turn fun g0 cs T f hB hg hT => k.block g0 (lt_of_block hg) fun e => by
    obtain ⟨_, cs', f', he⟩ := hc g0 e.symm
    rw [hg] at he
    simp at he
    exact hT he.2.1
  have hrow : PGood w' a n c l := h'.row.turn fun x hx hn => k.block _ (h'.lt hn x hx) fun e => (h'.off hn x hx).2 e.symm
  have hoff : 0 < n → ∀ x, a = some x → w.heap.size + 2 ≤ x.block ∧ v'.ownBlock ≠ some x.block := fun hn x hx => by
    refine ⟨(h'.off hn x hx).1, ?_⟩
    rcases hv with hv | hv
    · rw [hv]; exact (h'.off hn x hx).2
    · rw [hv]
      intro e
      have := h'.lt hn x hx
      simp at e
      omega
  have hbox : BVar w' (w.heap.size + 1) y := (k.block _ h'.box.lt fun e => by have := (hc _ e.symm).1; omega).trans h'.box
  exact ⟨hbk, h'.good, hrow, hoff, h'.que, h'.fr, by rw [List.length_append]; exact ho, hbox, h'.low.grown k (by have := h'.low.size; omega) fun j hj => by have := (hc j hj).1; omega⟩
theorem VarC.add (h : VarC w u a n v g p) {v' : Value} {w' : World} (k : u.grownBy w' v.ownBlock) (hv : v'.ownBlock = v.ownBlock ∨ v'.ownBlock = some u.heap.size) : VarC w w' a n v' g p := by
  refine ⟨?_, h.2.1, ?_, h.2.2.2⟩
  · unfold PBox
    rw [k.block _ h.1.lt fun e => h.2.2.1 e.symm]
    exact h.1
  · rcases hv with hv | hv
    · rw [hv]; exact h.2.2.1
    · rw [hv]
      intro e
      have := h.1.lt
      simp at e
      omega
/-- A new variable. -/
theorem RunC.var (h : RunC w u y b a n c l v d) (p : P7) : RunC w (u.alloc (.cells #[.int .i64 p.id, .int .i64 p.fr, .int .i64 p.to, .int .i64 p.am, .int .i64 p.cl, .int .i64 p.st, .int .i64 p.ti] 31)) y b a n c l v d ∧ VarC w (u.alloc (.cells #[.int .i64 p.id, .int .i64 p.fr, .int .i64 p.to, .int .i64 p.am, .int .i64 p.cl, .int .i64 p.st, .int .i64 p.ti] 31)) a n v u.heap.size p :=
  ⟨h.below (box_below _ _), PBox.new u p, h.size, fun e => by have := (h.own.lt _ e).2; omega, fun hn x hx => by have := h.lt hn x hx; omega⟩
/-- Another payment is laid into it. -/
theorem RunC.set (h : RunC w wr y b a n c l v d) (hv : VarC w wr a n v g p) (q : P7) : RunC w (wr.setRow g #[.int .i64 q.id, .int .i64 q.fr, .int .i64 q.to, .int .i64 q.am, .int .i64 q.cl, .int .i64 q.st, .int .i64 q.ti]) y b a n c l v d ∧ VarC w (wr.setRow g #[.int .i64 q.id, .int .i64 q.fr, .int .i64 q.to, .int .i64 q.am, .int .i64 q.cl, .int .i64 q.st, .int .i64 q.ti]) a n v g q := by
  obtain ⟨hp, h2, h3, h4⟩ := hv
  refine ⟨⟨h.bk.turn fun g0 cs T f hB hg hT => setRow_other wr g g0 _ fun e => ?_, h.good, h.row.turn fun x hx hn => setRow_other wr g x.block _ (h4 hn x hx), h.off, h.que, h.fr, own_turn h.own fun j hj => setRow_other wr g j _ (fun e => h3 (by rw [← e]; exact hj)), h.box.far (by omega) _, Below.setRow h.low (by omega) _⟩, hp.set q, h2, h3, h4⟩
  subst e
  unfold PBox at hp
  rw [hg] at hp
  simp at hp
  exact hT hp.2.1
/-- At its end what it answers is laid out. -/
theorem RunC.end (h : RunC w wr y b a n c l v d) : RunC w (wr.setRow (w.heap.size + 1) #[.slice y.aA y.nA y.cA, .slice y.aB y.nB y.cB, .slice y.aM y.nM y.cM, .slice y.aP y.nP y.cP]) y b a n c l v d := h.put h.bk (Nat.le_refl _) h.good
theorem RunC.free (h : RunC w wr y b a n c l v d) (h40 : d.length ≤ 40) : ∃ ad cd, v = .slice ad d.length cd ∧ FreeEnd w (b, l, d) (.returned (.tuple #[y.val, .slice a n c, .slice ad d.length cd])) wr := by
  obtain ⟨ad, cd, h1, h2, _⟩ := PGood.own h.own
  exact ⟨ad, cd, h1, y, a, n, c, ad, d.length, cd, rfl, h.bk.bk, h.good, h.row, h.que, h2, h40, h.low⟩
end

set_option maxHeartbeats 16000000 in
set_option maxRecDepth 100000 in
theorem run_any (x : BA) (b : Bks) (a : Option Addr) (n c : Nat) (L : List P7) (t : Int) (w : World) (hk : Bk w x b) (gd : Good b) (h : PGood w a n c L) (hq : Que L) (hf : FrOk L) :
    Calls Try.prog 11 #[x.val, .slice a n c, .int .i64 t] w (FreeEnd w (runF b L t)) := by
  have HL : Hid (n ≤ 40 ∧ n = L.length) := by have := h.len; have := hq.1; exact ⟨by omega, h.len⟩
  have HQ : Hid (Que L ∧ FrOk L ∧ Good b) := ⟨hq, hf, gd⟩
  have HG : Hid (PGood w a n c L) := h
  have HRUN : Hid (runA L.length b L t [] = runF b L t) := rfl
  have PO : Hid (∀ u, Below w.heap.size w u → Calls Try.prog 29 #[x.val, .slice none 0 0] u (PostEnd u b [])) := fun u hu => post_any x b none 0 0 [] u (hk.below hu) gd (PGood.nil u)
  generalize runF b L t = R at HRUN ⊢
  obtain ⟨aA, nA, cA, aB, nB, cB, aM, nM, cM, aP, nP, cP⟩ := x
  obtain ⟨w2, hw2⟩ : ∃ w2, w2 = (w.alloc (.cells #[.slice aA nA cA, .slice aB nB cB, .slice aM nM cM, .slice aP nP cP] 27)).alloc (.cells #[.slice none 0 0, .slice none 0 0, .slice none 0 0, .slice none 0 0] 27) := ⟨_, rfl⟩
  have B2 : Hid (Below w.heap.size w w2) := by rw [hw2]; exact (box_below _ _).alloc (box_below _ _).size _
  have X2 : Hid (Box4 w2 w.heap.size ⟨aA, nA, cA, aB, nB, cB, aM, nM, cM, aP, nP, cP⟩) := by rw [hw2]; exact (Box4.new w ⟨aA, nA, cA, aB, nB, cB, aM, nM, cM, aP, nP, cP⟩ _ _).below (box_below _ _)
  have V2 : Hid (BVar w2 (w.heap.size + 1) ba0) := by
    rw [hw2]
    have := BVar.new (w.alloc (.cells #[.slice aA nA cA, .slice aB nB cB, .slice aM nM cM, .slice aP nP cP] 27)) ba0
    rw [size_alloc] at this
    exact this
  have CC := PO.out w2 B2.out
  unfold PostEnd at CC
  rw [postR_nil gd] at CC
  generalize postE b [] = er at CC
  clear hk gd h hq hf PO
  go_enter Try.func11, Try.ntmps11
  go_upto_region 1 with fail
  rw [← hw2]
  clear hw2
  obtain ⟨p0, p1, p2, p3⟩ := X2.out
  replace p0 : w2.cell? ⟨w.heap.size, 0, none⟩ = some (.slice aA nA cA) := p0
  replace p1 : w2.cell? ⟨w.heap.size, 1, none⟩ = some (.slice aB nB cB) := p1
  replace p2 : w2.cell? ⟨w.heap.size, 2, none⟩ = some (.slice aM nM cM) := p2
  replace p3 : w2.cell? ⟨w.heap.size, 3, none⟩ = some (.slice aP nP cP) := p3
  go_wp2_with fail
  go_at_call 29
  refine CC.mono ?_
  rintro e w3 ⟨y, rfl, nb, hb⟩
  obtain ⟨yA, mA, eA, yB, mB, eB, yM, mM, eM, yP, mP, eP⟩ := y
  have V3 : Hid (BVar w3 (w.heap.size + 1) ba0) := V2.out.below hb
  have hs2 : w.heap.size + 2 ≤ w2.heap.size := V2.out.lt
  have B3 : Below w.heap.size w w3 := B2.out.trans (hb.mono B2.out.size)
  have ST4 : Hid (RunC w (w3.setRow (w.heap.size + 1) #[.slice yA mA eA, .slice yB mB eB, .slice yM mM eM, .slice yP mP eP]) ⟨yA, mA, eA, yB, mB, eB, yM, mM, eM, yP, mP, eP⟩ b none 0 0 [] (.slice none 0 0) []) :=
    ⟨(nb.kept fun k hk => setRow_other w3 (w.heap.size + 1) k _ (by have hk : w2.heap.size ≤ k := hk; omega)).base hs2, HQ.out.2.2, PGood.nil _, fun h => by omega, Que.nil, fun p hp => by simp at hp, World.ownsRow_nil _ _ _ _, V3.out.set ⟨yA, mA, eA, yB, mB, eB, yM, mM, eM, yP, mP, eP⟩, Below.setRow B3 (by omega) _⟩
  have hbox := V3.out
  clear CC nb hb hs2 B3 V3 V2 X2 B2 p0 p1 p2 p3
  go_upto_region 2 with (refine store_books rfl _ _ rfl (w.heap.size + 1) ⟨yA, mA, eA, yB, mB, eB, yM, mM, eM, yP, mP, eP⟩ rfl rfl _ hbox rfl ?_)
  clear hbox
  generalize w3.setRow (w.heap.size + 1) #[.slice yA mA eA, .slice yB mB eB, .slice yM mM eM, .slice yP mP eP] = w4 at ST4 ⊢
  have CC := concatP_any w4.heap.size 1 1 [L] (w4.alloc (.cells #[.slice a n c] 23)) (fun i hi => by
    obtain rfl : i = 0 := by simp at hi; omega
    exact ⟨a, n, c, by rw [cell_new]; rfl, (HG.out.below ST4.out.low).below (box_below _ _)⟩) rfl (by omega) (by simp; have := HL.out; omega)
  rw [show [L].flatten = L by simp] at CC
  unfold PEnd at CC
  rw [← HL.out.2] at CC
  go_wp2_with fail
  go_at_call 30
  refine CC.mono ?_
  rintro e w5 ⟨a5, c5, rfl, hg5, hn5, hb⟩
  have b45 : Below w4.heap.size w4 w5 := (box_below _ _).trans (hb.mono (by rw [size_alloc]; omega))
  have ST5 : Hid (RunC w w5 ⟨yA, mA, eA, yB, mB, eB, yM, mM, eM, yP, mP, eP⟩ b a5 n c5 L (.slice none 0 0) []) := ST4.out.drop b45 hg5 (fun x hx => by have := hn5 x hx; rw [size_alloc] at this; omega) HQ.out.1 HQ.out.2.1
  clear CC hg5 hn5 hb b45 ST4
  have NX := next_any ⟨yA, mA, eA, yB, mB, eB, yM, mM, eM, yP, mP, eP⟩ b a5 n c5 L t w5 ST5.out.bk.bk ST5.out.good ST5.out.row (by have := HL.out.1; omega) ST5.out.fr
  obtain ⟨q, hq⟩ : ∃ q, (nextP b L t).isSome = q := ⟨_, rfl⟩
  obtain ⟨p, hp⟩ : ∃ p, (nextP b L t).getD p70 = p := ⟨_, rfl⟩
  rw [hq, hp] at NX
  have HN : Hid ((nextP b L t).isSome = q ∧ (nextP b L t).getD p70 = p) := ⟨hq, hp⟩
  clear hq hp
  obtain ⟨x0, x1, x2, x3, x4, x5, x6⟩ := p
  obtain ⟨p0, p1, p2, p3⟩ := ST5.out.box.box
  replace p0 : w5.cell? ⟨w.heap.size + 1, 0, none⟩ = some (.slice yA mA eA) := p0
  replace p1 : w5.cell? ⟨w.heap.size + 1, 1, none⟩ = some (.slice yB mB eB) := p1
  replace p2 : w5.cell? ⟨w.heap.size + 1, 2, none⟩ = some (.slice yM mM eM) := p2
  replace p3 : w5.cell? ⟨w.heap.size + 1, 3, none⟩ = some (.slice yP mP eP) := p3
  go_wp2_with fail
  go_at_call 9
  refine NX.mono ?_
  rintro e w6 ⟨rfl, hb⟩
  have ST6 := ST5.out.below hb
  obtain ⟨w7, hw7⟩ : ∃ w7, w7 = w6.alloc (.cells #[.int .i64 x0, .int .i64 x1, .int .i64 x2, .int .i64 x3, .int .i64 x4, .int .i64 x5, .int .i64 x6] 31) := ⟨_, rfl⟩
  obtain ⟨g, hg⟩ : ∃ g, w6.heap.size = g := ⟨_, rfl⟩
  have S7 : Hid (RunC w w7 ⟨yA, mA, eA, yB, mB, eB, yM, mM, eM, yP, mP, eP⟩ b a5 n c5 L (.slice none 0 0) []) := by rw [hw7]; exact (ST6.var (x0, x1, x2, x3, x4, x5, x6)).1
  have V7 : Hid (VarC w w7 a5 n (.slice none 0 0) g (x0, x1, x2, x3, x4, x5, x6)) := by rw [hw7, ← hg]; exact (ST6.var (x0, x1, x2, x3, x4, x5, x6)).2
  clear NX hb ST6 ST5 p0 p1 p2 p3
  go_upto_region 4 with fail
  rw [← hw7]
  clear hw7
  try rw [hg]
  clear hg
  go_wp2
  go_loopw [7, 8, 9, 10] (fun l d z f wr => ∃ (y : BA) (b' : Bks) (a' : Option Addr) (n' c' : Nat) (l' : List P7) (v : Value) (d' : List P7) (g : Nat) (p : P7) (q : Bool), l = .slice a' n' c' ∧ v = d ∧ z = .pointer (some ⟨g, 0, none⟩) ∧ f = .bool q ∧ n' + d'.length ≤ 40 ∧ Hid (RunC w wr y b' a' n' c' l' v d') ∧ Hid (VarC w wr a' n' v g p) ∧ Hid ((nextP b' l' t).isSome = q ∧ (nextP b' l' t).getD p70 = p) ∧ Hid (runA l'.length b' l' t d' = R)) (fun l _ _ _ _ => lenV l)
  case atStart => exact ⟨_, b, a5, n, c5, L, _, [], g, _, q, rfl, rfl, rfl, rfl, by have := HL.out.1; simp; omega, S7, V7, HN, HRUN⟩
  case round =>
    obtain ⟨y, b', a', n', c', l', v, d', g', p', q', rfl, rfl, rfl, rfl, h40, ST, VV, HP, HR⟩ := hrel
    clear S7 V7 HN HRUN HL HQ HG
    obtain ⟨yA, mA, eA, yB, mB, eB, yM, mM, eM, yP, mP, eP⟩ := y
    cases q' with
    | false =>
      have HNN : nextP b' l' t = none := by have := HP.out.1; cases hx : nextP b' l' t with
        | none => rfl
        | some z => rw [hx] at this; simp at this
      have HE : Hid ((b', l', d') = R) := by
        have h1 := HR.out
        rw [runA_stop d' HNN] at h1
        exact h1
      have S2 := ST.out.end
      obtain ⟨ad, cd, hv, FE⟩ := S2.free (by omega)
      rw [HE.out] at FE
      subst hv
      have RR : Hid (FreeEnd w R (.returned (.tuple #[BA.val ⟨yA, mA, eA, yB, mB, eB, yM, mM, eM, yP, mP, eP⟩, .slice a' n' c', .slice ad d'.length cd])) (wr.setRow (w.heap.size + 1) #[.slice yA mA eA, .slice yB mB eB, .slice yM mM eM, .slice yP mP eP])) := FE
      have D : Hid (BVar (wr.setRow (w.heap.size + 1) #[.slice yA mA eA, .slice yB mB eB, .slice yM mM eM, .slice yP mP eP]) (w.heap.size + 1) ⟨yA, mA, eA, yB, mB, eB, yM, mM, eM, yP, mP, eP⟩) := S2.box
      have hbox := ST.out.box
      obtain ⟨p0, p1, p2, p3⟩ := ST.out.box.box
      replace p0 : wr.cell? ⟨w.heap.size + 1, 0, none⟩ = some (.slice yA mA eA) := p0
      replace p1 : wr.cell? ⟨w.heap.size + 1, 1, none⟩ = some (.slice yB mB eB) := p1
      replace p2 : wr.cell? ⟨w.heap.size + 1, 2, none⟩ = some (.slice yM mM eM) := p2
      replace p3 : wr.cell? ⟨w.heap.size + 1, 3, none⟩ = some (.slice yP mP eP) := p3
      generalize d'.length = m at RR ⊢
      clear S2 FE HE HNN HR HP VV ST h40
      go_wp2_with (refine store_books rfl _ _ rfl (w.heap.size + 1) ⟨yA, mA, eA, yB, mB, eB, yM, mM, eM, yP, mP, eP⟩ rfl rfl _ hbox rfl ?_)
      clear p0 p1 p2 p3 hbox
      generalize wr.setRow (w.heap.size + 1) #[.slice yA mA eA, .slice yB mB eB, .slice yM mM eM, .slice yP mP eP] = wf at RR D ⊢
      obtain ⟨d0, d1, d2, d3⟩ := D.out.box
      go_wp2
      exact bodyPost_ret (v := .tuple #[BA.val ⟨yA, mA, eA, yB, mB, eB, yM, mM, eM, yP, mP, eP⟩, .slice a' n' c', .slice ad m cd]) (by simp [results, Try.results11, d0, d1, d2, d3, go_sem]) rfl RR.out
    | true =>
      have HNN : nextP b' l' t = some p' := by
        obtain ⟨h1, h2⟩ := HP.out
        cases hx : nextP b' l' t with
        | none => rw [hx] at h1; simp at h1
        | some z => rw [hx] at h2; simp at h2; rw [h2]
      have HST := runA_step d' HNN
      have HNL := next_len HNN
      have hln := ST.out.row.len
      obtain ⟨x0, x1, x2, x3, x4, x5, x6⟩ := p'
      have hid : P7.id (x0, x1, x2, x3, x4, x5, x6) = x0 := rfl
      rw [hid] at HST HNL
      obtain ⟨nq, hnq⟩ : ∃ nq, (qDrop l' x0).length = nq := ⟨_, rfl⟩
      rw [hnq] at HNL
      have HNQ : Hid ((qDrop l' x0).length = nq ∧ nq + 1 = n') := ⟨hnq, by omega⟩
      have HRR : Hid (runA (qDrop l' x0).length (postR b' [(x0, x1, x2, x3, x4, x5, x6)]) (qDrop l' x0) t (d' ++ [(x0, x1, x2, x3, x4, x5, x6)]) = R) := by rw [← HST]; exact HR.out
      clear HST HNL hnq hid hln HNN HR HP
      have PO := post_any ⟨yA, mA, eA, yB, mB, eB, yM, mM, eM, yP, mP, eP⟩ b' (some ⟨wr.heap.size, 0, none⟩) 1 1 [(x0, x1, x2, x3, x4, x5, x6)] _ (ST.out.bk.bk.below (box_below wr _)) ST.out.good (PGood.lit1 wr (x0, x1, x2, x3, x4, x5, x6))
      unfold PostEnd at PO
      generalize postE b' [(x0, x1, x2, x3, x4, x5, x6)] = er at PO
      obtain ⟨p0, p1, p2, p3⟩ := ST.out.box.box
      replace p0 : wr.cell? ⟨w.heap.size + 1, 0, none⟩ = some (.slice yA mA eA) := p0
      replace p1 : wr.cell? ⟨w.heap.size + 1, 1, none⟩ = some (.slice yB mB eB) := p1
      replace p2 : wr.cell? ⟨w.heap.size + 1, 2, none⟩ = some (.slice yM mM eM) := p2
      replace p3 : wr.cell? ⟨w.heap.size + 1, 3, none⟩ = some (.slice yP mP eP) := p3
      obtain ⟨r0, r1, r2, r3, r4, r5, r6⟩ := VV.out.1.at7
      simp only [P7.id, P7.fr, P7.to, P7.am, P7.cl, P7.st, P7.ti, Nat.zero_add] at r0 r1 r2 r3 r4 r5 r6
      go_wp2_with fail
      go_at_call 29
      refine PO.mono ?_
      rintro e w5 ⟨y2, rfl, nb, hb⟩
      have b45 : Below wr.heap.size wr w5 := (box_below _ _).trans (hb.mono (by rw [size_alloc]; omega))
      have ST5 : Hid (RunC w w5 ⟨yA, mA, eA, yB, mB, eB, yM, mM, eM, yP, mP, eP⟩ b' a' n' c' l' v d') := ST.out.below b45
      have V5 : Hid (VarC w w5 a' n' v g' (x0, x1, x2, x3, x4, x5, x6)) := VV.out.below b45
      obtain ⟨zA, lA, kA, zB, lB, kB, zM, lM, kM, zP, lP, kP⟩ := y2
      have ST6 : Hid (RunC w (w5.setRow (w.heap.size + 1) #[.slice zA lA kA, .slice zB lB kB, .slice zM lM kM, .slice zP lP kP]) ⟨zA, lA, kA, zB, lB, kB, zM, lM, kM, zP, lP, kP⟩ (postR b' [(x0, x1, x2, x3, x4, x5, x6)]) a' n' c' l' v d') :=
        ST5.out.put nb (by have := ST.out.size; rw [size_alloc]; omega) (postR_good ST.out.good _)
      have V6 : Hid (VarC w (w5.setRow (w.heap.size + 1) #[.slice zA lA kA, .slice zB lB kB, .slice zM lM kM, .slice zP lP kP]) a' n' v g' (x0, x1, x2, x3, x4, x5, x6)) := V5.out.put _
      have hbox := ST5.out.box
      clear PO nb hb b45 p0 p1 p2 p3 r0 r1 r2 r3 r4 r5 r6 ST VV ST5 V5
      go_upto_region 7 with (refine store_books rfl _ _ rfl (w.heap.size + 1) ⟨zA, lA, kA, zB, lB, kB, zM, lM, kM, zP, lP, kP⟩ rfl rfl _ hbox rfl ?_)
      clear hbox
      generalize w5.setRow (w.heap.size + 1) #[.slice zA lA kA, .slice zB lB kB, .slice zM lM kM, .slice zP lP kP] = w6 at ST6 V6 ⊢
      obtain ⟨r0, r1, r2, r3, r4, r5, r6⟩ := V6.out.1.at7
      simp only [P7.id, P7.fr, P7.to, P7.am, P7.cl, P7.st, P7.ti, Nat.zero_add] at r0 r1 r2 r3 r4 r5 r6
      have DR := drop_any7 a' n' c' l' x0 w6 ST6.out.row (by omega)
      unfold DropEnd7 at DR
      rw [HNQ.out.1] at DR
      obtain ⟨q7, hq7⟩ : ∃ q, qDropP l' x0 = q := ⟨_, rfl⟩
      rw [hq7] at DR
      generalize qDropE l' x0 = er at DR
      clear hq7
      obtain ⟨g0, g1, g2, g3, g4, g5, g6⟩ := q7
      go_wp2_with fail
      go_at_call 31
      refine DR.mono ?_
      rintro e w7 ⟨a7, c7, rfl, hg7, hn7, hb⟩
      have ST7 : Hid (RunC w w7 ⟨zA, lA, kA, zB, lB, kB, zM, lM, kM, zP, lP, kP⟩ (postR b' [(x0, x1, x2, x3, x4, x5, x6)]) a7 nq c7 (qDrop l' x0) v d') := ST6.out.drop hb hg7 hn7 (ST6.out.que.drop x0) (ST6.out.fr.drop x0)
      have V7 : Hid (VarC w w7 a7 nq v g' (x0, x1, x2, x3, x4, x5, x6)) := V6.out.drop hb hn7
      clear DR hg7 hn7 hb r0 r1 r2 r3 r4 r5 r6 V6 ST6
      obtain ⟨r0, r1, r2, r3, r4, r5, r6⟩ := V7.out.1.at7
      simp only [P7.id, P7.fr, P7.to, P7.am, P7.cl, P7.st, P7.ti, Nat.zero_add] at r0 r1 r2 r3 r4 r5 r6
      go_wp2_with (at_builtin; refine wpList_append_pays_at rfl _ _ rfl (w.heap.size + 2) v d'.length d' rfl (own_below ST7.out.own (box_below _ _)) ⟨w7.heap.size, 0, none⟩ 1 1 [(x0, x1, x2, x3, x4, x5, x6)] rfl (PGood.lit1 w7 (x0, x1, x2, x3, x4, x5, x6)) (by omega) (by have := ST7.out.size; rw [size_alloc]; omega) ?_)
      intro v8 w8 h8 g8 hv8
      have ST8 : Hid (RunC w w8 ⟨zA, lA, kA, zB, lB, kB, zM, lM, kM, zP, lP, kP⟩ (postR b' [(x0, x1, x2, x3, x4, x5, x6)]) a7 nq c7 (qDrop l' x0) v8 (d' ++ [(x0, x1, x2, x3, x4, x5, x6)])) := ST7.out.add (box_below w7 _) _ h8 g8 (by rw [size_alloc]; exact hv8)
      have V8 : Hid (VarC w w8 a7 nq v8 g' (x0, x1, x2, x3, x4, x5, x6)) := (V7.out.below (box_below w7 _)).add g8 (by rw [size_alloc]; exact hv8)
      clear h8 g8 hv8 r0 r1 r2 r3 r4 r5 r6 ST7 V7
      obtain ⟨w9, hw9⟩ : ∃ w9, w9 = w8.alloc (.cells #[.int .i64 x0, .int .i64 x1, .int .i64 x2, .int .i64 x3, .int .i64 x4, .int .i64 x5, .int .i64 x6] 31) := ⟨_, rfl⟩
      obtain ⟨g, hg⟩ : ∃ g, w8.heap.size = g := ⟨_, rfl⟩
      have ST9 : Hid (RunC w w9 ⟨zA, lA, kA, zB, lB, kB, zM, lM, kM, zP, lP, kP⟩ (postR b' [(x0, x1, x2, x3, x4, x5, x6)]) a7 nq c7 (qDrop l' x0) v8 (d' ++ [(x0, x1, x2, x3, x4, x5, x6)])) := by rw [hw9]; exact (ST8.out.var (x0, x1, x2, x3, x4, x5, x6)).1
      have V9 : Hid (VarC w w9 a7 nq v8 g (x0, x1, x2, x3, x4, x5, x6)) := by rw [hw9, ← hg]; exact (ST8.out.var (x0, x1, x2, x3, x4, x5, x6)).2
      obtain ⟨r0, r1, r2, r3, r4, r5, r6⟩ := V8.out.1.at7
      simp only [P7.id, P7.fr, P7.to, P7.am, P7.cl, P7.st, P7.ti, Nat.zero_add] at r0 r1 r2 r3 r4 r5 r6
      clear ST8 V8
      go_upto_region 5 with fail
      rw [← hw9]
      clear hw9 r0 r1 r2 r3 r4 r5 r6
      try rw [hg]
      clear hg
      have NX := next_any ⟨zA, lA, kA, zB, lB, kB, zM, lM, kM, zP, lP, kP⟩ (postR b' [(x0, x1, x2, x3, x4, x5, x6)]) a7 nq c7 (qDrop l' x0) t w9 ST9.out.bk.bk ST9.out.good ST9.out.row (by have := HNQ.out.2; omega) ST9.out.fr
      obtain ⟨q, hq⟩ : ∃ q, (nextP (postR b' [(x0, x1, x2, x3, x4, x5, x6)]) (qDrop l' x0) t).isSome = q := ⟨_, rfl⟩
      obtain ⟨p, hp⟩ : ∃ p, (nextP (postR b' [(x0, x1, x2, x3, x4, x5, x6)]) (qDrop l' x0) t).getD p70 = p := ⟨_, rfl⟩
      rw [hq, hp] at NX
      have HP : Hid ((nextP (postR b' [(x0, x1, x2, x3, x4, x5, x6)]) (qDrop l' x0) t).isSome = q ∧ (nextP (postR b' [(x0, x1, x2, x3, x4, x5, x6)]) (qDrop l' x0) t).getD p70 = p) := ⟨hq, hp⟩
      clear hq hp
      obtain ⟨u0, u1, u2, u3, u4, u5, u6⟩ := p
      obtain ⟨p0, p1, p2, p3⟩ := ST9.out.box.box
      replace p0 : w9.cell? ⟨w.heap.size + 1, 0, none⟩ = some (.slice zA lA kA) := p0
      replace p1 : w9.cell? ⟨w.heap.size + 1, 1, none⟩ = some (.slice zB lB kB) := p1
      replace p2 : w9.cell? ⟨w.heap.size + 1, 2, none⟩ = some (.slice zM lM kM) := p2
      replace p3 : w9.cell? ⟨w.heap.size + 1, 3, none⟩ = some (.slice zP lP kP) := p3
      go_wp2_with fail
      go_at_call 9
      refine NX.mono ?_
      rintro e wa ⟨rfl, hb⟩
      have STa := ST9.out.below hb
      have Va := V9.out.below hb
      have hpb := Va.1
      have Sb : Hid (RunC w (wa.setRow g #[.int .i64 u0, .int .i64 u1, .int .i64 u2, .int .i64 u3, .int .i64 u4, .int .i64 u5, .int .i64 u6]) ⟨zA, lA, kA, zB, lB, kB, zM, lM, kM, zP, lP, kP⟩ (postR b' [(x0, x1, x2, x3, x4, x5, x6)]) a7 nq c7 (qDrop l' x0) v8 (d' ++ [(x0, x1, x2, x3, x4, x5, x6)])) := (STa.set Va (u0, u1, u2, u3, u4, u5, u6)).1
      have Vb : Hid (VarC w (wa.setRow g #[.int .i64 u0, .int .i64 u1, .int .i64 u2, .int .i64 u3, .int .i64 u4, .int .i64 u5, .int .i64 u6]) a7 nq v8 g (u0, u1, u2, u3, u4, u5, u6)) := (STa.set Va (u0, u1, u2, u3, u4, u5, u6)).2
      clear NX hb STa Va ST9 V9 p0 p1 p2 p3
      go_wp2_with (refine store_pay rfl _ _ rfl g (u0, u1, u2, u3, u4, u5, u6) rfl rfl (x0, x1, x2, x3, x4, x5, x6) hpb ?_)
      simp only [P7.id, P7.fr, P7.to, P7.am, P7.cl, P7.st, P7.ti]
      clear hpb
      generalize wa.setRow g #[.int .i64 u0, .int .i64 u1, .int .i64 u2, .int .i64 u3, .int .i64 u4, .int .i64 u5, .int .i64 u6] = wb at Sb Vb ⊢
      go_wp2
      go_roundw
      case rel => exact ⟨_, _, a7, nq, c7, _, v8, _, g, _, q, rfl, rfl, rfl, rfl, by have := HNQ.out.2; rw [List.length_append]; simp; omega, Sb, Vb, HP, HRR⟩
      case measure => have := HNQ.out.2; simp [lenV]; omega
/-- Run answers as the document's. -/
theorem run_as : RunsAs 11 := fun x b a n c L t w h1 h2 h3 h4 h5 => run_any x b a n c L t w h1 h2 h3 h4 h5

end Go.Proofs.Ytgcofidkgohogaa
