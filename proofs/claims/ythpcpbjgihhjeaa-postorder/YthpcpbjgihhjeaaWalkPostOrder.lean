/-
  The walk of PostOrder.
-/
import Derived.Test.YthpcpbjgihhjeaaKnown16
import Derived.Test.YthpcpbjgihhjeaaPostPure
import Derived.Test.YthpcpbjgihhjeaaFactsLate
import Derived.Test.YthpcpbjgihhjeaaRowRefs
import Derived.Test.YthpcpbjgihhjeaaRowBase
import Derived.Deep.CutRange
namespace Go.Proofs.Ythpcpbjgihhjeaa
open Go.RowKit
set_option linter.unusedVariables false
set_option linter.unusedSimpArgs false

/-- What Post answers, as a fact; a variable that was just laid. -/
def Fact.post (B : Nat) (b : Bks) (n : Int) : Fact := ⟨fun w v => ∃ y : BA, v = .tuple #[y.val, .int .i64 n] ∧ NewBk w B y b, fun _ _ _ hb ⟨y, h1, h2⟩ => ⟨y, h1, h2.below hb⟩⟩
def Fact.bks (B : Nat) (b : Bks) : Fact := ⟨fun w v => ∃ y : BA, v = y.val ∧ NewBk w B y b, fun _ _ _ hb ⟨y, h1, h2⟩ => ⟨y, h1, h2.below hb⟩⟩
def Fact.bvar (B : Nat) : Fact := ⟨fun w v => ∃ z, v = .pointer (some ⟨z, 0, none⟩) ∧ B ≤ z ∧ w.heap[z]? = some (.cells #[.slice none 0 0, .slice none 0 0, .slice none 0 0, .slice none 0 0] 26 (0, 0)), fun w w' v hb ⟨z, h1, h2, h3⟩ => ⟨z, h1, h2, (hb.block _ (lt_of_block h3)).trans h3⟩⟩
theorem post_fact {f : FuncId} {args : Array Value} {w : World} {b : Bks} {L : List P7} {B : Nat} {k : Bks} {n : Int} (hB : B ≤ w.heap.size) (he : postE b L = n) (hr : postR b L = k) (h : Calls Try.prog f args w (PostEnd w b L)) :
    Calls Try.prog f args w fun e w' => ∃ v, e = .returned v ∧ Below w.heap.size w w' ∧ (Fact.post B k n).1 w' v :=
  h.mono fun e w' ⟨y, h1, h2, h3⟩ => ⟨_, h1, h3, y, by rw [he], by rw [← hr]; exact h2.base hB⟩
theorem bvar_ne {w : World} {B z : Nat} {y : BA} {b : Bks} {cs : Array Value} (h : NewBk w B y b) (hz : w.heap[z]? = some (.cells cs 26 (0, 0))) (cs' : Array Value) : NewBk (w.setRow z cs') B y b := by
  have key : ∀ {t : TypeId} {B' s' n' : Nat} {v' : Value} {xs' : List Value}, w.ownsRow B' t s' v' n' xs' → t ≠ 26 → (w.setRow z cs').ownsRow B' t s' v' n' xs' := fun ho ht => by
    refine ⟨ho.1, ?_⟩
    rcases ho.2 with h0 | ⟨g, cap, cur, hv, hb, hg, rest⟩
    · exact .inl h0
    · refine .inr ⟨g, cap, cur, hv, hb, (setRow_other w z g _ (fun e => ?_)).trans hg, rest⟩
      subst e
      rw [hz] at hg
      simp at hg
      exact ht hg.2.symm
  have mk : ∀ {v : Value} {vs : List Value} {R : List (List Int)}, MadeI w B v vs R → MadeI (w.setRow z cs') B v vs R := fun hm => ⟨key hm.own (by decide), fun i hi => key (hm.row i hi) (by decide), hm.spine, hm.rows, hm.bs⟩
  exact ⟨key h.acc (by decide), h.bil.imp fun _ h => mk h, key h.mul (by decide), h.pos.imp fun _ h => mk h, h.wf⟩

set_option maxHeartbeats 16000000 in
set_option maxRecDepth 100000 in
theorem Walk.postOrder (ah : Option Addr) (nh ch : Nat) (zh : List Int) (way : Int) (a : Option Addr) (n c : Nat) (L : List P7) (cut : Int) (w : World) (h0 : Walk.IsRow .i64 w ah nh ch zh) (hway : (Lit.int .i64 way).wf = true) (hp : PaysIn w a n c L) (hcutw : (Lit.int .i64 cut).wf = true) :
    Calls Try.prog 5 #[.slice ah nh ch, .int .i64 way, .slice a n c, .int .i64 cut] w fun e w' => e = .returned (.bool true) ∧ Below w.heap.size w w' := by
  rcases Nat.lt_or_ge 30 n with h30 | h30
  · have h1 : (30 : Int) < (n : Int) := by omega
    clear h0 hway hp h30 hcutw
    go_enter Try.func5, Try.ntmps5
    go_wp2
    go_ret
    exact ⟨rfl, Below.refl _ _⟩
  have h1 : (n : Int) ≤ 30 := by omega
  obtain ⟨hsl, hcap, hmax⟩ := h0.sl fun n hn => by
    simp only [Lit.wf, Bool.and_eq_true, decide_eq_true_eq] at hn
    exact i64_wf hn.1 hn.2
  have S := some_any ah nh ch (zh.take nh) way w hsl (by omega)
  have HG : Hid (PGood w a n c L) := hp.good
  have HL : Hid (n = L.length) := hp.good.len
  obtain ⟨hq, hlen, hall⟩ := rowed_ok (L := L) (by have := HL.out; omega)
  have PR := post_rowed (zh.take nh) (bitB way 1) (bitB way 2) (bitB way 4) hall (by rw [hlen]; have := HL.out; omega)
  have P2 := fun j => post_two (zh.take nh) (bitB way 1) (bitB way 2) (bitB way 4) hall (by rw [hlen]; have := HL.out; omega) j
  obtain ⟨kb, hkb⟩ : ∃ kb, someK (zh.take nh) (bitB way 1) (bitB way 2) (bitB way 4) = kb := ⟨_, rfl⟩
  have gs := good_some (zh.take nh) (bitB way 1) (bitB way 2) (bitB way 4)
  rw [hkb] at S PR P2 gs
  have GB : Hid (Good kb) := gs
  have HR : Hid ((rowedL L).length = n) := by show _ = _; rw [hlen, HL.out]
  have RW := fun u (hu : Below w.heap.size w u) => rowed_any a n c L u (HG.out.below hu) (by omega)
  obtain ⟨R0, hR0⟩ : ∃ R0, rowedL L = R0 := ⟨_, rfl⟩
  unfold PGot at RW
  rw [HR.out] at RW
  rw [hR0] at HR PR P2 RW
  obtain ⟨KA, hKA⟩ : ∃ KA, postB kb R0 = KA := ⟨_, rfl⟩
  rw [hKA] at PR P2
  have H1 : Hid (postE kb R0 = 0 ∧ postR kb R0 = KA) := PR.2
  obtain ⟨u, k, hu, huk, hkn, a5, a4⟩ := place_of cut (n + 1) (by omega)
  have huk : u % ((n : Int) + 1) = (k : Int) := huk
  have hk1 : (k : Int) ≤ (n : Int) := by omega
  have P2 := P2 k
  obtain ⟨KH, hKH⟩ : ∃ KH, postB kb (R0.drop k) = KH := ⟨_, rfl⟩
  rw [hKH] at P2
  have H2 : Hid (Good KH) := P2.1
  have H3 : Hid (postE kb (R0.drop k) = 0 ∧ postR kb (R0.drop k) = KH) := ⟨P2.2.1, P2.2.2.1⟩
  have H4 : Hid (postE KH (R0.take k) = 0 ∧ postR KH (R0.take k) = KA) := ⟨P2.2.2.2.1, P2.2.2.2.2⟩
  clear hkb hsl h0 hlen hp PR P2 gs hKA hKH hR0 hq hall
  go_enter Try.func5, Try.ntmps5
  go_wp2_with fail
  go_at_call 16
  refine S.mono ?_
  rintro e w1 ⟨yb, rfl, nb, bel⟩
  have B1 : Hid (Below w.heap.size w w1) := bel
  have N1 : Hid (Bk w1 yb kb) := nb.bk
  have R := RW w1 bel
  clear S nb bel RW
  go_wp2_with fail
  go_at_call 17
  refine R.mono ?_
  rintro e w2 ⟨ar, cr, rfl, gr, hb⟩
  have BW2 : Hid (Below w.heap.size w w2) := B1.out.trans (hb.mono B1.out.size)
  have N2 : Hid (Bk w2 yb kb) := N1.out.below hb
  have G2 : Hid (PGood w2 ar n cr R0) := gr
  clear hb R N1 B1 gr HG HL
  obtain ⟨aA, nA, cA, aB, nB, cB, aM, nM, cM, aP, nP, cP⟩ := yb
  obtain ⟨w3, hw3⟩ : ∃ w3, w3 = w2.alloc (.cells #[.slice aA nA cA, .slice aB nB cB, .slice aM nM cM, .slice aP nP cP] 26) := ⟨_, rfl⟩
  have BW3 : Hid (Below w.heap.size w w3) := by rw [hw3]; exact BW2.out.alloc BW2.out.size _
  have X3 : Hid (Box4 w3 w2.heap.size ⟨aA, nA, cA, aB, nB, cB, aM, nM, cM, aP, nP, cP⟩) := by rw [hw3]; exact Box4.new w2 ⟨aA, nA, cA, aB, nB, cB, aM, nM, cM, aP, nP, cP⟩ _ _
  have N3 : Hid (Bk w3 ⟨aA, nA, cA, aB, nB, cB, aM, nM, cM, aP, nP, cP⟩ kb) := by rw [hw3]; exact N2.out.below (box_below _ _)
  have G3 : Hid (PGood w3 ar n cr R0) := by rw [hw3]; exact G2.out.below (box_below _ _)
  clear N2 G2 BW2
  obtain ⟨zb, hzb⟩ : ∃ z, w2.heap.size = z := ⟨_, rfl⟩
  rw [hzb] at X3
  have P1 := post_any ⟨aA, nA, cA, aB, nB, cB, aM, nM, cM, aP, nP, cP⟩ kb ar n cr R0 w3 N3.out GB.out G3.out
  unfold PostEnd at P1
  rw [H1.out.1, H1.out.2] at P1
  obtain ⟨p0, p1, p2, p3⟩ := X3.out
  replace p0 : w3.cell? ⟨zb, 0, none⟩ = some (.slice aA nA cA) := p0
  replace p1 : w3.cell? ⟨zb, 1, none⟩ = some (.slice aB nB cB) := p1
  replace p2 : w3.cell? ⟨zb, 2, none⟩ = some (.slice aM nM cM) := p2
  replace p3 : w3.cell? ⟨zb, 3, none⟩ = some (.slice aP nP cP) := p3
  have hcr := G3.out.cap
  have hcm := G3.out.max
  go_upto_region 4 with fail
  rw [← hw3]
  try simp only [hzb]
  clear hw3 hzb
  go_wp2_with fail
  go_at_call 11
  refine P1.mono ?_
  rintro e w4 ⟨ya, rfl, nb, hb⟩
  have N4 : Hid (Bk w4 ya KA) := nb.bk
  have B34 : Hid (Below w3.heap.size w3 w4) := hb
  clear P1 nb hb p0 p1 p2 p3
  obtain ⟨yA, mA, eA, yB, mB, eB, yM, mM, eM, yP, mP, eP⟩ := ya
  obtain ⟨w5, hw5⟩ : ∃ w5, w5 = w4.alloc (.cells #[.slice yA mA eA, .slice yB mB eB, .slice yM mM eM, .slice yP mP eP] 26) := ⟨_, rfl⟩
  have b5 : Below w4.heap.size w4 w5 := by rw [hw5]; exact box_below _ _
  have X5 : Hid (Box4 w5 w4.heap.size ⟨yA, mA, eA, yB, mB, eB, yM, mM, eM, yP, mP, eP⟩) := by rw [hw5]; exact Box4.new w4 ⟨yA, mA, eA, yB, mB, eB, yM, mM, eM, yP, mP, eP⟩ _ _
  have B35 : Hid (Below w3.heap.size w3 w5) := B34.out.trans (b5.mono B34.out.size)
  have N5 : Hid (Bk w5 ⟨yA, mA, eA, yB, mB, eB, yM, mM, eM, yP, mP, eP⟩ KA) := N4.out.below b5
  have B5 : Hid (Below w.heap.size w w5) := BW3.out.trans (B35.out.mono BW3.out.size)
  have XB5 : Hid (Box4 w5 zb ⟨aA, nA, cA, aB, nB, cB, aM, nM, cM, aP, nP, cP⟩) := X3.out.below B35.out
  have NB5 : Hid (Bk w5 ⟨aA, nA, cA, aB, nB, cB, aM, nM, cM, aP, nP, cP⟩ kb) := N3.out.below B35.out
  have G5 : Hid (PGood w5 ar n cr R0) := G3.out.below B35.out
  clear b5 N4 B34 N3 G3 X3 BW3 B35
  obtain ⟨za, hza⟩ : ∃ z, w4.heap.size = z := ⟨_, rfl⟩
  rw [hza] at X5
  have C2 : Hid (∀ v, Below w5.heap.size w5 v → Calls Try.prog 11 #[.agg #[.slice aA nA cA, .slice aB nB cB, .slice aM nM cM, .slice aP nP cP], .slice (pcut ar cr k) (n - k) (cr - k)] v (PostEnd v kb (R0.drop k))) := fun v hv => post_any ⟨aA, nA, cA, aB, nB, cB, aM, nM, cM, aP, nP, cP⟩ kb _ _ _ _ v (NB5.out.below hv) GB.out ((G5.out.below hv).from k (by omega))
  have G6 : Hid (PGood w5 ar k cr (R0.take k)) := G5.out.take k (by omega)
  go_upto_region 6 with fail
  rw [← hw5]
  try simp only [hza]
  clear hw5 hza
  go_cut [14, 15] from 38 to 45 (fun s f wc => ∃ (z : Nat) (y : BA), s = .pointer (some ⟨z, 0, none⟩) ∧ f = .int .i64 0 ∧ Hid (Bk wc y KH) ∧ Hid (Box4 wc z y) ∧ Hid (Below w5.heap.size w5 wc))
  case first =>
    refine region_owes_late 9 7 (L := [Fact.is (.agg #[.slice aA nA cA, .slice aB nB cB, .slice aM nM cM, .slice aP nP cP]),
      Fact.is (.slice ar n cr),
      Fact.is (.int .i64 k),
      Fact.is (.slice (pcut ar cr k) (n - k) (cr - k)),
      Fact.post w5.heap.size KH 0,
      Fact.post w5.heap.size KH 0,
      Fact.bks w5.heap.size KH,
      Fact.is (.int .i64 0),
      Fact.bvar w5.heap.size])
      (T := [39, 40, 41, 42, 43, 38, 44, 45, 14]) (by kernel_rfl) rfl (Nat.le_of_ble_eq_true rfl) (by kernel_rfl) (by kernel_rfl) (by kernel_rfl) (by kernel_rfl) (by kernel_rfl) rfl ?owes ?_ ?_
    case owes =>
      simp only [List.take_succ_cons, List.take_zero]
      refine .cons (owes_value fun q u lh => ⟨wants_free rfl, .agg #[.slice aA nA cA, .slice aB nB cB, .slice aM nM cM, .slice aP nP cP], by have e9 : q.tmps.getD 9 undef = .pointer (some ⟨zb, 0, none⟩) := lh.old 9 rfl; obtain ⟨q0, q1, q2, q3⟩ := XB5.out.below lh.below; simp [execOp, Act.eval, e9, q0, q1, q2, q3, go_sem], rfl⟩) ?_
      refine .cons (owes_move (.tmp 10) (.inl rfl) fun q u lh => ⟨wants_free rfl, lh.old 10 rfl⟩) ?_
      refine .cons (owes_move (.tmp 11) (.inl rfl) fun q u lh => ⟨wants_free rfl, lh.old 11 rfl⟩) ?_
      refine .cons (owes_value fun q u lh => ⟨wants_free rfl, .slice (pcut ar cr k) (n - k) (cr - k), by have e40 : q.tmps.getD 40 undef = .slice ar n cr := lh.dep 1 rfl; have e41 : q.tmps.getD 41 undef = .int .i64 k := lh.dep 2 rfl; have z1 : k ≤ n := (by omega); simp [execOp, Act.eval, e40, e41, z1, pcut, go_sem], rfl⟩) ?_
      refine .cons (owes_call 11 Try.func11 (by kernel_rfl) (by kernel_rfl) [.tmp 39, .tmp 42] #[26, 27] rfl fun q u lh => ⟨wants_free rfl, by have e39 : q.tmps.getD 39 undef = .agg #[.slice aA nA cA, .slice aB nB cB, .slice aM nM cM, .slice aP nP cP] := lh.dep 0 rfl; have e42 : q.tmps.getD 42 undef = .slice (pcut ar cr k) (n - k) (cr - k) := lh.dep 3 rfl; show Calls Try.prog 11 #[q.tmps.getD 39 undef, q.tmps.getD 42 undef] u _; rw [e39, e42]; exact post_fact lh.below.size H3.out.1 H3.out.2 (C2.out u lh.below)⟩) ?_
      refine .cons (owes_move (.tmp 43) (.inl rfl) fun q u lh => ⟨wants_free rfl, lh.dep 4 rfl⟩) ?_
      refine .cons (owes_value fun q u lh => by obtain ⟨y, e38, hy⟩ := lh.dep 5 rfl; have e38 : q.tmps[38]?.getD undef = _ := (Array.getD_eq_getD_getElem? ..).symm.trans e38; exact ⟨wants_free rfl, y.val, by simp [execOp, Act.eval, e38, go_sem], y, rfl, hy⟩) ?_
      refine .cons (owes_value fun q u lh => by obtain ⟨y, e38, hy⟩ := lh.dep 5 rfl; have e38 : q.tmps[38]?.getD undef = _ := (Array.getD_eq_getD_getElem? ..).symm.trans e38; exact ⟨wants_free rfl, .int .i64 0, by simp [execOp, Act.eval, e38, go_sem], rfl⟩) ?_
      refine .cons (owes_make fun q u lh => ⟨wants_free rfl, .pointer (some ⟨u.heap.size, 0, none⟩), u.alloc (.cells #[.slice none 0 0, .slice none 0 0, .slice none 0 0, .slice none 0 0] 26), by simp [execOp, Act.eval, go_sem], box_below _ _, ⟨_, rfl, lh.below.size, heap_alloc_new u _⟩⟩) ?_
      exact .nil _
    · intro q u hb hsz hdf hold hfact
      obtain ⟨y, ec, hc⟩ : (Fact.post w5.heap.size KH 0).1 u (q.tmps.getD 43 undef) := hfact 4 (by decide)
      obtain ⟨yy, em, hm⟩ : (Fact.post w5.heap.size KH 0).1 u (q.tmps.getD 38 undef) := hfact 5 (by decide)
      obtain ⟨yx, ex, hx⟩ : (Fact.bks w5.heap.size KH).1 u (q.tmps.getD 44 undef) := hfact 6 (by decide)
      obtain ⟨z, ez, hz, hzc⟩ : (Fact.bvar w5.heap.size).1 u (q.tmps.getD 14 undef) := hfact 8 (by decide)
      obtain ⟨gA, hA, iA, gB, hB, iB, gM, hM, iM, gP, hP, iP⟩ := yx
      have D : Hid (Box4 (u.setRow z #[.slice gA hA iA, .slice gB hB iB, .slice gM hM iM, .slice gP hP iP]) z ⟨gA, hA, iA, gB, hB, iB, gM, hM, iM, gP, hP, iP⟩) := box_set hzc ⟨gA, hA, iA, gB, hB, iB, gM, hM, iM, gP, hP, iP⟩
      have N : Hid (Bk (u.setRow z #[.slice gA hA iA, .slice gB hB iB, .slice gM hM iM, .slice gP hP iP]) ⟨gA, hA, iA, gB, hB, iB, gM, hM, iM, gP, hP, iP⟩ KH) := (bvar_ne hx hzc _).bk
      have BB : Hid (Below w5.heap.size w5 (u.setRow z #[.slice gA hA iA, .slice gB hB iB, .slice gM hM iM, .slice gP hP iP])) := Below.setRow hb hz _
      obtain rfl := frame_puts hsz hdf [39, 40, 41, 42, 43, 38, 44, 45, 14] hold [(39, Value.agg #[.slice aA nA cA, .slice aB nB cB, .slice aM nM cM, .slice aP nP cP]), (40, Value.slice ar n cr), (41, Value.int .i64 k), (42, Value.slice (pcut ar cr k) (n - k) (cr - k)), (43, Value.tuple #[y.val, .int .i64 0]), (38, Value.tuple #[yy.val, .int .i64 0]), (44, BA.val ⟨gA, hA, iA, gB, hB, iB, gM, hM, iM, gP, hP, iP⟩), (45, Value.int .i64 0), (14, Value.pointer (some ⟨z, 0, none⟩))] ⟨hfact 0 (by decide), hfact 1 (by decide), hfact 2 (by decide), hfact 3 (by decide), ec, em, ex, hfact 7 (by decide), ez, trivial⟩ rfl
      clear hsz hdf hold hfact
      simp only [List.drop_succ_cons, List.drop_zero, TailWp, LateWp, List.take_succ_cons, List.take_zero, List.getD_cons_zero, List.getD_cons_succ]
      simp only [puts, Act.put, List.setIfInBounds_toArray, List.set_cons_zero, List.set_cons_succ]
      refine wp_store_row 26 (.tmp 14) (.tmp 44) rfl z #[.slice gA hA iA, .slice gB hB iB, .slice gM hM iM, .slice gP hP iP] rfl rfl _ _ hzc booksSize (by simp) (by simp [Value.oneCell']) ?_
      refine wp_assign _ rfl ?_
      generalize u.setRow z #[.slice gA hA iA, .slice gB hB iB, .slice gM hM iM, .slice gP hP iP] = wf at D N BB ⊢
      clear hb hc hm hx hzc
      go_wp2
      go_meet
      exact ⟨z, ⟨gA, hA, iA, gB, hB, iB, gM, hM, iM, gP, hP, iP⟩, rfl, rfl, N, D, BB⟩
    · intro q u hb hsz hdf hold hfact
      obtain ⟨y, ec, hc⟩ : (Fact.post w5.heap.size KH 0).1 u (q.tmps.getD 43 undef) := hfact 4 (by decide) (by decide)
      obtain ⟨yy, em, hm⟩ : (Fact.post w5.heap.size KH 0).1 u (q.tmps.getD 38 undef) := hfact 5 (by decide) (by decide)
      obtain ⟨yx, ex, hx⟩ : (Fact.bks w5.heap.size KH).1 u (q.tmps.getD 44 undef) := hfact 6 (by decide) (by decide)
      obtain ⟨z, ez, hz, hzc⟩ : (Fact.bvar w5.heap.size).1 u (q.tmps.getD 14 undef) := hfact 8 (by decide) (by decide)
      obtain ⟨ve, ee⟩ : ∃ v, q.tmps.getD 45 undef = v := ⟨_, rfl⟩
      obtain ⟨gA, hA, iA, gB, hB, iB, gM, hM, iM, gP, hP, iP⟩ := yx
      have D : Hid (Box4 (u.setRow z #[.slice gA hA iA, .slice gB hB iB, .slice gM hM iM, .slice gP hP iP]) z ⟨gA, hA, iA, gB, hB, iB, gM, hM, iM, gP, hP, iP⟩) := box_set hzc ⟨gA, hA, iA, gB, hB, iB, gM, hM, iM, gP, hP, iP⟩
      have N : Hid (Bk (u.setRow z #[.slice gA hA iA, .slice gB hB iB, .slice gM hM iM, .slice gP hP iP]) ⟨gA, hA, iA, gB, hB, iB, gM, hM, iM, gP, hP, iP⟩ KH) := (bvar_ne hx hzc _).bk
      have BB : Hid (Below w5.heap.size w5 (u.setRow z #[.slice gA hA iA, .slice gB hB iB, .slice gM hM iM, .slice gP hP iP])) := Below.setRow hb hz _
      obtain rfl := frame_puts hsz hdf [39, 40, 41, 42, 43, 38, 44, 45, 14] hold [(39, Value.agg #[.slice aA nA cA, .slice aB nB cB, .slice aM nM cM, .slice aP nP cP]), (40, Value.slice ar n cr), (41, Value.int .i64 k), (42, Value.slice (pcut ar cr k) (n - k) (cr - k)), (43, Value.tuple #[y.val, .int .i64 0]), (38, Value.tuple #[yy.val, .int .i64 0]), (44, BA.val ⟨gA, hA, iA, gB, hB, iB, gM, hM, iM, gP, hP, iP⟩), (45, ve), (14, Value.pointer (some ⟨z, 0, none⟩))] ⟨hfact 0 (by decide) (by decide), hfact 1 (by decide) (by decide), hfact 2 (by decide) (by decide), hfact 3 (by decide) (by decide), ec, em, ex, ee, ez, trivial⟩ rfl
      clear hsz hdf hold hfact
      simp only [List.drop_succ_cons, List.drop_zero, TailWp, LateWp, List.take_succ_cons, List.take_zero, List.getD_cons_zero, List.getD_cons_succ]
      simp only [puts, Act.put, List.setIfInBounds_toArray, List.set_cons_zero, List.set_cons_succ]
      refine wp_store_row 26 (.tmp 14) (.tmp 44) rfl z #[.slice gA hA iA, .slice gB hB iB, .slice gM hM iM, .slice gP hP iP] rfl rfl _ _ hzc booksSize (by simp) (by simp [Value.oneCell']) ?_
      refine wp_value (.int .i64 0) (by simp [execOp, Act.eval, go_sem]) ?_
      simp only [Act.put, List.setIfInBounds_toArray, List.set_cons_zero, List.set_cons_succ]
      refine wp_assign _ rfl ?_
      generalize u.setRow z #[.slice gA hA iA, .slice gB hB iB, .slice gM hM iM, .slice gP hP iP] = wf at D N BB ⊢
      clear hb hc hm hx hzc
      go_wp2
      go_meet
      exact ⟨z, ⟨gA, hA, iA, gB, hB, iB, gM, hM, iM, gP, hP, iP⟩, rfl, rfl, N, D, BB⟩
  case rest =>
  obtain ⟨zh2, yh, hs, hf, NH, XH, B56⟩ := hcut
  subst hs hf
  obtain ⟨w6, rfl⟩ : ∃ z, z = wc := ⟨wc, rfl⟩
  obtain ⟨vA, lA, dA, vB, lB, dB, vM, lM, dM, vP, lP, dP⟩ := yh
  have C3 : Hid (∀ v, Below w6.heap.size w6 v → Calls Try.prog 11 #[.agg #[.slice vA lA dA, .slice vB lB dB, .slice vM lM dM, .slice vP lP dP], .slice ar k cr] v (PostEnd v KH (R0.take k))) := fun v hv => post_any ⟨vA, lA, dA, vB, lB, dB, vM, lM, dM, vP, lP, dP⟩ KH _ _ _ _ v (NH.out.below hv) H2.out ((G6.out.below B56.out).below hv)
  go_upto_region 7 with fail
  go_cut [16, 17] from 46 to 53 (fun s f wc => ∃ (z : Nat) (y : BA), s = .pointer (some ⟨z, 0, none⟩) ∧ f = .int .i64 0 ∧ Hid (Bk wc y KA) ∧ Hid (Box4 wc z y) ∧ Hid (Below w6.heap.size w6 wc))
  case first =>
    refine region_owes_late 9 7 (L := [Fact.is (.agg #[.slice vA lA dA, .slice vB lB dB, .slice vM lM dM, .slice vP lP dP]),
      Fact.is (.slice ar n cr),
      Fact.is (.int .i64 k),
      Fact.is (.slice ar k cr),
      Fact.post w6.heap.size KA 0,
      Fact.post w6.heap.size KA 0,
      Fact.bks w6.heap.size KA,
      Fact.is (.int .i64 0),
      Fact.bvar w6.heap.size])
      (T := [47, 48, 49, 50, 51, 46, 52, 53, 16]) (by kernel_rfl) rfl (Nat.le_of_ble_eq_true rfl) (by kernel_rfl) (by kernel_rfl) (by kernel_rfl) (by kernel_rfl) (by kernel_rfl) rfl ?owes ?_ ?_
    case owes =>
      simp only [List.take_succ_cons, List.take_zero]
      refine .cons (owes_value fun q u lh => ⟨wants_free rfl, .agg #[.slice vA lA dA, .slice vB lB dB, .slice vM lM dM, .slice vP lP dP], by have e14 : q.tmps.getD 14 undef = .pointer (some ⟨zh2, 0, none⟩) := lh.old 14 rfl; obtain ⟨q0, q1, q2, q3⟩ := XH.out.below lh.below; simp [execOp, Act.eval, e14, q0, q1, q2, q3, go_sem], rfl⟩) ?_
      refine .cons (owes_move (.tmp 10) (.inl rfl) fun q u lh => ⟨wants_free rfl, lh.old 10 rfl⟩) ?_
      refine .cons (owes_move (.tmp 11) (.inl rfl) fun q u lh => ⟨wants_free rfl, lh.old 11 rfl⟩) ?_
      refine .cons (owes_value fun q u lh => ⟨wants_free rfl, .slice ar k cr, by have e48 : q.tmps.getD 48 undef = .slice ar n cr := lh.dep 1 rfl; have e49 : q.tmps.getD 49 undef = .int .i64 k := lh.dep 2 rfl; have z1 : k ≤ cr := (by omega); have z2 : ¬ cr < k := (by omega); simp [execOp, Act.eval, e48, e49, z1, z2, go_sem], rfl⟩) ?_
      refine .cons (owes_call 11 Try.func11 (by kernel_rfl) (by kernel_rfl) [.tmp 47, .tmp 50] #[26, 27] rfl fun q u lh => ⟨wants_free rfl, by have e47 : q.tmps.getD 47 undef = .agg #[.slice vA lA dA, .slice vB lB dB, .slice vM lM dM, .slice vP lP dP] := lh.dep 0 rfl; have e50 : q.tmps.getD 50 undef = .slice ar k cr := lh.dep 3 rfl; show Calls Try.prog 11 #[q.tmps.getD 47 undef, q.tmps.getD 50 undef] u _; rw [e47, e50]; exact post_fact lh.below.size H4.out.1 H4.out.2 (C3.out u lh.below)⟩) ?_
      refine .cons (owes_move (.tmp 51) (.inl rfl) fun q u lh => ⟨wants_free rfl, lh.dep 4 rfl⟩) ?_
      refine .cons (owes_value fun q u lh => by obtain ⟨y, e46, hy⟩ := lh.dep 5 rfl; have e46 : q.tmps[46]?.getD undef = _ := (Array.getD_eq_getD_getElem? ..).symm.trans e46; exact ⟨wants_free rfl, y.val, by simp [execOp, Act.eval, e46, go_sem], y, rfl, hy⟩) ?_
      refine .cons (owes_value fun q u lh => by obtain ⟨y, e46, hy⟩ := lh.dep 5 rfl; have e46 : q.tmps[46]?.getD undef = _ := (Array.getD_eq_getD_getElem? ..).symm.trans e46; exact ⟨wants_free rfl, .int .i64 0, by simp [execOp, Act.eval, e46, go_sem], rfl⟩) ?_
      refine .cons (owes_make fun q u lh => ⟨wants_free rfl, .pointer (some ⟨u.heap.size, 0, none⟩), u.alloc (.cells #[.slice none 0 0, .slice none 0 0, .slice none 0 0, .slice none 0 0] 26), by simp [execOp, Act.eval, go_sem], box_below _ _, ⟨_, rfl, lh.below.size, heap_alloc_new u _⟩⟩) ?_
      exact .nil _
    · intro q u hb hsz hdf hold hfact
      obtain ⟨y, ec, hc⟩ : (Fact.post w6.heap.size KA 0).1 u (q.tmps.getD 51 undef) := hfact 4 (by decide)
      obtain ⟨yy, em, hm⟩ : (Fact.post w6.heap.size KA 0).1 u (q.tmps.getD 46 undef) := hfact 5 (by decide)
      obtain ⟨yx, ex, hx⟩ : (Fact.bks w6.heap.size KA).1 u (q.tmps.getD 52 undef) := hfact 6 (by decide)
      obtain ⟨z, ez, hz, hzc⟩ : (Fact.bvar w6.heap.size).1 u (q.tmps.getD 16 undef) := hfact 8 (by decide)
      obtain ⟨gA, hA, iA, gB, hB, iB, gM, hM, iM, gP, hP, iP⟩ := yx
      have D : Hid (Box4 (u.setRow z #[.slice gA hA iA, .slice gB hB iB, .slice gM hM iM, .slice gP hP iP]) z ⟨gA, hA, iA, gB, hB, iB, gM, hM, iM, gP, hP, iP⟩) := box_set hzc ⟨gA, hA, iA, gB, hB, iB, gM, hM, iM, gP, hP, iP⟩
      have N : Hid (Bk (u.setRow z #[.slice gA hA iA, .slice gB hB iB, .slice gM hM iM, .slice gP hP iP]) ⟨gA, hA, iA, gB, hB, iB, gM, hM, iM, gP, hP, iP⟩ KA) := (bvar_ne hx hzc _).bk
      have BB : Hid (Below w6.heap.size w6 (u.setRow z #[.slice gA hA iA, .slice gB hB iB, .slice gM hM iM, .slice gP hP iP])) := Below.setRow hb hz _
      obtain rfl := frame_puts hsz hdf [47, 48, 49, 50, 51, 46, 52, 53, 16] hold [(47, Value.agg #[.slice vA lA dA, .slice vB lB dB, .slice vM lM dM, .slice vP lP dP]), (48, Value.slice ar n cr), (49, Value.int .i64 k), (50, Value.slice ar k cr), (51, Value.tuple #[y.val, .int .i64 0]), (46, Value.tuple #[yy.val, .int .i64 0]), (52, BA.val ⟨gA, hA, iA, gB, hB, iB, gM, hM, iM, gP, hP, iP⟩), (53, Value.int .i64 0), (16, Value.pointer (some ⟨z, 0, none⟩))] ⟨hfact 0 (by decide), hfact 1 (by decide), hfact 2 (by decide), hfact 3 (by decide), ec, em, ex, hfact 7 (by decide), ez, trivial⟩ rfl
      clear hsz hdf hold hfact
      simp only [List.drop_succ_cons, List.drop_zero, TailWp, LateWp, List.take_succ_cons, List.take_zero, List.getD_cons_zero, List.getD_cons_succ]
      simp only [puts, Act.put, List.setIfInBounds_toArray, List.set_cons_zero, List.set_cons_succ]
      refine wp_store_row 26 (.tmp 16) (.tmp 52) rfl z #[.slice gA hA iA, .slice gB hB iB, .slice gM hM iM, .slice gP hP iP] rfl rfl _ _ hzc booksSize (by simp) (by simp [Value.oneCell']) ?_
      refine wp_assign _ rfl ?_
      generalize u.setRow z #[.slice gA hA iA, .slice gB hB iB, .slice gM hM iM, .slice gP hP iP] = wf at D N BB ⊢
      clear hb hc hm hx hzc
      go_wp2
      go_meet
      exact ⟨z, ⟨gA, hA, iA, gB, hB, iB, gM, hM, iM, gP, hP, iP⟩, rfl, rfl, N, D, BB⟩
    · intro q u hb hsz hdf hold hfact
      obtain ⟨y, ec, hc⟩ : (Fact.post w6.heap.size KA 0).1 u (q.tmps.getD 51 undef) := hfact 4 (by decide) (by decide)
      obtain ⟨yy, em, hm⟩ : (Fact.post w6.heap.size KA 0).1 u (q.tmps.getD 46 undef) := hfact 5 (by decide) (by decide)
      obtain ⟨yx, ex, hx⟩ : (Fact.bks w6.heap.size KA).1 u (q.tmps.getD 52 undef) := hfact 6 (by decide) (by decide)
      obtain ⟨z, ez, hz, hzc⟩ : (Fact.bvar w6.heap.size).1 u (q.tmps.getD 16 undef) := hfact 8 (by decide) (by decide)
      obtain ⟨ve, ee⟩ : ∃ v, q.tmps.getD 53 undef = v := ⟨_, rfl⟩
      obtain ⟨gA, hA, iA, gB, hB, iB, gM, hM, iM, gP, hP, iP⟩ := yx
      have D : Hid (Box4 (u.setRow z #[.slice gA hA iA, .slice gB hB iB, .slice gM hM iM, .slice gP hP iP]) z ⟨gA, hA, iA, gB, hB, iB, gM, hM, iM, gP, hP, iP⟩) := box_set hzc ⟨gA, hA, iA, gB, hB, iB, gM, hM, iM, gP, hP, iP⟩
      have N : Hid (Bk (u.setRow z #[.slice gA hA iA, .slice gB hB iB, .slice gM hM iM, .slice gP hP iP]) ⟨gA, hA, iA, gB, hB, iB, gM, hM, iM, gP, hP, iP⟩ KA) := (bvar_ne hx hzc _).bk
      have BB : Hid (Below w6.heap.size w6 (u.setRow z #[.slice gA hA iA, .slice gB hB iB, .slice gM hM iM, .slice gP hP iP])) := Below.setRow hb hz _
      obtain rfl := frame_puts hsz hdf [47, 48, 49, 50, 51, 46, 52, 53, 16] hold [(47, Value.agg #[.slice vA lA dA, .slice vB lB dB, .slice vM lM dM, .slice vP lP dP]), (48, Value.slice ar n cr), (49, Value.int .i64 k), (50, Value.slice ar k cr), (51, Value.tuple #[y.val, .int .i64 0]), (46, Value.tuple #[yy.val, .int .i64 0]), (52, BA.val ⟨gA, hA, iA, gB, hB, iB, gM, hM, iM, gP, hP, iP⟩), (53, ve), (16, Value.pointer (some ⟨z, 0, none⟩))] ⟨hfact 0 (by decide) (by decide), hfact 1 (by decide) (by decide), hfact 2 (by decide) (by decide), hfact 3 (by decide) (by decide), ec, em, ex, ee, ez, trivial⟩ rfl
      clear hsz hdf hold hfact
      simp only [List.drop_succ_cons, List.drop_zero, TailWp, LateWp, List.take_succ_cons, List.take_zero, List.getD_cons_zero, List.getD_cons_succ]
      simp only [puts, Act.put, List.setIfInBounds_toArray, List.set_cons_zero, List.set_cons_succ]
      refine wp_store_row 26 (.tmp 16) (.tmp 52) rfl z #[.slice gA hA iA, .slice gB hB iB, .slice gM hM iM, .slice gP hP iP] rfl rfl _ _ hzc booksSize (by simp) (by simp [Value.oneCell']) ?_
      refine wp_value (.int .i64 0) (by simp [execOp, Act.eval, go_sem]) ?_
      simp only [Act.put, List.setIfInBounds_toArray, List.set_cons_zero, List.set_cons_succ]
      refine wp_assign _ rfl ?_
      generalize u.setRow z #[.slice gA hA iA, .slice gB hB iB, .slice gM hM iM, .slice gP hP iP] = wf at D N BB ⊢
      clear hb hc hm hx hzc
      go_wp2
      go_meet
      exact ⟨z, ⟨gA, hA, iA, gB, hB, iB, gM, hM, iM, gP, hP, iP⟩, rfl, rfl, N, D, BB⟩
  case rest =>
  obtain ⟨zt, yt, hs, hf, NT, XT, B67⟩ := hcut
  subst hs hf
  obtain ⟨w7, rfl⟩ : ∃ z, z = wc := ⟨wc, rfl⟩
  obtain ⟨uA, jA, kA, uB, jB, kB, uM, jM, kM, uP, jP, kP⟩ := yt
  have B57 : Hid (Below w5.heap.size w5 w7) := B56.out.trans (B67.out.mono B56.out.size)
  have B7 : Hid (Below w.heap.size w w7) := B5.out.trans (B57.out.mono B5.out.size)
  have RS := refSame_any ⟨yA, mA, eA, yB, mB, eB, yM, mM, eM, yP, mP, eP⟩ ⟨uA, jA, kA, uB, jB, kB, uM, jM, kM, uP, jP, kP⟩ KA KA w7 (N5.out.below B57.out) NT.out
  rw [sameB_self] at RS
  obtain ⟨p0, p1, p2, p3⟩ := X5.out.below B57.out
  replace p0 : w7.cell? ⟨za, 0, none⟩ = some (.slice yA mA eA) := p0
  replace p1 : w7.cell? ⟨za, 1, none⟩ = some (.slice yB mB eB) := p1
  replace p2 : w7.cell? ⟨za, 2, none⟩ = some (.slice yM mM eM) := p2
  replace p3 : w7.cell? ⟨za, 3, none⟩ = some (.slice yP mP eP) := p3
  obtain ⟨o0, o1, o2, o3⟩ := XT.out
  replace o0 : w7.cell? ⟨zt, 0, none⟩ = some (.slice uA jA kA) := o0
  replace o1 : w7.cell? ⟨zt, 1, none⟩ = some (.slice uB jB kB) := o1
  replace o2 : w7.cell? ⟨zt, 2, none⟩ = some (.slice uM jM kM) := o2
  replace o3 : w7.cell? ⟨zt, 3, none⟩ = some (.slice uP jP kP) := o3
  clear C2 C3 G5 G6 NB5 XB5 N5 X5 NH XH NT XT B56 B67 hu huk hkn a5 a4 hk1 hcr hcm
  go_wp2_with fail
  go_at_call 13
  refine RS.mono ?_
  rintro e w8 ⟨rfl, hb⟩
  have B8 : Hid (Below w.heap.size w w8) := B7.out.trans (hb.mono B7.out.size)
  clear hb RS p0 p1 p2 p3 o0 o1 o2 o3
  go_wp2_with fail
  go_at_call 14
  refine (known16 w8).mono ?_
  rintro e w9 ⟨rfl, hb⟩
  have B9 : Hid (Below w.heap.size w w9) := B8.out.trans (hb.mono B8.out.size)
  clear hb
  go_wp2
  go_ret
  exact ⟨rfl, B9.out⟩

end Go.Proofs.Ythpcpbjgihhjeaa
