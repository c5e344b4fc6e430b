/-
  giroref16.Post.
-/
import Derived.Test.YthpcpbjgihhjeaaPostDo
import Derived.Test.YthpcpbjgihhjeaaFitsRefAll
namespace Go.Proofs.Ythpcpbjgihhjeaa
open Go.RowKit
set_option linter.unusedVariables false
set_option linter.unusedSimpArgs false

/-- Ahead of party i; of it, and of its k-th other one. -/
def outA (b : Bks) (L : List P7) (n i : Nat) : Nat → A3 := fun j => if j < i then postA b L n j else b.A.getD j a30
def outP (b : Bks) (L : List P7) (i : Nat) : Nat → Nat → Int := fun j l => at2 b.P j l + if j < i then netS L j l else 0
def inA (b : Bks) (L : List P7) (n i k : Nat) : Nat → A3 := fun j => if j < i then postA b L n j else if j = i then ((b.A.getD i a30).1 - dTo L i k, (b.A.getD i a30).2.1, keptV (b.A.getD i a30).2.2 (spentS L i)) else b.A.getD j a30
def inP (b : Bks) (L : List P7) (i k : Nat) : Nat → Nat → Int := fun j l => at2 b.P j l + if j < i ∨ (j = i ∧ l < k) then netS L j l else 0
theorem outA_at (b : Bks) (L : List P7) (n i : Nat) : outA b L n i i = b.A.getD i a30 := by unfold outA; rw [if_neg (Nat.lt_irrefl _)]
theorem inA_at (b : Bks) (L : List P7) (n i k : Nat) : inA b L n i k i = ((b.A.getD i a30).1 - dTo L i k, (b.A.getD i a30).2.1, keptV (b.A.getD i a30).2.2 (spentS L i)) := by unfold inA; rw [if_neg (Nat.lt_irrefl _), if_pos rfl]
theorem inP_at (b : Bks) (L : List P7) (i k : Nat) : inP b L i k i k = at2 b.P i k := by
  unfold inP
  have h : ¬ (i < i ∨ (i = i ∧ k < k)) := by omega
  rw [if_neg h, Int.add_zero]
theorem outA_zero (b : Bks) (L : List P7) (n j : Nat) : b.A.getD j a30 = outA b L n 0 j := by unfold outA; rw [if_neg (Nat.not_lt_zero _)]
theorem outP_zero (b : Bks) (L : List P7) (j l : Nat) : at2 b.P j l = outP b L 0 j l := by unfold outP; rw [if_neg (Nat.not_lt_zero _), Int.add_zero]
theorem in_start (b : Bks) (L : List P7) (n i j : Nat) : updA (outA b L n i) i ((b.A.getD i a30).1, (b.A.getD i a30).2.1, keptV (b.A.getD i a30).2.2 (spentS L i)) j = inA b L n i 0 j := by
  unfold updA outA inA
  by_cases h : j = i
  · subst h
    rw [if_pos rfl, if_neg (Nat.lt_irrefl _), if_pos rfl]
    simp [dTo]
  · rw [if_neg h, if_neg h]
theorem inP_start (b : Bks) (L : List P7) (i j l : Nat) : outP b L i j l = inP b L i 0 j l := by
  unfold outP inP
  by_cases h : j < i
  · rw [if_pos h, if_pos (.inl h)]
  · have h2 : ¬ (j < i ∨ (j = i ∧ l < 0)) := by omega
    rw [if_neg h, if_neg h2]
theorem in_step (b : Bks) (L : List P7) (n i k j : Nat) : updA (inA b L n i k) i ((inA b L n i k i).1 - netS L i k, (inA b L n i k i).2) j = inA b L n i (k + 1) j := by
  rw [inA_at]
  unfold updA inA
  by_cases h : j = i
  · subst h
    rw [if_pos rfl, if_neg (Nat.lt_irrefl _), if_pos rfl]
    simp only [dTo]
    exact Prod.ext (by show _ - _ - _ = _ - (_ + _); omega) rfl
  · rw [if_neg h, if_neg h, if_neg h]
theorem inP_step (b : Bks) (L : List P7) (i k j l : Nat) : updP (inP b L i k) i k (at2 b.P i k + netS L i k) j l = inP b L i (k + 1) j l := by
  unfold updP inP
  by_cases h : j = i ∧ l = k
  · obtain ⟨rfl, rfl⟩ := h
    have h2 : j < j ∨ (j = j ∧ l < l + 1) := .inr ⟨rfl, by omega⟩
    have h1 : j = j ∧ l = l := ⟨rfl, rfl⟩
    rw [if_pos h1, if_pos h2]
  · rw [if_neg h]
    by_cases h3 : j < i ∨ (j = i ∧ l < k)
    · have h4 : j < i ∨ (j = i ∧ l < k + 1) := by omega
      rw [if_pos h3, if_pos h4]
    · have h4 : ¬ (j < i ∨ (j = i ∧ l < k + 1)) := by omega
      rw [if_neg h3, if_neg h4]
theorem in_end (b : Bks) (L : List P7) (n i j : Nat) : inA b L n i n j = outA b L n (i + 1) j := by
  unfold inA outA
  by_cases h : j < i
  · rw [if_pos h, if_pos (by omega)]
  · rw [if_neg h]
    by_cases h2 : j = i
    · subst h2
      rw [if_pos rfl, if_pos (by omega)]
      rfl
    · rw [if_neg h2, if_neg (by omega)]
theorem inP_end (b : Bks) (L : List P7) (n i j l : Nat) (hl : l < n) : inP b L i n j l = outP b L (i + 1) j l := by
  unfold inP outP
  by_cases h : j < i + 1
  · have h1 : j < i ∨ (j = i ∧ l < n) := by omega
    rw [if_pos h, if_pos h1]
  · have h1 : ¬ (j < i ∨ (j = i ∧ l < n)) := by omega
    rw [if_neg h, if_neg h1]
theorem out_end (b : Bks) (L : List P7) (n j : Nat) (hj : j < n) : outA b L n n j = postA b L n j := by unfold outA; rw [if_pos hj]
theorem outP_end (b : Bks) (L : List P7) (n j l : Nat) (hj : j < n) : outP b L n j l = at2 b.P j l + netS L j l := by unfold outP; rw [if_pos hj]

set_option maxHeartbeats 1000000 in
theorem refSent_any (a : Option Addr) (n c : Nat) (L : List P7) (i o : Int) (w : World) (h : PGood w a n c L) (hn : n ≤ 64) (hp : MvPays L) :
    Calls Try.prog 31 #[.slice a n c, .int .i64 i, .int .i64 o] w fun e w' => e = .returned (.int .i64 (netS L i o)) ∧ w' = w := by
  have A := refFSent_any a n c L i o w h hn hp
  have B := refFSent_any a n c L o i w h hn hp
  have hl := h.len
  obtain ⟨r0, r1⟩ := netS_range hp (by omega) i o
  unfold netS at r0 r1 ⊢
  generalize sentS L i o = s at A r0 r1 ⊢
  generalize sentS L o i = t at B r0 r1 ⊢
  clear h hp hn hl
  go_enter Try.func31, Try.ntmps31
  go_wp2_with fail
  go_at_call 53
  refine A.mono ?_
  rintro e w1 ⟨rfl, hw⟩
  obtain rfl := hw.symm
  go_wp2_with fail
  go_at_call 53
  refine B.mono ?_
  rintro e w2 ⟨rfl, hw⟩
  obtain rfl := hw.symm
  go_wp2
  go_ret
  exact ⟨rfl, rfl⟩
theorem refSpent_any (a : Option Addr) (n c : Nat) (L : List P7) (i : Int) (w : World) (h : PGood w a n c L) (hn : n ≤ 64) (hp : MvPays L) :
    Calls Try.prog 30 #[.slice a n c, .int .i64 i] w fun e w' => e = .returned (.int .i64 (spentS L i)) ∧ w' = w := by
  have A := refClassed_any a n c L i w h hn hp
  generalize spentS L i = s at A ⊢
  generalize plainS L i = t at A
  clear h hp hn
  go_enter Try.func30, Try.ntmps30
  go_wp2_with fail
  go_at_call 52
  refine A.mono ?_
  rintro e w1 ⟨rfl, hw⟩
  obtain rfl := hw.symm
  go_wp2
  go_ret
  exact ⟨rfl, rfl⟩

/-- What the document's Post leaves. -/
def RefPostEnd (w : World) (b : Bks) (L : List P7) (e : Ending) (w' : World) : Prop := ∃ y : BA, e = .returned (.tuple #[y.val, .int .i64 (postE b L)]) ∧ Bk w' y (postR b L) ∧ Below w.heap.size w w'

set_option maxHeartbeats 16000000 in
set_option maxRecDepth 100000 in
theorem refPost_any (x : BA) (b : Bks) (a : Option Addr) (n c : Nat) (L : List P7) (w : World) (hk : Bk w x b) (gd : Good b) (h : PGood w a n c L) :
    Calls Try.prog 12 #[x.val, .slice a n c] w (RefPostEnd w b L) := by
  have MB := fun u (hu : Below w.heap.size w u) => refFAll_any x b a n c L u hk.acc.1 (h.below hu)
  have CA : Hid (∀ u, Below w.heap.size w u → Calls Try.prog 10 #[x.val] u (BooksEndA u b)) := fun u hu => refCopyA_any x b u (hk.below hu) gd.small
  have HX : Hid (Bk w x b) := hk
  have HG : Hid (PGood w a n c L) := h
  have HD : Hid (Good b) := gd
  have HL : Hid (n = L.length) := h.len
  clear hk gd h
  obtain ⟨aA, nA, cA, aB, nB, cB, aM, nM, cM, aP, nP, cP⟩ := x
  obtain ⟨w2, hw2⟩ : ∃ w2, w2 = (w.alloc (.cells #[.slice aA nA cA, .slice aB nB cB, .slice aM nM cM, .slice aP nP cP] 26)).alloc (.cells #[.slice none 0 0, .slice none 0 0, .slice none 0 0, .slice none 0 0] 26) := ⟨_, rfl⟩
  have B2 : Hid (Below w.heap.size w w2) := by rw [hw2]; exact (box_below _ _).alloc (box_below _ _).size _
  have X2 : Hid (Box4 w2 w.heap.size ⟨aA, nA, cA, aB, nB, cB, aM, nM, cM, aP, nP, cP⟩) := by rw [hw2]; exact (Box4.new w ⟨aA, nA, cA, aB, nB, cB, aM, nM, cM, aP, nP, cP⟩ _ _).below (box_below _ _)
  have G2 : Hid (w2.heap[w.heap.size + 1]? = some (.cells #[.slice none 0 0, .slice none 0 0, .slice none 0 0, .slice none 0 0] 26 (0, 0)) ∧ w.heap.size + 1 < w2.heap.size) := by
    have := heap_alloc_new (w.alloc (.cells #[.slice aA nA cA, .slice aB nB cB, .slice aM nM cM, .slice aP nP cP] 26)) (.cells #[.slice none 0 0, .slice none 0 0, .slice none 0 0, .slice none 0 0] 26)
    rw [size_alloc] at this
    rw [hw2]
    exact ⟨this, by rw [size_alloc, size_alloc]; omega⟩
  have M := MB w2 B2.out
  obtain ⟨q, hq⟩ : ∃ q, allB b L = q := ⟨_, rfl⟩
  rw [hq] at M
  have HQ : Hid (allB b L = q) := hq
  clear hq MB
  obtain ⟨p0, p1, p2, p3⟩ := X2.out
  replace p0 : w2.cell? ⟨w.heap.size, 0, none⟩ = some (.slice aA nA cA) := p0
  replace p1 : w2.cell? ⟨w.heap.size, 1, none⟩ = some (.slice aB nB cB) := p1
  replace p2 : w2.cell? ⟨w.heap.size, 2, none⟩ = some (.slice aM nM cM) := p2
  replace p3 : w2.cell? ⟨w.heap.size, 3, none⟩ = some (.slice aP nP cP) := p3
  go_enter Try.func12, Try.ntmps12
  go_upto_region 1 with fail
  rw [← hw2]
  clear hw2
  go_wp2_with fail
  go_at_call 28
  refine M.mono ?_
  rintro e w3 ⟨rfl, hb⟩
  have XB : Hid (Box4 w3 w.heap.size ⟨aA, nA, cA, aB, nB, cB, aM, nM, cM, aP, nP, cP⟩) := X2.out.below hb
  have BB : Hid (Below w.heap.size w w3) := B2.out.trans (hb.mono B2.out.size)
  have GB : Hid (w3.heap[w.heap.size + 1]? = some (.cells #[.slice none 0 0, .slice none 0 0, .slice none 0 0, .slice none 0 0] 26 (0, 0)) ∧ w.heap.size + 1 < w3.heap.size) := ⟨(hb.block _ G2.out.2).trans G2.out.1, by have := hb.size; have := G2.out.2; omega⟩
  clear hb M X2 B2 G2 p0 p1 p2 p3
  cases q
  · have HE : Hid (True ∧ ∀ (y : BA) (u : World), Bk u y b ∧ Below w.heap.size w u → RefPostEnd w b L (.returned (.tuple #[y.val, .int .i64 1])) u) := ⟨trivial, fun y u hh => ⟨y, by rw [(post_no HQ.out).1], by rw [(post_no HQ.out).2]; exact hh.1, hh.2⟩⟩
    clear CA HQ HD HG
    obtain ⟨p0, p1, p2, p3⟩ := XB.out
    replace p0 : w3.cell? ⟨w.heap.size, 0, none⟩ = some (.slice aA nA cA) := p0
    replace p1 : w3.cell? ⟨w.heap.size, 1, none⟩ = some (.slice aB nB cB) := p1
    replace p2 : w3.cell? ⟨w.heap.size, 2, none⟩ = some (.slice aM nM cM) := p2
    replace p3 : w3.cell? ⟨w.heap.size, 3, none⟩ = some (.slice aP nP cP) := p3
    have hg := GB.out.1
    have R : Hid (Bk (w3.setRow (w.heap.size + 1) #[.slice aA nA cA, .slice aB nB cB, .slice aM nM cM, .slice aP nP cP]) ⟨aA, nA, cA, aB, nB, cB, aM, nM, cM, aP, nP, cP⟩ b ∧ Below w.heap.size w (w3.setRow (w.heap.size + 1) #[.slice aA nA cA, .slice aB nB cB, .slice aM nM cM, .slice aP nP cP])) :=
      ⟨HX.out.below (Below.setRow BB.out (by omega) _), Below.setRow BB.out (by omega) _⟩
    have D : Hid (Box4 (w3.setRow (w.heap.size + 1) #[.slice aA nA cA, .slice aB nB cB, .slice aM nM cM, .slice aP nP cP]) (w.heap.size + 1) ⟨aA, nA, cA, aB, nB, cB, aM, nM, cM, aP, nP, cP⟩) := box_set hg ⟨aA, nA, cA, aB, nB, cB, aM, nM, cM, aP, nP, cP⟩
    clear XB BB GB
    go_wp2_with (refine store_books rfl _ _ rfl (w.heap.size + 1) ⟨aA, nA, cA, aB, nB, cB, aM, nM, cM, aP, nP, cP⟩ rfl rfl _ hg rfl ?_)
    generalize w3.setRow (w.heap.size + 1) #[.slice aA nA cA, .slice aB nB cB, .slice aM nM cM, .slice aP nP cP] = wf at R D ⊢
    clear hg p0 p1 p2 p3
    obtain ⟨d0, d1, d2, d3⟩ := D.out
    go_wp2
    exact bodyPost_ret (v := .tuple #[BA.val ⟨aA, nA, cA, aB, nB, cB, aM, nM, cM, aP, nP, cP⟩, .int .i64 1]) (by simp [results, Try.results12, d0, d1, d2, d3, go_sem]) rfl (HE.out.2 _ _ R.out)
  · obtain ⟨p0, p1, p2, p3⟩ := XB.out
    replace p0 : w3.cell? ⟨w.heap.size, 0, none⟩ = some (.slice aA nA cA) := p0
    replace p1 : w3.cell? ⟨w.heap.size, 1, none⟩ = some (.slice aB nB cB) := p1
    replace p2 : w3.cell? ⟨w.heap.size, 2, none⟩ = some (.slice aM nM cM) := p2
    replace p3 : w3.cell? ⟨w.heap.size, 3, none⟩ = some (.slice aP nP cP) := p3
    have CC := CA.out w3 BB.out
    go_wp2_with fail
    go_at_call 10
    refine CC.mono ?_
    rintro e w4 ⟨y, S, rfl, hn, hb⟩
    obtain ⟨gA, sp, g, cg, lay⟩ := PLay.mk' hn HD.out
    obtain ⟨m, hm⟩ : ∃ m, b.A.length = m := ⟨_, rfl⟩
    rw [hm] at lay
    have HMM : Hid (b.A.length = m) := hm
    have X4 : Hid (Box4 w4 w.heap.size ⟨aA, nA, cA, aB, nB, cB, aM, nM, cM, aP, nP, cP⟩) := XB.out.below hb
    have B4 : Hid (Below w.heap.size w w4 ∧ w3.heap.size ≤ w4.heap.size) := ⟨BB.out.trans (hb.mono BB.out.size), hb.size⟩
    have G4 : Hid (w4.heap[w.heap.size + 1]? = some (.cells #[.slice none 0 0, .slice none 0 0, .slice none 0 0, .slice none 0 0] 26 (0, 0)) ∧ w.heap.size + 1 < w3.heap.size) := ⟨(hb.block _ GB.out.2).trans GB.out.1, GB.out.2⟩
    have LY : Hid (PLay w4 w3.heap.size w4.heap.size y b gA sp g cg m (outA b L m 0) (outP b L 0)) := lay.congr (fun i _ => outA_zero b L m i) (fun i k _ _ => outP_zero b L i k)
    have HB0 : Hid (w.heap.size ≤ w3.heap.size) := BB.out.size
    have e1 := lay.eA
    have e2 := lay.nA
    have e3 := lay.eP
    have e4 := lay.nP
    clear hb hn CC lay p0 p1 p2 p3 XB BB GB CA hm
    obtain ⟨yA, mA, eA, yB, mB, eB, yM, mM, eM, yP, mP, eP⟩ := y
    simp only at e1 e2 e3 e4
    subst yA mA yP mP
    obtain ⟨B, hB⟩ : ∃ B, w3.heap.size = B := ⟨_, rfl⟩
    obtain ⟨T, hT⟩ : ∃ T, w4.heap.size = T := ⟨_, rfl⟩
    rw [hB] at B4 G4 LY HB0
    rw [hT] at B4 LY
    have HTT : Hid (w4.heap.size = T) := hT
    clear hB hT
    obtain ⟨w5, hw5⟩ : ∃ w5, w5 = w4.alloc (.cells #[.slice (some ⟨gA, 0, none⟩) m eA, .slice yB mB eB, .slice yM mM eM, .slice (some ⟨sp, 0, none⟩) m eP] 26) := ⟨_, rfl⟩
    have b45 : Below w4.heap.size w4 w5 := by rw [hw5]; exact box_below _ _
    have X5 : Hid (Box4 w5 w.heap.size ⟨aA, nA, cA, aB, nB, cB, aM, nM, cM, aP, nP, cP⟩) := X4.out.below b45
    have Y5 : Hid (Box4 w5 w4.heap.size ⟨some ⟨gA, 0, none⟩, m, eA, yB, mB, eB, yM, mM, eM, some ⟨sp, 0, none⟩, m, eP⟩) := by rw [hw5]; exact Box4.new w4 ⟨some ⟨gA, 0, none⟩, m, eA, yB, mB, eB, yM, mM, eM, some ⟨sp, 0, none⟩, m, eP⟩ _ _
    have B5 : Hid (Below w.heap.size w w5 ∧ B ≤ w5.heap.size) := ⟨B4.out.1.trans (b45.mono B4.out.1.size), by have h1 := B4.out.2; have h2 := b45.size; rw [HTT.out] at h2; omega⟩
    have G5 : Hid (w5.heap[w.heap.size + 1]? = some (.cells #[.slice none 0 0, .slice none 0 0, .slice none 0 0, .slice none 0 0] 26 (0, 0)) ∧ w.heap.size + 1 < B) := ⟨(b45.block _ (by have := B4.out.2; have := G4.out.2; have := HTT.out; omega)).trans G4.out.1, G4.out.2⟩
    have L5 : Hid (PLay w5 B T ⟨some ⟨gA, 0, none⟩, m, eA, yB, mB, eB, yM, mM, eM, some ⟨sp, 0, none⟩, m, eP⟩ b gA sp g cg m (outA b L m 0) (outP b L 0)) := LY.out.below b45
    have n64 : (n : Int) ≤ 64 := by have := (allB_mv HD.out HQ.out).1; have := HL.out; omega
    have m6 : (m : Int) ≤ 6 := by have := HD.out.n6; have := HMM.out; omega
    have HN6 : Hid (n ≤ 64 ∧ MvPays L ∧ L.length ≤ 64) := ⟨by omega, (allB_mv HD.out HQ.out).2.1, (allB_mv HD.out HQ.out).1⟩
    clear b45 X4 B4 G4 LY
    go_upto_region 4 with fail
    rw [← hw5]
    clear hw5
    go_wp2
    go_loopw [7] (fun t wr => ∃ i : Nat, i ≤ m ∧ t = .int .i64 i ∧ Hid (PLay wr B T ⟨some ⟨gA, 0, none⟩, m, eA, yB, mB, eB, yM, mM, eM, some ⟨sp, 0, none⟩, m, eP⟩ b gA sp g cg m (outA b L m i) (outP b L i)) ∧ Hid (Within B T w5 wr)) (fun t _ => m - (intOf t).toNat)
    case atStart => exact ⟨0, by omega, rfl, L5, Within.refl _ _ _⟩
    case round =>
      obtain ⟨wo, rfl⟩ : ∃ wo, wo = wr := ⟨wr, rfl⟩
      obtain ⟨i, hi, rfl, LR, WR⟩ := hrel
      have BW : Hid (Below w.heap.size w wo) := B5.out.1.trans ((WR.out.below B5.out.2).mono HB0.out)
      have YR : Hid (Box4 wo w4.heap.size ⟨some ⟨gA, 0, none⟩, m, eA, yB, mB, eB, yM, mM, eM, some ⟨sp, 0, none⟩, m, eP⟩) := WR.out.box4 Y5.out (by rw [HTT.out]; exact Nat.le_refl _)
      obtain ⟨p0, p1, p2, p3⟩ := YR.out
      replace p0 : wo.cell? ⟨w4.heap.size, 0, none⟩ = some (.slice (some ⟨gA, 0, none⟩) m eA) := p0
      replace p1 : wo.cell? ⟨w4.heap.size, 1, none⟩ = some (.slice yB mB eB) := p1
      replace p2 : wo.cell? ⟨w4.heap.size, 2, none⟩ = some (.slice yM mM eM) := p2
      replace p3 : wo.cell? ⟨w4.heap.size, 3, none⟩ = some (.slice (some ⟨sp, 0, none⟩) m eP) := p3
      by_cases hlt : i < m
      · have i1 : (i : Int) < (m : Int) := by omega
        obtain ⟨vb, hvb⟩ : ∃ v, (b.A.getD i a30).1 = v := ⟨_, rfl⟩
        obtain ⟨vc, hvc⟩ : ∃ v, (b.A.getD i a30).2.1 = v := ⟨_, rfl⟩
        obtain ⟨vr, hvr⟩ : ∃ v, (b.A.getD i a30).2.2 = v := ⟨_, rfl⟩
        obtain ⟨s, hs⟩ : ∃ s, spentS L i = s := ⟨_, rfl⟩
        have rg := HD.out.reserve i (by rw [HMM.out]; exact hlt)
        have sg := HN6.out.2.1.spent HN6.out.2.2 (i : Int)
        rw [hvr] at rg
        rw [hs] at sg
        have KP := refKept_any vb vc vr s (by omega) (by omega) (by omega) (by omega)
        obtain ⟨kv, hkv⟩ : ∃ v, keptV vr s = v := ⟨_, rfl⟩
        rw [hkv] at KP
        have SP : Hid (∀ u, Below wo.heap.size wo u → Calls Try.prog 30 #[.slice a n c, .int .i64 i] u fun e w' => e = .returned (.int .i64 s) ∧ Below u.heap.size u w') := fun u hu => by
          have := refSpent_any a n c L i u (HG.out.below (BW.out.trans (hu.mono BW.out.size))) HN6.out.1 HN6.out.2.1
          rw [hs] at this
          exact this.mono fun e w' hh => ⟨hh.1, by rw [hh.2]; exact Below.refl _ _⟩
        have L6 : Hid (∀ u, Below wo.heap.size wo u → PLay (u.setCell ⟨gA, i * 3 + 2, none⟩ (.int .i64 kv)) B T ⟨some ⟨gA, 0, none⟩, m, eA, yB, mB, eB, yM, mM, eM, some ⟨sp, 0, none⟩, m, eP⟩ b gA sp g cg m (inA b L m i 0) (inP b L i 0) ∧ Within B T wo (u.setCell ⟨gA, i * 3 + 2, none⟩ (.int .i64 kv))) := fun u hu => by
          have k5 := LR.out.below hu
          have := k5.res hlt kv
          rw [outA_at] at this
          refine ⟨this.congr (fun j _ => ?_) (fun j l _ _ => inP_start b L i j l), (Within.of hu).trans (k5.inA _ _)⟩
          rw [← hkv, ← hvr, ← hs]
          exact in_start b L m i j
        have F5 : Hid (∀ u, Below wo.heap.size wo u → u.frozen? ⟨gA, i * 3 + 2, none⟩ = false) := fun u hu => (LR.out.below hu).freeA _
        have C5 : Hid (∀ u, Below wo.heap.size wo u → u.cell? ⟨gA, i * 3, none⟩ = some (.int .i64 vb) ∧ u.cell? ⟨gA, i * 3 + 1, none⟩ = some (.int .i64 vc) ∧ u.cell? ⟨gA, i * 3 + 2, none⟩ = some (.int .i64 vr)) := fun u hu => by
          have := (LR.out.below hu).acct hlt
          rw [outA_at] at this
          simp only [hvb, hvc, hvr] at this
          exact this
        have HLT : Hid (i < m) := hlt
        clear hvb hvc hvr hs hkv rg sg BW LR hlt
        go_wp2_with fail
        refine region_owes_endN 14 (L := [Fact.is (.pointer (some ⟨w4.heap.size, 0, none⟩)),
          Fact.is (.slice (some ⟨gA, 0, none⟩) m eA),
          Fact.is (.int .i64 i),
          Fact.is (.pointer (some ⟨w4.heap.size, 0, none⟩)),
          Fact.is (.slice (some ⟨gA, 0, none⟩) m eA),
          Fact.is (.int .i64 i),
          Fact.is (.pointer (some ⟨gA, i * 3, none⟩)),
          Fact.is (.agg #[.int .i64 vb, .int .i64 vc, .int .i64 vr]),
          Fact.is (.slice a n c),
          Fact.is (.int .i64 i),
          Fact.is (.int .i64 s),
          Fact.is (.int .i64 kv),
          Fact.is (.pointer (some ⟨gA, i * 3, none⟩)),
          Fact.is (.pointer (some ⟨gA, i * 3 + 2, none⟩))])
          (T := [24, 25, 26, 27, 28, 29, 30, 31, 32, 33, 34, 35, 36, 37]) (by kernel_rfl) rfl rfl (by kernel_rfl) (by kernel_rfl) rfl ?owes ?_
        case owes =>
          simp only [List.take_succ_cons, List.take_zero]
          refine .cons (owes_value fun q u lh => ⟨wants_free rfl, .pointer (some ⟨w4.heap.size, 0, none⟩), by have e6 : q.tmps.getD 6 undef = .pointer (some ⟨w4.heap.size, 0, none⟩) := lh.old 6 rfl; simp [execOp, Act.eval, e6, go_sem], rfl⟩) ?_
          refine .cons (owes_value fun q u lh => ⟨wants_free rfl, .slice (some ⟨gA, 0, none⟩) m eA, by have e24 : q.tmps.getD 24 undef = .pointer (some ⟨w4.heap.size, 0, none⟩) := lh.dep 0 rfl; obtain ⟨y0, y1, y2, y3⟩ := YR.out.below lh.below; simp [execOp, Act.eval, e24, y0, go_sem], rfl⟩) ?_
          refine .cons (owes_move (.tmp 7) (.inl rfl) fun q u lh => ⟨wants_free rfl, lh.old 7 rfl⟩) ?_
          refine .cons (owes_value fun q u lh => ⟨wants_free rfl, .pointer (some ⟨w4.heap.size, 0, none⟩), by have e6 : q.tmps.getD 6 undef = .pointer (some ⟨w4.heap.size, 0, none⟩) := lh.old 6 rfl; simp [execOp, Act.eval, e6, go_sem], rfl⟩) ?_
          refine .cons (owes_value fun q u lh => ⟨wants_free rfl, .slice (some ⟨gA, 0, none⟩) m eA, by have e27 : q.tmps.getD 27 undef = .pointer (some ⟨w4.heap.size, 0, none⟩) := lh.dep 3 rfl; obtain ⟨y0, y1, y2, y3⟩ := YR.out.below lh.below; simp [execOp, Act.eval, e27, y0, go_sem], rfl⟩) ?_
          refine .cons (owes_move (.tmp 7) (.inl rfl) fun q u lh => ⟨wants_free rfl, lh.old 7 rfl⟩) ?_
          refine .cons (owes_value fun q u lh => ⟨wants_free rfl, .pointer (some ⟨gA, i * 3, none⟩), by have e28 : q.tmps.getD 28 undef = .slice (some ⟨gA, 0, none⟩) m eA := lh.dep 4 rfl; have e29 : q.tmps.getD 29 undef = .int .i64 i := lh.dep 5 rfl; simp [execOp, Act.eval, e28, e29, i1, go_sem], rfl⟩) ?_
          refine .cons (owes_value fun q u lh => ⟨wants_free rfl, .agg #[.int .i64 vb, .int .i64 vc, .int .i64 vr], by have e30 : q.tmps.getD 30 undef = .pointer (some ⟨gA, i * 3, none⟩) := lh.dep 6 rfl; obtain ⟨y0, y1, y2⟩ := C5.out u lh.below; simp [execOp, Act.eval, e30, y0, y1, y2, go_sem], rfl⟩) ?_
          refine .cons (owes_move (.tmp 1) (.inl rfl) fun q u lh => ⟨wants_free rfl, lh.old 1 rfl⟩) ?_
          refine .cons (owes_move (.tmp 7) (.inl rfl) fun q u lh => ⟨wants_free rfl, lh.old 7 rfl⟩) ?_
          refine .cons (owes_call 30 Try.func30 (by kernel_rfl) (by kernel_rfl) [.tmp 32, .tmp 33] #[27, 3] rfl fun q u lh => ⟨wants_free rfl, by have e32 : q.tmps.getD 32 undef = .slice a n c := lh.dep 8 rfl; have e33 : q.tmps.getD 33 undef = .int .i64 i := lh.dep 9 rfl; show Calls Try.prog 30 #[q.tmps.getD 32 undef, q.tmps.getD 33 undef] u _; rw [e32, e33]; exact int_fact (SP.out u lh.below)⟩) ?_
          refine .cons (owes_call 29 Try.func29 (by kernel_rfl) (by kernel_rfl) [.tmp 31, .tmp 34] #[39, 2] rfl fun q u lh => ⟨wants_free rfl, by have e31 : q.tmps.getD 31 undef = .agg #[.int .i64 vb, .int .i64 vc, .int .i64 vr] := lh.dep 7 rfl; have e34 : q.tmps.getD 34 undef = .int .i64 s := lh.dep 10 rfl; show Calls Try.prog 29 #[q.tmps.getD 31 undef, q.tmps.getD 34 undef] u _; rw [e31, e34]; exact int_fact (KP u)⟩) ?_
          refine .cons (owes_value fun q u lh => ⟨wants_free rfl, .pointer (some ⟨gA, i * 3, none⟩), by have e25 : q.tmps.getD 25 undef = .slice (some ⟨gA, 0, none⟩) m eA := lh.dep 1 rfl; have e26 : q.tmps.getD 26 undef = .int .i64 i := lh.dep 2 rfl; simp [execOp, Act.eval, e25, e26, i1, go_sem], rfl⟩) ?_
          refine .cons (owes_value fun q u lh => ⟨wants_free rfl, .pointer (some ⟨gA, i * 3 + 2, none⟩), by have e36 : q.tmps.getD 36 undef = .pointer (some ⟨gA, i * 3, none⟩) := lh.dep 12 rfl; simp [execOp, Act.eval, e36, go_sem], rfl⟩) ?_
          exact .nil _
        intro q u hb hsz hdf hold hfact
        obtain ⟨l6, v6⟩ := L6.out u hb
        have f0 := F5.out u hb
        obtain ⟨_, _, y2⟩ := C5.out u hb
        obtain ⟨w6, hw6⟩ : ∃ w6, w6 = u.setCell ⟨gA, i * 3 + 2, none⟩ (.int .i64 kv) := ⟨_, rfl⟩
        rw [← hw6] at l6 v6
        have L7 : Hid (PLay w6 B T ⟨some ⟨gA, 0, none⟩, m, eA, yB, mB, eB, yM, mM, eM, some ⟨sp, 0, none⟩, m, eP⟩ b gA sp g cg m (inA b L m i 0) (inP b L i 0)) := l6
        have W6 : Hid (Within B T w5 w6) := WR.out.trans v6
        clear l6 v6 hb L6 F5 C5
        obtain rfl := frame_puts hsz hdf [24, 25, 26, 27, 28, 29, 30, 31, 32, 33, 34, 35, 36, 37] hold [(24, Value.pointer (some ⟨w4.heap.size, 0, none⟩)), (25, Value.slice (some ⟨gA, 0, none⟩) m eA), (26, Value.int .i64 i), (27, Value.pointer (some ⟨w4.heap.size, 0, none⟩)), (28, Value.slice (some ⟨gA, 0, none⟩) m eA), (29, Value.int .i64 i), (30, Value.pointer (some ⟨gA, i * 3, none⟩)), (31, Value.agg #[.int .i64 vb, .int .i64 vc, .int .i64 vr]), (32, Value.slice a n c), (33, Value.int .i64 i), (34, Value.int .i64 s), (35, Value.int .i64 kv), (36, Value.pointer (some ⟨gA, i * 3, none⟩)), (37, Value.pointer (some ⟨gA, i * 3 + 2, none⟩))] ⟨hfact 0 (by decide), hfact 1 (by decide), hfact 2 (by decide), hfact 3 (by decide), hfact 4 (by decide), hfact 5 (by decide), hfact 6 (by decide), hfact 7 (by decide), hfact 8 (by decide), hfact 9 (by decide), hfact 10 (by decide), hfact 11 (by decide), hfact 12 (by decide), hfact 13 (by decide), trivial⟩ rfl
        clear hsz hdf hold hfact
        clear KP SP YR p0 p1 p2 p3 WR
        simp only [puts, Act.put, List.setIfInBounds_toArray, List.set_cons_zero, List.set_cons_succ]
        go_upto_region 8 with fail
        rw [← hw6]
        clear hw6 y2 f0
        go_wp2
        go_loopw [8, 9] (fun t _ wr => ∃ k : Nat, k ≤ m ∧ t = .int .i64 k ∧ Hid (PLay wr B T ⟨some ⟨gA, 0, none⟩, m, eA, yB, mB, eB, yM, mM, eM, some ⟨sp, 0, none⟩, m, eP⟩ b gA sp g cg m (inA b L m i k) (inP b L i k)) ∧ Hid (Within B T w5 wr)) (fun t _ _ => m - (intOf t).toNat)
        case atStart => exact ⟨0, by omega, rfl, L7, W6⟩
        case round =>
          obtain ⟨k, hk, rfl, LI, WI⟩ := hrel
          have BW : Hid (Below w.heap.size w wr) := B5.out.1.trans ((WI.out.below B5.out.2).mono HB0.out)
          have YI : Hid (Box4 wr w4.heap.size ⟨some ⟨gA, 0, none⟩, m, eA, yB, mB, eB, yM, mM, eM, some ⟨sp, 0, none⟩, m, eP⟩) := WI.out.box4 Y5.out (by rw [HTT.out]; exact Nat.le_refl _)
          obtain ⟨p0, p1, p2, p3⟩ := YI.out
          replace p0 : wr.cell? ⟨w4.heap.size, 0, none⟩ = some (.slice (some ⟨gA, 0, none⟩) m eA) := p0
          replace p1 : wr.cell? ⟨w4.heap.size, 1, none⟩ = some (.slice yB mB eB) := p1
          replace p2 : wr.cell? ⟨w4.heap.size, 2, none⟩ = some (.slice yM mM eM) := p2
          replace p3 : wr.cell? ⟨w4.heap.size, 3, none⟩ = some (.slice (some ⟨sp, 0, none⟩) m eP) := p3
          by_cases hlk : k < m
          · have k1 : (k : Int) < (m : Int) := by omega
            have SN := refSent_any a n c L i k wr (HG.out.below BW.out) HN6.out.1 HN6.out.2.1
            obtain ⟨d, hd⟩ : ∃ d, netS L i k = d := ⟨_, rfl⟩
            rw [hd] at SN
            have rg := HD.out.reserve i (by rw [HMM.out]; exact HLT.out)
            have g1 := dTo_range HN6.out.2.1 HN6.out.2.2 (i : Int) (k + 1)
            have ps := posB_yes (HD.out.may i k (by rw [HMM.out]; exact HLT.out) (by rw [HMM.out]; exact hlk))
            have g2 := netS_range HN6.out.2.1 HN6.out.2.2 (i : Int) (k : Int)
            rw [hd] at g2
            obtain ⟨vb, hvb⟩ : ∃ v, (inA b L m i k i).1 = v := ⟨_, rfl⟩
            obtain ⟨vp, hvp⟩ : ∃ v, at2 b.P i k = v := ⟨_, rfl⟩
            have LS : Hid (∀ u, Within B T wr u → PLay u B T ⟨some ⟨gA, 0, none⟩, m, eA, yB, mB, eB, yM, mM, eM, some ⟨sp, 0, none⟩, m, eP⟩ b gA sp g cg m (inA b L m i k) (inP b L i k) → PLay (u.setCell ⟨gA, i * 3, none⟩ (.int .i64 (vb - d))).drew B T ⟨some ⟨gA, 0, none⟩, m, eA, yB, mB, eB, yM, mM, eM, some ⟨sp, 0, none⟩, m, eP⟩ b gA sp g cg m (inA b L m i (k + 1)) (inP b L i k) ∧ Within B T wr (u.setCell ⟨gA, i * 3, none⟩ (.int .i64 (vb - d))).drew) := fun u hu k5 => by
              have := (k5.bal HLT.out (vb - d)).below (drawn_below _ 1)
              refine ⟨this.congr (fun j _ => ?_) (fun j l _ _ => rfl), hu.trans ((k5.inA _ _).trans (Within.of (drawn_below _ 1)))⟩
              rw [← hvb, ← hd]
              exact in_step b L m i k j
            have LP : Hid (∀ u, Within B T wr u → PLay u B T ⟨some ⟨gA, 0, none⟩, m, eA, yB, mB, eB, yM, mM, eM, some ⟨sp, 0, none⟩, m, eP⟩ b gA sp g cg m (inA b L m i (k + 1)) (inP b L i k) → PLay (u.setCell ⟨g i, k, none⟩ (.int .i64 (vp + d))).drew B T ⟨some ⟨gA, 0, none⟩, m, eA, yB, mB, eB, yM, mM, eM, some ⟨sp, 0, none⟩, m, eP⟩ b gA sp g cg m (inA b L m i (k + 1)) (inP b L i (k + 1)) ∧ Within B T wr (u.setCell ⟨g i, k, none⟩ (.int .i64 (vp + d))).drew) := fun u hu k5 => by
              have := (k5.setP HLT.out hlk (y := vp + d) (by rw [IntKind.wrap_i64]; omega)).below (drawn_below _ 1)
              refine ⟨this.congr (fun j _ => rfl) (fun j l _ _ => ?_), hu.trans (((Within.refl _ _ _).set (k5.base.2.2 i HLT.out) (k5.top.2.2 i HLT.out) _).trans (Within.of (drawn_below _ 1)))⟩
              rw [← hvp, ← hd]
              exact inP_step b L i k j l
            have b0 : -9223372036854775808 ≤ vb - d := by rw [← hvb, inA_at]; rw [← hd]; simp only [dTo] at g1; have : ((k + 1 : Nat) : Int) * 70368744177664 ≤ 6 * 70368744177664 := by omega
                                                          show _ ≤ _ - _ - _; omega
            have b1 : vb - d ≤ 9223372036854775807 := by rw [← hvb, inA_at]; rw [← hd]; simp only [dTo] at g1; have : ((k + 1 : Nat) : Int) * 70368744177664 ≤ 6 * 70368744177664 := by omega
                                                         show _ - _ - _ ≤ _; omega
            have b2 : -9223372036854775808 ≤ vp + d := by omega
            have b3 : vp + d ≤ 9223372036854775807 := by omega
            obtain ⟨a0, _, _⟩ := LI.out.acct HLT.out
            rw [hvb] at a0
            have f0 := LI.out.freeA (i * 3)
            have HLK : Hid (k < m) := hlk
            have HVP : Hid (inP b L i k i k = vp) := by show _ = _; rw [inP_at, hvp]
            clear rg g1 ps g2 hvb hvp hd hlk
            go_wp2_with fail
            go_at_call 31
            refine SN.mono ?_
            rintro e wz ⟨rfl, hw⟩
            obtain rfl := hw.symm
            clear SN
            go_wp2_with fail
            go_region
            obtain ⟨l6, v6⟩ := LS.out wr (Within.refl _ _ _) LI.out
            have L8 : Hid (PLay (wr.setCell ⟨gA, i * 3, none⟩ (.int .i64 (vb - d))).drew B T ⟨some ⟨gA, 0, none⟩, m, eA, yB, mB, eB, yM, mM, eM, some ⟨sp, 0, none⟩, m, eP⟩ b gA sp g cg m (inA b L m i (k + 1)) (inP b L i k)) := l6
            have V8 : Hid (Within B T wr (wr.setCell ⟨gA, i * 3, none⟩ (.int .i64 (vb - d))).drew) := v6
            clear l6 v6
            generalize (wr.setCell ⟨gA, i * 3, none⟩ (.int .i64 (vb - d))).drew = w8 at L8 V8 ⊢
            have Y8 : Hid (Box4 w8 w4.heap.size ⟨some ⟨gA, 0, none⟩, m, eA, yB, mB, eB, yM, mM, eM, some ⟨sp, 0, none⟩, m, eP⟩) := V8.out.box4 YI.out (by rw [HTT.out]; exact Nat.le_refl _)
            clear LS LI p0 p1 p2 p3 a0 f0 b0 b1
            obtain ⟨_, _, _, p3⟩ := Y8.out
            replace p3 : w8.cell? ⟨w4.heap.size, 3, none⟩ = some (.slice (some ⟨sp, 0, none⟩) m eP) := p3
            have s0 := L8.out.spine HLT.out
            have a0 := L8.out.at' HLT.out HLK.out
            rw [HVP.out] at a0
            have f0 := L8.out.freeP HLT.out k
            obtain ⟨l9, v9⟩ := LP.out w8 V8.out L8.out
            have L9 : Hid (PLay (w8.setCell ⟨g i, k, none⟩ (.int .i64 (vp + d))).drew B T ⟨some ⟨gA, 0, none⟩, m, eA, yB, mB, eB, yM, mM, eM, some ⟨sp, 0, none⟩, m, eP⟩ b gA sp g cg m (inA b L m i (k + 1)) (inP b L i (k + 1))) := l9
            have V9 : Hid (Within B T w5 (w8.setCell ⟨g i, k, none⟩ (.int .i64 (vp + d))).drew) := WI.out.trans v9
            clear l9 v9 LP
            go_wp2_with fail
            go_region
            generalize (w8.setCell ⟨g i, k, none⟩ (.int .i64 (vp + d))).drew = w9 at L9 V9 ⊢
            clear s0 a0 f0 b2 b3 p3 L8 V8 Y8 WI YI BW
            go_wp2
            go_roundw
            case rel => exact ⟨k + 1, by omega, by go_num, L9, V9⟩
            case measure => simp [intOf]; omega
          · obtain rfl : k = m := by omega
            have LO : Hid (PLay wr B T ⟨some ⟨gA, 0, none⟩, k, eA, yB, mB, eB, yM, mM, eM, some ⟨sp, 0, none⟩, k, eP⟩ b gA sp g cg k (outA b L k (i + 1)) (outP b L (i + 1))) := LI.out.congr (fun j _ => in_end b L k i j) (fun j l _ hl => inP_end b L k i j l hl)
            clear LI BW YI
            go_wp2
            go_roundw
            case rel => exact ⟨i + 1, by omega, by go_num, LO, WI⟩
            case measure => simp [intOf]; omega
      · obtain rfl : i = m := by omega
        have NB : Hid (NewBk wo B ⟨some ⟨gA, 0, none⟩, i, eA, yB, mB, eB, yM, mM, eM, some ⟨sp, 0, none⟩, i, eP⟩ (postB b L)) := by
          have := (LR.out.congr (fun j hj => out_end b L i j hj) (fun j l hj _ => outP_end b L i j l hj)).new
          rw [postB_mk, HMM.out]
          exact this
        have GR : Hid (wo.heap[w.heap.size + 1]? = some (.cells #[.slice none 0 0, .slice none 0 0, .slice none 0 0, .slice none 0 0] 26 (0, 0)) ∧ w.heap.size + 1 < B) := ⟨(WR.out.block _ (by have := G5.out.2; have := B5.out.2; omega) (.inl G5.out.2)).trans G5.out.1, G5.out.2⟩
        have BR : Hid (B ≤ wo.heap.size) := by have h1 := B5.out.2; have h2 := WR.out.size; show B ≤ _; omega
        have XR : Hid (Box4 wo w.heap.size ⟨aA, nA, cA, aB, nB, cB, aM, nM, cM, aP, nP, cP⟩) := ⟨WR.out.cell X5.out.1 (.inl (by have := G5.out.2; show w.heap.size < B; omega)), WR.out.cell X5.out.2.1 (.inl (by have := G5.out.2; show w.heap.size < B; omega)), WR.out.cell X5.out.2.2.1 (.inl (by have := G5.out.2; show w.heap.size < B; omega)), WR.out.cell X5.out.2.2.2 (.inl (by have := G5.out.2; show w.heap.size < B; omega))⟩
        have I := refBooksIs_any ⟨some ⟨gA, 0, none⟩, i, eA, yB, mB, eB, yM, mM, eM, some ⟨sp, 0, none⟩, i, eP⟩ (postB b L) wo NB.out.bk
        obtain ⟨v, hv⟩ : ∃ v, booksB (postB b L) = v := ⟨_, rfl⟩
        rw [hv] at I
        have HV : Hid (booksB (postB b L) = v) := hv
        clear hv LR WR X5 Y5 B5 G5 L5
        go_wp2_with fail
        go_at_call 9
        refine I.mono ?_
        rintro e w8 ⟨rfl, hb⟩
        have XB : Hid (Box4 w8 w.heap.size ⟨aA, nA, cA, aB, nB, cB, aM, nM, cM, aP, nP, cP⟩) := XR.out.below hb
        have YB : Hid (Box4 w8 w4.heap.size ⟨some ⟨gA, 0, none⟩, i, eA, yB, mB, eB, yM, mM, eM, some ⟨sp, 0, none⟩, i, eP⟩) := YR.out.below hb
        have BB : Hid (Below w.heap.size w w8) := BW.out.trans (hb.mono BW.out.size)
        have GB : Hid (w8.heap[w.heap.size + 1]? = some (.cells #[.slice none 0 0, .slice none 0 0, .slice none 0 0, .slice none 0 0] 26 (0, 0)) ∧ w.heap.size + 1 < w8.heap.size) := ⟨(hb.block _ (by have := GR.out.2; have := BR.out; omega)).trans GR.out.1, by have := GR.out.2; have := BR.out; have := hb.size; omega⟩
        have NB8 : Hid (NewBk w8 B ⟨some ⟨gA, 0, none⟩, i, eA, yB, mB, eB, yM, mM, eM, some ⟨sp, 0, none⟩, i, eP⟩ (postB b L)) := NB.out.below hb
        clear hb I XR YR BW NB BR p0 p1 p2 p3
        cases v
        · have HE : Hid (True ∧ ∀ (y : BA) (u : World), Bk u y b ∧ Below w.heap.size w u → RefPostEnd w b L (.returned (.tuple #[y.val, .int .i64 8])) u) := ⟨trivial, fun y u hh => ⟨y, by rw [(post_over HQ.out HV.out).1], by rw [(post_over HQ.out HV.out).2]; exact hh.1, hh.2⟩⟩
          clear HQ HD HG HV YB NB8 GR
          obtain ⟨p0, p1, p2, p3⟩ := XB.out
          replace p0 : w8.cell? ⟨w.heap.size, 0, none⟩ = some (.slice aA nA cA) := p0
          replace p1 : w8.cell? ⟨w.heap.size, 1, none⟩ = some (.slice aB nB cB) := p1
          replace p2 : w8.cell? ⟨w.heap.size, 2, none⟩ = some (.slice aM nM cM) := p2
          replace p3 : w8.cell? ⟨w.heap.size, 3, none⟩ = some (.slice aP nP cP) := p3
          have hg := GB.out.1
          have R : Hid (Bk (w8.setRow (w.heap.size + 1) #[.slice aA nA cA, .slice aB nB cB, .slice aM nM cM, .slice aP nP cP]) ⟨aA, nA, cA, aB, nB, cB, aM, nM, cM, aP, nP, cP⟩ b ∧ Below w.heap.size w (w8.setRow (w.heap.size + 1) #[.slice aA nA cA, .slice aB nB cB, .slice aM nM cM, .slice aP nP cP])) :=
            ⟨HX.out.below (Below.setRow BB.out (by omega) _), Below.setRow BB.out (by omega) _⟩
          have D : Hid (Box4 (w8.setRow (w.heap.size + 1) #[.slice aA nA cA, .slice aB nB cB, .slice aM nM cM, .slice aP nP cP]) (w.heap.size + 1) ⟨aA, nA, cA, aB, nB, cB, aM, nM, cM, aP, nP, cP⟩) := box_set hg ⟨aA, nA, cA, aB, nB, cB, aM, nM, cM, aP, nP, cP⟩
          clear XB BB GB
          go_wp2_with (refine store_books rfl _ _ rfl (w.heap.size + 1) ⟨aA, nA, cA, aB, nB, cB, aM, nM, cM, aP, nP, cP⟩ rfl rfl _ hg rfl ?_)
          generalize w8.setRow (w.heap.size + 1) #[.slice aA nA cA, .slice aB nB cB, .slice aM nM cM, .slice aP nP cP] = wf at R D ⊢
          clear hg p0 p1 p2 p3
          obtain ⟨d0, d1, d2, d3⟩ := D.out
          go_wp2
          exact bodyPost_ret (v := .tuple #[BA.val ⟨aA, nA, cA, aB, nB, cB, aM, nM, cM, aP, nP, cP⟩, .int .i64 8]) (by simp [results, Try.results12, d0, d1, d2, d3, go_sem]) rfl (HE.out.2 _ _ R.out)
        · have HE : Hid (True ∧ ∀ (y : BA) (u : World), NewBk u w.heap.size y (postB b L) ∧ Below w.heap.size w u → RefPostEnd w b L (.returned (.tuple #[y.val, .int .i64 0])) u) := ⟨trivial, fun y u hh => ⟨y, by rw [(post_yes HQ.out HV.out).1], by rw [(post_yes HQ.out HV.out).2]; exact hh.1.bk, hh.2⟩⟩
          obtain ⟨p0, p1, p2, p3⟩ := YB.out
          replace p0 : w8.cell? ⟨w4.heap.size, 0, none⟩ = some (.slice (some ⟨gA, 0, none⟩) i eA) := p0
          replace p1 : w8.cell? ⟨w4.heap.size, 1, none⟩ = some (.slice yB mB eB) := p1
          replace p2 : w8.cell? ⟨w4.heap.size, 2, none⟩ = some (.slice yM mM eM) := p2
          replace p3 : w8.cell? ⟨w4.heap.size, 3, none⟩ = some (.slice (some ⟨sp, 0, none⟩) i eP) := p3
          have hg8 := GB.out.1
          have R : Hid (NewBk (w8.setRow (w.heap.size + 1) #[.slice (some ⟨gA, 0, none⟩) i eA, .slice yB mB eB, .slice yM mM eM, .slice (some ⟨sp, 0, none⟩) i eP]) w.heap.size ⟨some ⟨gA, 0, none⟩, i, eA, yB, mB, eB, yM, mM, eM, some ⟨sp, 0, none⟩, i, eP⟩ (postB b L) ∧ Below w.heap.size w (w8.setRow (w.heap.size + 1) #[.slice (some ⟨gA, 0, none⟩) i eA, .slice yB mB eB, .slice yM mM eM, .slice (some ⟨sp, 0, none⟩) i eP])) :=
            ⟨(NB8.out.kept (fun k hk => setRow_other w8 (w.heap.size + 1) k _ (by have hk : B ≤ k := hk; have := GR.out.2; omega))).base HB0.out, Below.setRow BB.out (by omega) _⟩
          have D : Hid (Box4 (w8.setRow (w.heap.size + 1) #[.slice (some ⟨gA, 0, none⟩) i eA, .slice yB mB eB, .slice yM mM eM, .slice (some ⟨sp, 0, none⟩) i eP]) (w.heap.size + 1) ⟨some ⟨gA, 0, none⟩, i, eA, yB, mB, eB, yM, mM, eM, some ⟨sp, 0, none⟩, i, eP⟩) := box_set hg8 ⟨some ⟨gA, 0, none⟩, i, eA, yB, mB, eB, yM, mM, eM, some ⟨sp, 0, none⟩, i, eP⟩
          clear XB YB BB GB NB8 GR
          go_wp2_with (refine store_books rfl _ _ rfl (w.heap.size + 1) ⟨some ⟨gA, 0, none⟩, i, eA, yB, mB, eB, yM, mM, eM, some ⟨sp, 0, none⟩, i, eP⟩ rfl rfl _ hg8 rfl ?_)
          generalize w8.setRow (w.heap.size + 1) #[.slice (some ⟨gA, 0, none⟩) i eA, .slice yB mB eB, .slice yM mM eM, .slice (some ⟨sp, 0, none⟩) i eP] = wf at R D ⊢
          obtain ⟨d0, d1, d2, d3⟩ := D.out
          clear hg8 p0 p1 p2 p3
          go_wp2
          exact bodyPost_ret (v := .tuple #[BA.val ⟨some ⟨gA, 0, none⟩, i, eA, yB, mB, eB, yM, mM, eM, some ⟨sp, 0, none⟩, i, eP⟩, .int .i64 0]) (by simp [results, Try.results12, d0, d1, d2, d3, go_sem]) rfl (HE.out.2 _ _ R.out)

end Go.Proofs.Ythpcpbjgihhjeaa
