/-
  The walk of PostStays.
-/
import Derived.Test.YthpcpbjgihhjeaaKnown16
import Derived.Test.YthpcpbjgihhjeaaPostStaysPure
import Derived.Test.YthpcpbjgihhjeaaLimTwo
import Derived.Test.YthpcpbjgihhjeaaRowBase
import Derived.Deep.RegionHeld3
namespace Go.Proofs.Ythpcpbjgihhjeaa
open Go.RowKit
set_option linter.unusedVariables false
set_option linter.unusedSimpArgs false

set_option maxHeartbeats 16000000 in
set_option maxRecDepth 100000 in
theorem Walk.postStays (x : BA) (b : Bks) (a : Option Addr) (n c : Nat) (L : List P7) (w : World) (hk : Bk w x b) (hp : PaysIn w a n c L) : Calls Try.prog 4 #[x.val, .slice a n c] w fun e w' => e = .returned (.bool true) ∧ Below w.heap.size w w' := by
  have HG : Hid (PGood w a n c L) := hp.good
  have HBK : Hid (Bk w x b) := hk
  have I := fun u (hu : Below w.heap.size w u) => refBooksIs_any x b u (hk.below hu)
  have PP : Hid (Good b → ∀ u, Below w.heap.size w u → Calls Try.prog 11 #[x.val, .slice a n c] u (PostEnd u b L)) := fun g u hu => post_any x b a n c L u (HBK.out.below hu) g (HG.out.below hu)
  obtain ⟨aA, nA, cA, aB, nB, cB, aM, nM, cM, aP, nP, cP⟩ := x
  obtain ⟨w2, hw2⟩ : ∃ w2, w2 = w.alloc (.cells #[.slice aA nA cA, .slice aB nB cB, .slice aM nM cM, .slice aP nP cP] 26) := ⟨_, rfl⟩
  have B2 : Hid (Below w.heap.size w w2) := by rw [hw2]; exact box_below _ _
  have X2 : Hid (Box4 w2 w.heap.size ⟨aA, nA, cA, aB, nB, cB, aM, nM, cM, aP, nP, cP⟩) := by rw [hw2]; exact Box4.new w ⟨aA, nA, cA, aB, nB, cB, aM, nM, cM, aP, nP, cP⟩ _ _
  have I := I w2 B2.out
  obtain ⟨q, hq⟩ : ∃ q, booksB b = q := ⟨_, rfl⟩
  have HQ : Hid (booksB b = q) := hq
  rw [hq] at I
  obtain ⟨p0, p1, p2, p3⟩ := X2.out
  replace p0 : w2.cell? ⟨w.heap.size, 0, none⟩ = some (.slice aA nA cA) := p0
  replace p1 : w2.cell? ⟨w.heap.size, 1, none⟩ = some (.slice aB nB cB) := p1
  replace p2 : w2.cell? ⟨w.heap.size, 2, none⟩ = some (.slice aM nM cM) := p2
  replace p3 : w2.cell? ⟨w.heap.size, 3, none⟩ = some (.slice aP nP cP) := p3
  clear hq hk hp
  go_enter Try.func4, Try.ntmps4
  go_upto_region 1 with fail
  rw [← hw2]
  clear hw2
  go_wp2_with fail
  go_at_call 9
  refine I.mono ?_
  rintro e w3 ⟨rfl, hb⟩
  have X3 : Hid (Box4 w3 w.heap.size ⟨aA, nA, cA, aB, nB, cB, aM, nM, cM, aP, nP, cP⟩) := X2.out.below hb
  have B3 : Hid (Below w.heap.size w w3) := B2.out.trans (hb.mono B2.out.size)
  clear hb I p0 p1 p2 p3 X2 B2
  cases q with
  | false =>
    go_wp2
    go_ret
    exact ⟨rfl, B3.out⟩
  | true =>
  have GB : Hid (Good b) := booksB_yes.1 HQ.out
  rcases Nat.lt_or_ge 64 n with h70 | h70
  · have h1 : (64 : Int) < (n : Int) := by omega
    clear h70
    go_wp2
    go_ret
    exact ⟨rfl, B3.out⟩
  have h1 : ¬ (64 : Int) < (n : Int) := by omega
  have h2 : decide ((64 : Int) < (n : Int)) = false := decide_eq_false h1
  clear h70
  obtain ⟨p0, p1, p2, p3⟩ := X3.out
  replace p0 : w3.cell? ⟨w.heap.size, 0, none⟩ = some (.slice aA nA cA) := p0
  replace p1 : w3.cell? ⟨w.heap.size, 1, none⟩ = some (.slice aB nB cB) := p1
  replace p2 : w3.cell? ⟨w.heap.size, 2, none⟩ = some (.slice aM nM cM) := p2
  replace p3 : w3.cell? ⟨w.heap.size, 3, none⟩ = some (.slice aP nP cP) := p3
  have CC := PP.out GB.out w3 B3.out
  go_wp2_with fail
  go_at_call 11
  refine CC.mono ?_
  rintro e w4 ⟨yb, rfl, hn, hb⟩
  clear CC p0 p1 p2 p3 PP h1 h2
  obtain ⟨yA, mA, eA, yB, mB, eB, yM, mM, eM, yP, mP, eP⟩ := yb
  have K4 : Hid (Bk w4 ⟨yA, mA, eA, yB, mB, eB, yM, mM, eM, yP, mP, eP⟩ (postR b L)) := hn.bk
  have B4 : Hid (Below w.heap.size w w4) := B3.out.trans (hb.mono B3.out.size)
  have X4 : Hid (Box4 w4 w.heap.size ⟨aA, nA, cA, aB, nB, cB, aM, nM, cM, aP, nP, cP⟩) := X3.out.below hb
  clear hn hb X3 B3
  obtain ⟨w5, hw5⟩ : ∃ w5, w5 = w4.alloc (.cells #[.slice yA mA eA, .slice yB mB eB, .slice yM mM eM, .slice yP mP eP] 26) := ⟨_, rfl⟩
  have b5 : Below w4.heap.size w4 w5 := by rw [hw5]; exact box_below _ _
  have N5 : Hid (Box4 w5 w4.heap.size ⟨yA, mA, eA, yB, mB, eB, yM, mM, eM, yP, mP, eP⟩) := by rw [hw5]; exact Box4.new w4 ⟨yA, mA, eA, yB, mB, eB, yM, mM, eM, yP, mP, eP⟩ _ _
  have K5 : Hid (Bk w5 ⟨yA, mA, eA, yB, mB, eB, yM, mM, eM, yP, mP, eP⟩ (postR b L)) := K4.out.below b5
  have B5 : Hid (Below w.heap.size w w5) := B4.out.trans (b5.mono B4.out.size)
  have X5 : Hid (Box4 w5 w.heap.size ⟨aA, nA, cA, aB, nB, cB, aM, nM, cM, aP, nP, cP⟩) := X4.out.below b5
  have J5 : Hid (Bk w5 ⟨aA, nA, cA, aB, nB, cB, aM, nM, cM, aP, nP, cP⟩ b) := HBK.out.below B5.out
  clear b5 K4 B4 X4
  have ST := stays_tot b L
  have SG : Hid (Good (postR b L)) := stays_good GB.out L
  have SL := stays_len b L
  have SE : Hid (¬ postE b L = 0 → postR b L = b) := stays_err
  obtain ⟨E, hE⟩ : ∃ E, postE b L = E := ⟨_, rfl⟩
  rw [hE] at SE
  rw [hE]
  clear hE
  obtain ⟨kr, hkr⟩ : ∃ kr, postR b L = kr := ⟨_, rfl⟩
  rw [hkr] at ST SG SL SE K5
  clear hkr
  have IK := fun u (hu : Below w5.heap.size w5 u) => refBooksIs_any ⟨yA, mA, eA, yB, mB, eB, yM, mM, eM, yP, mP, eP⟩ kr u (K5.out.below hu)
  rw [booksB_yes.2 SG.out] at IK
  have SM : Hid (¬ E = 0 → ∀ u, Below w5.heap.size w5 u → Calls Try.prog 13 #[.agg #[.slice aA nA cA, .slice aB nB cB, .slice aM nM cM, .slice aP nP cP], .agg #[.slice yA mA eA, .slice yB mB eB, .slice yM mM eM, .slice yP mP eP]] u fun e w' => e = .returned (.bool true) ∧ Below u.heap.size u w') := fun hne u hu => by
    have := refSame_any ⟨aA, nA, cA, aB, nB, cB, aM, nM, cM, aP, nP, cP⟩ ⟨yA, mA, eA, yB, mB, eB, yM, mM, eM, yP, mP, eP⟩ b kr u (J5.out.below hu) (K5.out.below hu)
    rw [SE.out hne, sameB_self] at this
    exact this
  obtain ⟨A, hA⟩ : ∃ A, b.A = A := ⟨_, rfl⟩
  obtain ⟨D, hD⟩ : ∃ D, kr.A = D := ⟨_, rfl⟩
  have aA' : Hid (Accs w5 aA nA A) := by rw [← hA]; exact J5.out.acc
  have aD' : Hid (Accs w5 yA mA D) := by rw [← hD]; exact K5.out.acc
  have RA : Hid (∀ n ∈ bals A, -9223372036854775808 ≤ n ∧ n ≤ 9223372036854775807) := by rw [← hA]; exact bals_rng GB.out
  have RD : Hid (∀ n ∈ bals D, -9223372036854775808 ≤ n ∧ n ≤ 9223372036854775807) := by rw [← hD]; exact bals_rng SG.out
  have n6 : A.length ≤ 6 := by rw [← hA]; exact GB.out.n6
  have n1 : 1 ≤ A.length := by rw [← hA]; exact GB.out.n1
  rw [hA, hD] at SL
  rw [hA, hD] at ST
  clear hA hD J5 SE SG GB HQ HBK HG
  obtain ⟨nb, hnb⟩ : ∃ nb, A.length = nb := ⟨_, rfl⟩
  rw [hnb] at n6 n1 SL
  have LA : Hid (A.length = nb) := hnb
  have LD : Hid (D.length = nb) := SL
  have ena : nA = nb := by rw [← hnb]; exact aA'.out.1
  have end' : mA = nb := by rw [← SL]; exact aD'.out.1
  subst nA mA
  obtain ⟨bA, oA, rfl, HCA⟩ : ∃ p q, aA = some ⟨p, q, none⟩ ∧ Hid (∀ i, i < nb → w5.cell? ⟨p, q + i * 3, none⟩ = some (.int .i64 (A.getD i a30).1)) := by
    rcases aA'.out.2 with h | ⟨p, q, h, hc⟩
    · rw [h] at hnb; simp at hnb; omega
    · exact ⟨p, q, h, fun i hi => (hc i (by omega)).1⟩
  obtain ⟨bC, oC, rfl, HCD⟩ : ∃ p q, yA = some ⟨p, q, none⟩ ∧ Hid (∀ i, i < nb → w5.cell? ⟨p, q + i * 3, none⟩ = some (.int .i64 (D.getD i a30).1)) := by
    rcases aD'.out.2 with h | ⟨p, q, h, hc⟩
    · rw [h] at SL; simp at SL; omega
    · exact ⟨p, q, h, fun i hi => (hc i (by omega)).1⟩
  clear hnb SL aA' aD'
  have n6i : (nb : Int) ≤ 6 := by omega
  have HNB : Hid (nb ≤ 6) := n6
  clear n6 n1
  obtain ⟨zc, hzc⟩ : ∃ z, w4.heap.size = z := ⟨_, rfl⟩
  rw [hzc] at N5
  go_upto_region 4 with fail
  rw [← hw5]
  try simp only [hzc]
  clear hw5 hzc
  go_wp2
  go_loopw [7, 8, 9] (fun tx ty i wr => ∃ (k zx zy : Nat) (vx vy : Value), k ≤ nb ∧ i = .int .i64 k ∧ vx = tx ∧ vy = ty ∧ zx = k ∧ zy = k ∧ Hid (wr.ownsRow w5.heap.size 2 1 vx zx ((bals (A.take k)).map (Value.int .i64))) ∧ Hid (wr.ownsRow w5.heap.size 2 1 vy zy ((bals (D.take k)).map (Value.int .i64))) ∧ Hid (vx.ownBlock = none ∨ vx.ownBlock ≠ vy.ownBlock) ∧ Hid (Below w5.heap.size w5 wr)) (fun _ _ i _ => nb - (intOf i).toNat)
  case atStart => exact ⟨0, 0, 0, _, _, by omega, rfl, rfl, rfl, rfl, rfl, World.ownsRow_nil _ _ _ _, World.ownsRow_nil _ _ _ _, .inl rfl, Below.refl _ _⟩
  case round =>
    obtain ⟨k, zx, zy, vx, vy, hk, rfl, rfl, rfl, hzx, hzy, HOX, HOY, HAP, HB⟩ := hrel
    have HZ : Hid (zx = k ∧ zy = k) := ⟨hzx, hzy⟩
    by_cases hlt : k < nb
    · have k1 : (k : Int) < (nb : Int) := by omega
      have x1 : zx ≤ 1000 := by have := HNB.out; omega
      have y1 : zy ≤ 1000 := by have := HNB.out; omega
      have HTA : Hid (bals (A.take (k + 1)) = bals (A.take k) ++ [(A.getD k a30).1]) := bals_take (by rw [LA.out]; exact hlt)
      have HTD : Hid (bals (D.take (k + 1)) = bals (D.take k) ++ [(D.getD k a30).1]) := bals_take (by rw [LD.out]; exact hlt)
      have ca := HCA.out k hlt
      have cd := HCD.out k hlt
      have HWX : Hid (IntKind.i64.wrap (A.getD k a30).1 = (A.getD k a30).1) := by
        have := RA.out (A.getD k a30).1 (List.mem_map.2 ⟨A.getD k a30, by rw [List.getD_eq_getElem?_getD, List.getElem?_eq_getElem (by rw [LA.out]; exact hlt)]; exact List.getElem_mem _, rfl⟩)
        exact i64_wf this.1 this.2
      have HWY : Hid (IntKind.i64.wrap (D.getD k a30).1 = (D.getD k a30).1) := by
        have := RD.out (D.getD k a30).1 (List.mem_map.2 ⟨D.getD k a30, by rw [List.getD_eq_getElem?_getD, List.getElem?_eq_getElem (by rw [LD.out]; exact hlt)]; exact List.getElem_mem _, rfl⟩)
        exact i64_wf this.1 this.2
      generalize (A.getD k a30).1 = x at HTA ca HWX
      generalize (D.getD k a30).1 = y at HTD cd HWY
      obtain ⟨xc, _, _, _⟩ := X5.out
      replace xc : w5.cell? ⟨w.heap.size, 0, none⟩ = some (.slice (some ⟨bA, oA, none⟩) nb cA) := xc
      obtain ⟨yc, _, _, _⟩ := N5.out
      replace yc : w5.cell? ⟨zc, 0, none⟩ = some (.slice (some ⟨bC, oC, none⟩) nb eA) := yc
      have RS : ∀ u, Below w5.heap.size w5 u → u.cell? ⟨w.heap.size, 0, none⟩ = some (.slice (some ⟨bA, oA, none⟩) nb cA) ∧ u.cell? ⟨zc, 0, none⟩ = some (.slice (some ⟨bC, oC, none⟩) nb eA) ∧ u.cell? ⟨bA, oA + k * 3, none⟩ = some (.int .i64 x) ∧ u.cell? ⟨bC, oC + k * 3, none⟩ = some (.int .i64 y) ∧ Below w5.heap.size w5 u := fun u hu =>
        ⟨(hu.cell (p := ⟨w.heap.size, 0, none⟩) (block_lt_of_cell xc)).trans xc, (hu.cell (p := ⟨zc, 0, none⟩) (block_lt_of_cell yc)).trans yc, (hu.cell (p := ⟨bA, oA + k * 3, none⟩) (block_lt_of_cell ca)).trans ca, (hu.cell (p := ⟨bC, oC + k * 3, none⟩) (block_lt_of_cell cd)).trans cd, hu⟩
      have RS1 := RS wr HB.out
      obtain ⟨r0, r1, r2, r3, _⟩ := RS1
      have RS0 := RS wr.drew HB.out.drew
      have RSA : ∀ u o, (u.cell? ⟨w.heap.size, 0, none⟩ = some (.slice (some ⟨bA, oA, none⟩) nb cA) ∧ u.cell? ⟨zc, 0, none⟩ = some (.slice (some ⟨bC, oC, none⟩) nb eA) ∧ u.cell? ⟨bA, oA + k * 3, none⟩ = some (.int .i64 x) ∧ u.cell? ⟨bC, oC + k * 3, none⟩ = some (.int .i64 y) ∧ Below w5.heap.size w5 u) → _ := fun u o hu => RS (u.alloc o) (hu.2.2.2.2.alloc hu.2.2.2.2.size o)
      have RSB : ∀ u, (u.cell? ⟨w.heap.size, 0, none⟩ = some (.slice (some ⟨bA, oA, none⟩) nb cA) ∧ u.cell? ⟨zc, 0, none⟩ = some (.slice (some ⟨bC, oC, none⟩) nb eA) ∧ u.cell? ⟨bA, oA + k * 3, none⟩ = some (.int .i64 x) ∧ u.cell? ⟨bC, oC + k * 3, none⟩ = some (.int .i64 y) ∧ Below w5.heap.size w5 u) → Below w5.heap.size w5 u := fun u hu => hu.2.2.2.2
      have d1 : Below wr.heap.size wr wr.drew := drawn_below wr 1
      have O1 : Hid ((wr.drew.alloc (.cells #[.int .i64 x] 2)).ownsRow w5.heap.size 2 1 vx zx ((bals (A.take k)).map (Value.int .i64))) := own_below HOX.out (d1.alloc d1.size _)
      have O2 : Hid (((wr.drew.alloc (.cells #[.int .i64 x] 2)).alloc (.cells #[.int .i64 y] 2)).ownsRow w5.heap.size 2 1 vx zx ((bals (A.take k)).map (Value.int .i64))) := own_below HOX.out ((d1.alloc d1.size _).alloc (d1.alloc d1.size _).size _)
      have O3 : Hid (((wr.drew.alloc (.cells #[.int .i64 y] 2)).alloc (.cells #[.int .i64 x] 2)).ownsRow w5.heap.size 2 1 vx zx ((bals (A.take k)).map (Value.int .i64))) := own_below HOX.out ((d1.alloc d1.size _).alloc (d1.alloc d1.size _).size _)
      have Q1 : Hid ((wr.drew.alloc (.cells #[.int .i64 x] 2)).ownsRow w5.heap.size 2 1 vy zy ((bals (D.take k)).map (Value.int .i64))) := own_below HOY.out (d1.alloc d1.size _)
      have Q2 : Hid (((wr.drew.alloc (.cells #[.int .i64 x] 2)).alloc (.cells #[.int .i64 y] 2)).ownsRow w5.heap.size 2 1 vy zy ((bals (D.take k)).map (Value.int .i64))) := own_below HOY.out ((d1.alloc d1.size _).alloc (d1.alloc d1.size _).size _)
      have Q3 : Hid (((wr.drew.alloc (.cells #[.int .i64 y] 2)).alloc (.cells #[.int .i64 x] 2)).ownsRow w5.heap.size 2 1 vy zy ((bals (D.take k)).map (Value.int .i64))) := own_below HOY.out ((d1.alloc d1.size _).alloc (d1.alloc d1.size _).size _)
      have W1 : Hid (∀ z ∈ [x], IntKind.i64.wrap z = z) := by intro z hz; simp at hz; rw [hz]; exact HWX.out
      have W2 : Hid (∀ z ∈ [y], IntKind.i64.wrap z = z) := by intro z hz; simp at hz; rw [hz]; exact HWY.out
      have S1 : Hid (Sl .i64 (wr.drew.alloc (.cells #[.int .i64 x] 2)) (some ⟨wr.heap.size, 0, none⟩) 1 [x]) := Sl.new .i64 wr.drew 2 (0, 0) [x] W1.out
      have S2 : Hid (Sl .i64 ((wr.drew.alloc (.cells #[.int .i64 x] 2)).alloc (.cells #[.int .i64 y] 2)) (some ⟨wr.heap.size, 0, none⟩) 1 [x]) := S1.out.below (box_below _ _)
      have S3 : Hid (Sl .i64 ((wr.drew.alloc (.cells #[.int .i64 y] 2)).alloc (.cells #[.int .i64 x] 2)) (some ⟨wr.heap.size + 1, 0, none⟩) 1 [x]) := by
        have := Sl.new .i64 (wr.drew.alloc (.cells #[.int .i64 y] 2)) 2 (0, 0) [x] W1.out
        rw [size_alloc] at this
        exact this
      have T2 : Hid (Sl .i64 ((wr.drew.alloc (.cells #[.int .i64 x] 2)).alloc (.cells #[.int .i64 y] 2)) (some ⟨wr.heap.size + 1, 0, none⟩) 1 [y]) := by
        have := Sl.new .i64 (wr.drew.alloc (.cells #[.int .i64 x] 2)) 2 (0, 0) [y] W2.out
        rw [size_alloc] at this
        exact this
      have T3 : Hid (Sl .i64 ((wr.drew.alloc (.cells #[.int .i64 y] 2)).alloc (.cells #[.int .i64 x] 2)) (some ⟨wr.heap.size, 0, none⟩) 1 [y]) := (Sl.new .i64 wr.drew 2 (0, 0) [y] W2.out).below (box_below _ _)
      have FIN : Hid (∀ (v2 v3 : Value) (w3 : World), w3.ownsRow w5.heap.size 2 1 v2 (zx + 1) ((bals (A.take k) ++ [x]).map (Value.int .i64)) → w3.ownsRow w5.heap.size 2 1 v3 (zy + 1) ((bals (D.take k) ++ [y]).map (Value.int .i64)) → w3.ownsRow w5.heap.size 2 1 v2 (zx + 1) ((bals (A.take (k + 1))).map (Value.int .i64)) ∧ w3.ownsRow w5.heap.size 2 1 v3 (zy + 1) ((bals (D.take (k + 1))).map (Value.int .i64))) := fun v2 v3 w3 h1 h2 => by rw [HTA.out, HTD.out]; exact ⟨h1, h2⟩
      clear hzx hzy xc yc ca cd HTA HTD HWX HWY d1
      go_upto_region 8 with fail
      go_region_held3 (fun w' => w'.cell? ⟨w.heap.size, 0, none⟩ = some (.slice (some ⟨bA, oA, none⟩) nb cA) ∧ w'.cell? ⟨zc, 0, none⟩ = some (.slice (some ⟨bC, oC, none⟩) nb eA) ∧ w'.cell? ⟨bA, oA + k * 3, none⟩ = some (.int .i64 x) ∧ w'.cell? ⟨bC, oC + k * 3, none⟩ = some (.int .i64 y) ∧ Below w5.heap.size w5 w') (first | assumption | exact RS _ (by assumption) | exact RS0 | exact RSA _ _ (by assumption)) (first
    | (refine step_one_at (by rfl) (.tmp 42) (.tmp 49) (by rfl) w5.heap.size vx zx (bals (A.take k)) (by rfl) O1.out wr.heap.size x (by rfl) S1.out (by omega) (Below.size (RSB _ (by assumption))) ?_
       intro v2 w2 o2 g2 l2
       have B2 : Below w5.heap.size w5 w2 := Below.grown (RSB _ (by assumption)) g2 (Below.size (RSB _ (by assumption))) (fun j hj => (HOX.out.lt j hj).1)
       have y2 : w2.ownsRow w5.heap.size 2 1 vy zy ((bals (D.take k)).map (Value.int .i64)) := (Q1.out).kept g2 (ap_symm HAP.out)
       have a2 : v2.ownBlock = none ∨ v2.ownBlock ≠ vy.ownBlock := ap_left HAP.out l2 (fun j hj => Nat.lt_of_lt_of_le (HOY.out.lt j hj).2 (by simp))
       have t2 : True := trivial)
    | (refine step_one_at (by rfl) (.tmp 42) (.tmp 49) (by rfl) w5.heap.size vx zx (bals (A.take k)) (by rfl) O2.out wr.heap.size x (by rfl) S2.out (by omega) (Below.size (RSB _ (by assumption))) ?_
       intro v2 w2 o2 g2 l2
       have B2 : Below w5.heap.size w5 w2 := Below.grown (RSB _ (by assumption)) g2 (Below.size (RSB _ (by assumption))) (fun j hj => (HOX.out.lt j hj).1)
       have y2 : w2.ownsRow w5.heap.size 2 1 vy zy ((bals (D.take k)).map (Value.int .i64)) := (Q2.out).kept g2 (ap_symm HAP.out)
       have a2 : v2.ownBlock = none ∨ v2.ownBlock ≠ vy.ownBlock := ap_left HAP.out l2 (fun j hj => Nat.lt_of_lt_of_le (HOY.out.lt j hj).2 (by simp <;> omega))
       have t2 : Sl .i64 w2 (some ⟨wr.heap.size + 1, 0, none⟩) 1 [y] := sl_kept1 T2.out g2 (fun e => by have := (HOX.out.lt _ e.symm).2; omega) (by simp))
    | (refine step_one_at (by rfl) (.tmp 42) (.tmp 49) (by rfl) w5.heap.size vx zx (bals (A.take k)) (by rfl) O3.out (wr.heap.size + 1) x (by rfl) S3.out (by omega) (Below.size (RSB _ (by assumption))) ?_
       intro v2 w2 o2 g2 l2
       have B2 : Below w5.heap.size w5 w2 := Below.grown (RSB _ (by assumption)) g2 (Below.size (RSB _ (by assumption))) (fun j hj => (HOX.out.lt j hj).1)
       have y2 : w2.ownsRow w5.heap.size 2 1 vy zy ((bals (D.take k)).map (Value.int .i64)) := (Q3.out).kept g2 (ap_symm HAP.out)
       have a2 : v2.ownBlock = none ∨ v2.ownBlock ≠ vy.ownBlock := ap_left HAP.out l2 (fun j hj => Nat.lt_of_lt_of_le (HOY.out.lt j hj).2 (by simp <;> omega))
       have t2 : Sl .i64 w2 (some ⟨wr.heap.size, 0, none⟩) 1 [y] := sl_kept1 T3.out g2 (fun e => by have := (HOX.out.lt _ e.symm).2; omega) (by simp; omega))
    | (refine step_one_at (by rfl) (.tmp 51) (.tmp 58) (by rfl) w5.heap.size vy zy (bals (D.take k)) (by rfl) (own_below y2 (box_below _ _)) w2.heap.size y (by rfl) (Sl.new .i64 w2 2 (0, 0) [y] W2.out) (by omega) (Below.size (RSB _ (by assumption))) ?_
       intro v3 w3 o3 g3 l3
       have FB : Below w5.heap.size w5 w3 := Below.grown (RSB _ (by assumption)) g3 (Below.size (RSB _ (by assumption))) (fun j hj => (HOY.out.lt j hj).1)
       have FX : w3.ownsRow w5.heap.size 2 1 v2 (zx + 1) ((bals (A.take k) ++ [x]).map (Value.int .i64)) := (own_below o2 (box_below _ _)).kept g3 a2
       have FA : v2.ownBlock = none ∨ v2.ownBlock ≠ v3.ownBlock := ap_right a2 l3 (fun j hj => Nat.lt_of_lt_of_le (o2.lt j hj).2 (by simp)))
    | (refine step_one_at (by rfl) (.tmp 51) (.tmp 58) (by rfl) w5.heap.size vy zy (bals (D.take k)) (by rfl) y2 (wr.heap.size + 1) y (by rfl) t2 (by omega) (Below.size B2) ?_
       intro v3 w3 o3 g3 l3
       have FB : Below w5.heap.size w5 w3 := Below.grown B2 g3 (Below.size B2) (fun j hj => (HOY.out.lt j hj).1)
       have FX : w3.ownsRow w5.heap.size 2 1 v2 (zx + 1) ((bals (A.take k) ++ [x]).map (Value.int .i64)) := (o2).kept g3 a2
       have FA : v2.ownBlock = none ∨ v2.ownBlock ≠ v3.ownBlock := ap_right a2 l3 (fun j hj => Nat.lt_of_lt_of_le (o2.lt j hj).2 (by simp)))
    | (refine step_one_at (by rfl) (.tmp 51) (.tmp 58) (by rfl) w5.heap.size vy zy (bals (D.take k)) (by rfl) y2 wr.heap.size y (by rfl) t2 (by omega) (Below.size B2) ?_
       intro v3 w3 o3 g3 l3
       have FB : Below w5.heap.size w5 w3 := Below.grown B2 g3 (Below.size B2) (fun j hj => (HOY.out.lt j hj).1)
       have FX : w3.ownsRow w5.heap.size 2 1 v2 (zx + 1) ((bals (A.take k) ++ [x]).map (Value.int .i64)) := (o2).kept g3 a2
       have FA : v2.ownBlock = none ∨ v2.ownBlock ≠ v3.ownBlock := ap_right a2 l3 (fun j hj => Nat.lt_of_lt_of_le (o2.lt j hj).2 (by simp)))
    | fail)
      all_goals
        have FF := FIN.out _ _ _ FX o3
        have GX : Hid (w3.ownsRow w5.heap.size 2 1 v2 (zx + 1) ((bals (A.take (k + 1))).map (Value.int .i64))) := FF.1
        have GY : Hid (w3.ownsRow w5.heap.size 2 1 v3 (zy + 1) ((bals (D.take (k + 1))).map (Value.int .i64))) := FF.2
        have GA : Hid (v2.ownBlock = none ∨ v2.ownBlock ≠ v3.ownBlock) := FA
        have GBB : Hid (Below w5.heap.size w5 w3) := FB
        clear FF FX FA FB o3 g3 l3 t2 a2 y2 B2 l2 g2 o2 O1 O2 O3 Q1 Q2 Q3 S1 S2 S3 T2 T3 W1 W2 FIN RS RS0 RSA RSB r0 r1 r2 r3
        go_wp2
        go_roundw
      all_goals first
        | exact ⟨k + 1, zx + 1, zy + 1, v2, v3, by omega, by go_num, rfl, rfl, by rw [HZ.out.1], by rw [HZ.out.2], GX, GY, GA, GBB⟩
        | (simp [intOf]; omega)
    · obtain rfl : k = nb := by omega
      have EX : Hid (A.take k = A) := by show _ = _; rw [← LA.out, List.take_length]
      have ED : Hid (D.take k = D) := by show _ = _; rw [← LD.out, List.take_length]
      have ox := HOX.out
      have oy := HOY.out
      rw [EX.out, hzx] at ox
      rw [ED.out, hzy] at oy
      have lx : (bals A).length = k := by unfold bals; rw [List.length_map, LA.out]
      have ly : (bals D).length = k := by unfold bals; rw [List.length_map, LD.out]
      obtain ⟨ax, cx, hvx, HX1⟩ := sum_has (ys := bals A) (by rw [lx]; exact ox) (by rw [lx]; have := HNB.out; omega) RA.out
      obtain ⟨ay, cy, hvy, HY1⟩ := sum_has (ys := bals D) (by rw [ly]; exact oy) (by rw [ly]; have := HNB.out; omega) RD.out
      rw [lx] at hvx
      rw [ly] at hvy
      subst hvx hvy
      have Z1 := refSum_any ax (bals A).length cx (bals A) wr HX1 (by rw [lx]; have := HNB.out; omega)
      have Z2 := fun u (hu : Below wr.heap.size wr u) => refSum_any ay (bals D).length cy (bals D) u (has_below HY1 hu) (by rw [ly]; have := HNB.out; omega)
      rw [lx] at Z1
      rw [ly] at Z2
      simp only [ST] at Z2
      generalize tot (bals A) = tt at Z1 Z2
      obtain ⟨hv, hhv⟩ : ∃ z, heldV tt = z := ⟨_, rfl⟩
      obtain ⟨hh, hhh⟩ : ∃ z, heldB tt = z := ⟨_, rfl⟩
      rw [hhv, hhh] at Z1
      simp only [hhv, hhh] at Z2
      obtain ⟨xc, _, _, _⟩ := X5.out.below HB.out
      replace xc : wr.cell? ⟨w.heap.size, 0, none⟩ = some (.slice (some ⟨bA, oA, none⟩) k cA) := xc
      obtain ⟨yc, _, _, _⟩ := N5.out.below HB.out
      replace yc : wr.cell? ⟨zc, 0, none⟩ = some (.slice (some ⟨bC, oC, none⟩) k eA) := yc
      clear ox oy lx ly HX1 HY1 HOX HOY HAP EX ED hhv hhh HCA HCD RA RD LA LD ST HZ hzx hzy
      go_wp2_with fail
      go_at_call 15
      refine Z1.mono ?_
      rintro e w6 ⟨rfl, hb6⟩
      have Z2 := Z2 w6 hb6
      have B6 : Hid (Below w5.heap.size w5 w6) := HB.out.trans (hb6.mono HB.out.size)
      clear Z1 hb6 xc yc HB
      go_wp2_with fail
      go_at_call 15
      refine Z2.mono ?_
      rintro e w7 ⟨rfl, hb7⟩
      have B57 : Hid (Below w5.heap.size w5 w7) := B6.out.trans (hb7.mono B6.out.size)
      have B7 : Hid (Below w.heap.size w w7) := B5.out.trans (B57.out.mono B5.out.size)
      clear Z2 hb7 B6
      obtain ⟨o0, o1, o2, o3⟩ := X5.out.below B57.out
      replace o0 : w7.cell? ⟨w.heap.size, 0, none⟩ = some (.slice (some ⟨bA, oA, none⟩) k cA) := o0
      replace o1 : w7.cell? ⟨w.heap.size, 1, none⟩ = some (.slice aB nB cB) := o1
      replace o2 : w7.cell? ⟨w.heap.size, 2, none⟩ = some (.slice aM nM cM) := o2
      replace o3 : w7.cell? ⟨w.heap.size, 3, none⟩ = some (.slice aP nP cP) := o3
      obtain ⟨p0, p1, p2, p3⟩ := N5.out.below B57.out
      replace p0 : w7.cell? ⟨zc, 0, none⟩ = some (.slice (some ⟨bC, oC, none⟩) k eA) := p0
      replace p1 : w7.cell? ⟨zc, 1, none⟩ = some (.slice yB mB eB) := p1
      replace p2 : w7.cell? ⟨zc, 2, none⟩ = some (.slice yM mM eM) := p2
      replace p3 : w7.cell? ⟨zc, 3, none⟩ = some (.slice yP mP eP) := p3
      have I8 := IK w7 B57.out
      go_wp2_with fail
      go_at_call 9
      refine I8.mono ?_
      rintro e w8 ⟨rfl, hb8⟩
      have B58 : Hid (Below w5.heap.size w5 w8) := B57.out.trans (hb8.mono B57.out.size)
      have B8 : Hid (Below w.heap.size w w8) := B7.out.trans (hb8.mono B7.out.size)
      clear I8 hb8 IK o0 o1 o2 o3 p0 p1 p2 p3
      by_cases hE : E = 0
      · subst hE
        go_wp2_with fail
        go_at_call 14
        refine (known16 w8).mono ?_
        rintro e w9 ⟨rfl, hb⟩
        have B9 : Hid (Below w.heap.size w w9) := B8.out.trans (hb.mono B8.out.size)
        clear hb
        go_wp2
        go_ret
        exact ⟨rfl, B9.out⟩
      · have hE2 : (E == 0) = false := by simpa using hE
        have SS := SM.out hE w8 B58.out
        obtain ⟨o0, o1, o2, o3⟩ := X5.out.below B58.out
        replace o0 : w8.cell? ⟨w.heap.size, 0, none⟩ = some (.slice (some ⟨bA, oA, none⟩) k cA) := o0
        replace o1 : w8.cell? ⟨w.heap.size, 1, none⟩ = some (.slice aB nB cB) := o1
        replace o2 : w8.cell? ⟨w.heap.size, 2, none⟩ = some (.slice aM nM cM) := o2
        replace o3 : w8.cell? ⟨w.heap.size, 3, none⟩ = some (.slice aP nP cP) := o3
        obtain ⟨p0, p1, p2, p3⟩ := N5.out.below B58.out
        replace p0 : w8.cell? ⟨zc, 0, none⟩ = some (.slice (some ⟨bC, oC, none⟩) k eA) := p0
        replace p1 : w8.cell? ⟨zc, 1, none⟩ = some (.slice yB mB eB) := p1
        replace p2 : w8.cell? ⟨zc, 2, none⟩ = some (.slice yM mM eM) := p2
        replace p3 : w8.cell? ⟨zc, 3, none⟩ = some (.slice yP mP eP) := p3
        go_wp2_with fail
        go_at_call 13
        refine SS.mono ?_
        rintro e wa ⟨rfl, hb⟩
        have Ba : Hid (Below w.heap.size w wa) := B8.out.trans (hb.mono B8.out.size)
        clear hb SS o0 o1 o2 o3 p0 p1 p2 p3
        go_wp2_with fail
        go_at_call 14
        refine (known16 wa).mono ?_
        rintro e w9 ⟨rfl, hb⟩
        have B9 : Hid (Below w.heap.size w w9) := Ba.out.trans (hb.mono Ba.out.size)
        clear hb
        go_wp2
        go_ret
        exact ⟨rfl, B9.out⟩

end Go.Proofs.Ythpcpbjgihhjeaa
