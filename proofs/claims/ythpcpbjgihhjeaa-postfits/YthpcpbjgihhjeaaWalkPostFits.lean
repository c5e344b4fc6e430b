/-
  The walk of PostFits.
-/
import Derived.Test.YthpcpbjgihhjeaaKnown16
import Derived.Test.YthpcpbjgihhjeaaPostFitsPure
import Derived.Test.YthpcpbjgihhjeaaLimTwo
import Derived.Test.YthpcpbjgihhjeaaRowBase
namespace Go.Proofs.Ythpcpbjgihhjeaa
open Go.RowKit
set_option linter.unusedVariables false
set_option linter.unusedSimpArgs false

theorem pick_no {q : Act} {Q : Bool} {y : Operand} (h : (Q == true) = true → q.eval y = .bool false) : (if Q = true then q.eval y else q.eval (.const (.bool false))) = Value.bool false := by
  cases Q with
  | true => exact h rfl
  | false => rfl

set_option maxHeartbeats 16000000 in
set_option maxRecDepth 100000 in
theorem Walk.postFits (ah : Option Addr) (nh ch : Nat) (zh : List Int) (way : Int) (a : Option Addr) (n c : Nat) (L : List P7) (w : World) (h0 : Walk.IsRow .i64 w ah nh ch zh) (hway : (Lit.int .i64 way).wf = true) (hp : PaysIn w a n c L) :
    Calls Try.prog 6 #[.slice ah nh ch, .int .i64 way, .slice a n c] w fun e w' => e = .returned (.bool true) ∧ Below w.heap.size w w' := by
  rcases Nat.lt_or_ge 30 n with h30 | h30
  · have h1 : (30 : Int) < (n : Int) := by omega
    clear h0 hway hp h30
    go_enter Try.func6, Try.ntmps6
    go_wp2
    go_ret
    exact ⟨rfl, Below.refl _ _⟩
  have h1 : (n : Int) ≤ 30 := by omega
  obtain ⟨hsl, hcap, hmax⟩ := h0.sl fun n hn => by
    simp only [Lit.wf, Bool.and_eq_true, decide_eq_true_eq] at hn
    exact i64_wf hn.1 hn.2
  have S := some_any ah nh ch (zh.take nh) way w hsl (by omega)
  have HG : Hid (PGood w a n c L) := hp.good
  have HL : Hid (n = L.length) := hp.good.len
  obtain ⟨hq, hlen, hall⟩ := rowed_ok (L := L) (by have := HL.out; omega)
  have PR := post_rowed (zh.take nh) (bitB way 1) (bitB way 2) (bitB way 4) hall (by rw [hlen]; have := HL.out; omega)
  have SM := someK_small (zh.take nh) (bitB way 1) (bitB way 2) (bitB way 4)
  obtain ⟨kb, hkb⟩ : ∃ kb, someK (zh.take nh) (bitB way 1) (bitB way 2) (bitB way 4) = kb := ⟨_, rfl⟩
  have gs := good_some (zh.take nh) (bitB way 1) (bitB way 2) (bitB way 4)
  have g3 : (someK (zh.take nh) (bitB way 1) (bitB way 2) (bitB way 4)).A.length = 3 := rfl
  rw [hkb] at S PR gs g3
  have GB : Hid (Good kb) := gs
  have G3 : Hid (kb.A.length = 3) := g3
  have HR : Hid ((rowedL L).length = n) := by show _ = _; rw [hlen, HL.out]
  have RW := fun u (hu : Below w.heap.size w u) => rowed_any a n c L u (HG.out.below hu) (by omega)
  obtain ⟨R0, hR0⟩ : ∃ R0, rowedL L = R0 := ⟨_, rfl⟩
  unfold PGot at RW
  rw [HR.out] at RW
  rw [hR0] at HR PR RW hall
  have HALL : Hid (∀ p ∈ R0, RowedP L.length p) := hall
  obtain ⟨KA, hKA⟩ : ∃ KA, postB kb R0 = KA := ⟨_, rfl⟩
  have HKA : Hid (postB kb R0 = KA) := hKA
  rw [hKA] at PR
  have GK : Hid (Good KA) := PR.1
  have K3 : Hid (KA.A.length = 3) := by show _ = 3; rw [← hKA, postB_len]; exact g3
  have H1 : Hid (postE kb R0 = 0 ∧ postR kb R0 = KA) := PR.2
  clear hkb hsl h0 hlen hp PR gs g3 hKA hR0 hq hall SM
  go_enter Try.func6, Try.ntmps6
  go_wp2_with fail
  go_at_call 16
  refine S.mono ?_
  rintro e w1 ⟨yb, rfl, nb, bel⟩
  have B1 : Hid (Below w.heap.size w w1) := bel
  have N1 : Hid (Bk w1 yb kb) := nb.bk
  have R := RW w1 bel
  clear S nb bel RW
  go_wp2_with fail
  go_at_call 17
  refine R.mono ?_
  rintro e w2 ⟨ar0, cr, rfl, gr, hb⟩
  have BW2 : Hid (Below w.heap.size w w2) := B1.out.trans (hb.mono B1.out.size)
  have N2 : Hid (Bk w2 yb kb) := N1.out.below hb
  have G2 : Hid (PGood w2 ar0 n cr R0) := gr
  clear hb R N1 B1 gr HG
  obtain ⟨nn, cA, cB, cM, cP, bA, oA, bB, oB, bM, oM, bP, oP, hyb, hnn, fl⟩ := N2.out.flat GB.out
  rw [G3.out] at hnn
  subst hnn
  subst hyb
  have F2 : Hid (Flat w2 kb 3 bA oA bB oB bM oM bP oP) := fl
  clear fl
  obtain ⟨w3, hw3⟩ : ∃ w3, w3 = w2.alloc (.cells #[.slice (some ⟨bA, oA, none⟩) 3 cA, .slice (some ⟨bB, oB, none⟩) 3 cB, .slice (some ⟨bM, oM, none⟩) 3 cM, .slice (some ⟨bP, oP, none⟩) 3 cP] 26) := ⟨_, rfl⟩
  have b23 : Below w2.heap.size w2 w3 := by rw [hw3]; exact box_below _ _
  have BW3 : Hid (Below w.heap.size w w3) := BW2.out.trans (b23.mono BW2.out.size)
  have X3 : Hid (Box4 w3 w2.heap.size ⟨some ⟨bA, oA, none⟩, 3, cA, some ⟨bB, oB, none⟩, 3, cB, some ⟨bM, oM, none⟩, 3, cM, some ⟨bP, oP, none⟩, 3, cP⟩) := by rw [hw3]; exact Box4.new w2 ⟨some ⟨bA, oA, none⟩, 3, cA, some ⟨bB, oB, none⟩, 3, cB, some ⟨bM, oM, none⟩, 3, cM, some ⟨bP, oP, none⟩, 3, cP⟩ _ _
  have N3 : Hid (Bk w3 ⟨some ⟨bA, oA, none⟩, 3, cA, some ⟨bB, oB, none⟩, 3, cB, some ⟨bM, oM, none⟩, 3, cM, some ⟨bP, oP, none⟩, 3, cP⟩ kb) := N2.out.below b23
  have F3 : Hid (Flat w3 kb 3 bA oA bB oB bM oM bP oP) := F2.out.below b23
  have G3r : Hid (PGood w3 ar0 n cr R0) := G2.out.below b23
  clear N2 G2 BW2 F2 b23
  obtain ⟨zb, hzb⟩ : ∃ z, w2.heap.size = z := ⟨_, rfl⟩
  rw [hzb] at X3
  have FT := refFFits_any ⟨some ⟨bA, oA, none⟩, 3, cA, some ⟨bB, oB, none⟩, 3, cB, some ⟨bM, oM, none⟩, 3, cM, some ⟨bP, oP, none⟩, 3, cP⟩ kb ar0 n cr R0 w3 N3.out GB.out G3r.out
  obtain ⟨q, hq⟩ : ∃ q, fitsB kb R0 = q := ⟨_, rfl⟩
  have HQ : Hid (fitsB kb R0 = q) := hq
  rw [hq] at FT
  have P1 : Hid (∀ u, Below w3.heap.size w3 u → Calls Try.prog 11 #[.agg #[.slice (some ⟨bA, oA, none⟩) 3 cA, .slice (some ⟨bB, oB, none⟩) 3 cB, .slice (some ⟨bM, oM, none⟩) 3 cM, .slice (some ⟨bP, oP, none⟩) 3 cP], .slice ar0 n cr] u (PostEnd u kb R0)) := fun u hu => post_any ⟨some ⟨bA, oA, none⟩, 3, cA, some ⟨bB, oB, none⟩, 3, cB, some ⟨bM, oM, none⟩, 3, cM, some ⟨bP, oP, none⟩, 3, cP⟩ kb ar0 n cr R0 u (N3.out.below hu) GB.out (G3r.out.below hu)
  obtain ⟨o0, o1, o2, o3⟩ := X3.out
  replace o0 : w3.cell? ⟨zb, 0, none⟩ = some (.slice (some ⟨bA, oA, none⟩) 3 cA) := o0
  replace o1 : w3.cell? ⟨zb, 1, none⟩ = some (.slice (some ⟨bB, oB, none⟩) 3 cB) := o1
  replace o2 : w3.cell? ⟨zb, 2, none⟩ = some (.slice (some ⟨bM, oM, none⟩) 3 cM) := o2
  replace o3 : w3.cell? ⟨zb, 3, none⟩ = some (.slice (some ⟨bP, oP, none⟩) 3 cP) := o3
  clear hq
  go_upto_region 4 with fail
  rw [← hw3]
  try simp only [hzb]
  clear hw3 hzb
  go_wp2_with fail
  go_at_call 18
  refine FT.mono ?_
  rintro e w4 ⟨rfl, hb⟩
  have B34 : Hid (Below w3.heap.size w3 w4) := hb
  have BW4 : Hid (Below w.heap.size w w4) := BW3.out.trans (hb.mono BW3.out.size)
  clear hb FT o0 o1 o2 o3
  cases q with
  | false =>
    go_wp2
    go_ret
    exact ⟨rfl, BW4.out⟩
  | true =>
  have EACH : Hid (∀ p ∈ R0, ∀ f t : Nat, p.fr = f → p.to = t → f < 3 → t < 3 → 0 ≤ (KA.A.getD f a30).1 + (KA.A.getD f a30).2.1 ∧ (p.cl = 3 → (KA.A.getD f a30).2.2 ≤ (KA.A.getD f a30).1 + (KA.A.getD f a30).2.1) ∧ (at2 kb.B f t = -1 ∨ at2 KA.P f t ≤ at2 kb.B f t) ∧ (kb.M.getD f 0 = -1 ∨ netTo KA.P f 3 ≤ kb.M.getD f 0)) := fun p hp f t hf ht hf3 ht3 => by
    have := fits_each HQ.out G3.out (fun q hq => (HALL.out q hq).2.2.2.2.1.1) hp hf ht hf3 ht3
    rw [HKA.out] at this
    exact this
  have P4 := P1.out w4 B34.out
  unfold PostEnd at P4
  rw [H1.out.1, H1.out.2] at P4
  obtain ⟨o0, o1, o2, o3⟩ := X3.out.below B34.out
  replace o0 : w4.cell? ⟨zb, 0, none⟩ = some (.slice (some ⟨bA, oA, none⟩) 3 cA) := o0
  replace o1 : w4.cell? ⟨zb, 1, none⟩ = some (.slice (some ⟨bB, oB, none⟩) 3 cB) := o1
  replace o2 : w4.cell? ⟨zb, 2, none⟩ = some (.slice (some ⟨bM, oM, none⟩) 3 cM) := o2
  replace o3 : w4.cell? ⟨zb, 3, none⟩ = some (.slice (some ⟨bP, oP, none⟩) 3 cP) := o3
  go_wp2_with fail
  go_at_call 11
  refine P4.mono ?_
  rintro e w4b ⟨yc, rfl, nc, hb⟩
  have B34b : Hid (Below w3.heap.size w3 w4b) := B34.out.trans (hb.mono B34.out.size)
  have NC : Hid (Bk w4b yc KA) := nc.bk
  clear P4 hb nc o0 o1 o2 o3 P1 B34 BW4
  obtain ⟨nn, eA, eB, eM, eP, dA, qA, dB, qB, dM, qM, dP, qP, hyc, hnn, fl⟩ := NC.out.flat GK.out
  rw [K3.out] at hnn
  subst hnn
  subst hyc
  have FC : Hid (Flat w4b KA 3 dA qA dB qB dM qM dP qP) := fl
  clear fl
  obtain ⟨w5, hw5⟩ : ∃ w5, w5 = w4b.alloc (.cells #[.slice (some ⟨dA, qA, none⟩) 3 eA, .slice (some ⟨dB, qB, none⟩) 3 eB, .slice (some ⟨dM, qM, none⟩) 3 eM, .slice (some ⟨dP, qP, none⟩) 3 eP] 26) := ⟨_, rfl⟩
  have b45 : Below w4b.heap.size w4b w5 := by rw [hw5]; exact box_below _ _
  have Y5 : Hid (Box4 w5 w4b.heap.size ⟨some ⟨dA, qA, none⟩, 3, eA, some ⟨dB, qB, none⟩, 3, eB, some ⟨dM, qM, none⟩, 3, eM, some ⟨dP, qP, none⟩, 3, eP⟩) := by rw [hw5]; exact Box4.new w4b ⟨some ⟨dA, qA, none⟩, 3, eA, some ⟨dB, qB, none⟩, 3, eB, some ⟨dM, qM, none⟩, 3, eM, some ⟨dP, qP, none⟩, 3, eP⟩ _ _
  have B35 : Hid (Below w3.heap.size w3 w5) := B34b.out.trans (b45.mono B34b.out.size)
  have BW5 : Hid (Below w.heap.size w w5) := BW3.out.trans (B35.out.mono BW3.out.size)
  have F5 : Hid (Flat w5 KA 3 dA qA dB qB dM qM dP qP) := FC.out.below b45
  have NC5 : Hid (Bk w5 ⟨some ⟨dA, qA, none⟩, 3, eA, some ⟨dB, qB, none⟩, 3, eB, some ⟨dM, qM, none⟩, 3, eM, some ⟨dP, qP, none⟩, 3, eP⟩ KA) := NC.out.below b45
  have F3b : Hid (Flat w5 kb 3 bA oA bB oB bM oM bP oP) := F3.out.below B35.out
  have X5 : Hid (Box4 w5 zb ⟨some ⟨bA, oA, none⟩, 3, cA, some ⟨bB, oB, none⟩, 3, cB, some ⟨bM, oM, none⟩, 3, cM, some ⟨bP, oP, none⟩, 3, cP⟩) := X3.out.below B35.out
  have G5 : Hid (PGood w5 ar0 n cr R0) := G3r.out.below B35.out
  clear b45 FC NC F3 X3 G3r B34b B35 BW3 N3
  have NT : Hid (∀ f : Nat, f < 3 → ∀ u, Below w5.heap.size w5 u → Calls Try.prog 19 #[.agg #[.slice (some ⟨dA, qA, none⟩) 3 eA, .slice (some ⟨dB, qB, none⟩) 3 eB, .slice (some ⟨dM, qM, none⟩) 3 eM, .slice (some ⟨dP, qP, none⟩) 3 eP], .int .i64 f] u fun e w' => e = .returned (.int .i64 (netTo KA.P f 3)) ∧ Below u.heap.size u w') := fun f hf u hu => by
    have g := GK.out
    refine refNet_any ⟨some ⟨dA, qA, none⟩, 3, eA, some ⟨dB, qB, none⟩, 3, eB, some ⟨dM, qM, none⟩, 3, eM, some ⟨dP, qP, none⟩, 3, eP⟩ KA f 3 u (NC5.out.below hu) (by omega) (squareB_yes.2 ⟨by rw [g.pos, K3.out], fun i hi => by rw [g.poss i (by rw [K3.out]; exact hi), K3.out]⟩) hf (fun k hk => g.may f k (by rw [K3.out]; exact hf) (by rw [K3.out]; exact hk))
  have AR : Hid (∀ f, f < 3 → -4611686018427387904 < (KA.A.getD f a30).1 ∧ (KA.A.getD f a30).1 < 4611686018427387904 ∧ 0 ≤ (KA.A.getD f a30).2.1 ∧ (KA.A.getD f a30).2.1 ≤ 2305843009213693952) := fun f hf => by
    have := GK.out.acc f (by rw [K3.out]; exact hf)
    unfold acctAt at this
    rw [acctB_yes] at this
    omega
  obtain ⟨zc, hzc⟩ : ∃ z, w4b.heap.size = z := ⟨_, rfl⟩
  rw [hzc] at Y5
  obtain ⟨p0, p1, p2, p3⟩ := Y5.out
  replace p0 : w5.cell? ⟨zc, 0, none⟩ = some (.slice (some ⟨dA, qA, none⟩) 3 eA) := p0
  replace p1 : w5.cell? ⟨zc, 1, none⟩ = some (.slice (some ⟨dB, qB, none⟩) 3 eB) := p1
  replace p2 : w5.cell? ⟨zc, 2, none⟩ = some (.slice (some ⟨dM, qM, none⟩) 3 eM) := p2
  replace p3 : w5.cell? ⟨zc, 3, none⟩ = some (.slice (some ⟨dP, qP, none⟩) 3 eP) := p3
  clear GB G3 GK K3 H1 HQ HKA NC5
  go_upto_region 7 with fail
  rw [← hw5]
  try simp only [hzc]
  clear hw5 hzc
  go_wp2
  clear p0 p1 p2 p3
  go_loopw [11, 12, 13] (fun i _ _ wr => ∃ k : Nat, k ≤ n ∧ i = .int .i64 k ∧ Hid (Below w5.heap.size w5 wr)) (fun i _ _ _ => n - (intOf i).toNat)
  case atStart => exact ⟨0, by omega, rfl, Below.refl _ _⟩
  case round =>
    obtain ⟨k, hk, rfl, HB⟩ := hrel
    have BW : Hid (Below w.heap.size w wr) := BW5.out.trans (HB.out.mono BW5.out.size)
    by_cases hlt : k < n
    · have k1 : (k : Int) < (n : Int) := by omega
      obtain ⟨ba, off, rfl, HC⟩ := G5.out.at hlt
      have hkl : k < R0.length := by rw [HR.out]; exact hlt
      have C0 := (HC k hlt).below HB.out
      have hmem : R0.getD k p70 ∈ R0 := by rw [getD_get hkl]; exact List.getElem_mem _
      have hrow := HALL.out _ hmem
      have he := EACH.out _ hmem
      generalize R0.getD k p70 = p at C0 hrow he
      obtain ⟨_, hfr, hto, hne, ham, hcl, _⟩ := hrow
      obtain ⟨f, hf⟩ : ∃ f : Nat, p.fr = f := ⟨p.fr.toNat, by omega⟩
      obtain ⟨t, ht⟩ : ∃ t : Nat, p.to = t := ⟨p.to.toNat, by omega⟩
      have f3 : f < 3 := by omega
      have t3 : t < 3 := by omega
      have f3i : (f : Int) < 3 := by omega
      have t3i : (t : Int) < 3 := by omega
      obtain ⟨e1, e2, e3, e4⟩ := he f t hf ht f3 t3
      obtain ⟨x0, x1, x2, x3, x4, x5, x6⟩ := p
      obtain ⟨z0, z1, z2, z3, z4, z5, z6⟩ := C0
      simp only [P7.id, P7.fr, P7.to, P7.am, P7.cl, P7.st, P7.ti] at z0 z1 z2 z3 z4 z5 z6 hf ht e2 hcl
      subst hf ht
      have arr := AR.out f f3
      have N0 := NT.out f f3
      obtain ⟨w6, hw6⟩ : ∃ w6, w6 = wr.alloc (.cells #[.int .i64 x0, .int .i64 f, .int .i64 t, .int .i64 x3, .int .i64 x4, .int .i64 x5, .int .i64 x6] 46) := ⟨_, rfl⟩
      have B56 : Hid (Below w5.heap.size w5 w6) := by rw [hw6]; exact HB.out.alloc HB.out.size _
      have P6 : Hid (At7 w6 wr.heap.size 0 (x0, (f : Int), (t : Int), x3, x4, x5, x6)) := by rw [hw6]; exact At7.new _ (x0, (f : Int), (t : Int), x3, x4, x5, x6) _ _
      go_upto_region 13 with fail
      rw [← hw6]
      clear hw6 z0 z1 z2 z3 z4 z5 z6 HC hkl hmem hfr hto hne ham
      obtain ⟨a0, a1, a2⟩ := (F5.out.below B56.out).acc f f3
      obtain ⟨g2, u2, d2, s0, s1⟩ := (F5.out.below B56.out).pos f f3
      obtain ⟨g1, u1, d1, s2, s3⟩ := (F3b.out.below B56.out).bil f f3
      have s1 := s1 t t3
      have s3 := s3 t t3
      have m0 := (F3b.out.below B56.out).mul f f3
      obtain ⟨ab, hab⟩ : ∃ z, (KA.A.getD f a30).1 = z := ⟨_, rfl⟩
      obtain ⟨ac, hac⟩ : ∃ z, (KA.A.getD f a30).2.1 = z := ⟨_, rfl⟩
      obtain ⟨ar, har⟩ : ∃ z, (KA.A.getD f a30).2.2 = z := ⟨_, rfl⟩
      obtain ⟨ps, hps⟩ : ∃ z, at2 KA.P f t = z := ⟨_, rfl⟩
      obtain ⟨lb, hlb⟩ : ∃ z, at2 kb.B f t = z := ⟨_, rfl⟩
      obtain ⟨ml, hml⟩ : ∃ z, kb.M.getD f 0 = z := ⟨_, rfl⟩
      obtain ⟨nt, hnt⟩ : ∃ z, netTo KA.P f 3 = z := ⟨_, rfl⟩
      rw [hab, hac] at e1
      rw [hab, hac, har] at e2
      rw [hps, hlb] at e3
      rw [hml, hnt] at e4
      rw [hab, hac] at arr
      rw [hab] at a0
      rw [hac] at a1
      rw [har] at a2
      rw [hps] at s1
      rw [hlb] at s3
      rw [hml] at m0
      rw [hnt] at N0
      have HM0 : Hid (w6.cell? ⟨bM, oM + f, none⟩ = some (.int .i64 ml)) := m0
      have HN0 : Hid (∀ u, Below w5.heap.size w5 u → Calls Try.prog 19 #[.agg #[.slice (some ⟨dA, qA, none⟩) 3 eA, .slice (some ⟨dB, qB, none⟩) 3 eB, .slice (some ⟨dM, qM, none⟩) 3 eM, .slice (some ⟨dP, qP, none⟩) 3 eP], .int .i64 f] u fun e w' => e = .returned (.int .i64 nt) ∧ Below u.heap.size u w') := N0
      have HE2 : Hid (x4 = 3 → ar ≤ ab + ac) := e2
      have HE3 : Hid (lb = -1 ∨ ps ≤ lb) := e3
      have HE4 : Hid (ml = -1 ∨ nt ≤ ml) := e4
      have r0 : -9223372036854775808 ≤ ab + ac := by omega
      have r1 : ab + ac ≤ 9223372036854775807 := by omega
      have e1b : decide (ab + ac < 0) = false := decide_eq_false (by omega)
      clear hab hac har hps hlb hml hnt arr m0 N0 e2 e3 e4 hcl
      obtain ⟨z0, z1, z2, z3, z4, z5, z6⟩ := P6.out
      simp only [P7.id, P7.fr, P7.to, P7.am, P7.cl, P7.st, P7.ti, Nat.zero_add] at z0 z1 z2 z3 z4 z5 z6
      obtain ⟨p0, _, _, _⟩ := Y5.out.below B56.out
      replace p0 : w6.cell? ⟨zc, 0, none⟩ = some (.slice (some ⟨dA, qA, none⟩) 3 eA) := p0
      obtain ⟨w7, hw7⟩ : ∃ w7, w7 = (w6.alloc (.cells #[.int .i64 ab, .int .i64 ac, .int .i64 ar] 39)) := ⟨_, rfl⟩
      have B67 : Hid (Below w6.heap.size w6 w7) := by rw [hw7]; exact box_below _ _
      have A7 : Hid (At3 w7 w6.heap.size ab ac ar) := by rw [hw7]; exact At3.new _ _ _ _ _ _
      go_upto_region 14 with fail
      rw [← hw7]
      clear hw7 p0 z0 z1 z2 z3 z4 z5 z6 a0 a1 a2
      have B57 : Hid (Below w5.heap.size w5 w7) := B56.out.trans (B67.out.mono B56.out.size)
      have X7 : Hid (Box4 w7 zb ⟨some ⟨bA, oA, none⟩, 3, cA, some ⟨bB, oB, none⟩, 3, cB, some ⟨bM, oM, none⟩, 3, cM, some ⟨bP, oP, none⟩, 3, cP⟩) := X5.out.below B57.out
      have Y7 : Hid (Box4 w7 zc ⟨some ⟨dA, qA, none⟩, 3, eA, some ⟨dB, qB, none⟩, 3, eB, some ⟨dM, qM, none⟩, 3, eM, some ⟨dP, qP, none⟩, 3, eP⟩) := Y5.out.below B57.out
      have P7' : Hid (At7 w7 wr.heap.size 0 (x0, (f : Int), (t : Int), x3, x4, x5, x6)) := P6.out.below B67.out
      have S0 : Hid (w7.cell? ⟨dP, qP + f, none⟩ = some (.slice (some ⟨g2, u2, none⟩) 3 d2)) := (B67.out.cell (p := ⟨dP, qP + f, none⟩) (block_lt_of_cell s0)).trans s0
      have S1 : Hid (w7.cell? ⟨g2, u2 + t, none⟩ = some (.int .i64 ps)) := (B67.out.cell (p := ⟨g2, u2 + t, none⟩) (block_lt_of_cell s1)).trans s1
      have S2 : Hid (w7.cell? ⟨bB, oB + f, none⟩ = some (.slice (some ⟨g1, u1, none⟩) 3 d1)) := (B67.out.cell (p := ⟨bB, oB + f, none⟩) (block_lt_of_cell s2)).trans s2
      have S3 : Hid (w7.cell? ⟨g1, u1 + t, none⟩ = some (.int .i64 lb)) := (B67.out.cell (p := ⟨g1, u1 + t, none⟩) (block_lt_of_cell s3)).trans s3
      have M7 : Hid (w7.cell? ⟨bM, oM + f, none⟩ = some (.int .i64 ml)) := (B67.out.cell (p := ⟨bM, oM + f, none⟩) (block_lt_of_cell HM0.out)).trans HM0.out
      obtain ⟨t1, ht1⟩ : ∃ z, ab + ac = z := ⟨_, rfl⟩
      have HW : Hid (IntKind.i64.wrap (ab + ac) = t1) := by show _ = _; rw [← ht1]; exact i64_wf r0 r1
      have H76 : Hid (decide (t1 < 0) = false) := by rw [← ht1]; exact e1b
      obtain ⟨Q4, hQ4⟩ : ∃ z, (x4 == 3) = z := ⟨_, rfl⟩
      have HQ4 : Hid ((x4 == 3) = Q4) := hQ4
      have HC4 : Hid (Q4 = true → decide (t1 < ar) = false) := fun hq => by
        rw [← hQ4] at hq
        have := HE2.out (by simpa using hq)
        exact decide_eq_false (by omega)
      obtain ⟨NE, hNE⟩ : ∃ z, (lb != -1) = z := ⟨_, rfl⟩
      have HNE : Hid ((lb != -1) = NE) := hNE
      have HCB : Hid (NE = true → decide (lb < ps) = false) := fun hq => by
        rw [← hNE] at hq
        have := HE3.out.resolve_left (by simpa using hq)
        exact decide_eq_false (by omega)
      obtain ⟨nmb, hnm⟩ : ∃ z, (ml != -1) = z := ⟨_, rfl⟩
      have HNB : Hid ((ml != -1) = nmb) := hnm
      have HNM : Hid (nmb = true → decide (ml < nt) = false) := fun hm => by
        rw [← hnm] at hm
        have := HE4.out.resolve_left (by simpa using hm)
        exact decide_eq_false (by omega)
      clear s0 s1 s2 s3 ht1 hQ4 hNE hnm e1 e1b r0 r1 HE2 HE3 HE4 P6 HM0
      refine region_owes (L := [Fact.is (.pointer (some ⟨zc, 3, none⟩)),
        Fact.is (.slice (some ⟨dP, qP, none⟩) 3 eP),
        Fact.is (.pointer (some ⟨wr.heap.size, 1, none⟩)),
        Fact.is (.int .i64 f),
        Fact.is (.pointer (some ⟨dP, qP + f, none⟩)),
        Fact.is (.slice (some ⟨g2, u2, none⟩) 3 d2),
        Fact.is (.int .i64 3),
        Fact.is (.bool false),
        Fact.is (.bool false),
        Fact.is (.pointer (some ⟨w6.heap.size, 0, none⟩)),
        Fact.is (.int .i64 ab),
        Fact.is (.pointer (some ⟨w6.heap.size, 1, none⟩)),
        Fact.is (.int .i64 ac),
        Fact.is (.int .i64 t1),
        Fact.is (.bool false),
        Fact.is (.bool false),
        Fact.is (.bool false),
        Fact.is (.pointer (some ⟨wr.heap.size, 4, none⟩)),
        Fact.is (.int .i64 x4),
        Fact.is (.bool Q4),
        Fact.is (.bool Q4),
        Fact.when (Q4 == true) (.pointer (some ⟨w6.heap.size, 0, none⟩)),
        Fact.when (Q4 == true) (.int .i64 ab),
        Fact.when (Q4 == true) (.pointer (some ⟨w6.heap.size, 1, none⟩)),
        Fact.when (Q4 == true) (.int .i64 ac),
        Fact.when (Q4 == true) (.int .i64 t1),
        Fact.when (Q4 == true) (.pointer (some ⟨w6.heap.size, 2, none⟩)),
        Fact.when (Q4 == true) (.int .i64 ar),
        Fact.when (Q4 == true) (.bool false),
        Fact.is (.bool false),
        Fact.is (.bool false),
        Fact.is (.bool false),
        Fact.is (.pointer (some ⟨zb, 1, none⟩)),
        Fact.is (.slice (some ⟨bB, oB, none⟩) 3 cB),
        Fact.is (.pointer (some ⟨wr.heap.size, 1, none⟩)),
        Fact.is (.int .i64 f),
        Fact.is (.pointer (some ⟨bB, oB + f, none⟩)),
        Fact.is (.slice (some ⟨g1, u1, none⟩) 3 d1),
        Fact.is (.pointer (some ⟨wr.heap.size, 2, none⟩)),
        Fact.is (.int .i64 t),
        Fact.is (.pointer (some ⟨g1, u1 + t, none⟩)),
        Fact.is (.int .i64 lb),
        Fact.is (.bool NE),
        Fact.is (.bool NE),
        Fact.when (NE == true) (.pointer (some ⟨zc, 3, none⟩)),
        Fact.when (NE == true) (.slice (some ⟨dP, qP, none⟩) 3 eP),
        Fact.when (NE == true) (.pointer (some ⟨wr.heap.size, 1, none⟩)),
        Fact.when (NE == true) (.int .i64 f),
        Fact.when (NE == true) (.pointer (some ⟨dP, qP + f, none⟩)),
        Fact.when (NE == true) (.slice (some ⟨g2, u2, none⟩) 3 d2),
        Fact.when (NE == true) (.pointer (some ⟨wr.heap.size, 2, none⟩)),
        Fact.when (NE == true) (.int .i64 t),
        Fact.when (NE == true) (.pointer (some ⟨g2, u2 + t, none⟩)),
        Fact.when (NE == true) (.int .i64 ps),
        Fact.when (NE == true) (.pointer (some ⟨zb, 1, none⟩)),
        Fact.when (NE == true) (.slice (some ⟨bB, oB, none⟩) 3 cB),
        Fact.when (NE == true) (.pointer (some ⟨wr.heap.size, 1, none⟩)),
        Fact.when (NE == true) (.int .i64 f),
        Fact.when (NE == true) (.pointer (some ⟨bB, oB + f, none⟩)),
        Fact.when (NE == true) (.slice (some ⟨g1, u1, none⟩) 3 d1),
        Fact.when (NE == true) (.pointer (some ⟨wr.heap.size, 2, none⟩)),
        Fact.when (NE == true) (.int .i64 t),
        Fact.when (NE == true) (.pointer (some ⟨g1, u1 + t, none⟩)),
        Fact.when (NE == true) (.int .i64 lb),
        Fact.when (NE == true) (.bool false),
        Fact.is (.bool false),
        Fact.is (.bool false)])
        (T := [62, 63, 64, 65, 66, 67, 68, 69, 70, 71, 72, 73, 74, 75, 76, 77, 78, 79, 80, 81, 82, 83, 84, 85, 86, 87, 88, 89, 90, 91, 92, 93, 94, 95, 96, 97, 98, 99, 100, 101, 102, 103, 104, 105, 106, 107, 108, 109, 110, 111, 112, 113, 114, 115, 116, 117, 118, 119, 120, 121, 122, 123, 124, 125, 126, 127, 128]) (by kernel_rfl) (by kernel_rfl) rfl ?owes ?_
      case owes =>
        refine .cons (owes_value fun q u lh => ⟨wants_free rfl, .pointer (some ⟨zc, 3, none⟩), by have e9 : q.tmps.getD 9 undef = .pointer (some ⟨zc, 0, none⟩) := lh.old 9 rfl; simp [execOp, Act.eval, e9, go_sem], rfl⟩) ?_
        refine .cons (owes_value fun q u lh => ⟨wants_free rfl, .slice (some ⟨dP, qP, none⟩) 3 eP, by have e62 : q.tmps.getD 62 undef = .pointer (some ⟨zc, 3, none⟩) := lh.dep 0 rfl; obtain ⟨y0, y1, y2, y3⟩ := Y7.out.below lh.below; simp [execOp, Act.eval, e62, y3, go_sem], rfl⟩) ?_
        refine .cons (owes_value fun q u lh => ⟨wants_free rfl, .pointer (some ⟨wr.heap.size, 1, none⟩), by have e12 : q.tmps.getD 12 undef = .pointer (some ⟨wr.heap.size, 0, none⟩) := lh.old 12 rfl; simp [execOp, Act.eval, e12, go_sem], rfl⟩) ?_
        refine .cons (owes_value fun q u lh => ⟨wants_free rfl, .int .i64 f, by have e64 : q.tmps.getD 64 undef = .pointer (some ⟨wr.heap.size, 1, none⟩) := lh.dep 2 rfl; obtain ⟨j0, j1, j2, j3, j4, j5, j6⟩ := P7'.out.below lh.below; simp [execOp, Act.eval, e64, j1, go_sem], rfl⟩) ?_
        refine .cons (owes_value fun q u lh => ⟨wants_free rfl, .pointer (some ⟨dP, qP + f, none⟩), by have e63 : q.tmps.getD 63 undef = .slice (some ⟨dP, qP, none⟩) 3 eP := lh.dep 1 rfl; have e65 : q.tmps.getD 65 undef = .int .i64 f := lh.dep 3 rfl; simp [execOp, Act.eval, e63, e65, f3i, go_sem], rfl⟩) ?_
        refine .cons (owes_value fun q u lh => ⟨wants_free rfl, .slice (some ⟨g2, u2, none⟩) 3 d2, by have e66 : q.tmps.getD 66 undef = .pointer (some ⟨dP, qP + f, none⟩) := lh.dep 4 rfl; have t9 := (lh.below.cell (p := ⟨dP, qP + f, none⟩) (block_lt_of_cell S0.out)).trans S0.out; simp [execOp, Act.eval, e66, t9, go_sem], rfl⟩) ?_
        refine .cons (owes_value fun q u lh => ⟨wants_free rfl, .int .i64 3, by have e67 : q.tmps.getD 67 undef = .slice (some ⟨g2, u2, none⟩) 3 d2 := lh.dep 5 rfl; simp [execOp, Act.eval, e67, go_sem], rfl⟩) ?_
        refine .cons (owes_value fun q u lh => ⟨wants_free rfl, .bool false, by have e68 : q.tmps.getD 68 undef = .int .i64 3 := lh.dep 6 rfl; simp [execOp, Act.eval, e68, go_sem], rfl⟩) ?_
        refine .cons (owes_move (.tmp 69) (.inl rfl) fun q u lh => ⟨wants_free rfl, lh.dep 7 rfl⟩) ?_
        refine .cons (owes_value fun q u lh => ⟨lh.wants1 8 false rfl rfl rfl, .pointer (some ⟨w6.heap.size, 0, none⟩), by have e13 : q.tmps.getD 13 undef = .pointer (some ⟨w6.heap.size, 0, none⟩) := lh.old 13 rfl; simp [execOp, Act.eval, e13, go_sem], rfl⟩) ?_
        refine .cons (owes_value fun q u lh => ⟨lh.wants1 8 false rfl rfl rfl, .int .i64 ab, by have e71 : q.tmps.getD 71 undef = .pointer (some ⟨w6.heap.size, 0, none⟩) := lh.dep 9 rfl; obtain ⟨i0, i1, i2⟩ := A7.out.below lh.below; simp [execOp, Act.eval, e71, i0, go_sem], rfl⟩) ?_
        refine .cons (owes_value fun q u lh => ⟨lh.wants1 8 false rfl rfl rfl, .pointer (some ⟨w6.heap.size, 1, none⟩), by have e13 : q.tmps.getD 13 undef = .pointer (some ⟨w6.heap.size, 0, none⟩) := lh.old 13 rfl; simp [execOp, Act.eval, e13, go_sem], rfl⟩) ?_
        refine .cons (owes_value fun q u lh => ⟨lh.wants1 8 false rfl rfl rfl, .int .i64 ac, by have e73 : q.tmps.getD 73 undef = .pointer (some ⟨w6.heap.size, 1, none⟩) := lh.dep 11 rfl; obtain ⟨i0, i1, i2⟩ := A7.out.below lh.below; simp [execOp, Act.eval, e73, i1, go_sem], rfl⟩) ?_
        refine .cons (owes_value fun q u lh => ⟨lh.wants1 8 false rfl rfl rfl, .int .i64 t1, by have e72 : q.tmps.getD 72 undef = .int .i64 ab := lh.dep 10 rfl; have e74 : q.tmps.getD 74 undef = .int .i64 ac := lh.dep 12 rfl; simp [execOp, Act.eval, e72, e74, HW.out, go_sem], rfl⟩) ?_
        refine .cons (owes_value fun q u lh => ⟨lh.wants1 8 false rfl rfl rfl, .bool false, by have e75 : q.tmps.getD 75 undef = .int .i64 t1 := lh.dep 13 rfl; have t9 := H76.out; simp [execOp, Act.eval, e75, t9, go_sem], rfl⟩) ?_
        refine .cons (owes_pick (.tmp 70) (.const (.bool true)) (.tmp 76) rfl fun q u lh => ⟨wants_free rfl, false, lh.dep 8 rfl, lh.dep 14 rfl⟩) ?_
        refine .cons (owes_move (.tmp 77) (.inl rfl) fun q u lh => ⟨wants_free rfl, lh.dep 15 rfl⟩) ?_
        refine .cons (owes_value fun q u lh => ⟨lh.wants1 16 false rfl rfl rfl, .pointer (some ⟨wr.heap.size, 4, none⟩), by have e12 : q.tmps.getD 12 undef = .pointer (some ⟨wr.heap.size, 0, none⟩) := lh.old 12 rfl; simp [execOp, Act.eval, e12, go_sem], rfl⟩) ?_
        refine .cons (owes_value fun q u lh => ⟨lh.wants1 16 false rfl rfl rfl, .int .i64 x4, by have e79 : q.tmps.getD 79 undef = .pointer (some ⟨wr.heap.size, 4, none⟩) := lh.dep 17 rfl; obtain ⟨j0, j1, j2, j3, j4, j5, j6⟩ := P7'.out.below lh.below; simp [execOp, Act.eval, e79, j4, go_sem], rfl⟩) ?_
        refine .cons (owes_value fun q u lh => ⟨lh.wants1 16 false rfl rfl rfl, .bool Q4, by have e80 : q.tmps.getD 80 undef = .int .i64 x4 := lh.dep 18 rfl; simp [execOp, Act.eval, e80, HQ4.out, go_sem], rfl⟩) ?_
        refine .cons (owes_move (.tmp 81) (.inl rfl) fun q u lh => ⟨lh.wants1 16 false rfl rfl rfl, lh.dep 19 rfl⟩) ?_
        refine .cons (owes_when 20 true Q4 (.pointer (some ⟨w6.heap.size, 0, none⟩)) rfl rfl rfl rfl fun hg q u lh => by have e13 : q.tmps.getD 13 undef = .pointer (some ⟨w6.heap.size, 0, none⟩) := lh.old 13 rfl; simp [execOp, Act.eval, e13, go_sem]) ?_
        refine .cons (owes_when 20 true Q4 (.int .i64 ab) rfl rfl rfl rfl fun hg q u lh => by have e83 : q.tmps.getD 83 undef = .pointer (some ⟨w6.heap.size, 0, none⟩) := (lh.dep 21 rfl) hg; obtain ⟨i0, i1, i2⟩ := A7.out.below lh.below; simp [execOp, Act.eval, e83, i0, go_sem]) ?_
        refine .cons (owes_when 20 true Q4 (.pointer (some ⟨w6.heap.size, 1, none⟩)) rfl rfl rfl rfl fun hg q u lh => by have e13 : q.tmps.getD 13 undef = .pointer (some ⟨w6.heap.size, 0, none⟩) := lh.old 13 rfl; simp [execOp, Act.eval, e13, go_sem]) ?_
        refine .cons (owes_when 20 true Q4 (.int .i64 ac) rfl rfl rfl rfl fun hg q u lh => by have e85 : q.tmps.getD 85 undef = .pointer (some ⟨w6.heap.size, 1, none⟩) := (lh.dep 23 rfl) hg; obtain ⟨i0, i1, i2⟩ := A7.out.below lh.below; simp [execOp, Act.eval, e85, i1, go_sem]) ?_
        refine .cons (owes_when 20 true Q4 (.int .i64 t1) rfl rfl rfl rfl fun hg q u lh => by have e84 : q.tmps.getD 84 undef = .int .i64 ab := (lh.dep 22 rfl) hg; have e86 : q.tmps.getD 86 undef = .int .i64 ac := (lh.dep 24 rfl) hg; simp [execOp, Act.eval, e84, e86, HW.out, go_sem]) ?_
        refine .cons (owes_when 20 true Q4 (.pointer (some ⟨w6.heap.size, 2, none⟩)) rfl rfl rfl rfl fun hg q u lh => by have e13 : q.tmps.getD 13 undef = .pointer (some ⟨w6.heap.size, 0, none⟩) := lh.old 13 rfl; simp [execOp, Act.eval, e13, go_sem]) ?_
        refine .cons (owes_when 20 true Q4 (.int .i64 ar) rfl rfl rfl rfl fun hg q u lh => by have e88 : q.tmps.getD 88 undef = .pointer (some ⟨w6.heap.size, 2, none⟩) := (lh.dep 26 rfl) hg; obtain ⟨i0, i1, i2⟩ := A7.out.below lh.below; simp [execOp, Act.eval, e88, i2, go_sem]) ?_
        refine .cons (owes_when 20 true Q4 (.bool false) rfl rfl rfl rfl fun hg q u lh => by have e87 : q.tmps.getD 87 undef = .int .i64 t1 := (lh.dep 25 rfl) hg; have e89 : q.tmps.getD 89 undef = .int .i64 ar := (lh.dep 27 rfl) hg; have t9 := HC4.out (by simpa using hg); simp [execOp, Act.eval, e87, e89, t9, go_sem]) ?_
        refine .cons (owes_pick (.tmp 82) (.tmp 90) (.const (.bool false)) rfl fun q u lh => ⟨lh.wants1 16 false rfl rfl rfl, Q4, lh.dep 20 rfl, pick_no (lh.dep 28 rfl)⟩) ?_
        refine .cons (owes_pick (.tmp 78) (.const (.bool true)) (.tmp 91) rfl fun q u lh => ⟨wants_free rfl, false, lh.dep 16 rfl, lh.dep 29 rfl⟩) ?_
        refine .cons (owes_move (.tmp 92) (.inl rfl) fun q u lh => ⟨wants_free rfl, lh.dep 30 rfl⟩) ?_
        refine .cons (owes_value fun q u lh => ⟨lh.wants1 31 false rfl rfl rfl, .pointer (some ⟨zb, 1, none⟩), by have e7 : q.tmps.getD 7 undef = .pointer (some ⟨zb, 0, none⟩) := lh.old 7 rfl; simp [execOp, Act.eval, e7, go_sem], rfl⟩) ?_
        refine .cons (owes_value fun q u lh => ⟨lh.wants1 31 false rfl rfl rfl, .slice (some ⟨bB, oB, none⟩) 3 cB, by have e94 : q.tmps.getD 94 undef = .pointer (some ⟨zb, 1, none⟩) := lh.dep 32 rfl; obtain ⟨y0, y1, y2, y3⟩ := X7.out.below lh.below; simp [execOp, Act.eval, e94, y1, go_sem], rfl⟩) ?_
        refine .cons (owes_value fun q u lh => ⟨lh.wants1 31 false rfl rfl rfl, .pointer (some ⟨wr.heap.size, 1, none⟩), by have e12 : q.tmps.getD 12 undef = .pointer (some ⟨wr.heap.size, 0, none⟩) := lh.old 12 rfl; simp [execOp, Act.eval, e12, go_sem], rfl⟩) ?_
        refine .cons (owes_value fun q u lh => ⟨lh.wants1 31 false rfl rfl rfl, .int .i64 f, by have e96 : q.tmps.getD 96 undef = .pointer (some ⟨wr.heap.size, 1, none⟩) := lh.dep 34 rfl; obtain ⟨j0, j1, j2, j3, j4, j5, j6⟩ := P7'.out.below lh.below; simp [execOp, Act.eval, e96, j1, go_sem], rfl⟩) ?_
        refine .cons (owes_value fun q u lh => ⟨lh.wants1 31 false rfl rfl rfl, .pointer (some ⟨bB, oB + f, none⟩), by have e95 : q.tmps.getD 95 undef = .slice (some ⟨bB, oB, none⟩) 3 cB := lh.dep 33 rfl; have e97 : q.tmps.getD 97 undef = .int .i64 f := lh.dep 35 rfl; simp [execOp, Act.eval, e95, e97, f3i, go_sem], rfl⟩) ?_
        refine .cons (owes_value fun q u lh => ⟨lh.wants1 31 false rfl rfl rfl, .slice (some ⟨g1, u1, none⟩) 3 d1, by have e98 : q.tmps.getD 98 undef = .pointer (some ⟨bB, oB + f, none⟩) := lh.dep 36 rfl; have t9 := (lh.below.cell (p := ⟨bB, oB + f, none⟩) (block_lt_of_cell S2.out)).trans S2.out; simp [execOp, Act.eval, e98, t9, go_sem], rfl⟩) ?_
        refine .cons (owes_value fun q u lh => ⟨lh.wants1 31 false rfl rfl rfl, .pointer (some ⟨wr.heap.size, 2, none⟩), by have e12 : q.tmps.getD 12 undef = .pointer (some ⟨wr.heap.size, 0, none⟩) := lh.old 12 rfl; simp [execOp, Act.eval, e12, go_sem], rfl⟩) ?_
        refine .cons (owes_value fun q u lh => ⟨lh.wants1 31 false rfl rfl rfl, .int .i64 t, by have e100 : q.tmps.getD 100 undef = .pointer (some ⟨wr.heap.size, 2, none⟩) := lh.dep 38 rfl; obtain ⟨j0, j1, j2, j3, j4, j5, j6⟩ := P7'.out.below lh.below; simp [execOp, Act.eval, e100, j2, go_sem], rfl⟩) ?_
        refine .cons (owes_value fun q u lh => ⟨lh.wants1 31 false rfl rfl rfl, .pointer (some ⟨g1, u1 + t, none⟩), by have e99 : q.tmps.getD 99 undef = .slice (some ⟨g1, u1, none⟩) 3 d1 := lh.dep 37 rfl; have e101 : q.tmps.getD 101 undef = .int .i64 t := lh.dep 39 rfl; simp [execOp, Act.eval, e99, e101, t3i, go_sem], rfl⟩) ?_
        refine .cons (owes_value fun q u lh => ⟨lh.wants1 31 false rfl rfl rfl, .int .i64 lb, by have e102 : q.tmps.getD 102 undef = .pointer (some ⟨g1, u1 + t, none⟩) := lh.dep 40 rfl; have t9 := (lh.below.cell (p := ⟨g1, u1 + t, none⟩) (block_lt_of_cell S3.out)).trans S3.out; simp [execOp, Act.eval, e102, t9, go_sem], rfl⟩) ?_
        refine .cons (owes_value fun q u lh => ⟨lh.wants1 31 false rfl rfl rfl, .bool NE, by have e103 : q.tmps.getD 103 undef = .int .i64 lb := lh.dep 41 rfl; simp [execOp, Act.eval, e103, HNE.out, go_sem], rfl⟩) ?_
        refine .cons (owes_move (.tmp 104) (.inl rfl) fun q u lh => ⟨lh.wants1 31 false rfl rfl rfl, lh.dep 42 rfl⟩) ?_
        refine .cons (owes_when 43 true NE (.pointer (some ⟨zc, 3, none⟩)) rfl rfl rfl rfl fun hg q u lh => by have e9 : q.tmps.getD 9 undef = .pointer (some ⟨zc, 0, none⟩) := lh.old 9 rfl; simp [execOp, Act.eval, e9, go_sem]) ?_
        refine .cons (owes_when 43 true NE (.slice (some ⟨dP, qP, none⟩) 3 eP) rfl rfl rfl rfl fun hg q u lh => by have e106 : q.tmps.getD 106 undef = .pointer (some ⟨zc, 3, none⟩) := (lh.dep 44 rfl) hg; obtain ⟨y0, y1, y2, y3⟩ := Y7.out.below lh.below; simp [execOp, Act.eval, e106, y3, go_sem]) ?_
        refine .cons (owes_when 43 true NE (.pointer (some ⟨wr.heap.size, 1, none⟩)) rfl rfl rfl rfl fun hg q u lh => by have e12 : q.tmps.getD 12 undef = .pointer (some ⟨wr.heap.size, 0, none⟩) := lh.old 12 rfl; simp [execOp, Act.eval, e12, go_sem]) ?_
        refine .cons (owes_when 43 true NE (.int .i64 f) rfl rfl rfl rfl fun hg q u lh => by have e108 : q.tmps.getD 108 undef = .pointer (some ⟨wr.heap.size, 1, none⟩) := (lh.dep 46 rfl) hg; obtain ⟨j0, j1, j2, j3, j4, j5, j6⟩ := P7'.out.below lh.below; simp [execOp, Act.eval, e108, j1, go_sem]) ?_
        refine .cons (owes_when 43 true NE (.pointer (some ⟨dP, qP + f, none⟩)) rfl rfl rfl rfl fun hg q u lh => by have e107 : q.tmps.getD 107 undef = .slice (some ⟨dP, qP, none⟩) 3 eP := (lh.dep 45 rfl) hg; have e109 : q.tmps.getD 109 undef = .int .i64 f := (lh.dep 47 rfl) hg; simp [execOp, Act.eval, e107, e109, f3i, go_sem]) ?_
        refine .cons (owes_when 43 true NE (.slice (some ⟨g2, u2, none⟩) 3 d2) rfl rfl rfl rfl fun hg q u lh => by have e110 : q.tmps.getD 110 undef = .pointer (some ⟨dP, qP + f, none⟩) := (lh.dep 48 rfl) hg; have t9 := (lh.below.cell (p := ⟨dP, qP + f, none⟩) (block_lt_of_cell S0.out)).trans S0.out; simp [execOp, Act.eval, e110, t9, go_sem]) ?_
        refine .cons (owes_when 43 true NE (.pointer (some ⟨wr.heap.size, 2, none⟩)) rfl rfl rfl rfl fun hg q u lh => by have e12 : q.tmps.getD 12 undef = .pointer (some ⟨wr.heap.size, 0, none⟩) := lh.old 12 rfl; simp [execOp, Act.eval, e12, go_sem]) ?_
        refine .cons (owes_when 43 true NE (.int .i64 t) rfl rfl rfl rfl fun hg q u lh => by have e112 : q.tmps.getD 112 undef = .pointer (some ⟨wr.heap.size, 2, none⟩) := (lh.dep 50 rfl) hg; obtain ⟨j0, j1, j2, j3, j4, j5, j6⟩ := P7'.out.below lh.below; simp [execOp, Act.eval, e112, j2, go_sem]) ?_
        refine .cons (owes_when 43 true NE (.pointer (some ⟨g2, u2 + t, none⟩)) rfl rfl rfl rfl fun hg q u lh => by have e111 : q.tmps.getD 111 undef = .slice (some ⟨g2, u2, none⟩) 3 d2 := (lh.dep 49 rfl) hg; have e113 : q.tmps.getD 113 undef = .int .i64 t := (lh.dep 51 rfl) hg; simp [execOp, Act.eval, e111, e113, t3i, go_sem]) ?_
        refine .cons (owes_when 43 true NE (.int .i64 ps) rfl rfl rfl rfl fun hg q u lh => by have e114 : q.tmps.getD 114 undef = .pointer (some ⟨g2, u2 + t, none⟩) := (lh.dep 52 rfl) hg; have t9 := (lh.below.cell (p := ⟨g2, u2 + t, none⟩) (block_lt_of_cell S1.out)).trans S1.out; simp [execOp, Act.eval, e114, t9, go_sem]) ?_
        refine .cons (owes_when 43 true NE (.pointer (some ⟨zb, 1, none⟩)) rfl rfl rfl rfl fun hg q u lh => by have e7 : q.tmps.getD 7 undef = .pointer (some ⟨zb, 0, none⟩) := lh.old 7 rfl; simp [execOp, Act.eval, e7, go_sem]) ?_
        refine .cons (owes_when 43 true NE (.slice (some ⟨bB, oB, none⟩) 3 cB) rfl rfl rfl rfl fun hg q u lh => by have e116 : q.tmps.getD 116 undef = .pointer (some ⟨zb, 1, none⟩) := (lh.dep 54 rfl) hg; obtain ⟨y0, y1, y2, y3⟩ := X7.out.below lh.below; simp [execOp, Act.eval, e116, y1, go_sem]) ?_
        refine .cons (owes_when 43 true NE (.pointer (some ⟨wr.heap.size, 1, none⟩)) rfl rfl rfl rfl fun hg q u lh => by have e12 : q.tmps.getD 12 undef = .pointer (some ⟨wr.heap.size, 0, none⟩) := lh.old 12 rfl; simp [execOp, Act.eval, e12, go_sem]) ?_
        refine .cons (owes_when 43 true NE (.int .i64 f) rfl rfl rfl rfl fun hg q u lh => by have e118 : q.tmps.getD 118 undef = .pointer (some ⟨wr.heap.size, 1, none⟩) := (lh.dep 56 rfl) hg; obtain ⟨j0, j1, j2, j3, j4, j5, j6⟩ := P7'.out.below lh.below; simp [execOp, Act.eval, e118, j1, go_sem]) ?_
        refine .cons (owes_when 43 true NE (.pointer (some ⟨bB, oB + f, none⟩)) rfl rfl rfl rfl fun hg q u lh => by have e117 : q.tmps.getD 117 undef = .slice (some ⟨bB, oB, none⟩) 3 cB := (lh.dep 55 rfl) hg; have e119 : q.tmps.getD 119 undef = .int .i64 f := (lh.dep 57 rfl) hg; simp [execOp, Act.eval, e117, e119, f3i, go_sem]) ?_
        refine .cons (owes_when 43 true NE (.slice (some ⟨g1, u1, none⟩) 3 d1) rfl rfl rfl rfl fun hg q u lh => by have e120 : q.tmps.getD 120 undef = .pointer (some ⟨bB, oB + f, none⟩) := (lh.dep 58 rfl) hg; have t9 := (lh.below.cell (p := ⟨bB, oB + f, none⟩) (block_lt_of_cell S2.out)).trans S2.out; simp [execOp, Act.eval, e120, t9, go_sem]) ?_
        refine .cons (owes_when 43 true NE (.pointer (some ⟨wr.heap.size, 2, none⟩)) rfl rfl rfl rfl fun hg q u lh => by have e12 : q.tmps.getD 12 undef = .pointer (some ⟨wr.heap.size, 0, none⟩) := lh.old 12 rfl; simp [execOp, Act.eval, e12, go_sem]) ?_
        refine .cons (owes_when 43 true NE (.int .i64 t) rfl rfl rfl rfl fun hg q u lh => by have e122 : q.tmps.getD 122 undef = .pointer (some ⟨wr.heap.size, 2, none⟩) := (lh.dep 60 rfl) hg; obtain ⟨j0, j1, j2, j3, j4, j5, j6⟩ := P7'.out.below lh.below; simp [execOp, Act.eval, e122, j2, go_sem]) ?_
        refine .cons (owes_when 43 true NE (.pointer (some ⟨g1, u1 + t, none⟩)) rfl rfl rfl rfl fun hg q u lh => by have e121 : q.tmps.getD 121 undef = .slice (some ⟨g1, u1, none⟩) 3 d1 := (lh.dep 59 rfl) hg; have e123 : q.tmps.getD 123 undef = .int .i64 t := (lh.dep 61 rfl) hg; simp [execOp, Act.eval, e121, e123, t3i, go_sem]) ?_
        refine .cons (owes_when 43 true NE (.int .i64 lb) rfl rfl rfl rfl fun hg q u lh => by have e124 : q.tmps.getD 124 undef = .pointer (some ⟨g1, u1 + t, none⟩) := (lh.dep 62 rfl) hg; have t9 := (lh.below.cell (p := ⟨g1, u1 + t, none⟩) (block_lt_of_cell S3.out)).trans S3.out; simp [execOp, Act.eval, e124, t9, go_sem]) ?_
        refine .cons (owes_when 43 true NE (.bool false) rfl rfl rfl rfl fun hg q u lh => by have e115 : q.tmps.getD 115 undef = .int .i64 ps := (lh.dep 53 rfl) hg; have e125 : q.tmps.getD 125 undef = .int .i64 lb := (lh.dep 63 rfl) hg; have t9 := HCB.out (by simpa using hg); simp [execOp, Act.eval, e115, e125, t9, go_sem]) ?_
        refine .cons (owes_pick (.tmp 105) (.tmp 126) (.const (.bool false)) rfl fun q u lh => ⟨lh.wants1 31 false rfl rfl rfl, NE, lh.dep 43 rfl, pick_no (lh.dep 64 rfl)⟩) ?_
        refine .cons (owes_pick (.tmp 93) (.const (.bool true)) (.tmp 127) rfl fun q u lh => ⟨wants_free rfl, false, lh.dep 31 rfl, lh.dep 65 rfl⟩) ?_
        exact .nil _
      intro q u hb hsz hdf hold hfact
      obtain ⟨v83, e83⟩ : ∃ v, q.tmps.getD 83 undef = v := ⟨_, rfl⟩
      obtain ⟨v84, e84⟩ : ∃ v, q.tmps.getD 84 undef = v := ⟨_, rfl⟩
      obtain ⟨v85, e85⟩ : ∃ v, q.tmps.getD 85 undef = v := ⟨_, rfl⟩
      obtain ⟨v86, e86⟩ : ∃ v, q.tmps.getD 86 undef = v := ⟨_, rfl⟩
      obtain ⟨v87, e87⟩ : ∃ v, q.tmps.getD 87 undef = v := ⟨_, rfl⟩
      obtain ⟨v88, e88⟩ : ∃ v, q.tmps.getD 88 undef = v := ⟨_, rfl⟩
      obtain ⟨v89, e89⟩ : ∃ v, q.tmps.getD 89 undef = v := ⟨_, rfl⟩
      obtain ⟨v90, e90⟩ : ∃ v, q.tmps.getD 90 undef = v := ⟨_, rfl⟩
      obtain ⟨v106, e106⟩ : ∃ v, q.tmps.getD 106 undef = v := ⟨_, rfl⟩
      obtain ⟨v107, e107⟩ : ∃ v, q.tmps.getD 107 undef = v := ⟨_, rfl⟩
      obtain ⟨v108, e108⟩ : ∃ v, q.tmps.getD 108 undef = v := ⟨_, rfl⟩
      obtain ⟨v109, e109⟩ : ∃ v, q.tmps.getD 109 undef = v := ⟨_, rfl⟩
      obtain ⟨v110, e110⟩ : ∃ v, q.tmps.getD 110 undef = v := ⟨_, rfl⟩
      obtain ⟨v111, e111⟩ : ∃ v, q.tmps.getD 111 undef = v := ⟨_, rfl⟩
      obtain ⟨v112, e112⟩ : ∃ v, q.tmps.getD 112 undef = v := ⟨_, rfl⟩
      obtain ⟨v113, e113⟩ : ∃ v, q.tmps.getD 113 undef = v := ⟨_, rfl⟩
      obtain ⟨v114, e114⟩ : ∃ v, q.tmps.getD 114 undef = v := ⟨_, rfl⟩
      obtain ⟨v115, e115⟩ : ∃ v, q.tmps.getD 115 undef = v := ⟨_, rfl⟩
      obtain ⟨v116, e116⟩ : ∃ v, q.tmps.getD 116 undef = v := ⟨_, rfl⟩
      obtain ⟨v117, e117⟩ : ∃ v, q.tmps.getD 117 undef = v := ⟨_, rfl⟩
      obtain ⟨v118, e118⟩ : ∃ v, q.tmps.getD 118 undef = v := ⟨_, rfl⟩
      obtain ⟨v119, e119⟩ : ∃ v, q.tmps.getD 119 undef = v := ⟨_, rfl⟩
      obtain ⟨v120, e120⟩ : ∃ v, q.tmps.getD 120 undef = v := ⟨_, rfl⟩
      obtain ⟨v121, e121⟩ : ∃ v, q.tmps.getD 121 undef = v := ⟨_, rfl⟩
      obtain ⟨v122, e122⟩ : ∃ v, q.tmps.getD 122 undef = v := ⟨_, rfl⟩
      obtain ⟨v123, e123⟩ : ∃ v, q.tmps.getD 123 undef = v := ⟨_, rfl⟩
      obtain ⟨v124, e124⟩ : ∃ v, q.tmps.getD 124 undef = v := ⟨_, rfl⟩
      obtain ⟨v125, e125⟩ : ∃ v, q.tmps.getD 125 undef = v := ⟨_, rfl⟩
      obtain ⟨v126, e126⟩ : ∃ v, q.tmps.getD 126 undef = v := ⟨_, rfl⟩
      obtain ⟨w8, hw8⟩ : ∃ z, z = u := ⟨u, rfl⟩
      have B78 : Hid (Below w7.heap.size w7 w8) := by rw [hw8]; exact hb
      clear hb
      rw [← hw8] at hfact
      try rw [← hw8] at hsz hdf hold
      obtain rfl := frame_puts hsz hdf [62, 63, 64, 65, 66, 67, 68, 69, 70, 71, 72, 73, 74, 75, 76, 77, 78, 79, 80, 81, 82, 83, 84, 85, 86, 87, 88, 89, 90, 91, 92, 93, 94, 95, 96, 97, 98, 99, 100, 101, 102, 103, 104, 105, 106, 107, 108, 109, 110, 111, 112, 113, 114, 115, 116, 117, 118, 119, 120, 121, 122, 123, 124, 125, 126, 127, 128] hold [(62, Value.pointer (some ⟨zc, 3, none⟩)), (63, Value.slice (some ⟨dP, qP, none⟩) 3 eP), (64, Value.pointer (some ⟨wr.heap.size, 1, none⟩)), (65, Value.int .i64 f), (66, Value.pointer (some ⟨dP, qP + f, none⟩)), (67, Value.slice (some ⟨g2, u2, none⟩) 3 d2), (68, Value.int .i64 3), (69, Value.bool false), (70, Value.bool false), (71, Value.pointer (some ⟨w6.heap.size, 0, none⟩)), (72, Value.int .i64 ab), (73, Value.pointer (some ⟨w6.heap.size, 1, none⟩)), (74, Value.int .i64 ac), (75, Value.int .i64 t1), (76, Value.bool false), (77, Value.bool false), (78, Value.bool false), (79, Value.pointer (some ⟨wr.heap.size, 4, none⟩)), (80, Value.int .i64 x4), (81, Value.bool Q4), (82, Value.bool Q4), (83, v83), (84, v84), (85, v85), (86, v86), (87, v87), (88, v88), (89, v89), (90, v90), (91, Value.bool false), (92, Value.bool false), (93, Value.bool false), (94, Value.pointer (some ⟨zb, 1, none⟩)), (95, Value.slice (some ⟨bB, oB, none⟩) 3 cB), (96, Value.pointer (some ⟨wr.heap.size, 1, none⟩)), (97, Value.int .i64 f), (98, Value.pointer (some ⟨bB, oB + f, none⟩)), (99, Value.slice (some ⟨g1, u1, none⟩) 3 d1), (100, Value.pointer (some ⟨wr.heap.size, 2, none⟩)), (101, Value.int .i64 t), (102, Value.pointer (some ⟨g1, u1 + t, none⟩)), (103, Value.int .i64 lb), (104, Value.bool NE), (105, Value.bool NE), (106, v106), (107, v107), (108, v108), (109, v109), (110, v110), (111, v111), (112, v112), (113, v113), (114, v114), (115, v115), (116, v116), (117, v117), (118, v118), (119, v119), (120, v120), (121, v121), (122, v122), (123, v123), (124, v124), (125, v125), (126, v126), (127, Value.bool false), (128, Value.bool false)] ⟨hfact 0 (by decide), hfact 1 (by decide), hfact 2 (by decide), hfact 3 (by decide), hfact 4 (by decide), hfact 5 (by decide), hfact 6 (by decide), hfact 7 (by decide), hfact 8 (by decide), hfact 9 (by decide), hfact 10 (by decide), hfact 11 (by decide), hfact 12 (by decide), hfact 13 (by decide), hfact 14 (by decide), hfact 15 (by decide), hfact 16 (by decide), hfact 17 (by decide), hfact 18 (by decide), hfact 19 (by decide), hfact 20 (by decide), e83, e84, e85, e86, e87, e88, e89, e90, hfact 29 (by decide), hfact 30 (by decide), hfact 31 (by decide), hfact 32 (by decide), hfact 33 (by decide), hfact 34 (by decide), hfact 35 (by decide), hfact 36 (by decide), hfact 37 (by decide), hfact 38 (by decide), hfact 39 (by decide), hfact 40 (by decide), hfact 41 (by decide), hfact 42 (by decide), hfact 43 (by decide), e106, e107, e108, e109, e110, e111, e112, e113, e114, e115, e116, e117, e118, e119, e120, e121, e122, e123, e124, e125, e126, hfact 65 (by decide), hfact 66 (by decide), trivial⟩ rfl
      clear hsz hdf hold hfact
      simp only [puts, Act.put, List.setIfInBounds_toArray, List.set_cons_zero, List.set_cons_succ]
      rw [← hw8]
      clear hw8
      have B58 : Hid (Below w5.heap.size w5 w8) := B57.out.trans (B78.out.mono B57.out.size)
      have X8 : Hid (Box4 w8 zb ⟨some ⟨bA, oA, none⟩, 3, cA, some ⟨bB, oB, none⟩, 3, cB, some ⟨bM, oM, none⟩, 3, cM, some ⟨bP, oP, none⟩, 3, cP⟩) := X5.out.below B58.out
      have Y8 : Hid (Box4 w8 zc ⟨some ⟨dA, qA, none⟩, 3, eA, some ⟨dB, qB, none⟩, 3, eB, some ⟨dM, qM, none⟩, 3, eM, some ⟨dP, qP, none⟩, 3, eP⟩) := Y5.out.below B58.out
      have P8 : Hid (At7 w8 wr.heap.size 0 (x0, (f : Int), (t : Int), x3, x4, x5, x6)) := P7'.out.below B78.out
      have M8 : Hid (∀ u, Below w8.heap.size w8 u → u.cell? ⟨bM, oM + f, none⟩ = some (.int .i64 ml)) := fun u hu => by
        have h6 := (B78.out.cell (p := ⟨bM, oM + f, none⟩) (block_lt_of_cell M7.out)).trans M7.out
        exact (hu.cell (p := ⟨bM, oM + f, none⟩) (block_lt_of_cell h6)).trans h6
      clear X7 Y7 P7' A7 S0 S1 S2 S3 M7 HW H76 HQ4 HC4 HNE HCB B57 B67 B78 B56
      go_upto_region 16 with fail
      refine region_owes (L := [Fact.is (.pointer (some ⟨zb, 2, none⟩)),
        Fact.is (.slice (some ⟨bM, oM, none⟩) 3 cM),
        Fact.is (.pointer (some ⟨wr.heap.size, 1, none⟩)),
        Fact.is (.int .i64 f),
        Fact.is (.pointer (some ⟨bM, oM + f, none⟩)),
        Fact.is (.int .i64 ml),
        Fact.is (.bool nmb),
        Fact.is (.bool nmb),
        Fact.when (nmb == true) (.agg #[.slice (some ⟨dA, qA, none⟩) 3 eA, .slice (some ⟨dB, qB, none⟩) 3 eB, .slice (some ⟨dM, qM, none⟩) 3 eM, .slice (some ⟨dP, qP, none⟩) 3 eP]),
        Fact.when (nmb == true) (.pointer (some ⟨wr.heap.size, 1, none⟩)),
        Fact.when (nmb == true) (.int .i64 f),
        Fact.when (nmb == true) (.int .i64 nt),
        Fact.when (nmb == true) (.pointer (some ⟨zb, 2, none⟩)),
        Fact.when (nmb == true) (.slice (some ⟨bM, oM, none⟩) 3 cM),
        Fact.when (nmb == true) (.pointer (some ⟨wr.heap.size, 1, none⟩)),
        Fact.when (nmb == true) (.int .i64 f),
        Fact.when (nmb == true) (.pointer (some ⟨bM, oM + f, none⟩)),
        Fact.when (nmb == true) (.int .i64 ml),
        Fact.when (nmb == true) (.bool false),
        Fact.is (.bool false)])
        (T := [129, 130, 131, 132, 133, 134, 135, 136, 137, 138, 139, 140, 141, 142, 143, 144, 145, 146, 147, 148]) (by kernel_rfl) (by kernel_rfl) rfl ?owes ?_
      case owes =>
        refine .cons (owes_value fun q u lh => ⟨wants_free rfl, .pointer (some ⟨zb, 2, none⟩), by have e7 : q.tmps.getD 7 undef = .pointer (some ⟨zb, 0, none⟩) := lh.old 7 rfl; simp [execOp, Act.eval, e7, go_sem], rfl⟩) ?_
        refine .cons (owes_value fun q u lh => ⟨wants_free rfl, .slice (some ⟨bM, oM, none⟩) 3 cM, by have e129 : q.tmps.getD 129 undef = .pointer (some ⟨zb, 2, none⟩) := lh.dep 0 rfl; obtain ⟨y0, y1, y2, y3⟩ := X8.out.below lh.below; simp [execOp, Act.eval, e129, y2, go_sem], rfl⟩) ?_
        refine .cons (owes_value fun q u lh => ⟨wants_free rfl, .pointer (some ⟨wr.heap.size, 1, none⟩), by have e12 : q.tmps.getD 12 undef = .pointer (some ⟨wr.heap.size, 0, none⟩) := lh.old 12 rfl; simp [execOp, Act.eval, e12, go_sem], rfl⟩) ?_
        refine .cons (owes_value fun q u lh => ⟨wants_free rfl, .int .i64 f, by have e131 : q.tmps.getD 131 undef = .pointer (some ⟨wr.heap.size, 1, none⟩) := lh.dep 2 rfl; obtain ⟨j0, j1, j2, j3, j4, j5, j6⟩ := P8.out.below lh.below; simp [execOp, Act.eval, e131, j1, go_sem], rfl⟩) ?_
        refine .cons (owes_value fun q u lh => ⟨wants_free rfl, .pointer (some ⟨bM, oM + f, none⟩), by have e130 : q.tmps.getD 130 undef = .slice (some ⟨bM, oM, none⟩) 3 cM := lh.dep 1 rfl; have e132 : q.tmps.getD 132 undef = .int .i64 f := lh.dep 3 rfl; simp [execOp, Act.eval, e130, e132, f3i, go_sem], rfl⟩) ?_
        refine .cons (owes_value fun q u lh => ⟨wants_free rfl, .int .i64 ml, by have e133 : q.tmps.getD 133 undef = .pointer (some ⟨bM, oM + f, none⟩) := lh.dep 4 rfl; have t9 := M8.out u lh.below; simp [execOp, Act.eval, e133, t9, go_sem], rfl⟩) ?_
        refine .cons (owes_value fun q u lh => ⟨wants_free rfl, .bool nmb, by have e134 : q.tmps.getD 134 undef = .int .i64 ml := lh.dep 5 rfl; simp [execOp, Act.eval, e134, HNB.out, go_sem], rfl⟩) ?_
        refine .cons (owes_move (.tmp 135) (.inl rfl) fun q u lh => ⟨wants_free rfl, lh.dep 6 rfl⟩) ?_
        refine .cons (owes_when 7 true nmb (.agg #[.slice (some ⟨dA, qA, none⟩) 3 eA, .slice (some ⟨dB, qB, none⟩) 3 eB, .slice (some ⟨dM, qM, none⟩) 3 eM, .slice (some ⟨dP, qP, none⟩) 3 eP]) rfl rfl rfl rfl fun hg q u lh => by have e9 : q.tmps.getD 9 undef = .pointer (some ⟨zc, 0, none⟩) := lh.old 9 rfl; obtain ⟨y0, y1, y2, y3⟩ := Y8.out.below lh.below; simp [execOp, Act.eval, e9, y0, y1, y2, y3, go_sem]) ?_
        refine .cons (owes_when 7 true nmb (.pointer (some ⟨wr.heap.size, 1, none⟩)) rfl rfl rfl rfl fun hg q u lh => by have e12 : q.tmps.getD 12 undef = .pointer (some ⟨wr.heap.size, 0, none⟩) := lh.old 12 rfl; simp [execOp, Act.eval, e12, go_sem]) ?_
        refine .cons (owes_when 7 true nmb (.int .i64 f) rfl rfl rfl rfl fun hg q u lh => by have e138 : q.tmps.getD 138 undef = .pointer (some ⟨wr.heap.size, 1, none⟩) := (lh.dep 9 rfl) hg; obtain ⟨j0, j1, j2, j3, j4, j5, j6⟩ := P8.out.below lh.below; simp [execOp, Act.eval, e138, j1, go_sem]) ?_
        refine .cons (owes_when_call 7 true nmb (.int .i64 nt) rfl rfl rfl rfl 19 Try.func19 (by kernel_rfl) (by kernel_rfl) [.tmp 137, .tmp 139] #[26, 3] rfl fun hg q u lh => by have e137 : q.tmps.getD 137 undef = .agg #[.slice (some ⟨dA, qA, none⟩) 3 eA, .slice (some ⟨dB, qB, none⟩) 3 eB, .slice (some ⟨dM, qM, none⟩) 3 eM, .slice (some ⟨dP, qP, none⟩) 3 eP] := (lh.dep 8 rfl) hg; have e139 : q.tmps.getD 139 undef = .int .i64 f := (lh.dep 10 rfl) hg; show Calls Try.prog 19 #[q.tmps.getD 137 undef, q.tmps.getD 139 undef] u _; rw [e137, e139]; exact HN0.out u (B58.out.trans (lh.below.mono B58.out.size))) ?_
        refine .cons (owes_when 7 true nmb (.pointer (some ⟨zb, 2, none⟩)) rfl rfl rfl rfl fun hg q u lh => by have e7 : q.tmps.getD 7 undef = .pointer (some ⟨zb, 0, none⟩) := lh.old 7 rfl; simp [execOp, Act.eval, e7, go_sem]) ?_
        refine .cons (owes_when 7 true nmb (.slice (some ⟨bM, oM, none⟩) 3 cM) rfl rfl rfl rfl fun hg q u lh => by have e141 : q.tmps.getD 141 undef = .pointer (some ⟨zb, 2, none⟩) := (lh.dep 12 rfl) hg; obtain ⟨y0, y1, y2, y3⟩ := X8.out.below lh.below; simp [execOp, Act.eval, e141, y2, go_sem]) ?_
        refine .cons (owes_when 7 true nmb (.pointer (some ⟨wr.heap.size, 1, none⟩)) rfl rfl rfl rfl fun hg q u lh => by have e12 : q.tmps.getD 12 undef = .pointer (some ⟨wr.heap.size, 0, none⟩) := lh.old 12 rfl; simp [execOp, Act.eval, e12, go_sem]) ?_
        refine .cons (owes_when 7 true nmb (.int .i64 f) rfl rfl rfl rfl fun hg q u lh => by have e143 : q.tmps.getD 143 undef = .pointer (some ⟨wr.heap.size, 1, none⟩) := (lh.dep 14 rfl) hg; obtain ⟨j0, j1, j2, j3, j4, j5, j6⟩ := P8.out.below lh.below; simp [execOp, Act.eval, e143, j1, go_sem]) ?_
        refine .cons (owes_when 7 true nmb (.pointer (some ⟨bM, oM + f, none⟩)) rfl rfl rfl rfl fun hg q u lh => by have e142 : q.tmps.getD 142 undef = .slice (some ⟨bM, oM, none⟩) 3 cM := (lh.dep 13 rfl) hg; have e144 : q.tmps.getD 144 undef = .int .i64 f := (lh.dep 15 rfl) hg; simp [execOp, Act.eval, e142, e144, f3i, go_sem]) ?_
        refine .cons (owes_when 7 true nmb (.int .i64 ml) rfl rfl rfl rfl fun hg q u lh => by have e145 : q.tmps.getD 145 undef = .pointer (some ⟨bM, oM + f, none⟩) := (lh.dep 16 rfl) hg; have t9 := M8.out u lh.below; simp [execOp, Act.eval, e145, t9, go_sem]) ?_
        refine .cons (owes_when 7 true nmb (.bool false) rfl rfl rfl rfl fun hg q u lh => by have e140 : q.tmps.getD 140 undef = .int .i64 nt := (lh.dep 11 rfl) hg; have e146 : q.tmps.getD 146 undef = .int .i64 ml := (lh.dep 17 rfl) hg; have t9 := HNM.out (by simpa using hg); simp [execOp, Act.eval, e140, e146, t9, go_sem]) ?_
        refine .cons (owes_and 136 147 7 18 nmb false rfl rfl rfl rfl rfl rfl rfl rfl (congrArg (fun b => Fact.is (.bool b)) (Bool.and_false nmb).symm)) ?_
        exact .nil _
      intro q u hb hsz hdf hold hfact
      obtain ⟨v137, e137⟩ : ∃ v, q.tmps.getD 137 undef = v := ⟨_, rfl⟩
      obtain ⟨v138, e138⟩ : ∃ v, q.tmps.getD 138 undef = v := ⟨_, rfl⟩
      obtain ⟨v139, e139⟩ : ∃ v, q.tmps.getD 139 undef = v := ⟨_, rfl⟩
      obtain ⟨v140, e140⟩ : ∃ v, q.tmps.getD 140 undef = v := ⟨_, rfl⟩
      obtain ⟨v141, e141⟩ : ∃ v, q.tmps.getD 141 undef = v := ⟨_, rfl⟩
      obtain ⟨v142, e142⟩ : ∃ v, q.tmps.getD 142 undef = v := ⟨_, rfl⟩
      obtain ⟨v143, e143⟩ : ∃ v, q.tmps.getD 143 undef = v := ⟨_, rfl⟩
      obtain ⟨v144, e144⟩ : ∃ v, q.tmps.getD 144 undef = v := ⟨_, rfl⟩
      obtain ⟨v145, e145⟩ : ∃ v, q.tmps.getD 145 undef = v := ⟨_, rfl⟩
      obtain ⟨v146, e146⟩ : ∃ v, q.tmps.getD 146 undef = v := ⟨_, rfl⟩
      obtain ⟨v147, e147⟩ : ∃ v, q.tmps.getD 147 undef = v := ⟨_, rfl⟩
      have BU : Hid (Below w5.heap.size w5 u) := B58.out.trans (hb.mono B58.out.size)
      clear hb
      obtain ⟨u9, rfl⟩ : ∃ z, z = u := ⟨u, rfl⟩
      obtain rfl := frame_puts hsz hdf [129, 130, 131, 132, 133, 134, 135, 136, 137, 138, 139, 140, 141, 142, 143, 144, 145, 146, 147, 148] hold [(129, Value.pointer (some ⟨zb, 2, none⟩)), (130, Value.slice (some ⟨bM, oM, none⟩) 3 cM), (131, Value.pointer (some ⟨wr.heap.size, 1, none⟩)), (132, Value.int .i64 f), (133, Value.pointer (some ⟨bM, oM + f, none⟩)), (134, Value.int .i64 ml), (135, Value.bool nmb), (136, Value.bool nmb), (137, v137), (138, v138), (139, v139), (140, v140), (141, v141), (142, v142), (143, v143), (144, v144), (145, v145), (146, v146), (147, v147), (148, Value.bool false)] ⟨hfact 0 (by decide), hfact 1 (by decide), hfact 2 (by decide), hfact 3 (by decide), hfact 4 (by decide), hfact 5 (by decide), hfact 6 (by decide), hfact 7 (by decide), e137, e138, e139, e140, e141, e142, e143, e144, e145, e146, e147, hfact 19 (by decide), trivial⟩ rfl
      clear hsz hdf hold hfact
      clear X8 Y8 P8 M8 HNM HNB HN0 B58
      simp only [puts, Act.put, List.setIfInBounds_toArray, List.set_cons_zero, List.set_cons_succ]
      go_wp2
      go_roundw
      case rel => exact ⟨k + 1, by omega, by go_num, BU⟩
      case measure => simp [intOf]; omega
    · obtain rfl : k = n := by omega
      have K := known16 wr
      go_wp2_with fail
      go_at_call 14
      refine K.mono ?_
      rintro e w9 ⟨rfl, hb⟩
      have B9 : Hid (Below w.heap.size w w9) := BW.out.trans (hb.mono BW.out.size)
      clear hb K
      go_wp2
      go_ret
      exact ⟨rfl, B9.out⟩

end Go.Proofs.Ythpcpbjgihhjeaa
