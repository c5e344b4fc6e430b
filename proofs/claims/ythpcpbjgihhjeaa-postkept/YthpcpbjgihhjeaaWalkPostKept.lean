/-
  The walk of PostKept.
-/
import Derived.Test.YthpcpbjgihhjeaaKnown16
import Derived.Test.YthpcpbjgihhjeaaPostKeptPure
import Derived.Test.YthpcpbjgihhjeaaFitsOneW
namespace Go.Proofs.Ythpcpbjgihhjeaa
open Go.RowKit
set_option linter.unusedVariables false
set_option linter.unusedSimpArgs false

set_option maxHeartbeats 16000000 in
set_option maxRecDepth 100000 in
theorem Walk.postKept (r : Int) (al : Option Addr) (n c : Nat) (zs : List Int) (w : World) (hr : (Lit.int .i64 r).wf = true) (h0 : Walk.IsRow .i64 w al n c zs) :
    Calls Try.prog 8 #[.int .i64 r, .slice al n c] w fun e w' => e = .returned (.bool true) ∧ Below w.heap.size w w' := by
  rcases Int.lt_or_le r 0 with g0 | g0
  · clear hr h0
    go_enter Try.func8, Try.ntmps8
    go_wp2
    go_ret
    exact ⟨rfl, Below.refl _ _⟩
  rcases Int.lt_or_le 1000 r with g1 | g1
  · clear hr h0
    go_enter Try.func8, Try.ntmps8
    go_wp2
    go_ret
    exact ⟨rfl, Below.refl _ _⟩
  rcases Nat.lt_or_ge 20 n with h20 | h20
  · have h1 : (20 : Int) < (n : Int) := by omega
    clear hr h0 h20
    go_enter Try.func8, Try.ntmps8
    go_wp2
    go_ret
    exact ⟨rfl, Below.refl _ _⟩
  have h1 : (n : Int) ≤ 20 := by omega
  obtain ⟨hsl, hcap, hmax⟩ := h0.sl fun n hn => by
    simp only [Lit.wf, Bool.and_eq_true, decide_eq_true_eq] at hn
    exact i64_wf hn.1 hn.2
  obtain ⟨Z, hZ⟩ : ∃ Z, zs.take n = Z := ⟨_, rfl⟩
  rw [hZ] at hsl
  have HS : Hid (Sl .i64 w al n Z) := hsl
  have S := some_zero [] 0 none 0 0 w (Sl.nil _ _ _) (by omega) (by decide) (by decide) (by decide)
  obtain ⟨H, hH⟩ : ∃ H, w.heap.size = H := ⟨_, rfl⟩
  have HH : Hid (H = w.heap.size) := hH.symm
  unfold SomeEnd3 at S
  rw [hH] at S
  clear hH hr h0 hsl hZ hcap hmax
  obtain ⟨sB, hsB⟩ : ∃ x, H + 4 = x := ⟨_, rfl⟩
  obtain ⟨sM, hsM⟩ : ∃ x, H + 5 = x := ⟨_, rfl⟩
  obtain ⟨sP, hsP⟩ : ∃ x, H + 9 = x := ⟨_, rfl⟩
  have HLIES : Hid (sB = H + 4 ∧ sM = H + 5 ∧ sP = H + 9) := ⟨hsB.symm, hsM.symm, hsP.symm⟩
  have GB : Hid (Good (keptB r)) := kept_good g0 g1
  have KR : Hid (∀ k, 0 ≤ keptK Z r k ∧ keptK Z r k ≤ 1000) := fun k => by have := keptK_range Z g0 k; omega
  have HR : Hid (0 ≤ r ∧ r ≤ 1000) := ⟨g0, g1⟩
  have HN : Hid (n ≤ 20) := h20
  have HPOST : Hid (∀ m, m ≤ 20 → postE (keptB r) (mk Z m) = 0 ∧ postR (keptB r) (mk Z m) = postB (keptB r) (mk Z m) ∧ ((postB (keptB r) (mk Z m)).A.getD 0 a30).2.2 = keptK Z r m ∧ ((postB (keptB r) (mk Z m)).A.getD 1 a30).2.2 = 0 ∧ (postB (keptB r) (mk Z m)).A.length = 3) := fun m hm => kept_post g0 g1 Z hm
  clear hsB hsM hsP
  go_enter Try.func8, Try.ntmps8
  go_wp2_with fail
  go_at_call 16
  refine S.mono ?_
  rintro e w1 ⟨g, vc, he, lay, bel⟩
  have he : e = .returned (.agg #[.slice (some ⟨g, 0, none⟩) 3 vc, .slice (some ⟨sB, 0, none⟩) 3 3, .slice (some ⟨sM, 0, none⟩) 3 3, .slice (some ⟨sP, 0, none⟩) 3 3]) := by rw [he, HLIES.out.1, HLIES.out.2.1, HLIES.out.2.2]; rfl
  subst he
  obtain ⟨w2, hw2⟩ : ∃ w2, w2 = w1.alloc (.cells #[.slice (some ⟨g, 0, none⟩) 3 vc, .slice (some ⟨sB, 0, none⟩) 3 3, .slice (some ⟨sM, 0, none⟩) 3 3, .slice (some ⟨sP, 0, none⟩) 3 3] 26) := ⟨_, rfl⟩
  obtain ⟨zz, hz⟩ : ∃ z, w1.heap.size = z := ⟨_, rfl⟩
  have HGT : Hid (H + 10 < g ∧ g < zz) := ⟨lay.gt, by rw [← hz]; exact lay.lt⟩
  have L2 : Hid (Lay4 w2 H zz g vc [(0, 0, 0), (0, 0, 0), (0, 0, 0)] [-1, -1, -1] [-1, -1, -1] [-1, -1, -1] [-1, -1, -1] [0, 0, 0] [0, 0, 0] [0, 0, 0]) := by
    refine ⟨by rw [hw2]; exact lay.below (box_below _ _), HGT.out.2, ?_⟩
    rw [hw2, ← hz, HLIES.out.1, HLIES.out.2.1, HLIES.out.2.2]
    exact heap_alloc_new w1 _
  have B2 : Hid (Below w.heap.size w w2) := by rw [hw2]; exact (bel.mono (by rw [HH.out]; exact Nat.le_refl _)).alloc (by have := bel.size; exact this) _
  clear S lay bel
  go_upto_region 4 with fail
  rw [← hw2]
  try simp only [hz]
  clear hw2 hz
  have x0 : w2.cell? ⟨zz, 0, none⟩ = some (.slice (some ⟨g, 0, none⟩) 3 vc) := L2.out.cell rfl
  have c0 : w2.cell? ⟨g, 2, none⟩ = some (.int .i64 0) := L2.out.acct (by omega) rfl
  have f0 := L2.out.free 2
  obtain ⟨w3, hw3⟩ : ∃ x, x = (w2.setCell ⟨g, 2, none⟩ (.int .i64 r)) := ⟨_, rfl⟩
  have L3 : Hid (Lay4 w3 H zz g vc [(0, 0, r), (0, 0, 0), (0, 0, 0)] [-1, -1, -1] [-1, -1, -1] [-1, -1, -1] [-1, -1, -1] [0, 0, 0] [0, 0, 0] [0, 0, 0]) := by rw [hw3]; exact L2.out.setA 2 (.int .i64 r) [(0, 0, r), (0, 0, 0), (0, 0, 0)] rfl rfl (by omega)
  have B3 : Hid (Below w.heap.size w w3) := by rw [hw3]; exact B2.out.setCell (p := ⟨g, 2, none⟩) (by have := HGT.out; have := HH.out; show w.heap.size ≤ g; omega) _
  have N3 : Hid (Bk w3 ⟨some ⟨g, 0, none⟩, 3, vc, some ⟨sB, 0, none⟩, 3, 3, some ⟨sM, 0, none⟩, 3, 3, some ⟨sP, 0, none⟩, 3, 3⟩ (keptB r)) := by
    have := L3.out.bk ⟨rfl, rfl, rfl, rfl, rfl, rfl, rfl⟩ (by show ∀ z ∈ _, ∀ n ∈ z, IntKind.i64.wrap n = n; decide) (by show ∀ n ∈ _, IntKind.i64.wrap n = n; decide) (by show ∀ z ∈ _, ∀ n ∈ z, IntKind.i64.wrap n = n; decide)
    rw [HLIES.out.1, HLIES.out.2.1, HLIES.out.2.2]
    exact this
  have X3 : Hid (Box4 w3 zz ⟨some ⟨g, 0, none⟩, 3, vc, some ⟨sB, 0, none⟩, 3, 3, some ⟨sM, 0, none⟩, 3, 3, some ⟨sP, 0, none⟩, 3, 3⟩) := by
    refine ⟨L3.out.cell rfl, ?_, ?_, ?_⟩
    · show _ = some (Value.slice (some ⟨sB, 0, none⟩) 3 3)
      rw [HLIES.out.1]; exact L3.out.cell rfl
    · show _ = some (Value.slice (some ⟨sM, 0, none⟩) 3 3)
      rw [HLIES.out.2.1]; exact L3.out.cell rfl
    · show _ = some (Value.slice (some ⟨sP, 0, none⟩) 3 3)
      rw [HLIES.out.2.2]; exact L3.out.cell rfl
  go_upto_region 5 with fail
  rw [← hw3]
  clear hw3 x0 c0 f0 L2 B2 L3 HGT HLIES HH
  go_wp2
  go_loopw [6, 7, 8, 9] (fun mv kv i _ wr => ∃ (k : Nat) (v : Value) (z : Nat), k ≤ n ∧ i = .int .i64 k ∧ v = mv ∧ kv = .int .i64 (keptK Z r k) ∧ z = k ∧ True ∧ Hid (wr.ownsRow w3.heap.size 46 7 v z (payL (mk Z k))) ∧ Hid (Below w3.heap.size w3 wr)) (fun _ _ i _ _ => n - (intOf i).toNat)
  case atStart => exact ⟨0, _, 0, by omega, rfl, rfl, by rw [keptK_zero Z HR.out.1], rfl, trivial, World.ownsRow_nil _ _ _ _, Below.refl _ _⟩
  case round =>
    obtain ⟨k, v, z, hk, rfl, rfl, rfl, hzk, _, HO, HB⟩ := hrel
    have HZ : Hid (z = k) := hzk
    by_cases hlt : k < n
    · have k1 : (k : Int) < (n : Int) := by omega
      have hZl : n = Z.length := HS.out.1
      obtain ⟨ba, off, rfl, HC⟩ : ∃ b off, al = some ⟨b, off, none⟩ ∧ ∀ i, i < n → w.cell? ⟨b, off + i, none⟩ = some (.int .i64 (Z.getD i 0)) := by
        rcases HS.out.2.2 with h | ⟨b, off, ha, hc⟩
        · rw [h] at hZl; simp at hZl; omega
        · exact ⟨b, off, ha, fun i hi => hc i (by omega)⟩
      have BW : Hid (Below w.heap.size w wr) := B3.out.trans (HB.out.mono B3.out.size)
      have C0 : wr.cell? ⟨ba, off + k, none⟩ = some (.int .i64 (Z.getD k 0)) := by
        rw [BW.out.cell (p := ⟨ba, off + k, none⟩) (block_lt_of_cell (HC k hlt))]; exact HC k hlt
      have ub := and63_rng (Z.getD k 0)
      have HL : Hid (k % 3 < 2 → keptK Z r (k + 1) = keptV (keptK Z r k) (1 + bits .and .i64 (Z.getD k 0) 63)) := fun h => keptK_less Z HR.out.1 k h
      have HSM : Hid (¬ k % 3 < 2 → keptK Z r (k + 1) = keptK Z r k) := fun h => keptK_same Z r k h
      have HMK : Hid (mk Z (k + 1) = mk Z k ++ [pk Z k]) := mk_succ Z k
      have HPK : Hid (pk Z k = ((k : Int) + 1, 0, 1 + ((k % 2 : Nat) : Int), 1 + bits .and .i64 (Z.getD k 0) 63, 1 + ((k % 3 : Nat) : Int), 0, 0)) := rfl
      have kr := KR.out k
      generalize keptK Z r k = q at HL HSM kr ⊢
      generalize Z.getD k 0 = x at C0 ub HL HPK
      obtain ⟨u, hu⟩ : ∃ u, bits .and .i64 x 63 = u := ⟨_, rfl⟩
      rw [hu] at ub HL HPK
      obtain ⟨ub0, ub1⟩ := ub
      obtain ⟨kr0, kr1⟩ := kr
      obtain ⟨r2, hr2⟩ : ∃ r2, k % 2 = r2 := ⟨_, rfl⟩
      obtain ⟨r3, hr3⟩ : ∃ r3, k % 3 = r3 := ⟨_, rfl⟩
      have e2 : (k : Int) % 2 = (r2 : Int) := by omega
      have e3 : (k : Int) % 3 = (r3 : Int) := by omega
      have r2b : (r2 : Int) ≤ 1 := by omega
      have r3b : (r3 : Int) ≤ 2 := by omega
      rw [hr2, hr3] at HPK
      rw [hr3] at HL HSM
      have z20 : z ≤ 20 := by have := HN.out; omega
      clear hzk hZl HC hr2 hr3
      go_wp2_with (at_builtin; refine wpList_append_pays rfl _ _ rfl w3.heap.size v z _ rfl (own_below HO.out (box_below _ _)) (some ⟨wr.heap.size, 0, none⟩) 1 1 [((k : Int) + 1, 0, 1 + (r2 : Int), 1 + u, 1 + (r3 : Int), 0, 0)] rfl (PGood.lit1 wr ((k : Int) + 1, 0, 1 + (r2 : Int), 1 + u, 1 + (r3 : Int), 0, 0)) (by omega) (by rw [size_alloc]; have := HB.out.size; omega) ?_)
      intro v8 w8 h8 g8
      have O8 : Hid (w8.ownsRow w3.heap.size 46 7 v8 (z + 1) (payL (mk Z (k + 1)))) := by rw [HMK.out, HPK.out]; exact h8
      have B8 : Hid (Below w3.heap.size w3 w8) := (HB.out.alloc HB.out.size _).grown g8 (by rw [size_alloc]; have := HB.out.size; omega) (fun j hj => (HO.out.lt j hj).1)
      clear h8 g8 HO HB BW C0 HMK HPK
      by_cases hc : r3 < 2
      · have hci : (r3 : Int) < 2 := by omega
        have HE : Hid (keptK Z r (k + 1) = keptV q (1 + u)) := HL.out hc
        rcases Int.lt_or_le (1 + u) q with hq | hq
        · have hq2 : 0 < q - (1 + u) := by omega
          have HF : Hid (.int .i64 (q - (1 + u)) = Value.int .i64 (keptK Z r (k + 1))) := by show _ = _; rw [HE.out, kept_some hq]
          clear HL HSM HE
          go_wp2
          go_roundw
          case rel => exact ⟨k + 1, v8, z + 1, by omega, by go_num, rfl, HF.out, by rw [HZ.out], trivial, O8, B8⟩
          case measure => simp [intOf]; omega
        · have hq2 : q - (1 + u) ≤ 0 := by omega
          have HF : Hid (.int .i64 0 = Value.int .i64 (keptK Z r (k + 1))) := by show _ = _; rw [HE.out, ← kept_none hq]
          clear HL HSM HE
          go_wp2
          go_roundw
          case rel => exact ⟨k + 1, v8, z + 1, by omega, by go_num, rfl, HF.out, by rw [HZ.out], trivial, O8, B8⟩
          case measure => simp [intOf]; omega
      · have hci : decide ((r3 : Int) < 2) = false := decide_eq_false (by omega)
        have HF : Hid (.int .i64 q = Value.int .i64 (keptK Z r (k + 1))) := by show _ = _; rw [HSM.out hc]
        clear HL HSM
        go_wp2
        go_roundw
        case rel => exact ⟨k + 1, v8, z + 1, by omega, by go_num, rfl, HF.out, by rw [HZ.out], trivial, O8, B8⟩
        case measure => simp [intOf]; omega
    · obtain rfl : k = n := by omega
      subst hzk
      have BW : Hid (Below w.heap.size w wr) := B3.out.trans (HB.out.mono B3.out.size)
      have hml : (mk Z z).length = z := mk_len Z z
      have ho := HO.out
      obtain ⟨am, cm, hv, gm, _⟩ := PGood.own ho
      rw [hml] at hv gm
      subst hv
      have GM : Hid (PGood wr am z cm (mk Z z)) := gm
      have HPZ := HPOST.out z HN.out
      have P := post_any ⟨some ⟨g, 0, none⟩, 3, vc, some ⟨sB, 0, none⟩, 3, 3, some ⟨sM, 0, none⟩, 3, 3, some ⟨sP, 0, none⟩, 3, 3⟩ (keptB r) am z cm (mk Z z) wr (N3.out.below HB.out) GB.out GM.out
      unfold PostEnd at P
      rw [HPZ.1, HPZ.2.1] at P
      obtain ⟨KA, hKA⟩ : ∃ KA, postB (keptB r) (mk Z z) = KA := ⟨_, rfl⟩
      rw [hKA] at P HPZ
      have HP3 : Hid ((KA.A.getD 0 a30).2.2 = keptK Z r z ∧ (KA.A.getD 1 a30).2.2 = 0 ∧ KA.A.length = 3) := HPZ.2.2
      obtain ⟨p0, p1, p2, p3⟩ := X3.out.below HB.out
      replace p0 : wr.cell? ⟨zz, 0, none⟩ = some (.slice (some ⟨g, 0, none⟩) 3 vc) := p0
      replace p1 : wr.cell? ⟨zz, 1, none⟩ = some (.slice (some ⟨sB, 0, none⟩) 3 3) := p1
      replace p2 : wr.cell? ⟨zz, 2, none⟩ = some (.slice (some ⟨sM, 0, none⟩) 3 3) := p2
      replace p3 : wr.cell? ⟨zz, 3, none⟩ = some (.slice (some ⟨sP, 0, none⟩) 3 3) := p3
      clear hml ho gm GM HPZ hKA HO HB HPOST
      go_wp2_with fail
      go_at_call 11
      refine P.mono ?_
      rintro e w6 ⟨y, rfl, nb, hb⟩
      have B6 : Hid (Below w.heap.size w w6) := BW.out.trans (hb.mono BW.out.size)
      obtain ⟨yA, mA, eA, yB, mB, eB, yM, mM, eM, yP, mP, eP⟩ := y
      have hacc := nb.acc
      rw [HP3.out.2.2] at hacc
      obtain ⟨gc, c1, hv, hge, hglt⟩ := World.ownsRow.form hacc (by omega)
      simp only [Value.slice.injEq] at hv
      obtain ⟨rfl, rfl, rfl⟩ := hv
      have hcl : ∀ j, j < 3 * 3 → w6.cell? ⟨gc, j, none⟩ = (accL KA.A)[j]? := (own_row_block hacc).2.2
      have d0 : w6.cell? ⟨gc, 2, none⟩ = some (.int .i64 (keptK Z r z)) := by rw [hcl 2 (by decide), ← HP3.out.1]; exact (accL_at KA.A 0 (by rw [HP3.out.2.2]; decide)).2.2
      have d1 : w6.cell? ⟨gc, 5, none⟩ = some (.int .i64 0) := by rw [hcl 5 (by decide), ← HP3.out.2.1]; exact (accL_at KA.A 1 (by rw [HP3.out.2.2]; decide)).2.2
      obtain ⟨w7, hw7⟩ : ∃ w7, w7 = w6.alloc (.cells #[.slice (some ⟨gc, 0, none⟩) 3 eA, .slice yB mB eB, .slice yM mM eM, .slice yP mP eP] 26) := ⟨_, rfl⟩
      have B7 : Hid (Below w.heap.size w w7) := by rw [hw7]; exact B6.out.alloc B6.out.size _
      have X7 : Hid (Box4 w7 w6.heap.size ⟨some ⟨gc, 0, none⟩, 3, eA, yB, mB, eB, yM, mM, eM, yP, mP, eP⟩) := by rw [hw7]; exact Box4.new w6 ⟨some ⟨gc, 0, none⟩, 3, eA, yB, mB, eB, yM, mM, eM, yP, mP, eP⟩ _ _
      have d2 : w7.cell? ⟨gc, 2, none⟩ = some (.int .i64 (keptK Z r z)) := by rw [hw7, (box_below w6 _).cell (p := ⟨gc, 2, none⟩) hglt]; exact d0
      have d3 : w7.cell? ⟨gc, 5, none⟩ = some (.int .i64 0) := by rw [hw7, (box_below w6 _).cell (p := ⟨gc, 5, none⟩) hglt]; exact d1
      clear P nb hb p0 p1 p2 p3 hacc hcl d0 d1 HP3 BW N3 X3
      generalize keptK Z r z = q at d2 ⊢
      go_upto_region 15 with fail
      rw [← hw7]
      clear hw7
      obtain ⟨p0, _, _, _⟩ := X7.out
      replace p0 : w7.cell? ⟨w6.heap.size, 0, none⟩ = some (.slice (some ⟨gc, 0, none⟩) 3 eA) := p0
      go_wp2_with fail
      go_at_call 14
      refine (known16 w7).mono ?_
      rintro e wa ⟨rfl, hb⟩
      have Ba : Hid (Below w.heap.size w wa) := B7.out.trans (hb.mono B7.out.size)
      clear hb
      go_wp2
      go_ret
      exact ⟨rfl, Ba.out⟩

end Go.Proofs.Ythpcpbjgihhjeaa
