/-
  The walk of RowPlays.
-/
import Derived.Test.YtjibnbheegcnkaaRowRefIs
import Derived.Test.YtjibnbheegcnkaaPayRefSame
import Derived.Test.YtjibnbheegcnkaaRowMove
import Derived.Deep.CutBlock
import Derived.Test.YtjibnbheegcnkaaKnown13
import Derived.Test.YtjibnbheegcnkaaPlainSl
namespace Go.Proofs.Ytjibnbheegcnkaa
open Go.RowKit
set_option linter.unusedVariables false
set_option linter.unusedSimpArgs false
/-- What Drop answers lies apart from what is laid behind it. -/
theorem drop_far {w3 w6 w7 : World} {ab ay : Option Addr} {m cb nl cy : Nat} {S S' : List P7} (hC : PGood w3 ab m cb S) (he : S = [] → S' = []) (hy : ay = ab ∨ ∀ x, ay = some x → w6.heap.size ≤ x.block) (hg : PGood w7 ay nl cy S') (hlt : w3.heap.size + 1 < w6.heap.size) (cs : Array Value) : PGood (w7.setRow (w3.heap.size + 1) cs) ay nl cy S' := by
  by_cases h0 : S' = []
  · exact ⟨⟨hg.pays.1, .inl h0⟩, hg.cap, hg.max, hg.nil0⟩
  · rcases hy with rfl | hy
    · rcases hC.pays.2 with hz | ⟨b, off, ha, hc⟩
      · exact absurd (he hz) h0
      · refine hg.far (fun x hx => ?_) cs
        rw [ha] at hx
        cases hx
        have hS : 0 < S.length := List.length_pos_iff.2 (fun h => h0 (he h))
        have hlt : b < w3.heap.size := block_lt_of_cell (hc 0 hS).1
        show b ≠ w3.heap.size + 1
        omega
    · exact hg.far (fun x hx => by have := hy x hx; omega) cs
namespace Walk
set_option maxHeartbeats 4000000 in
set_option maxRecDepth 100000 in
theorem rowPlays_in (b off n c : Nat) (Z : Nat → Nat → Int) (w : World) (hn : n ≤ 100) (hz : ∀ i, i < n → ∀ j, j < 8 → w.cell? ⟨b, off + i * 8 + j, none⟩ = some (.int .i64 (Z i j))) : Calls Try.prog 3 #[.slice (some ⟨b, off, none⟩) n c] w fun e w' => e = .returned (.bool true) ∧ Below w.heap.size w w' := by
  have a1 : (n : Int) ≤ 100 := by omega
  have HZ : Hid (∀ i, i < n → ∀ j, j < 8 → w.cell? ⟨b, off + i * 8 + j, none⟩ = some (.int .i64 (Z i j))) := hz
  clear hz
  go_enter Try.func3, Try.ntmps3
  go_wp2
  go_loopw [3, 4, 5] (fun ta tb i wr => ∃ (k m ca cb : Nat) (aa ab : Option Addr) (S : List P7), .slice aa m ca = ta ∧ .slice ab m cb = tb ∧ i = .int .i64 k ∧ k ≤ n ∧ Hid (PGood wr aa m ca S) ∧ Hid (PGood wr ab m cb S) ∧ Hid (Que S) ∧ Hid (Below w.heap.size w wr)) (fun _ _ i _ => n - (intOf i).toNat)
  case atStart => exact ⟨0, 0, 0, 0, none, none, [], rfl, rfl, rfl, by omega, PGood.nil _, PGood.nil _, Que.nil, Below.refl _ _⟩
  case round =>
    obtain ⟨k, m, ca, cb, aa, ab, S, rfl, rfl, rfl, hk, HA, HB, HQ, HW⟩ := hrel
    by_cases hlt : k < n
    · have i1 : (k : Int) < (n : Int) := by omega
      have hml := HA.out.len
      have hm4 : m ≤ 40 := by have := HQ.out.1; omega
      have z := fun j (hj : j < 8) => (HW.out.cell (p := ⟨b, off + k * 8 + j, none⟩) (block_lt_of_cell (HZ.out k hlt j hj))).trans (HZ.out k hlt j hj)
      have z0 : wr.cell? ⟨b, off + k * 8, none⟩ = some (.int .i64 (Z k 0)) := z 0 (by omega)
      have z1 := z 1 (by omega)
      have z2 := z 2 (by omega)
      have z3 := z 3 (by omega)
      have z4 := z 4 (by omega)
      have z5 := z 5 (by omega)
      have z6 := z 6 (by omega)
      have z7 := z 7 (by omega)
      clear z hml
      obtain ⟨kk, hkk⟩ : ∃ kk, Z k 0 = kk := ⟨_, rfl⟩
      obtain ⟨p0, hp0⟩ : ∃ x, Z k 1 = x := ⟨_, rfl⟩
      obtain ⟨p1, hp1⟩ : ∃ x, Z k 2 = x := ⟨_, rfl⟩
      obtain ⟨p2, hp2⟩ : ∃ x, Z k 3 = x := ⟨_, rfl⟩
      obtain ⟨p3, hp3⟩ : ∃ x, Z k 4 = x := ⟨_, rfl⟩
      obtain ⟨p4, hp4⟩ : ∃ x, Z k 5 = x := ⟨_, rfl⟩
      obtain ⟨p5, hp5⟩ : ∃ x, Z k 6 = x := ⟨_, rfl⟩
      obtain ⟨p6, hp6⟩ : ∃ x, Z k 7 = x := ⟨_, rfl⟩
      rw [hkk] at z0
      rw [hp0] at z1
      rw [hp1] at z2
      rw [hp2] at z3
      rw [hp3] at z4
      rw [hp4] at z5
      rw [hp5] at z6
      rw [hp6] at z7
      clear hkk hp0 hp1 hp2 hp3 hp4 hp5 hp6
      go_upto_region 8 with fail
      have hg1 : wr.heap.size < (wr.alloc (.cells #[.int .i64 p0, .int .i64 p1, .int .i64 p2, .int .i64 p3, .int .i64 p4, .int .i64 p5, .int .i64 p6] 25)).heap.size := by rw [size_alloc]; omega
      obtain ⟨w1, hw1⟩ : ∃ x, wr.alloc (.cells #[.int .i64 p0, .int .i64 p1, .int .i64 p2, .int .i64 p3, .int .i64 p4, .int .i64 p5, .int .i64 p6] 25) = x := ⟨_, rfl⟩
      obtain ⟨g, hg⟩ : ∃ x, wr.heap.size = x := ⟨_, rfl⟩
      have B1 : Hid (Below g wr w1) := by rw [← hw1, ← hg]; exact box_below _ _
      have X1 : Hid (PBox w1 g (p0, p1, p2, p3, p4, p5, p6)) := by rw [← hw1, ← hg]; exact PBox.new wr (p0, p1, p2, p3, p4, p5, p6)
      have A1 : Hid (PGood w1 aa m ca S) := by rw [← hw1]; exact HA.out.below (box_below _ _)
      have C1 : Hid (PGood w1 ab m cb S) := by rw [← hw1]; exact HB.out.below (box_below _ _)
      have W1 : Hid (Below w.heap.size w w1) := by rw [← hw1]; exact HW.out.alloc HW.out.size _
      have Y0 : Hid (w1.cell? ⟨b, off + k * 8, none⟩ = some (.int .i64 kk)) := by rw [← hw1]; exact ((box_below wr _).cell (p := ⟨b, off + k * 8, none⟩) (block_lt_of_cell z0)).trans z0
      rw [hw1, hg]
      clear hw1 hg hg1 z0 z1 z2 z3 z4 z5 z6 z7 HA HB HW
      have OA : Hid ((w1.alloc (.cells #[] 25)).ownsRow w1.heap.size 25 7 (.slice (some ⟨w1.heap.size, 0, none⟩) 0 0) 0 (payL [])) := litP_own (heap_alloc_new w1 _) (Nat.le_refl _)
      have A2 : Hid (PGood (w1.alloc (.cells #[] 25)) aa m ca S) := A1.out.below (box_below _ _)
      go_upto_region 9 with (refine wpList_append_pays rfl _ _ rfl w1.heap.size (.slice (some ⟨w1.heap.size, 0, none⟩) 0 0) 0 [] rfl OA.out aa m ca S rfl A2.out (by omega) (by simp) ?_)
      intro v3 w3 o3 g3
      have B3 : Hid (Below w1.heap.size w1 w3) := Below.grown (box_below _ _) g3 (by simp) (fun j hj => by simp [Value.ownBlock] at hj; omega)
      try simp only [Nat.zero_add, List.nil_append] at o3
      obtain ⟨aw, cw, hv3, gw, -⟩ := PGood.own o3
      have hml := A1.out.len
      rw [← hml] at hv3 gw
      subst hv3
      have D3 : Hid (PGood w3 aw m cw S) := gw
      have A3 : Hid (PGood w3 aa m ca S) := A1.out.below B3.out
      have C3 : Hid (PGood w3 ab m cb S) := C1.out.below B3.out
      have W3 : Hid (Below w.heap.size w w3) := W1.out.trans (B3.out.mono W1.out.size)
      have X3 : Hid (PBox w3 g (p0, p1, p2, p3, p4, p5, p6)) := X1.out.below B3.out
      have Y3 : w3.cell? ⟨b, off + k * 8, none⟩ = some (.int .i64 kk) := (B3.out.cell (p := ⟨b, off + k * 8, none⟩) (block_lt_of_cell Y0.out)).trans Y0.out
      clear gw hml o3 g3 OA A2 A1 C1 X1 B1 W1 Y0 B3
      go_upto_block 2 with fail
      go_cut [8, 9, 10, 11, 12, 13] from 36 to 135 (fun x y e f q r wc => ∃ (S' : List P7) (nl cx cy : Nat) (ax ay : Option Addr) (er : Int), .slice ax nl cx = x ∧ .slice ay nl cy = y ∧ e = .int .i64 er ∧ f = .int .i64 er ∧ Hid (PGood wc ax nl cx S') ∧ Hid (PGood wc ay nl cy S') ∧ Hid (Que S') ∧ Hid (Below w3.heap.size w3 wc))
      case first =>
        by_cases e1 : kk = 1
        · subst e1
          obtain ⟨S', hS'⟩ : ∃ S', qPut S (p0, p1, p2, p3, p4, p5, p6) = S' := ⟨_, rfl⟩
          obtain ⟨er, her⟩ : ∃ er, qPutE S (p0, p1, p2, p3, p4, p5, p6) = er := ⟨_, rfl⟩
          obtain ⟨nl, hnl⟩ : ∃ nl, S'.length = nl := ⟨_, rfl⟩
          have hq' : Que S' := by rw [← hS']; exact HQ.out.put _
          have P := put_any7 aa m ca S (p0, p1, p2, p3, p4, p5, p6) w3 A3.out HQ.out
          have R := fun u (g : PGood u ab m cb S) => refPut_any ab m cb S (p0, p1, p2, p3, p4, p5, p6) u g (by omega)
          unfold PutEnd7 at P
          unfold RPutEnd at R
          simp only [hS', her, hnl] at P R
          have Q' : Hid (Que S') := hq'
          obtain ⟨q0, q1, q2, q3, q4, q5, q6⟩ := X3.out.at7
          simp only [P7.id, P7.fr, P7.to, P7.am, P7.cl, P7.st, P7.ti] at q0 q1 q2 q3 q4 q5 q6
          clear hS' her hnl hq'
          go_wp2_with fail
          go_at_call 8
          refine P.mono ?_
          rintro e w4 ⟨ax, cx, rfl, gx, nx, hb⟩
          have BX : Hid (Below w3.heap.size w3 w4) := hb
          have GX : Hid (PGood w4 ax nl cx S') := gx
          have R' := R w4 (C3.out.below hb)
          have X4 := X3.out.below hb
          clear P R gx nx hb q0 q1 q2 q3 q4 q5 q6
          obtain ⟨q0, q1, q2, q3, q4, q5, q6⟩ := X4.at7
          simp only [P7.id, P7.fr, P7.to, P7.am, P7.cl, P7.st, P7.ti] at q0 q1 q2 q3 q4 q5 q6
          clear X4
          go_wp2_with fail
          go_at_call 9
          refine R'.mono ?_
          rintro e w5 ⟨ay, cy, rfl, gy, hb⟩
          have BY : Hid (Below w3.heap.size w3 w5) := BX.out.trans (hb.mono BX.out.size)
          have GY : Hid (PGood w5 ay nl cy S') := gy
          have GX5 : Hid (PGood w5 ax nl cx S') := GX.out.below hb
          clear R' gy hb q0 q1 q2 q3 q4 q5 q6 BX GX
          go_wp2
          go_meet
          case rel => exact ⟨S', nl, cx, cy, ax, ay, er, rfl, rfl, rfl, rfl, GX5, GY, Q', BY⟩
        have n1 : (kk == 1) = false := by simpa using e1
        by_cases e2 : kk = 2
        · subst e2
          obtain ⟨S', hS'⟩ : ∃ S', qDrop S p0 = S' := ⟨_, rfl⟩
          obtain ⟨d, hd⟩ : ∃ d, qDropP S p0 = d := ⟨_, rfl⟩
          obtain ⟨er, her⟩ : ∃ er, qDropE S p0 = er := ⟨_, rfl⟩
          obtain ⟨nl, hnl⟩ : ∃ nl, S'.length = nl := ⟨_, rfl⟩
          have hq' : Que S' := by rw [← hS']; exact HQ.out.drop _
          have HE : Hid (S = [] → S' = []) := fun h => by rw [← hS', h]; rfl
          have P := fun u (g : PGood u aa m ca S) => drop_any7 aa m ca S p0 u g (by omega)
          have R := fun u (g : PGood u ab m cb S) => refDrop_new ab m cb S p0 u g (by omega)
          unfold DropEnd7 at P
          unfold RDropNew at R
          simp only [hS', hd, her, hnl] at P R
          obtain ⟨d0, d1, d2, d3, d4, d5, d6⟩ := d
          have Q' : Hid (Que S') := hq'
          obtain ⟨w4, hw4⟩ : ∃ w4, w4 = (w3.alloc (.cells #[.int .i64 0, .int .i64 0, .int .i64 0, .int .i64 0, .int .i64 0, .int .i64 0, .int .i64 0] 25)).alloc (.cells #[.int .i64 0, .int .i64 0, .int .i64 0, .int .i64 0, .int .i64 0, .int .i64 0, .int .i64 0] 25) := ⟨_, rfl⟩
          have hz0 : (w3.alloc (.cells #[.int .i64 0, .int .i64 0, .int .i64 0, .int .i64 0, .int .i64 0, .int .i64 0, .int .i64 0] 25)).heap.size = w3.heap.size + 1 := size_alloc _ _
          have B4 : Hid (Below w3.heap.size w3 w4) := by rw [hw4]; exact (box_below _ _).alloc (box_below _ _).size _
          have U4 : Hid (PBox w4 w3.heap.size p70) := by rw [hw4]; exact (PBox.new w3 p70).below (box_below _ _)
          have V4 : Hid (PBox w4 (w3.heap.size + 1) p70) := by
            have := PBox.new (w3.alloc (.cells #[.int .i64 0, .int .i64 0, .int .i64 0, .int .i64 0, .int .i64 0, .int .i64 0, .int .i64 0] 25)) p70
            rw [hz0] at this
            rw [hw4]
            exact this
          have P' := P w4 (A3.out.below B4.out)
          obtain ⟨q0, q1, q2, q3, q4, q5, q6⟩ := (X3.out.below B4.out).at7
          simp only [P7.id, P7.fr, P7.to, P7.am, P7.cl, P7.st, P7.ti] at q0 q1 q2 q3 q4 q5 q6
          have HW4 : Hid (w4 = _) := hw4
          clear hS' hd her hnl hq' hw4 P hz0
          go_upto_region 20 with fail
          rw [← HW4.out]
          clear HW4
          go_wp2_with fail
          go_at_call 10
          refine P'.mono ?_
          rintro e w5 ⟨ax, cx, rfl, gx, nx, hb⟩
          have U5 : Hid (PBox w5 w3.heap.size p70) := U4.out.below hb
          have V5 : Hid (PBox w5 (w3.heap.size + 1) p70) := V4.out.below hb
          have Z4 : Hid (w3.heap.size + 1 < w4.heap.size) := V4.out.lt
          have BX : Hid (Below w3.heap.size w3 (w5.setRow w3.heap.size #[.int .i64 d0, .int .i64 d1, .int .i64 d2, .int .i64 d3, .int .i64 d4, .int .i64 d5, .int .i64 d6])) := Below.setRow (B4.out.trans (hb.mono B4.out.size)) (Nat.le_refl _) _
          have U6 : Hid (PBox (w5.setRow w3.heap.size #[.int .i64 d0, .int .i64 d1, .int .i64 d2, .int .i64 d3, .int .i64 d4, .int .i64 d5, .int .i64 d6]) w3.heap.size (d0, d1, d2, d3, d4, d5, d6)) := U5.out.set (d0, d1, d2, d3, d4, d5, d6)
          have V6 : Hid (PBox (w5.setRow w3.heap.size #[.int .i64 d0, .int .i64 d1, .int .i64 d2, .int .i64 d3, .int .i64 d4, .int .i64 d5, .int .i64 d6]) (w3.heap.size + 1) p70) := V5.out.far (by omega) _
          have NX : Hid (∀ x, ax = some x → w3.heap.size + 1 < x.block) := fun x hx => by have := nx x hx; have := Z4.out; omega
          have GX : Hid (PGood (w5.setRow w3.heap.size #[.int .i64 d0, .int .i64 d1, .int .i64 d2, .int .i64 d3, .int .i64 d4, .int .i64 d5, .int .i64 d6]) ax nl cx S') := gx.far (fun x hx => by have := NX.out x hx; omega) _
          clear P' gx nx hb q0 q1 q2 q3 q4 q5 q6 U4 V4 B4 V5
          go_upto_region 21 with (refine store_pay rfl _ _ rfl w3.heap.size (d0, d1, d2, d3, d4, d5, d6) rfl rfl p70 U5.out ?_)
          clear U5
          generalize w5.setRow w3.heap.size #[.int .i64 d0, .int .i64 d1, .int .i64 d2, .int .i64 d3, .int .i64 d4, .int .i64 d5, .int .i64 d6] = w6 at BX U6 V6 GX ⊢
          have R' := R w6 (C3.out.below BX.out)
          obtain ⟨q0, q1, q2, q3, q4, q5, q6⟩ := (X3.out.below BX.out).at7
          simp only [P7.id, P7.fr, P7.to, P7.am, P7.cl, P7.st, P7.ti] at q0 q1 q2 q3 q4 q5 q6
          clear R
          go_wp2_with fail
          go_at_call 11
          refine R'.mono ?_
          rintro e w7 ⟨ay, cy, rfl, gy, ny, hb⟩
          have V7 : Hid (PBox w7 (w3.heap.size + 1) p70) := V6.out.below hb
          have BY : Hid (Below w3.heap.size w3 (w7.setRow (w3.heap.size + 1) #[.int .i64 d0, .int .i64 d1, .int .i64 d2, .int .i64 d3, .int .i64 d4, .int .i64 d5, .int .i64 d6])) := Below.setRow (BX.out.trans (hb.mono BX.out.size)) (by omega) _
          have U8 : Hid (PBox (w7.setRow (w3.heap.size + 1) #[.int .i64 d0, .int .i64 d1, .int .i64 d2, .int .i64 d3, .int .i64 d4, .int .i64 d5, .int .i64 d6]) w3.heap.size (d0, d1, d2, d3, d4, d5, d6)) := (U6.out.below hb).far (by omega) _
          have V8 : Hid (PBox (w7.setRow (w3.heap.size + 1) #[.int .i64 d0, .int .i64 d1, .int .i64 d2, .int .i64 d3, .int .i64 d4, .int .i64 d5, .int .i64 d6]) (w3.heap.size + 1) (d0, d1, d2, d3, d4, d5, d6)) := V7.out.set (d0, d1, d2, d3, d4, d5, d6)
          have GX8 : Hid (PGood (w7.setRow (w3.heap.size + 1) #[.int .i64 d0, .int .i64 d1, .int .i64 d2, .int .i64 d3, .int .i64 d4, .int .i64 d5, .int .i64 d6]) ax nl cx S') := (GX.out.below hb).far (fun x hx => by have := NX.out x hx; omega) _
          have GY8 : Hid (PGood (w7.setRow (w3.heap.size + 1) #[.int .i64 d0, .int .i64 d1, .int .i64 d2, .int .i64 d3, .int .i64 d4, .int .i64 d5, .int .i64 d6]) ay nl cy S') := drop_far C3.out HE.out ny gy V6.out.lt _
          clear R' gy ny hb q0 q1 q2 q3 q4 q5 q6 U6 V6 GX NX BX
          go_upto_region 22 with (refine store_pay rfl _ _ rfl (w3.heap.size + 1) (d0, d1, d2, d3, d4, d5, d6) rfl rfl p70 V7.out ?_)
          clear V7
          generalize w7.setRow (w3.heap.size + 1) #[.int .i64 d0, .int .i64 d1, .int .i64 d2, .int .i64 d3, .int .i64 d4, .int .i64 d5, .int .i64 d6] = w8 at BY U8 V8 GX8 GY8 ⊢
          obtain ⟨r0, r1, r2, r3, r4, r5, r6⟩ := U8.out.at7
          obtain ⟨s0, s1, s2, s3, s4, s5, s6⟩ := V8.out.at7
          simp only [P7.id, P7.fr, P7.to, P7.am, P7.cl, P7.st, P7.ti] at r0 r1 r2 r3 r4 r5 r6 s0 s1 s2 s3 s4 s5 s6
          go_wp2
          go_meet
          case rel => exact ⟨S', nl, cx, cy, ax, ay, er, rfl, rfl, rfl, rfl, GX8, GY8, Q', BY⟩
        have n2 : (kk == 2) = false := by simpa using e2
        by_cases e3 : kk = 3
        · subst e3
          obtain ⟨S', hS'⟩ : ∃ S', qFront S p0 = S' := ⟨_, rfl⟩
          obtain ⟨er, her⟩ : ∃ er, qDropE S p0 = er := ⟨_, rfl⟩
          obtain ⟨nl, hnl⟩ : ∃ nl, S'.length = nl := ⟨_, rfl⟩
          have hq' : Que S' := by rw [← hS']; exact HQ.out.front _
          have P := front_any7 aa m ca S p0 w3 A3.out HQ.out
          have R := fun u (g : PGood u ab m cb S) => refFront_any ab m cb S p0 u g (by omega)
          unfold PutEnd7 at P
          unfold RPutEnd at R
          simp only [hS', her, hnl] at P R
          have Q' : Hid (Que S') := hq'
          obtain ⟨q0, q1, q2, q3, q4, q5, q6⟩ := X3.out.at7
          simp only [P7.id, P7.fr, P7.to, P7.am, P7.cl, P7.st, P7.ti] at q0 q1 q2 q3 q4 q5 q6
          clear hS' her hnl hq'
          go_wp2_with fail
          go_at_call 12
          refine P.mono ?_
          rintro e w4 ⟨ax, cx, rfl, gx, nx, hb⟩
          have BX : Hid (Below w3.heap.size w3 w4) := hb
          have GX : Hid (PGood w4 ax nl cx S') := gx
          have R' := R w4 (C3.out.below hb)
          have X4 := X3.out.below hb
          clear P R gx nx hb q0 q1 q2 q3 q4 q5 q6
          obtain ⟨q0, q1, q2, q3, q4, q5, q6⟩ := X4.at7
          simp only [P7.id, P7.fr, P7.to, P7.am, P7.cl, P7.st, P7.ti] at q0 q1 q2 q3 q4 q5 q6
          clear X4
          go_wp2_with fail
          go_at_call 13
          refine R'.mono ?_
          rintro e w5 ⟨ay, cy, rfl, gy, hb⟩
          have BY : Hid (Below w3.heap.size w3 w5) := BX.out.trans (hb.mono BX.out.size)
          have GY : Hid (PGood w5 ay nl cy S') := gy
          have GX5 : Hid (PGood w5 ax nl cx S') := GX.out.below hb
          clear R' gy hb q0 q1 q2 q3 q4 q5 q6 BX GX
          go_wp2
          go_meet
          case rel => exact ⟨S', nl, cx, cy, ax, ay, er, rfl, rfl, rfl, rfl, GX5, GY, Q', BY⟩
        have n3 : (kk == 3) = false := by simpa using e3
        by_cases e4 : kk = 4
        · subst e4
          obtain ⟨S', hS'⟩ : ∃ S', qBack S p0 = S' := ⟨_, rfl⟩
          obtain ⟨er, her⟩ : ∃ er, qDropE S p0 = er := ⟨_, rfl⟩
          obtain ⟨nl, hnl⟩ : ∃ nl, S'.length = nl := ⟨_, rfl⟩
          have hq' : Que S' := by rw [← hS']; exact HQ.out.back _
          have P := back_any7 aa m ca S p0 w3 A3.out HQ.out
          have R := fun u (g : PGood u ab m cb S) => refBack_any ab m cb S p0 u g (by omega)
          unfold PutEnd7 at P
          unfold RPutEnd at R
          simp only [hS', her, hnl] at P R
          have Q' : Hid (Que S') := hq'
          obtain ⟨q0, q1, q2, q3, q4, q5, q6⟩ := X3.out.at7
          simp only [P7.id, P7.fr, P7.to, P7.am, P7.cl, P7.st, P7.ti] at q0 q1 q2 q3 q4 q5 q6
          clear hS' her hnl hq'
          go_wp2_with fail
          go_at_call 14
          refine P.mono ?_
          rintro e w4 ⟨ax, cx, rfl, gx, nx, hb⟩
          have BX : Hid (Below w3.heap.size w3 w4) := hb
          have GX : Hid (PGood w4 ax nl cx S') := gx
          have R' := R w4 (C3.out.below hb)
          have X4 := X3.out.below hb
          clear P R gx nx hb q0 q1 q2 q3 q4 q5 q6
          obtain ⟨q0, q1, q2, q3, q4, q5, q6⟩ := X4.at7
          simp only [P7.id, P7.fr, P7.to, P7.am, P7.cl, P7.st, P7.ti] at q0 q1 q2 q3 q4 q5 q6
          clear X4
          go_wp2_with fail
          go_at_call 15
          refine R'.mono ?_
          rintro e w5 ⟨ay, cy, rfl, gy, hb⟩
          have BY : Hid (Below w3.heap.size w3 w5) := BX.out.trans (hb.mono BX.out.size)
          have GY : Hid (PGood w5 ay nl cy S') := gy
          have GX5 : Hid (PGood w5 ax nl cx S') := GX.out.below hb
          clear R' gy hb q0 q1 q2 q3 q4 q5 q6 BX GX
          go_wp2
          go_meet
          case rel => exact ⟨S', nl, cx, cy, ax, ay, er, rfl, rfl, rfl, rfl, GX5, GY, Q', BY⟩
        have n4 : (kk == 4) = false := by simpa using e4
        by_cases e5 : kk = 5
        · subst e5
          obtain ⟨S', hS'⟩ : ∃ S', qClass S p0 p4 = S' := ⟨_, rfl⟩
          obtain ⟨er, her⟩ : ∃ er, qDropE S p0 = er := ⟨_, rfl⟩
          obtain ⟨nl, hnl⟩ : ∃ nl, S'.length = nl := ⟨_, rfl⟩
          have hq' : Que S' := by rw [← hS']; exact HQ.out.class _ _
          have P := class_any7 aa m ca S p0 p4 w3 A3.out HQ.out
          have R := fun u (g : PGood u ab m cb S) => refClass_any ab m cb S p0 p4 u g (by omega)
          unfold PutEnd7 at P
          unfold RPutEnd at R
          simp only [hS', her, hnl] at P R
          have Q' : Hid (Que S') := hq'
          obtain ⟨q0, q1, q2, q3, q4, q5, q6⟩ := X3.out.at7
          simp only [P7.id, P7.fr, P7.to, P7.am, P7.cl, P7.st, P7.ti] at q0 q1 q2 q3 q4 q5 q6
          clear hS' her hnl hq'
          go_wp2_with fail
          go_at_call 16
          refine P.mono ?_
          rintro e w4 ⟨ax, cx, rfl, gx, nx, hb⟩
          have BX : Hid (Below w3.heap.size w3 w4) := hb
          have GX : Hid (PGood w4 ax nl cx S') := gx
          have R' := R w4 (C3.out.below hb)
          have X4 := X3.out.below hb
          clear P R gx nx hb q0 q1 q2 q3 q4 q5 q6
          obtain ⟨q0, q1, q2, q3, q4, q5, q6⟩ := X4.at7
          simp only [P7.id, P7.fr, P7.to, P7.am, P7.cl, P7.st, P7.ti] at q0 q1 q2 q3 q4 q5 q6
          clear X4
          go_wp2_with fail
          go_at_call 17
          refine R'.mono ?_
          rintro e w5 ⟨ay, cy, rfl, gy, hb⟩
          have BY : Hid (Below w3.heap.size w3 w5) := BX.out.trans (hb.mono BX.out.size)
          have GY : Hid (PGood w5 ay nl cy S') := gy
          have GX5 : Hid (PGood w5 ax nl cx S') := GX.out.below hb
          clear R' gy hb q0 q1 q2 q3 q4 q5 q6 BX GX
          go_wp2
          go_meet
          case rel => exact ⟨S', nl, cx, cy, ax, ay, er, rfl, rfl, rfl, rfl, GX5, GY, Q', BY⟩
        have n5 : (kk == 5) = false := by simpa using e5
        obtain ⟨r, hr⟩ : ∃ r, qFind S p0 = r := ⟨_, rfl⟩
        have P := fun u (g : PGood u aa m ca S) => find_any aa m ca p0 S u (by omega) g.pays
        have R := fun u (g : PGood u ab m cb S) => refFind_any ab m cb p0 S u (by omega) g.pays
        simp only [hr] at P R
        clear hr e1 e2 e3 e4 e5
        go_upto_region 13 with fail
        refine region_owes (L := [Fact.is (.slice aa m ca),
          Fact.is (.pointer (some ⟨g, 0, none⟩)),
          Fact.is (.int .i64 p0),
          Fact.is (.int .i64 r),
          Fact.is (.slice ab m cb),
          Fact.is (.pointer (some ⟨g, 0, none⟩)),
          Fact.is (.int .i64 p0),
          Fact.is (.int .i64 r),
          Fact.is (.bool false)])
          (T := [38, 39, 40, 41, 42, 43, 44, 45, 46]) (by kernel_rfl) (by kernel_rfl) rfl ?owes ?_
        case owes =>
          refine .cons (owes_move (.tmp 3) (.inl rfl) fun q u lh => ⟨wants_free rfl, lh.old 3 rfl⟩) ?_
          refine .cons (owes_value fun q u lh => ⟨wants_free rfl, .pointer (some ⟨g, 0, none⟩), by have e6 : q.tmps.getD 6 undef = .pointer (some ⟨g, 0, none⟩) := lh.old 6 rfl; simp [execOp, Act.eval, e6, go_sem], rfl⟩) ?_
          refine .cons (owes_value fun q u lh => ⟨wants_free rfl, .int .i64 p0, by have e39 : q.tmps.getD 39 undef = .pointer (some ⟨g, 0, none⟩) := lh.dep 1 rfl; obtain ⟨y0, y1, y2, y3, y4, y5, y6⟩ := (X3.out.below lh.below).at7; simp [execOp, Act.eval, e39, y0, go_sem], rfl⟩) ?_
          refine .cons (owes_call 18 Try.func18 (by kernel_rfl) (by kernel_rfl) [.tmp 38, .tmp 40] #[23, 2] rfl fun q u lh => ⟨wants_free rfl, by have e38 : q.tmps.getD 38 undef = .slice aa m ca := lh.dep 0 rfl; have e40 : q.tmps.getD 40 undef = .int .i64 p0 := lh.dep 2 rfl; show Calls Try.prog 18 #[q.tmps.getD 38 undef, q.tmps.getD 40 undef] u _; rw [e38, e40]; exact int_fact (P u (A3.out.below lh.below))⟩) ?_
          refine .cons (owes_move (.tmp 4) (.inl rfl) fun q u lh => ⟨wants_free rfl, lh.old 4 rfl⟩) ?_
          refine .cons (owes_value fun q u lh => ⟨wants_free rfl, .pointer (some ⟨g, 0, none⟩), by have e6 : q.tmps.getD 6 undef = .pointer (some ⟨g, 0, none⟩) := lh.old 6 rfl; simp [execOp, Act.eval, e6, go_sem], rfl⟩) ?_
          refine .cons (owes_value fun q u lh => ⟨wants_free rfl, .int .i64 p0, by have e43 : q.tmps.getD 43 undef = .pointer (some ⟨g, 0, none⟩) := lh.dep 5 rfl; obtain ⟨y0, y1, y2, y3, y4, y5, y6⟩ := (X3.out.below lh.below).at7; simp [execOp, Act.eval, e43, y0, go_sem], rfl⟩) ?_
          refine .cons (owes_call 19 Try.func19 (by kernel_rfl) (by kernel_rfl) [.tmp 42, .tmp 44] #[23, 2] rfl fun q u lh => ⟨wants_free rfl, by have e42 : q.tmps.getD 42 undef = .slice ab m cb := lh.dep 4 rfl; have e44 : q.tmps.getD 44 undef = .int .i64 p0 := lh.dep 6 rfl; show Calls Try.prog 19 #[q.tmps.getD 42 undef, q.tmps.getD 44 undef] u _; rw [e42, e44]; exact int_fact ((R u (C3.out.below lh.below)).mono fun e w' ⟨h1, h2⟩ => ⟨h1, h2 ▸ Below.refl _ _⟩)⟩) ?_
          refine .cons (owes_value fun q u lh => ⟨wants_free rfl, .bool false, by have e41 : q.tmps.getD 41 undef = .int .i64 r := lh.dep 3 rfl; have e45 : q.tmps.getD 45 undef = .int .i64 r := lh.dep 7 rfl; simp [execOp, Act.eval, e41, e45, go_sem], rfl⟩) ?_
          exact .nil _
        intro q u hb hsz hdf hold hfact
        obtain rfl := frame_puts hsz hdf [38, 39, 40, 41, 42, 43, 44, 45, 46] hold [(38, Value.slice aa m ca), (39, Value.pointer (some ⟨g, 0, none⟩)), (40, Value.int .i64 p0), (41, Value.int .i64 r), (42, Value.slice ab m cb), (43, Value.pointer (some ⟨g, 0, none⟩)), (44, Value.int .i64 p0), (45, Value.int .i64 r), (46, Value.bool false)] ⟨hfact 0 (by decide), hfact 1 (by decide), hfact 2 (by decide), hfact 3 (by decide), hfact 4 (by decide), hfact 5 (by decide), hfact 6 (by decide), hfact 7 (by decide), hfact 8 (by decide), trivial⟩ rfl
        clear hsz hdf hold hfact
        have BY : Hid (Below w3.heap.size w3 u) := hb
        have GX : Hid (PGood u aa m ca S) := A3.out.below hb
        have GY : Hid (PGood u ab m cb S) := C3.out.below hb
        simp only [puts, Act.put, List.setIfInBounds_toArray, List.set_cons_zero, List.set_cons_succ]
        clear hb P R
        go_wp2
        go_meet
        case rel => exact ⟨S, m, ca, cb, aa, ab, 0, rfl, rfl, rfl, rfl, GX, GY, HQ, BY⟩
      case rest =>
        obtain ⟨S', nl, cx, cy, ax, ay, er, rfl, rfl, rfl, rfl, GX, GY, Q', BY⟩ := hcut
        have hnl := GX.out.len
        have hn4 : nl ≤ 40 := by have := Q'.out.1; omega
        have E1 := refPaySame_any ax ay nl nl cx cy S' S' wc GX.out.pays GY.out.pays (by omega)
        have E2 := fun u (h : Below w3.heap.size w3 u) => refPaySame_any aa aw m m ca cw S S u (A3.out.below h).pays (D3.out.below h).pays (by omega)
        rw [eqP_yes (rfl : S' = S')] at E1
        rw [eqP_yes (rfl : S = S)] at E2
        have I := fun u (h : Below wc.heap.size wc u) => is_any7 ax nl cx S' u (GX.out.below h)
        rw [qIs_iff.2 Q'.out] at I
        clear hnl hn4
        go_wp2_with fail
        go_at_call 20
        refine E1.mono ?_
        rintro e w6 ⟨rfl, q6, hw6⟩
        have b6 : Below wc.heap.size wc w6 := by rw [hw6]; exact drawn_below wc q6
        have B6 : Hid (Below wc.heap.size wc w6) := b6
        have E2' := E2 w6 (BY.out.trans (b6.mono BY.out.size))
        clear E1 hw6 b6 E2
        go_wp2_with fail
        go_at_call 20
        refine E2'.mono ?_
        rintro e w7 ⟨rfl, q7, hw7⟩
        have b7 : Below w6.heap.size w6 w7 := by rw [hw7]; exact drawn_below w6 q7
        have B7 : Hid (Below wc.heap.size wc w7) := B6.out.trans (b7.mono B6.out.size)
        have I' := I w7 B7.out
        clear E2' hw7 b7 B6 I
        go_wp2_with fail
        go_at_call 21
        refine I'.mono ?_
        rintro e w8 ⟨rfl, hb⟩
        have B8 : Hid (Below wc.heap.size wc w8) := B7.out.trans (hb.mono B7.out.size)
        have W8 : Hid (Below w.heap.size w w8) := W3.out.trans ((BY.out.trans (B8.out.mono BY.out.size)).mono W3.out.size)
        have GX8 : Hid (PGood w8 ax nl cx S') := GX.out.below B8.out
        have GY8 : Hid (PGood w8 ay nl cy S') := GY.out.below B8.out
        clear I' hb B7 GX GY BY
        go_wp2
        go_roundw
        case rel => exact ⟨k + 1, nl, cx, cy, ax, ay, S', rfl, rfl, by go_num, by omega, GX8, GY8, Q', W8⟩
        case measure => simp [intOf]; omega
    · obtain rfl : k = n := by omega
      clear HA HB HQ HZ
      go_wp2_with fail
      go_at_call 22
      refine (known13 _).mono ?_
      rintro e w9 ⟨rfl, hb9⟩
      have B9 : Hid (Below w.heap.size w w9) := HW.out.trans (hb9.mono HW.out.size)
      clear hb9
      go_wp2
      go_ret
      exact ⟨rfl, B9.out⟩

theorem rowPlays_out (a : Option Addr) (n c : Nat) (w : World) (h : 100 < n) : Calls Try.prog 3 #[.slice a n c] w fun e w' => e = .returned (.bool true) ∧ Below w.heap.size w w' := by
  have h0 : 100 < (n : Int) := by omega
  go_enter Try.func3, Try.ntmps3
  go_wp2
  go_ret
  exact ⟨rfl, Below.refl _ _⟩
theorem rowPlays_none (a : Option Addr) (c : Nat) (w : World) : Calls Try.prog 3 #[.slice a 0 c] w fun e w' => e = .returned (.bool true) ∧ Below w.heap.size w w' := by
  go_enter Try.func3, Try.ntmps3
  go_wp2
  refine wp_loop_rounds 1 ?_
  rw [rounds_succ]
  go_wp2_with fail
  go_at_call 22
  refine (known13 _).mono ?_
  rintro e w9 ⟨rfl, hb9⟩
  have B9 : Hid (Below w.heap.size w w9) := hb9
  clear hb9
  go_wp2
  go_ret
  exact ⟨rfl, B9.out⟩

theorem rowPlays (a : Option Addr) (n c : Nat) (Z : Nat → Nat → Int) (w : World) (h : PlainRows w a n 8 Z) : Calls Try.prog 3 #[.slice a n c] w fun e w' => e = .returned (.bool true) ∧ Below w.heap.size w w' := by
  by_cases hn : 100 < n
  · exact rowPlays_out a n c w hn
  · rcases h with rfl | ⟨b, off, rfl, hb, hc⟩
    · exact rowPlays_none a c w
    · exact rowPlays_in b off n c Z w (by omega) (fun i hi j hj => (hc i hi j hj).1)

end Walk
end Go.Proofs.Ytjibnbheegcnkaa
