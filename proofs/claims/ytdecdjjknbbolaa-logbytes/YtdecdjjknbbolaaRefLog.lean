/-
  giroref6: a log where it lies; held, Look, save.
-/
import Derived.Test.YtdecdjjknbbolaaLogNew
import Derived.Test.YtdecdjjknbbolaaRefApp
import Derived.Test.YtdecdjjknbbolaaRefScan
import Derived.Test.YtdecdjjknbbolaaWordRef
import Derived.Test.YtdecdjjknbbolaaWordGet
namespace Go.Proofs.Ytdecdjjknbbolaa
open Go.RowKit
set_option linter.unusedVariables false
set_option linter.unusedSimpArgs false

/-- The document's log lies in block l, its deck in block b. -/
def RLgAt (w : World) (l b : Nat) (g : Lg) : Prop :=
  w.heap[l]? = some (.cells #[.pointer (some ⟨b, 0, none⟩), .int .i64 g.gen, .int .i64 g.side, .int .i64 g.n, .bool g.stale] 81 (0, 0))

theorem RLgAt.five {w : World} {l b : Nat} {g : Lg} (h : RLgAt w l b g) :
    (w.cell? ⟨l, 0, none⟩ = some (.pointer (some ⟨b, 0, none⟩)) ∧ w.cell? ⟨l, 1, none⟩ = some (.int .i64 g.gen) ∧ w.cell? ⟨l, 2, none⟩ = some (.int .i64 g.side) ∧ w.cell? ⟨l, 3, none⟩ = some (.int .i64 g.n) ∧ w.cell? ⟨l, 4, none⟩ = some (.bool g.stale)) ∧
    ∀ j, w.frozen? ⟨l, j, none⟩ = false :=
  ⟨⟨cell_of_row w l 0 _ _ _ h, cell_of_row w l 1 _ _ _ h, cell_of_row w l 2 _ _ _ h, cell_of_row w l 3 _ _ _ h, cell_of_row w l 4 _ _ _ h⟩, fun j => frozen_of_row w l j _ _ h⟩

structure RKept (w : World) (S : Nat → Prop) (b l : Nat) (d : D) (g : Lg) : Prop where
  deck : RDeck w (fun k => S k ∧ k ≠ l) b d
  sl : S l
  at' : RLgAt w l b g

theorem RKept.below {w w' : World} {S : Nat → Prop} {b l : Nat} {d : D} {g : Lg} (h : RKept w S b l d g) (k : Below w.heap.size w w') : RKept w' S b l d g :=
  ⟨h.deck.below k, h.sl, (k.block l (lt_of_block h.at')).trans h.at'⟩
theorem RKept.mono {w : World} {S S' : Nat → Prop} {b l : Nat} {d : D} {g : Lg} (h : RKept w S b l d g) (hS : ∀ k, k < w.heap.size → S k → S' k) : RKept w S' b l d g :=
  ⟨h.deck.mono (fun k hk hs => ⟨hS k hk hs.1, hs.2⟩), hS l (lt_of_block h.at') h.sl, h.at'⟩
theorem RKept.more {w : World} {S : Nat → Prop} {b l : Nat} {d : D} {g : Lg} (h : RKept w S b l d g) (n : Nat) : RKept w (fun k => S k ∨ n ≤ k) b l d g := h.mono (fun _ _ hs => .inl hs)
theorem rdeck_lt {w : World} {S : Nat → Prop} {b : Nat} {d : D} (h : RDeck w S b d) : b < w.heap.size ∧ S b := by
  obtain ⟨a0, c0, a1, c1, x, y, h⟩ := h
  exact ⟨lt_of_block h.dk, h.sb⟩
theorem RKept.block {w : World} {S : Nat → Prop} {b l : Nat} {d : D} {g : Lg} (h : RKept w S b l d g) : b < w.heap.size ∧ l < w.heap.size ∧ b ≠ l ∧ S b := by
  have := rdeck_lt h.deck
  exact ⟨this.1, lt_of_block h.at', this.2.2, this.2.1⟩
theorem RKept.only {w w' : World} {S S' : Nat → Prop} {b l : Nat} {d : D} {g : Lg} (h : RKept w S b l d g) (o : Only S' w w') (hS : ∀ k, S k → ¬ S' k) : RKept w' S b l d g :=
  ⟨h.deck.only o (fun k hk => hS k hk.1), h.sl, (o.block l (lt_of_block h.at') (hS l h.sl)).trans h.at'⟩
theorem Kept.only {w w' : World} {S S' : Nat → Prop} {b l : Nat} {d : D} {g : Lg} (h : Kept w S b l d g) (o : Only S' w w') (hS : ∀ k, S k → ¬ S' k) : Kept w' S b l d g :=
  ⟨h.deck.only o (fun k hk => hS k hk.1), h.sl, (o.block l (lt_of_block h.at') (hS l h.sl)).trans h.at'⟩

theorem RKept.step {w w' : World} {S : Nat → Prop} {b l : Nat} {d d' : D} {g : Lg} (h : RKept w S b l d g) (k : RDeck w' (fun j => (S j ∧ j ≠ l) ∨ w.heap.size ≤ j) b d') (o : Only (fun j => S j ∧ j ≠ l) w w') :
    RKept w' (fun j => S j ∨ w.heap.size ≤ j) b l d' g ∧ Only S w w' := by
  have hl := lt_of_block h.at'
  refine ⟨⟨k.mono (fun j hj hs => ?_), .inl h.sl, (o.block l hl (fun hs => hs.2 rfl)).trans h.at'⟩, o.mono (fun j _ hs => hs.1)⟩
  rcases hs with hs | hs
  · exact ⟨.inl hs.1, hs.2⟩
  · exact ⟨.inr hs, by omega⟩
theorem RKept.turn {w w' : World} {S : Nat → Prop} {b l : Nat} {d : D} {g g' : Lg} (h : RKept w S b l d g) (k : RLgAt w' l b g') (o : Only (· = l) w w') : RKept w' S b l d g' ∧ Only S w w' :=
  ⟨⟨h.deck.only o (fun j hj hs => hj.2 hs), h.sl, k⟩, o.mono (fun j _ hs => hs ▸ h.sl)⟩
theorem rkept_new {w : World} {S : Nat → Prop} {b : Nat} {d : D} (h : RDeck w S b d) (g : Lg) :
    RKept (w.alloc (.cells #[.pointer (some ⟨b, 0, none⟩), .int .i64 g.gen, .int .i64 g.side, .int .i64 g.n, .bool g.stale] 81)) (fun k => S k ∨ k = w.heap.size) b w.heap.size d g := by
  refine ⟨(h.mono (fun k hk hs => ⟨.inl hs, by omega⟩)).below ((Below.refl _ _).alloc (Nat.le_refl _) _), .inr rfl, ?_⟩
  exact heap_alloc_new w _

theorem ref_room (b : Nat) (w : World) (S : Nat → Prop) (d : D) (h : RDeck w S b d) : Calls Try.prog 50 #[.pointer (some ⟨b, 0, none⟩)] w (fun e w' => e = .returned (.int .i64 d.room) ∧ w' = w) := by
  obtain ⟨a0, c0, a1, c1, x, y, h⟩ := h
  obtain ⟨⟨k0, k1, k2, k3, k4⟩, ⟨k5, k6, k7, k8, k9⟩, fz⟩ := h.dk.ten
  go_enter Try.func50, Try.ntmps50
  go_wp2
  go_ret
  exact ⟨rfl, rfl⟩

set_option maxHeartbeats 4000000 in
theorem ref_held (b0 : Nat) (w : World) (S : Nat → Prop) (d : D) (hD : RDeck w S b0 d) (side : Int) (hsd : side = 0 ∨ side = 1) :
    Calls Try.prog 49 #[.pointer (some ⟨b0, 0, none⟩), .int .i64 side] w (HeldEnd w (heldS (d.read side))) := by
  have RD := ref_read b0 w S d hD side hsd
  have hok := hD.ok.read side
  obtain ⟨z, hz⟩ : ∃ z, d.read side = z := ⟨_, rfl⟩
  rw [hz] at RD hok ⊢
  clear hz hD
  go_enter Try.func49, Try.ntmps49
  go_wp2_with fail
  go_at_call 56
  refine RD.mono ?_
  rintro e wA ⟨vA, rfl, oA, bA⟩
  obtain ⟨aA, cA, rfl⟩ := own_form oA
  have hsl := SlB.own oA hok.2
  have A := ref_scan aA _ cA z wA hsl.sl hsl.le hsl.mx hsl.nn (by omega)
  obtain ⟨LA, hLA⟩ : ∃ x, z.length = x := ⟨_, rfl⟩
  rw [hLA] at A ⊢
  have BA : Hid (Below w.heap.size w wA) := bA
  clear oA bA hsl RD hLA hok
  obtain ⟨r, hr⟩ : ∃ r, scanS z = r := ⟨_, rfl⟩
  obtain ⟨R, rest⟩ := r
  rw [hr] at A
  have HR : Hid (scanS z = (R, rest)) := hr
  clear hr
  go_wp2_with fail
  go_at_call 55
  refine A.mono ?_
  rintro e w1 ⟨v, vs, rfl, hm, bl⟩
  obtain ⟨la, lc, rfl⟩ := own_form hm.own
  have RB := hm.rowsB.base BA.out.size
  have BL : Hid (Below w.heap.size w w1) := BA.out.trans (bl.mono BA.out.size)
  clear A hm bl BA
  rcases R with _ | ⟨h, t⟩
  · have HE : Hid (heldS z = none) := held_none (by rw [HR.out])
    simp only [List.length_nil]
    go_wp2
    refine bodyPost_ret (results_tmp4 rfl _ _ _) rfl ?_
    exact heldEnd_none HE.out BL.out
  · obtain ⟨b, off, x, k, ha, q, hx⟩ := RB.head
    have hlc := RB.mx
    have hlc1 := RB.le
    have hk1 := hx.le
    have hk2 := hx.mx
    have HB : Hid (RowsB w1 w.heap.size la (h :: t).length lc (h :: t)) := RB
    have HX : Hid (SlB w1 w.heap.size x h.length k h) := hx
    obtain ⟨N, hN⟩ : ∃ N, h.length = N := ⟨_, rfl⟩
    have HN : Hid (h.length = N) := hN
    rw [hN] at HX q hk1
    clear RB hx hN
    subst ha
    have hlen : (h :: t).length = t.length + 1 := rfl
    rw [hlen] at hlc1 HB ⊢
    obtain ⟨m, hm⟩ : ∃ m, t.length = m := ⟨_, rfl⟩
    rw [hm] at hlc1 HB ⊢
    clear hlen hm
    have i0 : ((m : Int) + 1 == 0) = false := by simp; omega
    have i0' : ¬ (m : Int) + 1 = 0 := by omega
    have i1 : (0 : Int) < (m : Int) + 1 := by omega
    by_cases h8 : N < 8
    · have i8 : (N : Int) < 8 := by omega
      have HE : Hid (heldS z = none) := by
        show _ = _
        rw [heldS, HR.out]
        simp only
        rw [if_pos (by have := HN.out; omega)]
      go_wp2
      refine bodyPost_ret (results_tmp4 rfl _ _ _) rfl ?_
      exact heldEnd_none HE.out BL.out
    · have i8 : ¬ (N : Int) < 8 := by omega
      have i9 : (8 : Int) ≤ k := by omega
      have i10 : (8 : Int) ≤ N := by omega
      obtain ⟨bx, ox, hx⟩ : ∃ b off, x = some ⟨b, off, none⟩ := by
        rcases HX.out.sl.2.2 with h0 | ⟨b, off, h, _⟩
        · have := HX.out.sl.1; rw [h0] at this; simp at this; omega
        · exact ⟨b, off, h⟩
      subst hx
      have G := refGet_good (some ⟨bx, ox, none⟩) 8 k 1 (h.take 8) w1 (HX.out.sl.take 8 (by omega)) (by omega) (by omega) hk2 (by omega)
      go_wp2_with fail
      go_at_call 57
      refine G.mono ?_
      rintro e w2 ⟨v, rfl, ho, b2⟩
      have hd : decs 1 (h.take 8) = [dec (h.take 8)] := by simp [decs, List.take_take]
      rw [hd] at ho
      obtain ⟨D, hD⟩ : ∃ D, dec (h.take 8) = D := ⟨_, rfl⟩
      rw [hD] at ho
      have HD : Hid (dec (h.take 8) = D) := hD
      clear hd hD
      rcases ho.2 with ⟨_, h0⟩ | ⟨g, gc, cur, hv, _⟩
      · omega
      subst hv
      have qd : w2.cell? ⟨g, 0, none⟩ = some (.int .i64 D) := ho.cellAt 0 (by omega)
      have q2 : w2.cell? ⟨b, off, none⟩ = some (.slice (some ⟨bx, ox, none⟩) N k) := (b2.cell (p := ⟨b, off, none⟩) (block_lt_of_cell q)).trans q
      have B2 : Hid (Below w.heap.size w w2) := BL.out.trans (b2.mono BL.out.size)
      have HX2 : Hid (SlB w2 w.heap.size (some ⟨bx, ox, none⟩) N k h) := HX.out.below b2
      have HB2 : Hid (RowsB w2 w.heap.size (some ⟨b, off, none⟩) (m + 1) lc (h :: t)) := HB.out.below b2
      clear ho b2 G q HX HB BL
      by_cases d1 : D < 1
      · have HE : Hid (heldS z = none) := by
          show _ = _
          rw [heldS, HR.out]
          simp only
          rw [if_neg (by have := HN.out; omega), if_pos (.inl (by rw [HD.out]; exact d1))]
        go_wp2
        refine bodyPost_ret (results_tmp4 rfl _ _ _) rfl ?_
        exact heldEnd_none HE.out B2.out
      by_cases d2 : 4611686018427387904 < D
      · have HE : Hid (heldS z = none) := by
          show _ = _
          rw [heldS, HR.out]
          simp only
          rw [if_neg (by have := HN.out; omega), if_pos (.inr (by rw [HD.out]; exact d2))]
        go_wp2
        refine bodyPost_ret (results_tmp4 rfl _ _ _) rfl ?_
        exact heldEnd_none HE.out B2.out
      have HE : Hid (heldS z = some (D, h.drop 8, t)) := by
        show _ = _
        rw [heldS, HR.out]
        simp only
        rw [if_neg (by have := HN.out; omega), if_neg (by rw [HD.out]; omega), HD.out]
      obtain ⟨X, hX⟩ : ∃ X, (if k = 8 then some (⟨bx, ox, none⟩ : Addr) else some ⟨bx, ox + 8, none⟩) = X := ⟨_, rfl⟩
      obtain ⟨Y, hY⟩ : ∃ Y, (if lc = 1 then some (⟨b, off, none⟩ : Addr) else some ⟨b, off + 1, none⟩) = Y := ⟨_, rfl⟩
      have SX : Hid (SlB w2 w.heap.size X (N - 8) (k - 8) (h.drop 8)) := by
        have := HX2.out.cut 8 (by omega)
        rw [← hX]
        show SlB _ _ _ _ _ _
        simpa [Addr.add_flat] using this
      have SY : Hid (RowsB w2 w.heap.size Y m (lc - 1) t) := by
        have := HB2.out.tail
        rw [← hY]
        show RowsB _ _ _ _ _ _
        simpa [Addr.add_flat] using this
      have j1 : (1 : Int) ≤ lc := by omega
      have j2 : (1 : Int) ≤ (m : Int) + 1 := by omega
      go_wp2
      go_quiet (fail)
      go_wp2
      refine bodyPost_ret (results_tmp4 rfl _ _ _) rfl ?_
      exact heldEnd_some (w' := w2.drewN nq) HE.out ⟨B2.out.os, B2.out.tape, B2.out.output, B2.out.size, B2.out.block⟩ (SX.out.below ⟨rfl, rfl, rfl, Nat.le_refl _, fun _ _ => rfl⟩) (SY.out.below ⟨rfl, rfl, rfl, Nat.le_refl _, fun _ _ => rfl⟩)

theorem lookEnd_of {w w' : World} {s s' : Seen} {e : Ending} (h : s = s') (k : LookEnd w s' e w') : LookEnd w s e w' := by rw [h]; exact k

set_option maxHeartbeats 4000000 in
theorem ref_look (b : Nat) (w : World) (S : Nat → Prop) (d : D) (h : RDeck w S b d) :
    Calls Try.prog 41 #[.pointer (some ⟨b, 0, none⟩)] w (LookEnd w d.look) := by
  have H : Hid (RDeck w S b d) := h
  have A := ref_held b w S d h 0 (.inl rfl)
  rw [D.read_zero] at A
  obtain ⟨r0, hr0⟩ : ∃ r, heldS d.z0 = r := ⟨_, rfl⟩
  obtain ⟨r1, hr1⟩ : ∃ r, heldS d.z1 = r := ⟨_, rfl⟩
  rw [hr0] at A
  have HE : Hid (d.look = seenS r0 r1) := by
    show _ = _
    rw [D.look, hr0, hr1]
  have HR1 : Hid (heldS (d.read 1) = r1) := by
    show _ = _
    rw [D.read_one]
    exact hr1
  clear h hr0 hr1
  go_enter Try.func41, Try.ntmps41
  go_wp2_with fail
  go_at_call 49
  refine A.mono ?_
  rintro e w1 ⟨b1, h1⟩
  have B := ref_held b w1 S d (H.out.below b1) 1 (.inr rfl)
  rw [HR1.out] at B
  have B1 : Hid (Below w.heap.size w w1) := b1
  clear A b1
  rcases r0 with _ | ⟨ga, x, la⟩
  · simp only at h1
    subst h1
    go_wp2_with fail
    go_at_call 49
    refine B.mono ?_
    rintro e w2 ⟨b2, h2⟩
    have B2 : Hid (Below w.heap.size w w2) := B1.out.trans (b2.mono B1.out.size)
    clear B
    rcases r1 with _ | ⟨gb, y, lb⟩
    · simp only at h2
      subst h2
      go_wp2
      refine bodyPost_ret (results_tmp5 rfl _ _ _) rfl ?_
      exact lookEnd_of HE.out ⟨none, 0, none, 0, rfl, SlB.nil _ _, RowsB.nil _ _, B2.out⟩
    · simp only at h2
      obtain ⟨a1, c1, a2, c2, rfl, s2, t2⟩ := h2
      have S2 : Hid (SlB w2 w.heap.size a1 y.length c1 y ∧ RowsB w2 w.heap.size a2 lb.length c2 lb) := ⟨s2.base B1.out.size, t2.base B1.out.size⟩
      clear s2 t2
      go_wp2
      refine bodyPost_ret (results_tmp5 rfl _ _ _) rfl ?_
      exact lookEnd_of HE.out ⟨a1, c1, a2, c2, rfl, S2.out.1, S2.out.2, B2.out⟩
  · simp only at h1
    obtain ⟨a1, c1, a2, c2, rfl, s1, t1⟩ := h1
    have S1 : Hid (SlB w1 w.heap.size a1 x.length c1 x ∧ RowsB w1 w.heap.size a2 la.length c2 la) := ⟨s1, t1⟩
    clear s1 t1
    go_wp2_with fail
    go_at_call 49
    refine B.mono ?_
    rintro e w2 ⟨b2, h2⟩
    have B2 : Hid (Below w.heap.size w w2) := B1.out.trans (b2.mono B1.out.size)
    have S2 : Hid (SlB w2 w.heap.size a1 x.length c1 x ∧ RowsB w2 w.heap.size a2 la.length c2 la) := ⟨S1.out.1.below b2, S1.out.2.below b2⟩
    clear B b2 S1
    rcases r1 with _ | ⟨gb, y, lb⟩
    · simp only at h2
      subst h2
      go_wp2
      refine bodyPost_ret (results_tmp5 rfl _ _ _) rfl ?_
      exact lookEnd_of HE.out ⟨a1, c1, a2, c2, rfl, S2.out.1, S2.out.2, B2.out⟩
    · simp only at h2
      obtain ⟨e1, f1, e2, f2, rfl, s3, t3⟩ := h2
      have S3 : Hid (SlB w2 w.heap.size e1 y.length f1 y ∧ RowsB w2 w.heap.size e2 lb.length f2 lb) := ⟨s3.base B1.out.size, t3.base B1.out.size⟩
      clear s3 t3
      by_cases hab : ga < gb
      · have HE2 : Hid (d.look = ⟨gb, 1, y, lb, true⟩) := by
          show _ = _
          rw [HE.out]
          simp [seenS, hab]
        go_wp2
        refine bodyPost_ret (results_tmp5 rfl _ _ _) rfl ?_
        exact lookEnd_of HE2.out ⟨e1, f1, e2, f2, rfl, S3.out.1, S3.out.2, B2.out⟩
      · have HE2 : Hid (d.look = ⟨ga, 0, x, la, true⟩) := by
          show _ = _
          rw [HE.out]
          simp [seenS, hab]
        go_wp2
        refine bodyPost_ret (results_tmp5 rfl _ _ _) rfl ?_
        exact lookEnd_of HE2.out ⟨a1, c1, a2, c2, rfl, S2.out.1, S2.out.2, B2.out⟩

end Go.Proofs.Ytdecdjjknbbolaa
