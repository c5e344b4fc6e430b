/-
  log: held, Look.
-/
import Derived.Test.YtdecdjjknbbolaaLogRows
import Derived.Test.YtdecdjjknbbolaaLogKept
import Derived.Test.YtdecdjjknbbolaaRecProg
import Derived.Test.YtdecdjjknbbolaaWordGet
import Derived.Test.YtdecdjjknbbolaaTapeApp
namespace Go.Proofs.Ytdecdjjknbbolaa
open Go.RowKit
set_option linter.unusedVariables false
set_option linter.unusedSimpArgs false

def HeldEnd (w : World) (r : Option (Int × List Int × List (List Int))) (e : Ending) (w' : World) : Prop :=
  Below w.heap.size w w' ∧ match r with
    | none => e = .returned (.tuple #[.int .i64 0, .slice none 0 0, .slice none 0 0, .bool false])
    | some (g, s, R) => ∃ a1 c1 a2 c2, e = .returned (.tuple #[.int .i64 g, .slice a1 s.length c1, .slice a2 R.length c2, .bool true]) ∧ SlB w' w.heap.size a1 s.length c1 s ∧ RowsB w' w.heap.size a2 R.length c2 R

theorem heldEnd_none {w w' : World} {r : Option (Int × List Int × List (List Int))} (h : r = none) (bl : Below w.heap.size w w') : HeldEnd w r (.returned (.tuple #[.int .i64 0, .slice none 0 0, .slice none 0 0, .bool false])) w' := by
  subst h
  exact ⟨bl, rfl⟩
theorem heldEnd_some {w w' : World} {r : Option (Int × List Int × List (List Int))} {g : Int} {s : List Int} {R : List (List Int)} (h : r = some (g, s, R)) (bl : Below w.heap.size w w') {a1 a2 : Option Addr} {n1 c1 n2 c2 : Nat}
    (h1 : SlB w' w.heap.size a1 n1 c1 s) (h2 : RowsB w' w.heap.size a2 n2 c2 R) : HeldEnd w r (.returned (.tuple #[.int .i64 g, .slice a1 n1 c1, .slice a2 n2 c2, .bool true])) w' := by
  subst h
  have e1 := h1.sl.1
  have e2 := h2.len
  subst e1 e2
  exact ⟨bl, a1, c1, a2, c2, rfl, h1, h2⟩

set_option maxHeartbeats 4000000 in
theorem log_held (a : Option Addr) (n c : Nat) (z : List Int) (w : World) (hS : Sl .u8 w a n z) (hc : n ≤ c) (hk : c ≤ 9223372036854775807) (hn : a = none → c = 0) (hr : n ≤ 1000000) :
    Calls Try.prog 34 #[.slice a n c] w (HeldEnd w (heldS z)) := by
  have A := rec_scan a n c z w hS hc hk hn hr
  obtain ⟨r, hr⟩ : ∃ r, scanS z = r := ⟨_, rfl⟩
  obtain ⟨R, rest⟩ := r
  rw [hr] at A
  have HR : Hid (scanS z = (R, rest)) := hr
  clear hr hS
  go_enter Try.func34, Try.ntmps34
  go_wp2_with fail
  go_at_call 46
  refine A.mono ?_
  rintro e w1 ⟨v, vs, rfl, hm, bl⟩
  obtain ⟨la, lc, rfl⟩ := own_form hm.own
  have RB := hm.rowsB
  have BL : Hid (Below w.heap.size w w1) := bl
  clear A hm bl
  rcases R with _ | ⟨h, t⟩
  · have HE : Hid (heldS z = none) := held_none (by rw [HR.out])
    simp only [List.length_nil]
    go_wp2
    refine bodyPost_ret (results_tmp4 rfl _ _ _) rfl ?_
    exact heldEnd_none HE.out BL.out
  · obtain ⟨b, off, x, k, ha, q, hx⟩ := RB.head
    have hlc := RB.mx
    have hlc1 := RB.le
    have hk1 := hx.le
    have hk2 := hx.mx
    have HB : Hid (RowsB w1 w.heap.size la (h :: t).length lc (h :: t)) := RB
    have HX : Hid (SlB w1 w.heap.size x h.length k h) := hx
    obtain ⟨N, hN⟩ : ∃ N, h.length = N := ⟨_, rfl⟩
    have HN : Hid (h.length = N) := hN
    rw [hN] at HX q hk1
    clear RB hx hN
    subst ha
    have hlen : (h :: t).length = t.length + 1 := rfl
    rw [hlen] at hlc1 HB ⊢
    obtain ⟨m, hm⟩ : ∃ m, t.length = m := ⟨_, rfl⟩
    rw [hm] at hlc1 HB ⊢
    clear hlen hm
    have i0 : ((m : Int) + 1 == 0) = false := by simp; omega
    have i0' : ¬ (m : Int) + 1 = 0 := by omega
    have i1 : (0 : Int) < (m : Int) + 1 := by omega
    by_cases h8 : N < 8
    · have i8 : (N : Int) < 8 := by omega
      have HE : Hid (heldS z = none) := by
        show _ = _
        rw [heldS, HR.out]
        simp only
        rw [if_pos (by have := HN.out; omega)]
      go_wp2
      refine bodyPost_ret (results_tmp4 rfl _ _ _) rfl ?_
      exact heldEnd_none HE.out BL.out
    · have i8 : ¬ (N : Int) < 8 := by omega
      have i9 : (8 : Int) ≤ k := by omega
      have i10 : (8 : Int) ≤ N := by omega
      obtain ⟨bx, ox, hx⟩ : ∃ b off, x = some ⟨b, off, none⟩ := by
        rcases HX.out.sl.2.2 with h0 | ⟨b, off, h, _⟩
        · have := HX.out.sl.1; rw [h0] at this; simp at this; omega
        · exact ⟨b, off, h⟩
      subst hx
      have G := get_good (some ⟨bx, ox, none⟩) 8 k 1 (h.take 8) w1 (HX.out.sl.take 8 (by omega)) (by omega) (by omega) hk2 (by omega)
      go_wp2_with fail
      go_at_call 47
      refine G.mono ?_
      rintro e w2 ⟨v, rfl, ho, b2⟩
      have hd : decs 1 (h.take 8) = [dec (h.take 8)] := by simp [decs, List.take_take]
      rw [hd] at ho
      obtain ⟨D, hD⟩ : ∃ D, dec (h.take 8) = D := ⟨_, rfl⟩
      rw [hD] at ho
      have HD : Hid (dec (h.take 8) = D) := hD
      clear hd hD
      rcases ho.2 with ⟨_, h0⟩ | ⟨g, gc, cur, hv, _⟩
      · omega
      subst hv
      have qd : w2.cell? ⟨g, 0, none⟩ = some (.int .i64 D) := ho.cellAt 0 (by omega)
      have q2 : w2.cell? ⟨b, off, none⟩ = some (.slice (some ⟨bx, ox, none⟩) N k) := (b2.cell (p := ⟨b, off, none⟩) (block_lt_of_cell q)).trans q
      have B2 : Hid (Below w.heap.size w w2) := BL.out.trans (b2.mono BL.out.size)
      have HX2 : Hid (SlB w2 w.heap.size (some ⟨bx, ox, none⟩) N k h) := HX.out.below b2
      have HB2 : Hid (RowsB w2 w.heap.size (some ⟨b, off, none⟩) (m + 1) lc (h :: t)) := HB.out.below b2
      clear ho b2 G q HX HB BL
      by_cases d1 : D < 1
      · have HE : Hid (heldS z = none) := by
          show _ = _
          rw [heldS, HR.out]
          simp only
          rw [if_neg (by have := HN.out; omega), if_pos (.inl (by rw [HD.out]; exact d1))]
        go_wp2
        refine bodyPost_ret (results_tmp4 rfl _ _ _) rfl ?_
        exact heldEnd_none HE.out B2.out
      by_cases d2 : 4611686018427387904 < D
      · have HE : Hid (heldS z = none) := by
          show _ = _
          rw [heldS, HR.out]
          simp only
          rw [if_neg (by have := HN.out; omega), if_pos (.inr (by rw [HD.out]; exact d2))]
        go_wp2
        refine bodyPost_ret (results_tmp4 rfl _ _ _) rfl ?_
        exact heldEnd_none HE.out B2.out
      have HE : Hid (heldS z = some (D, h.drop 8, t)) := by
        show _ = _
        rw [heldS, HR.out]
        simp only
        rw [if_neg (by have := HN.out; omega), if_neg (by rw [HD.out]; omega), HD.out]
      obtain ⟨X, hX⟩ : ∃ X, (if k = 8 then some (⟨bx, ox, none⟩ : Addr) else some ⟨bx, ox + 8, none⟩) = X := ⟨_, rfl⟩
      obtain ⟨Y, hY⟩ : ∃ Y, (if lc = 1 then some (⟨b, off, none⟩ : Addr) else some ⟨b, off + 1, none⟩) = Y := ⟨_, rfl⟩
      have SX : Hid (SlB w2 w.heap.size X (N - 8) (k - 8) (h.drop 8)) := by
        have := HX2.out.cut 8 (by omega)
        rw [← hX]
        show SlB _ _ _ _ _ _
        simpa [Addr.add_flat] using this
      have SY : Hid (RowsB w2 w.heap.size Y m (lc - 1) t) := by
        have := HB2.out.tail
        rw [← hY]
        show RowsB _ _ _ _ _ _
        simpa [Addr.add_flat] using this
      have j1 : (1 : Int) ≤ lc := by omega
      have j2 : (1 : Int) ≤ (m : Int) + 1 := by omega
      go_wp2
      go_quiet (fail)
      go_wp2
      refine bodyPost_ret (results_tmp4 rfl _ _ _) rfl ?_
      exact heldEnd_some (w' := w2.drewN nq) HE.out ⟨B2.out.os, B2.out.tape, B2.out.output, B2.out.size, B2.out.block⟩ (SX.out.below ⟨rfl, rfl, rfl, Nat.le_refl _, fun _ _ => rfl⟩) (SY.out.below ⟨rfl, rfl, rfl, Nat.le_refl _, fun _ _ => rfl⟩)

/-- What the first k sides tell. -/
def D.lookTo (d : D) (k : Nat) : Seen := if k = 0 then ⟨0, 0, [], [], false⟩ else if k = 1 then seenS (heldS d.z0) none else d.look

theorem heldS_pos {z : List Int} {g : Int} {s : List Int} {R : List (List Int)} (h : heldS z = some (g, s, R)) : 1 ≤ g ∧ g ≤ 4611686018427387904 := by
  unfold heldS at h
  split at h
  · simp at h
  · split at h
    · simp at h
    · split at h
      · simp at h
      · simp at h
        omega

theorem lookTo_none (d : D) (k : Nat) (hk : k < 2) (h : heldS (d.read k) = none) : d.lookTo (k + 1) = d.lookTo k := by
  rcases (show k = 0 ∨ k = 1 by omega) with rfl | rfl
  · rw [show ((0 : Nat) : Int) = 0 from rfl, D.read_zero] at h
    simp [D.lookTo, h, seenS]
  · rw [show ((1 : Nat) : Int) = 1 from rfl, D.read_one] at h
    simp only [D.lookTo, D.look, h]
    cases heldS d.z0 <;> simp [seenS]
theorem lookTo_more (d : D) (k : Nat) (hk : k < 2) (g : Int) (s : List Int) (R : List (List Int)) (h : heldS (d.read k) = some (g, s, R)) (hg : (d.lookTo k).gen < g) : d.lookTo (k + 1) = ⟨g, k, s, R, true⟩ := by
  rcases (show k = 0 ∨ k = 1 by omega) with rfl | rfl
  · rw [show ((0 : Nat) : Int) = 0 from rfl, D.read_zero] at h
    simp [D.lookTo, h, seenS]
  · rw [show ((1 : Nat) : Int) = 1 from rfl, D.read_one] at h
    simp only [D.lookTo, D.look, h] at hg ⊢
    cases h0 : heldS d.z0 with
    | none => simp [seenS]
    | some r =>
      obtain ⟨a, x, l⟩ := r
      rw [h0] at hg
      simp [seenS] at hg ⊢
      omega
theorem lookTo_less (d : D) (k : Nat) (hk : k < 2) (g : Int) (s : List Int) (R : List (List Int)) (h : heldS (d.read k) = some (g, s, R)) (hg : ¬ (d.lookTo k).gen < g) : d.lookTo (k + 1) = d.lookTo k := by
  rcases (show k = 0 ∨ k = 1 by omega) with rfl | rfl
  · have := heldS_pos h
    simp [D.lookTo] at hg
    omega
  · rw [show ((1 : Nat) : Int) = 1 from rfl, D.read_one] at h
    have := heldS_pos h
    simp only [D.lookTo, D.look, h] at hg ⊢
    cases h0 : heldS d.z0 with
    | none =>
      rw [h0] at hg
      simp [seenS] at hg
      omega
    | some r =>
      obtain ⟨a, x, l⟩ := r
      rw [h0] at hg
      simp [seenS] at hg ⊢
      omega
theorem lookTo_two (d : D) : d.lookTo 2 = d.look := by simp [D.lookTo]

/-- What Look answers. -/
def LookEnd (w : World) (s : Seen) (e : Ending) (w' : World) : Prop :=
  ∃ a1 c1 a2 c2, e = .returned (.tuple #[.int .i64 s.gen, .int .i64 s.side, .slice a1 s.snap.length c1, .slice a2 s.rows.length c2, .bool s.ok]) ∧ SlB w' w.heap.size a1 s.snap.length c1 s.snap ∧ RowsB w' w.heap.size a2 s.rows.length c2 s.rows ∧ Below w.heap.size w w'

theorem D.Ok.read {d : D} (h : d.Ok) (side : Int) : (d.read side).length ≤ 200000 ∧ Bs (d.read side) := by
  have h0 := h.l0
  have h1 := h.l1
  have hr := h.r1
  unfold D.read
  split
  · exact ⟨by omega, h.b0⟩
  · split
    · exact ⟨by omega, h.b1⟩
    · exact ⟨by simp, Bs.nil⟩

set_option maxHeartbeats 4000000 in
theorem log_look (b : Nat) (w : World) (S : Nat → Prop) (d : D) (h : Deck w S b d) :
    Calls Try.prog 15 #[.pointer (some ⟨b, 0, none⟩)] w (LookEnd w d.look) := by
  have H : Hid (Deck w S b d) := h
  clear h
  go_enter Try.func15, Try.ntmps15
  go_wp2
  go_loopw [2, 3, 4, 5, 6, 12] (fun vg vs vx vr vo i wr => ∃ (k : Nat) (s : Seen) (a1 : Option Addr) (n1 c1 : Nat) (a2 : Option Addr) (n2 c2 : Nat), i = .int .i64 k ∧ k ≤ 2 ∧ d.lookTo k = s ∧ vg = .int .i64 s.gen ∧ vs = .int .i64 s.side ∧ vx = .slice a1 n1 c1 ∧ vr = .slice a2 n2 c2 ∧ vo = .bool s.ok ∧
    SlB wr w.heap.size a1 n1 c1 s.snap ∧ RowsB wr w.heap.size a2 n2 c2 s.rows ∧ Below w.heap.size w wr) (fun _ _ _ _ _ i _ => (2 - intOf i).toNat)
  case atStart => exact ⟨0, _, none, 0, 0, none, 0, 0, rfl, by omega, rfl, rfl, rfl, rfl, rfl, rfl, SlB.nil _ _, RowsB.nil _ _, Below.refl _ _⟩
  case round =>
    obtain ⟨k, s, a1, n1, c1, a2, n2, c2, rfl, hk, hs, rfl, rfl, rfl, rfl, rfl, h1, h2, bl⟩ := hrel
    obtain ⟨sg, ss, sx, sr, so⟩ := s
    have HI : Hid (d.lookTo k = ⟨sg, ss, sx, sr, so⟩ ∧ SlB wr w.heap.size a1 n1 c1 sx ∧ RowsB wr w.heap.size a2 n2 c2 sr ∧ Below w.heap.size w wr) := ⟨hs, h1, h2, bl⟩
    clear hs h1 h2 bl
    simp only
    by_cases hk2 : k < 2
    · have ki : (k : Int) < 2 := by omega
      have Rd := deck_read b wr S d (H.out.below HI.out.2.2.2) k
      have kj : IntKind.i64.wrap ((k : Int) + 1) = (k : Int) + 1 := i64_wf (by omega) (by omega)
      go_wp2_with fail
      go_at_call 35
      refine Rd.mono ?_
      rintro e w1 ⟨v, rfl, ho, b1⟩
      obtain ⟨ax, cx, rfl⟩ := own_form ho
      have hok := H.out.ok.read (k : Int)
      have hsl := SlB.own ho hok.2
      have G := log_held ax _ cx (d.read k) w1 hsl.sl hsl.le hsl.mx hsl.nn (by omega)
      have B1 : Hid (Below wr.heap.size wr w1) := b1
      obtain ⟨L, hL⟩ : ∃ L, (d.read k).length = L := ⟨_, rfl⟩
      rw [hL] at G ⊢
      obtain ⟨r, hr⟩ : ∃ r, heldS (d.read k) = r := ⟨_, rfl⟩
      rw [hr] at G
      have HR : Hid (heldS (d.read k) = r) := hr
      clear ho hsl b1 Rd hL hr hok
      go_wp2_with fail
      go_at_call 34
      refine G.mono ?_
      rintro e w2 ⟨b2, h2⟩
      have B2 : Hid (Below wr.heap.size wr w2) := B1.out.trans (b2.mono B1.out.size)
      have BW : Hid (Below w.heap.size w w2) := HI.out.2.2.2.trans (B2.out.mono HI.out.2.2.2.size)
      have S1 : Hid (SlB w2 w.heap.size a1 n1 c1 sx) := HI.out.2.1.below B2.out
      have S2 : Hid (RowsB w2 w.heap.size a2 n2 c2 sr) := HI.out.2.2.1.below B2.out
      have HK : Hid (d.lookTo k = ⟨sg, ss, sx, sr, so⟩) := HI.out.1
      have hw1 : Hid (w.heap.size ≤ w1.heap.size) := by
        show _ ≤ _
        have := HI.out.2.2.2.size; have := B1.out.size; omega
      clear G b2 HI B1
      rcases r with _ | ⟨g, x, R⟩
      · simp only at h2
        subst h2
        have HL : Hid (d.lookTo (k + 1) = ⟨sg, ss, sx, sr, so⟩) := (lookTo_none d k hk2 HR.out).trans HK.out
        go_wp2
        go_roundw
        case rel => exact ⟨k + 1, _, a1, n1, c1, a2, n2, c2, by simp, by omega, HL.out, rfl, rfl, rfl, rfl, rfl, S1.out, S2.out, BW.out⟩
        case measure => simp [intOf]; omega
      · simp only at h2
        obtain ⟨y1, d1, y2, d2, rfl, t1, t2⟩ := h2
        have T1 : Hid (SlB w2 w.heap.size y1 x.length d1 x) := t1.base hw1.out
        have T2 : Hid (RowsB w2 w.heap.size y2 R.length d2 R) := t2.base hw1.out
        clear t1 t2
        by_cases hg : sg < g
        · have HL : Hid (d.lookTo (k + 1) = ⟨g, k, x, R, true⟩) := lookTo_more d k hk2 g x R HR.out (by rw [HK.out]; exact hg)
          go_wp2
          go_roundw
          case rel => exact ⟨k + 1, _, y1, _, d1, y2, _, d2, by simp, by omega, HL.out, rfl, rfl, rfl, rfl, rfl, T1.out, T2.out, BW.out⟩
          case measure => simp [intOf]; omega
        · have HL : Hid (d.lookTo (k + 1) = ⟨sg, ss, sx, sr, so⟩) := (lookTo_less d k hk2 g x R HR.out (by rw [HK.out]; exact hg)).trans HK.out
          go_wp2
          go_roundw
          case rel => exact ⟨k + 1, _, a1, n1, c1, a2, n2, c2, by simp, by omega, HL.out, rfl, rfl, rfl, rfl, rfl, S1.out, S2.out, BW.out⟩
          case measure => simp [intOf]; omega
    · have hk3 : k = 2 := by omega
      subst hk3
      have HL : Hid (d.look = ⟨sg, ss, sx, sr, so⟩) := (lookTo_two d).symm.trans HI.out.1
      have e1 := HI.out.2.1.sl.1
      have e2 := HI.out.2.2.1.len
      subst e1 e2
      go_wp2
      refine bodyPost_ret (results_tmp5 rfl _ _ _) rfl ?_
      rw [HL.out]
      exact ⟨a1, c1, a2, c2, rfl, HI.out.2.1, HI.out.2.2.1, HI.out.2.2.2⟩

end Go.Proofs.Ytdecdjjknbbolaa
