/-
  log: Add, Save, Open.
-/
import Derived.Test.YtdecdjjknbbolaaLogBegin
namespace Go.Proofs.Ytdecdjjknbbolaa
open Go.RowKit
set_option linter.unusedVariables false
set_option linter.unusedSimpArgs false

/-- What Add and Save leave. -/
def LogEnd (w : World) (S : Nat → Prop) (b l : Nat) (r : Int × D × Lg) (e : Ending) (w' : World) : Prop :=
  e = .returned (.int .i64 r.1) ∧ Kept w' (fun j => S j ∨ w.heap.size ≤ j) b l r.2.1 r.2.2 ∧ Only S w w'

theorem logEnd {w w' : World} {S : Nat → Prop} {b l : Nat} {r : Int × D × Lg} {q : Int} {d : D} {g : Lg} (h : r = (q, d, g)) (k : Kept w' (fun j => S j ∨ w.heap.size ≤ j) b l d g) (o : Only S w w') : LogEnd w S b l r (.returned (.int .i64 q)) w' := by
  subst h
  exact ⟨rfl, k, o⟩

set_option maxRecDepth 100000 in
set_option maxHeartbeats 4000000 in
theorem log_add (b l : Nat) (w : World) (S : Nat → Prop) (d : D) (g : Lg) (h : Kept w S b l d g) (a : Option Addr) (n c : Nat) (row : List Int) (hS : Sl .u8 w a n row) (hn : a = none → c = 0)
    (hm : n ≤ 900000) (ho : d.ops ≤ 4611686018427380000) (hgn : g.n ≤ 4611686018427387904) :
    Calls Try.prog 10 #[.pointer (some ⟨l, 0, none⟩), .slice a n c] w (LogEnd w S b l (d.add g row)) := by
  have G := gone_no l b w g h.at'
  have hb := h.block
  have H : Hid (Kept w S b l d g ∧ n = row.length) := ⟨h, hS.1⟩
  obtain ⟨gg, gs, gn, gt⟩ := g
  simp only at hgn
  go_enter Try.func10, Try.ntmps10
  go_wp2_with fail
  go_at_call 30
  refine G.mono ?_
  rintro e w1 ⟨rfl, hw⟩
  obtain rfl := hw.symm
  clear G
  by_cases hbig : 60000 < n
  · have R := rec_put_no a n c w hbig (by omega)
    have HE : Hid (d.add ⟨gg, gs, gn, gt⟩ row = (10, d, ⟨gg, gs, gn, gt⟩)) := by
      show _ = _
      unfold D.add
      rw [if_pos (.inr (by have := H.out.2; omega))]
    obtain ⟨⟨k0, k1, k2, k3, k4⟩, fz⟩ := h.at'.five
    clear h hS
    go_wp2_with fail
    go_at_call 31
    refine R.mono ?_
    rintro e w3 ⟨rfl, hw⟩
    obtain rfl := hw.symm
    cases gt <;> (go_wp2; go_ret; exact logEnd HE.out (H.out.1.more _) (Only.refl _ _))
  have R := rec_put a n c row w hS hn (by omega)
  have HB : Hid (Bs row) := hS.2.1
  clear h hS hn
  go_wp2_with fail
  go_at_call 31
  refine R.mono ?_
  rintro e w3 ⟨v3, rfl, o3, b3⟩
  obtain ⟨x3, c3, rfl⟩ := own_form o3
  have S3 : Hid (SlB w3 w.heap.size x3 (n + 2) c3 (recS row)) := SlB.own o3 (recS_bs' HB.out (by have := H.out.2; omega))
  have H3 : Hid (Kept w3 S b l d ⟨gg, gs, gn, gt⟩ ∧ Below w.heap.size w w3) := ⟨H.out.1.below b3, b3⟩
  have HN : Hid (n = row.length) := H.out.2
  obtain ⟨⟨k0, k1, k2, k3, k4⟩, fz⟩ := H3.out.1.at'.five
  clear R o3 b3 H
  cases gt
  case true =>
    have HE : Hid (d.add ⟨gg, gs, gn, true⟩ row = (10, d, ⟨gg, gs, gn, true⟩)) := by
      show _ = _
      unfold D.add
      rw [if_pos (.inl rfl)]
    go_wp2
    go_ret
    exact logEnd HE.out (H3.out.1.more _) (Below.onlyS H3.out.2 S)
  case false =>
    have WR := log_write b l w3 S d _ H3.out.1 gs x3 (n + 2) c3 (recS row) S3.out.sl S3.out.nn (fun _ x hx => by have := S3.out.at' x hx; omega) (by omega) (by omega)
    obtain ⟨r, hr⟩ : ∃ r, d.put gs (recS row) = r := ⟨_, rfl⟩
    obtain ⟨q, d1⟩ := r
    rw [hr] at WR
    have HE : Hid (d.add ⟨gg, gs, gn, false⟩ row = if q = 0 then (0, d1, ⟨gg, gs, gn + 1, false⟩) else (if q = 3 then 10 else q, d1, ⟨gg, gs, gn, false⟩)) := by
      show _ = _
      unfold D.add
      rw [if_neg (by have := HN.out; simp; omega), hr]
    clear hr
    go_wp2_with fail
    go_at_call 32
    refine WR.mono ?_
    rintro e w4 ⟨rfl, kk, oo⟩
    have K4 : Hid (Kept w4 (fun j => S j ∨ w.heap.size ≤ j) b l d1 ⟨gg, gs, gn, false⟩) := by
      refine kk.mono (fun j _ hs => ?_)
      have := H3.out.2.size
      rcases hs with hs | hs
      · exact .inl hs
      · exact .inr (by omega)
    have O4 : Hid (Only S w w4) := (Below.onlyS H3.out.2 S).trans oo
    clear WR kk oo k0 k1 k2 k3 k4 fz H3 S3
    simp only
    by_cases q3 : q = 3
    · subst q3
      have HE2 : Hid (d.add ⟨gg, gs, gn, false⟩ row = (10, d1, ⟨gg, gs, gn, false⟩)) := by
        show _ = _
        rw [HE.out]
        simp
      go_wp2
      go_ret
      exact logEnd HE2.out K4.out O4.out
    by_cases q0 : q = 0
    · subst q0
      have HE2 : Hid (d.add ⟨gg, gs, gn, false⟩ row = (0, d1, ⟨gg, gs, gn + 1, false⟩)) := by
        show _ = _
        rw [HE.out]
        simp
      obtain ⟨⟨k0, k1, k2, k3, k4⟩, fz⟩ := K4.out.at'.five
      have j1 : IntKind.i64.wrap ((gn : Int) + 1) = (gn : Int) + 1 := i64_wf (by omega) (by omega)
      go_wp2
      go_ret
      have T : LgAt (w4.setCell ⟨l, 3, none⟩ (.int .i64 ((gn : Int) + 1))) l b ⟨gg, gs, gn + 1, false⟩ := heap_setCell_same _ l 3 _ _ _ K4.out.at'
      have o6 : Only (· = l) w4 (w4.setCell ⟨l, 3, none⟩ (.int .i64 ((gn : Int) + 1))) := (Only.refl (· = l) w4).setCell (p := ⟨l, 3, none⟩) rfl _
      have K6 := K4.out.turn T o6
      exact logEnd HE2.out K6.1 (O4.out.news K6.2)
    · have HE2 : Hid (d.add ⟨gg, gs, gn, false⟩ row = (q, d1, ⟨gg, gs, gn, false⟩)) := by
        show _ = _
        rw [HE.out, if_neg q0, if_neg q3]
      go_wp2
      go_ret
      exact logEnd HE2.out K4.out O4.out

theorem logEnd_save {w w' : World} {S : Nat → Prop} {b l : Nat} {d : D} {g : Lg} {snap : List Int} {e : Ending} (h : SaveEnd w S b l (d.save (g.gen + 1) (1 - g.side) snap) g ⟨g.gen + 1, 1 - g.side, 0, false⟩ e w') : LogEnd w S b l (d.resave g snap) e w' := by
  obtain ⟨h1, h2, h3⟩ := h
  unfold LogEnd D.resave
  split
  · rename_i hq
    rw [if_pos hq] at h2
    rw [hq] at h1
    exact ⟨h1, h2, h3⟩
  · rename_i hq
    rw [if_neg hq] at h2
    exact ⟨h1, h2, h3⟩

set_option maxHeartbeats 4000000 in
theorem log_save (b l : Nat) (w : World) (S : Nat → Prop) (d : D) (g : Lg) (h : Kept w S b l d g) (a : Option Addr) (n c : Nat) (snap : List Int) (hS : Sl .u8 w a n snap) (hn : a = none → c = 0)
    (hm : n ≤ 900000) (ho : d.ops ≤ 4611686018427380000) (g1 : 0 ≤ g.gen) (g2 : g.gen ≤ 4611686018427387904) (gs : g.side = 0 ∨ g.side = 1) :
    Calls Try.prog 11 #[.pointer (some ⟨l, 0, none⟩), .slice a n c] w (LogEnd w S b l (d.resave g snap)) := by
  have G := gone_no l b w g h.at'
  obtain ⟨⟨k0, k1, k2, k3, k4⟩, fz⟩ := h.at'.five
  have kd : Below w.heap.size w w.drew := (Below.refl _ _).drew
  have B := log_begin b l w.drew S d g (h.below kd) (g.gen + 1) (1 - g.side) (i64_wf (by omega) (by omega)) a n c snap (hS.below kd) hn (by omega) (by omega)
  have HE : Hid (∀ e w', SaveEnd w.drew S b l (d.save (g.gen + 1) (1 - g.side) snap) g ⟨g.gen + 1, 1 - g.side, 0, false⟩ e w' → LogEnd w S b l (d.resave g snap) e w') := fun e w' hh => by
    have := logEnd_save hh
    exact ⟨this.1, this.2.1, Only.trans (Below.onlyS kd S) this.2.2⟩
  obtain ⟨gg, hgg⟩ : ∃ x, g.gen = x := ⟨_, rfl⟩
  obtain ⟨sd, hsd⟩ : ∃ x, g.side = x := ⟨_, rfl⟩
  rw [hgg] at B HE k1 g1 g2
  rw [hsd] at B HE k2 gs
  have j1 : IntKind.i64.wrap (gg + 1) = gg + 1 := i64_wf (by omega) (by omega)
  have j2 : IntKind.i64.wrap (1 - sd) = 1 - sd := i64_wf (by omega) (by omega)
  clear h hS hgg hsd kd
  go_enter Try.func11, Try.ntmps11
  go_wp2_with fail
  go_at_call 30
  refine G.mono ?_
  rintro e w1 ⟨rfl, hw⟩
  obtain rfl := hw.symm
  clear G
  go_wp2
  go_region_with (go_at_call 29; refine B.mono ?_; rintro e w2 hh; have HH := HE.out _ _ hh; obtain ⟨rfl, kk, oo⟩ := HH)
  all_goals (try go_wp2)
  all_goals go_ret
  all_goals exact ⟨rfl, kk, oo⟩

end Go.Proofs.Ytdecdjjknbbolaa
