/-
  log: begin, Add, Save, Open.
-/
import Derived.Test.YtdecdjjknbbolaaLogMeth
import Derived.Deep.RegionHeld
namespace Go.Proofs.Ytdecdjjknbbolaa
open Go.RowKit
set_option linter.unusedVariables false
set_option linter.unusedSimpArgs false

/-- What a call that saves leaves. -/
def SaveEnd (w : World) (S : Nat → Prop) (b l : Nat) (r : Int × D) (g g' : Lg) (e : Ending) (w' : World) : Prop :=
  e = .returned (.int .i64 r.1) ∧ Kept w' (fun j => S j ∨ w.heap.size ≤ j) b l r.2 (if r.1 = 0 then g' else g) ∧ Only S w w'

theorem saveEnd_no {w w' : World} {S : Nat → Prop} {b l : Nat} {r : Int × D} {g g' : Lg} {q : Int} {d : D} (h : r = (q, d)) (hq : q ≠ 0) (k : Kept w' (fun j => S j ∨ w.heap.size ≤ j) b l d g) (o : Only S w w') : SaveEnd w S b l r g g' (.returned (.int .i64 q)) w' := by
  subst h
  exact ⟨rfl, by rw [if_neg hq]; exact k, o⟩
theorem saveEnd_ok {w w' : World} {S : Nat → Prop} {b l : Nat} {r : Int × D} {g g' : Lg} {d : D} (h : r = (0, d)) (k : Kept w' (fun j => S j ∨ w.heap.size ≤ j) b l d g') (o : Only S w w') : SaveEnd w S b l r g g' (.returned (.int .i64 0)) w' := by
  subst h
  exact ⟨rfl, by rw [if_pos rfl]; exact k, o⟩

theorem snapS_bs {gen : Int} {snap : List Int} (h : Bs snap) (hl : snap.length + 8 ≤ 60000) : Bs (snapS gen snap) :=
  recS_bs' (Bs.append (enc_wf gen) h) (by rw [List.length_append, enc_length]; omega)

set_option maxRecDepth 100000 in
set_option maxHeartbeats 4000000 in
theorem log_begin' (b l : Nat) (w : World) (S : Nat → Prop) (d : D) (g : Lg) (h : Kept w S b l d g) (hSb : ∀ k, S k → k < w.heap.size) (gen side : Int) (hgen : IntKind.i64.wrap gen = gen) (a : Option Addr) (n c : Nat) (snap : List Int) (hS : Sl .u8 w a n snap) (hn : a = none → c = 0)
    (hm : n ≤ 1000000) (ho : d.ops ≤ 4611686018427380000) :
    Calls Try.prog 29 #[.pointer (some ⟨l, 0, none⟩), .int .i64 gen, .int .i64 side, .slice a n c] w (SaveEnd w S b l (d.save gen side snap) g ⟨gen, side, 0, false⟩) := by
  obtain ⟨i0, hi, hz0, hz1, hz2⟩ := info_parts infoU8
  have hb := h.block
  have H : Hid (Kept w S b l d g ∧ Sl .u8 w a n snap ∧ (a = none → c = 0) ∧ n = snap.length) := ⟨h, hS, hn, hS.1⟩
  have L1 : Hid (Sl .i64 (w.alloc (.cells #[.int .i64 gen] 2)) (some ⟨w.heap.size, 0, none⟩) 1 [gen]) := Sl.new .i64 w 2 (0, 0) [gen] (by intro x hx; simp at hx; rw [hx]; exact hgen)
  have P := put_any (some ⟨w.heap.size, 0, none⟩) 1 1 [gen] _ L1.out (by decide)
  have e8 : (encs [gen]).length = 8 := by rw [encs_one, enc_length]
  have EO : Hid (encs [gen] = enc gen) := encs_one gen
  clear h hS hn hgen L1
  go_enter Try.func29, Try.ntmps29
  go_wp2_with fail
  go_at_call 43
  refine P.mono ?_
  rintro e w1 ⟨g1, cap1, rfl, o1, b1⟩
  rw [e8] at o1 ⊢
  have B1 : Hid (Below w.heap.size w w1) := ((Below.refl w.heap.size w).alloc (Nat.le_refl _) _).trans (b1.mono (by simp))
  have O1 : Hid (w1.ownsRow w.heap.size 5 1 (.slice (some ⟨g1, 0, none⟩) 8 cap1) 8 ((enc gen).map (Value.int .u8))) := by
    show World.ownsRow _ _ _ _ _ _ _
    rw [← EO.out]
    exact own_base o1 (by simp)
  clear P b1 o1 e8 EO
  go_wp2_with (at_builtin; refine wpList_append_sl rfl _ _ 26 rfl w.heap.size 5 i0 _ 1 Try.underlying26 hi hz0 hz1 hz2 rfl _ 8 _ rfl O1.out .u8 a n c snap rfl (H.out.2.1.below B1.out) H.out.2.2.1 (by unfold maxLen; omega) (by omega) B1.out.size ?_)
  intro v2 w2 o2 g2 _
  have B2 : Hid (Below w.heap.size w w2) := B1.out.grown g2 B1.out.size (fun k hk => (O1.out.lt k hk).1)
  obtain ⟨x2, c2, rfl⟩ := own_form o2
  have S2 : Hid (SlB w2 w.heap.size x2 (8 + n) c2 (enc gen ++ snap)) := by
    refine SlB.own ?_ (Bs.append (enc_wf gen) H.out.2.1.2.1)
    rw [List.map_append]
    exact o2
  have H2 : Hid (Kept w2 S b l d g) := H.out.1.below (B2.out)
  clear o2 g2 O1 B1
  obtain ⟨N, hN⟩ : ∃ N, 8 + n = N := ⟨_, rfl⟩
  rw [hN] at S2 ⊢
  have HN : Hid (8 + n = N ∧ n = snap.length) := ⟨hN, H.out.2.2.2⟩
  have hN1 : N ≤ 1000008 := by omega
  clear hN H
  by_cases hbig : 60000 < N
  · have R := rec_put_no x2 N c2 w2 hbig (by omega)
    have HE : Hid (d.save gen side snap = (10, d)) := by
      show _ = _
      unfold D.save
      rw [if_pos (.inl (by have := HN.out; omega))]
    go_wp2_with fail
    go_at_call 31
    refine R.mono ?_
    rintro e w3 ⟨rfl, hw⟩
    obtain rfl := hw.symm
    by_cases hg : 4611686018427387904 < gen
    · go_wp2
      go_ret
      exact saveEnd_no HE.out (by decide) (H2.out.more _) (Below.onlyS B2.out S)
    · go_wp2
      go_ret
      exact saveEnd_no HE.out (by decide) (H2.out.more _) (Below.onlyS B2.out S)
  have R := rec_put x2 N c2 (enc gen ++ snap) w2 S2.out.sl S2.out.nn (by omega)
  go_wp2_with fail
  go_at_call 31
  refine R.mono ?_
  rintro e w3 ⟨v3, rfl, o3, b3⟩
  obtain ⟨x3, c3, rfl⟩ := own_form o3
  have S3 : Hid (SlB w3 w.heap.size x3 (N + 2) c3 (snapS gen snap)) := by
    refine (SlB.own o3 (snapS_bs ?_ (by have := HN.out; omega))).base B2.out.size
    exact fun z hz => S2.out.sl.2.1 z (by simp [hz])
  have B3 : Hid (Below w.heap.size w w3) := B2.out.trans (b3.mono B2.out.size)
  have H3 : Hid (Kept w3 S b l d g) := H2.out.below b3
  clear R o3 b3 H2 S2 B2
  by_cases hg : 4611686018427387904 < gen
  · have HE : Hid (d.save gen side snap = (10, d)) := by
      show _ = _
      unfold D.save
      rw [if_pos (.inr (.inr hg))]
    go_wp2
    go_ret
    exact saveEnd_no HE.out (by decide) (H3.out.more _) (Below.onlyS B3.out S)
  obtain ⟨⟨k0, k1, k2, k3, k4⟩, fz⟩ := H3.out.at'.five
  have RM := deck_room b w3 _ d H3.out.deck
  go_wp2_with fail
  go_at_call 44
  refine RM.mono ?_
  rintro e w4 ⟨rfl, hw⟩
  obtain rfl := hw.symm
  by_cases hrm : d.room < (N : Int) + 2
  · have HE : Hid (d.save gen side snap = (10, d)) := by
      show _ = _
      unfold D.save
      rw [if_pos (.inr (.inl (by have := HN.out; omega)))]
    go_wp2
    go_ret
    exact saveEnd_no HE.out (by decide) (H3.out.more _) (Below.onlyS B3.out S)
  have WP := deck_wipe b w3 _ d H3.out.deck side (by omega)
  obtain ⟨r, hr⟩ : ∃ r, d.wipe side = r := ⟨_, rfl⟩
  have hop := wipe_ops d side
  rw [hr] at WP hop
  obtain ⟨q, d1⟩ := r
  have HE1 : Hid (d.save gen side snap = if q ≠ 0 then (q, d1) else d1.put side (snapS gen snap)) := by
    show _ = _
    unfold D.save
    rw [if_neg (by have := HN.out; omega), hr]
  have HS : Hid (∀ k, S k → k < w.heap.size) := hSb
  clear hr RM hSb
  go_wp2_with fail
  go_at_call 45
  refine WP.mono ?_
  rintro e w4 ⟨rfl, kk4, o4⟩
  have K4 : Hid (Kept w4 (fun j => S j ∨ w3.heap.size ≤ j) b l d1 g ∧ Only S w3 w4) := H3.out.step (kk4.mono (fun j _ hs => .inl hs)) o4
  have S4 : Hid (SlB w4 w.heap.size x3 (N + 2) c3 (snapS gen snap)) := S3.out.only K4.out.2 HS.out
  clear WP kk4 o4 k0 k1 k2 k3 k4 fz H3 S3
  simp only at hop ⊢
  by_cases hq : q = 0
  · subst hq
    have WR := log_write b l w4 _ d1 g K4.out.1 side x3 (N + 2) c3 (snapS gen snap) S4.out.sl S4.out.nn (fun _ x hx => by have := S4.out.at' x hx; omega) (by omega) (by omega)
    obtain ⟨r2, hr2⟩ : ∃ r, d1.put side (snapS gen snap) = r := ⟨_, rfl⟩
    obtain ⟨q2, d2⟩ := r2
    rw [hr2] at WR
    have HE2 : Hid (d.save gen side snap = (q2, d2)) := by
      show _ = _
      rw [HE1.out, hr2]
      simp
    clear hr2 HE1
    go_wp2_with fail
    go_at_call 32
    refine WR.mono ?_
    rintro e w5 ⟨rfl, k5, o5⟩
    have K5 : Hid (Kept w5 (fun j => S j ∨ w.heap.size ≤ j) b l d2 g) := by
      refine k5.mono (fun j _ hs => ?_)
      have h1 := B3.out.size
      have h2 := K4.out.2.size
      rcases hs with (hs | hs) | hs
      · exact .inl hs
      · exact .inr (by omega)
      · exact .inr (by omega)
    have O5 : Hid (Only S w w5) := (Below.onlyS B3.out S).trans (K4.out.2.news o5)
    clear WR k5 o5 K4 S4
    simp only
    by_cases hq2 : q2 = 0
    · subst hq2
      obtain ⟨⟨k0, k1, k2, k3, k4⟩, fz⟩ := K5.out.at'.five
      go_wp2
      go_ret
      have T : LgAt ((((w5.setCell ⟨l, 1, none⟩ (.int .i64 gen)).setCell ⟨l, 2, none⟩ (.int .i64 side)).setCell ⟨l, 3, none⟩ (.int .i64 0)).setCell ⟨l, 4, none⟩ (.bool false)) l b ⟨gen, side, 0, false⟩ :=
        heap_setCell_same _ l 4 _ _ _ (heap_setCell_same _ l 3 _ _ _ (heap_setCell_same _ l 2 _ _ _ (heap_setCell_same _ l 1 _ _ _ K5.out.at')))
      have o6 : Only (· = l) w5 ((((w5.setCell ⟨l, 1, none⟩ (.int .i64 gen)).setCell ⟨l, 2, none⟩ (.int .i64 side)).setCell ⟨l, 3, none⟩ (.int .i64 0)).setCell ⟨l, 4, none⟩ (.bool false)) :=
        ((((Only.refl (· = l) w5).setCell (p := ⟨l, 1, none⟩) rfl _).setCell (p := ⟨l, 2, none⟩) rfl _).setCell (p := ⟨l, 3, none⟩) rfl _).setCell (p := ⟨l, 4, none⟩) rfl _
      have K6 := K5.out.turn T o6
      exact saveEnd_ok HE2.out K6.1 (O5.out.news K6.2)
    · go_wp2
      go_ret
      exact saveEnd_no HE2.out hq2 K5.out O5.out
  · have HE2 : Hid (d.save gen side snap = (q, d1)) := by
      show _ = _
      rw [HE1.out, if_pos hq]
    go_wp2
    go_ret
    refine saveEnd_no HE2.out hq (K4.out.1.mono (fun j _ hs => ?_)) ((Below.onlyS B3.out S).trans K4.out.2)
    have h1 := B3.out.size
    rcases hs with hs | hs
    · exact .inl hs
    · exact .inr (by omega)

/-- What lies in S, and is there. -/
theorem Kept.low {w : World} {S : Nat → Prop} {b l : Nat} {d : D} {g : Lg} (h : Kept w S b l d g) : Kept w (fun k => S k ∧ k < w.heap.size) b l d g := h.mono (fun k hk hs => ⟨hs, hk⟩)

theorem log_begin (b l : Nat) (w : World) (S : Nat → Prop) (d : D) (g : Lg) (h : Kept w S b l d g) (gen side : Int) (hgen : IntKind.i64.wrap gen = gen) (a : Option Addr) (n c : Nat) (snap : List Int) (hS : Sl .u8 w a n snap) (hn : a = none → c = 0)
    (hm : n ≤ 1000000) (ho : d.ops ≤ 4611686018427380000) :
    Calls Try.prog 29 #[.pointer (some ⟨l, 0, none⟩), .int .i64 gen, .int .i64 side, .slice a n c] w (SaveEnd w S b l (d.save gen side snap) g ⟨gen, side, 0, false⟩) := by
  refine (log_begin' b l w _ d g h.low (fun k hk => hk.2) gen side hgen a n c snap hS hn hm ho).mono ?_
  rintro e w' ⟨rfl, k, o⟩
  refine ⟨rfl, k.mono (fun j _ hs => ?_), o.mono (fun j _ hs => hs.1)⟩
  rcases hs with hs | hs
  · exact .inl hs.1
  · exact .inr hs

end Go.Proofs.Ytdecdjjknbbolaa
