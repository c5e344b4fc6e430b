/-
  giroref6: save.
-/
import Derived.Test.YtdecdjjknbbolaaRefLog
import Derived.Test.YtdecdjjknbbolaaRefRec
namespace Go.Proofs.Ytdecdjjknbbolaa
open Go.RowKit
set_option linter.unusedVariables false
set_option linter.unusedSimpArgs false

/-- What a call on the document's deck leaves. -/
def RDeckEnd (w : World) (S : Nat → Prop) (b : Nat) (r : Int × D) (e : Ending) (w' : World) : Prop :=
  e = .returned (.int .i64 r.1) ∧ RDeck w' (fun j => S j ∨ w.heap.size ≤ j) b r.2 ∧ Only S w w'

theorem rdeckEnd {w w' : World} {S : Nat → Prop} {b : Nat} {r : Int × D} {q : Int} {d : D} (h : r = (q, d)) (k : RDeck w' (fun j => S j ∨ w.heap.size ≤ j) b d) (o : Only S w w') : RDeckEnd w S b r (.returned (.int .i64 q)) w' := by
  subst h
  exact ⟨rfl, k, o⟩

set_option maxRecDepth 100000 in
set_option maxHeartbeats 4000000 in
theorem ref_save' (b : Nat) (w : World) (S : Nat → Prop) (d : D) (h : RDeck w S b d) (hSb : ∀ k, S k → k < w.heap.size) (gen side : Int) (hgen : IntKind.i64.wrap gen = gen) (a : Option Addr) (n c : Nat) (snap : List Int) (hS : Sl .u8 w a n snap) (hn : a = none → c = 0)
    (hm : n ≤ 900000) (ho : d.ops ≤ 4611686018427380000) :
    Calls Try.prog 42 #[.pointer (some ⟨b, 0, none⟩), .int .i64 gen, .int .i64 side, .slice a n c] w (RDeckEnd w S b (d.save gen side snap)) := by
  obtain ⟨i0, hi, hz0, hz1, hz2⟩ := info_parts infoU8
  have hb := rdeck_lt h
  have H : Hid (RDeck w S b d ∧ Sl .u8 w a n snap ∧ (a = none → c = 0) ∧ n = snap.length) := ⟨h, hS, hn, hS.1⟩
  have L1 : Hid (Sl .i64 (w.alloc (.cells #[.int .i64 gen] 2)) (some ⟨w.heap.size, 0, none⟩) 1 [gen]) := Sl.new .i64 w 2 (0, 0) [gen] (by intro x hx; simp at hx; rw [hx]; exact hgen)
  have P := refPut_any (some ⟨w.heap.size, 0, none⟩) 1 1 [gen] _ L1.out (by decide)
  have e8 : (encs [gen]).length = 8 := by rw [encs_one, enc_length]
  have EO : Hid (encs [gen] = enc gen) := encs_one gen
  clear h hS hn hgen L1
  go_enter Try.func42, Try.ntmps42
  go_wp2_with fail
  go_at_call 27
  refine P.mono ?_
  rintro e w1 ⟨g1, cap1, rfl, o1, b1⟩
  rw [e8] at o1 ⊢
  have B1 : Hid (Below w.heap.size w w1) := ((Below.refl w.heap.size w).alloc (Nat.le_refl _) _).trans (b1.mono (by simp))
  have O1 : Hid (w1.ownsRow w.heap.size 5 1 (.slice (some ⟨g1, 0, none⟩) 8 cap1) 8 ((enc gen).map (Value.int .u8))) := by
    show World.ownsRow _ _ _ _ _ _ _
    rw [← EO.out]
    exact own_base o1 (by simp)
  clear P b1 o1 e8 EO
  go_wp2_with (at_builtin; refine wpList_append_sl rfl _ _ 26 rfl w.heap.size 5 i0 _ 1 Try.underlying26 hi hz0 hz1 hz2 rfl _ 8 _ rfl O1.out .u8 a n c snap rfl (H.out.2.1.below B1.out) H.out.2.2.1 (by unfold maxLen; omega) (by omega) B1.out.size ?_)
  intro v2 w2 o2 g2 _
  have B2 : Hid (Below w.heap.size w w2) := B1.out.grown g2 B1.out.size (fun k hk => (O1.out.lt k hk).1)
  obtain ⟨x2, c2, rfl⟩ := own_form o2
  have S2 : Hid (SlB w2 w.heap.size x2 (8 + n) c2 (enc gen ++ snap)) := by
    refine SlB.own ?_ (Bs.append (enc_wf gen) H.out.2.1.2.1)
    rw [List.map_append]
    exact o2
  have H2 : Hid (RDeck w2 S b d) := H.out.1.below (B2.out)
  clear o2 g2 O1 B1
  obtain ⟨N, hN⟩ : ∃ N, 8 + n = N := ⟨_, rfl⟩
  rw [hN] at S2 ⊢
  have HN : Hid (8 + n = N ∧ n = snap.length) := ⟨hN, H.out.2.2.2⟩
  have hN1 : N ≤ 1000008 := by omega
  clear hN H
  by_cases hbig : 60000 < N
  · have R := ref_put_no x2 N c2 w2 hbig (by omega)
    have HE : Hid (d.save gen side snap = (10, d)) := by
      show _ = _
      unfold D.save
      rw [if_pos (.inl (by have := HN.out; omega))]
    go_wp2_with fail
    go_at_call 26
    refine R.mono ?_
    rintro e w3 ⟨rfl, hw⟩
    obtain rfl := hw.symm
    go_wp2
    go_ret
    exact rdeckEnd HE.out (H2.out.mono (fun _ _ hs => .inl hs)) (Below.onlyS B2.out S)
  have R := ref_put x2 N c2 (enc gen ++ snap) w2 S2.out.sl S2.out.nn (by omega)
  go_wp2_with fail
  go_at_call 26
  refine R.mono ?_
  rintro e w3 ⟨v3, rfl, o3, b3⟩
  obtain ⟨x3, c3, rfl⟩ := own_form o3
  have S3 : Hid (SlB w3 w.heap.size x3 (N + 2) c3 (snapS gen snap)) := by
    refine (SlB.own o3 (snapS_bs ?_ (by have := HN.out; omega))).base B2.out.size
    exact fun z hz => S2.out.sl.2.1 z (by simp [hz])
  have B3 : Hid (Below w.heap.size w w3) := B2.out.trans (b3.mono B2.out.size)
  have H3 : Hid (RDeck w3 S b d) := H2.out.below b3
  clear R o3 b3 H2 S2 B2
  have RM := ref_room b w3 _ d H3.out
  go_wp2_with fail
  go_at_call 50
  refine RM.mono ?_
  rintro e w4 ⟨rfl, hw⟩
  obtain rfl := hw.symm
  by_cases hrm : d.room < (N : Int) + 2
  · have HE : Hid (d.save gen side snap = (10, d)) := by
      show _ = _
      unfold D.save
      rw [if_pos (.inr (.inl (by have := HN.out; omega)))]
    go_wp2
    go_ret
    exact rdeckEnd HE.out (H3.out.mono (fun _ _ hs => .inl hs)) (Below.onlyS B3.out S)
  by_cases hg : 4611686018427387904 < gen
  · have HE : Hid (d.save gen side snap = (10, d)) := by
      show _ = _
      unfold D.save
      rw [if_pos (.inr (.inr hg))]
    go_wp2
    go_ret
    exact rdeckEnd HE.out (H3.out.mono (fun _ _ hs => .inl hs)) (Below.onlyS B3.out S)
  have WP := ref_wipe b w3 _ d H3.out side (by omega)
  obtain ⟨r, hr⟩ : ∃ r, d.wipe side = r := ⟨_, rfl⟩
  have hop := wipe_ops d side
  rw [hr] at WP hop
  obtain ⟨q, d1⟩ := r
  have HE1 : Hid (d.save gen side snap = if q ≠ 0 then (q, d1) else d1.put side (snapS gen snap)) := by
    show _ = _
    unfold D.save
    rw [if_neg (by have := HN.out; omega), hr]
  have HS : Hid (∀ k, S k → k < w.heap.size) := hSb
  clear hr RM hSb
  go_wp2_with fail
  go_at_call 51
  refine WP.mono ?_
  rintro e w4 ⟨rfl, k4, o4⟩
  have K4 : Hid (RDeck w4 S b d1 ∧ Only S w3 w4) := ⟨k4, o4⟩
  have S4 : Hid (SlB w4 w.heap.size x3 (N + 2) c3 (snapS gen snap)) := S3.out.only K4.out.2 HS.out
  have O4 : Hid (Only S w w4) := (Below.onlyS B3.out S).trans o4
  clear WP k4 o4 H3 S3
  simp only at hop ⊢
  by_cases hq : q = 0
  · subst hq
    have AP := ref_append b w4 S d1 K4.out.1 side x3 (N + 2) c3 (snapS gen snap) S4.out.sl S4.out.nn (fun _ x hx => by have := S4.out.at' x hx; omega) (by omega) (by omega)
    have hop2 := append_ops d1 side (snapS gen snap)
    obtain ⟨r2, hr2⟩ : ∃ r, d1.append side (snapS gen snap) = r := ⟨_, rfl⟩
    obtain ⟨q2, d2⟩ := r2
    rw [hr2] at AP hop2
    have HE2 : Hid (d.save gen side snap = if q2 ≠ 0 then (q2, d2) else d2.sync) := by
      show _ = _
      rw [HE1.out, D.put, hr2]
      simp
    clear hr2 HE1
    go_wp2_with fail
    go_at_call 20
    refine AP.mono ?_
    rintro e w5 ⟨rfl, k5, o5⟩
    have K5 : Hid (RDeck w5 (fun j => S j ∨ w.heap.size ≤ j) b d2) := by
      refine k5.mono (fun j _ hs => ?_)
      have := O4.out.size
      rcases hs with hs | hs
      · exact .inl hs
      · exact .inr (by omega)
    have O5 : Hid (Only S w w5) := O4.out.trans o5
    clear AP k5 o5 K4 S4
    simp only at hop2 ⊢
    by_cases hq2 : q2 = 0
    · subst hq2
      have SY := ref_sync b w5 _ d2 K5.out (by omega)
      obtain ⟨r3, hr3⟩ : ∃ r, d2.sync = r := ⟨_, rfl⟩
      obtain ⟨q3, d3⟩ := r3
      rw [hr3] at SY
      have HE3 : Hid (d.save gen side snap = (q3, d3)) := by
        show _ = _
        rw [HE2.out, hr3]
        simp
      clear hr3
      go_wp2_with fail
      go_at_call 21
      refine SY.mono ?_
      rintro e w6 ⟨rfl, k6, o6⟩
      have K6 : Hid (RDeck w6 (fun j => S j ∨ w.heap.size ≤ j) b d3 ∧ Only S w w6) := ⟨k6, O5.out.news o6⟩
      clear SY k6 o6
      go_wp2
      go_ret
      exact rdeckEnd HE3.out K6.out.1 K6.out.2
    · have HE3 : Hid (d.save gen side snap = (q2, d2)) := by
        show _ = _
        rw [HE2.out, if_pos hq2]
      go_wp2
      go_ret
      exact rdeckEnd HE3.out K5.out O5.out
  · have HE2 : Hid (d.save gen side snap = (q, d1)) := by
      show _ = _
      rw [HE1.out, if_pos hq]
    go_wp2
    go_ret
    exact rdeckEnd HE2.out (K4.out.1.mono (fun _ _ hs => .inl hs)) O4.out

theorem ref_saveD (b : Nat) (w : World) (S : Nat → Prop) (d : D) (h : RDeck w S b d) (gen side : Int) (hgen : IntKind.i64.wrap gen = gen) (a : Option Addr) (n c : Nat) (snap : List Int) (hS : Sl .u8 w a n snap) (hn : a = none → c = 0)
    (hm : n ≤ 900000) (ho : d.ops ≤ 4611686018427380000) :
    Calls Try.prog 42 #[.pointer (some ⟨b, 0, none⟩), .int .i64 gen, .int .i64 side, .slice a n c] w (RDeckEnd w S b (d.save gen side snap)) := by
  refine (ref_save' b w (fun k => S k ∧ k < w.heap.size) d (h.mono (fun k hk hs => ⟨hs, hk⟩)) (fun k hk => hk.2) gen side hgen a n c snap hS hn hm ho).mono ?_
  rintro e w' ⟨rfl, k, o⟩
  refine ⟨rfl, k.mono (fun j _ hs => ?_), o.mono (fun j _ hs => hs.1)⟩
  rcases hs with hs | hs
  · exact .inl hs.1
  · exact .inr hs

end Go.Proofs.Ytdecdjjknbbolaa
