/-
  giroref6: Open, Add, Save.
-/
import Derived.Test.YtdecdjjknbbolaaRefLogSave
import Derived.Test.YtdecdjjknbbolaaLogOpen
namespace Go.Proofs.Ytdecdjjknbbolaa
open Go.RowKit
set_option linter.unusedVariables false
set_option linter.unusedSimpArgs false

def ROpenEnd (w : World) (S : Nat → Prop) (b : Nat) (r : Int × D × Option Lg × List Int × List (List Int)) (e : Ending) (w' : World) : Prop :=
  Only S w w' ∧ match r.2.2.1 with
    | none => e = .returned (.tuple #[.pointer none, .slice none 0 0, .slice none 0 0, .int .i64 r.1]) ∧ RDeck w' (fun j => S j ∨ w.heap.size ≤ j) b r.2.1
    | some g => ∃ l a1 c1 a2 c2, e = .returned (.tuple #[.pointer (some ⟨l, 0, none⟩), .slice a1 r.2.2.2.1.length c1, .slice a2 r.2.2.2.2.length c2, .int .i64 0]) ∧ w.heap.size ≤ l ∧
        RKept w' (fun j => S j ∨ w.heap.size ≤ j) b l r.2.1 g ∧ SlB w' w.heap.size a1 r.2.2.2.1.length c1 r.2.2.2.1 ∧ RowsB w' w.heap.size a2 r.2.2.2.2.length c2 r.2.2.2.2

theorem ropenEnd_none {w w' : World} {S : Nat → Prop} {b : Nat} {r : Int × D × Option Lg × List Int × List (List Int)} {q : Int} {d : D} {x : List Int} {y : List (List Int)} (h : r = (q, d, none, x, y)) (o : Only S w w') (k : RDeck w' (fun j => S j ∨ w.heap.size ≤ j) b d) :
    ROpenEnd w S b r (.returned (.tuple #[.pointer none, .slice none 0 0, .slice none 0 0, .int .i64 q])) w' := by
  subst h
  exact ⟨o, rfl, k⟩
theorem ropenEnd_some {w w' : World} {S : Nat → Prop} {b : Nat} {r : Int × D × Option Lg × List Int × List (List Int)} {q : Int} {d : D} {g : Lg} {x : List Int} {y : List (List Int)} (h : r = (q, d, some g, x, y)) (o : Only S w w') {l : Nat} {a1 a2 : Option Addr} {n1 c1 n2 c2 : Nat}
    (hl : w.heap.size ≤ l) (k : RKept w' (fun j => S j ∨ w.heap.size ≤ j) b l d g) (h1 : SlB w' w.heap.size a1 n1 c1 x) (h2 : RowsB w' w.heap.size a2 n2 c2 y) :
    ROpenEnd w S b r (.returned (.tuple #[.pointer (some ⟨l, 0, none⟩), .slice a1 n1 c1, .slice a2 n2 c2, .int .i64 0])) w' := by
  subst h
  have e1 := h1.sl.1
  have e2 := h2.len
  subst e1 e2
  exact ⟨o, l, a1, c1, a2, c2, rfl, hl, k, h1, h2⟩

set_option maxRecDepth 100000 in
set_option maxHeartbeats 4000000 in
theorem ref_open (b : Nat) (w : World) (S : Nat → Prop) (d : D) (h : RDeck w S b d) (a : Option Addr) (n c : Nat) (fresh : List Int) (hS : Sl .u8 w a n fresh) (hn : a = none → c = 0) (hap : fresh ≠ [] → ∀ x, a = some x → ¬ S x.block)
    (hm : n ≤ 900000) (ho : d.ops ≤ 4611686018427380000) :
    Calls Try.prog 23 #[.pointer (some ⟨b, 0, none⟩), .slice a n c] w (ROpenEnd w S b (d.opened fresh)) := by
  obtain ⟨i0, hi, hz0, hz1, hz2⟩ := info_parts infoU8
  have LK := ref_look b w S d h
  obtain ⟨s, hs⟩ : ∃ s, d.look = s := ⟨_, rfl⟩
  rw [hs] at LK
  have H : Hid (RDeck w S b d ∧ d.look = s ∧ n = fresh.length) := ⟨h, hs, hS.1⟩
  have HF : Hid (Sl .u8 w a n fresh ∧ (a = none → c = 0) ∧ (fresh ≠ [] → ∀ x, a = some x → ¬ S x.block)) := ⟨hS, hn, hap⟩
  clear h hs hS hn hap
  go_enter Try.func23, Try.ntmps23
  go_wp2_with fail
  go_at_call 41
  refine LK.mono ?_
  rintro e w1 ⟨a1, c1, a2, c2, rfl, h1, h2, b1⟩
  have H1 : Hid (SlB w1 w.heap.size a1 s.snap.length c1 s.snap ∧ RowsB w1 w.heap.size a2 s.rows.length c2 s.rows ∧ Below w.heap.size w w1) := ⟨h1, h2, b1⟩
  obtain ⟨sg, ss, sx, sr, so⟩ := s
  have hrl : sr.length ≤ 9223372036854775807 := by have := h2.le; have := h2.mx; simp only at *; omega
  clear LK h1 h2 b1
  simp only
  simp only at H1
  cases so
  case true =>
    have HE : Hid (d.opened fresh = (0, d, some ⟨sg, ss, sr.length, true⟩, sx, sr)) := by
      show _ = _
      unfold D.opened
      rw [H.out.2.1]
      simp
    have K := rkept_new (H.out.1.below H1.out.2.2) ⟨sg, ss, sr.length, true⟩
    have HK : Hid (RKept (w1.alloc (.cells #[.pointer (some ⟨b, 0, none⟩), .int .i64 sg, .int .i64 ss, .int .i64 sr.length, .bool true] 81)) (fun j => S j ∨ w.heap.size ≤ j) b w1.heap.size d ⟨sg, ss, sr.length, true⟩) := by
      refine K.mono (fun j _ hs => ?_)
      have := H1.out.2.2.size
      rcases hs with hs | hs
      · exact .inl hs
      · exact .inr (by omega)
    clear K
    go_wp2
    refine bodyPost_ret (results_tmp4 rfl _ _ _) rfl ?_
    have ba : Below w1.heap.size w1 (w1.alloc (.cells #[.pointer (some ⟨b, 0, none⟩), .int .i64 sg, .int .i64 ss, .int .i64 sr.length, .bool true] 81)) := (Below.refl _ _).alloc (Nat.le_refl _) _
    exact ropenEnd_some HE.out (Only.trans (Below.onlyS H1.out.2.2 S) (Below.onlyS ba S)) H1.out.2.2.size HK.out (H1.out.1.below ba) (H1.out.2.1.below ba)
  case false =>
    have HE0 : Hid (d.opened fresh = if (d.save 1 0 fresh).1 ≠ 0 then ((d.save 1 0 fresh).1, (d.save 1 0 fresh).2, none, [], []) else (0, (d.save 1 0 fresh).2, some ⟨1, 0, 0, false⟩, fresh, [])) := by
      show _ = _
      unfold D.opened
      rw [H.out.2.1]
      simp
    have BG := ref_saveD b w1 S d (H.out.1.below H1.out.2.2) 1 0 (by decide) a n c fresh (HF.out.1.below H1.out.2.2) HF.out.2.1 (by omega) (by omega)
    obtain ⟨r, hr⟩ : ∃ r, d.save 1 0 fresh = r := ⟨_, rfl⟩
    obtain ⟨q, d1⟩ := r
    rw [hr] at BG
    have HR : Hid (d.save 1 0 fresh = (q, d1)) := hr
    have hw : Hid (Below w.heap.size w w1) := H1.out.2.2
    clear hr H1
    go_wp2_with fail
    go_at_call 42
    refine BG.mono ?_
    rintro e w2 ⟨rfl, k2, o2⟩
    have K2 : Hid (RDeck w2 (fun j => S j ∨ w.heap.size ≤ j) b d1) := by
      refine k2.mono (fun j _ hs => ?_)
      have h1 := hw.out.size
      rcases hs with hs | hs
      · exact .inl hs
      · exact .inr (by omega)
    have O2 : Hid (Only S w w2) := (Below.onlyS hw.out S).trans o2
    clear BG k2 o2
    simp only
    by_cases hq : q = 0
    · subst hq
      have HE : Hid (d.opened fresh = (0, d1, some ⟨1, 0, 0, false⟩, fresh, [])) := by
        show _ = _
        rw [HE0.out, HR.out]
        simp
      have K := rkept_new K2.out ⟨1, 0, 0, false⟩
      have HK : Hid (RKept (w2.alloc (.cells #[.pointer (some ⟨b, 0, none⟩), .int .i64 1, .int .i64 0, .int .i64 0, .bool false] 81)) (fun j => S j ∨ w.heap.size ≤ j) b w2.heap.size d1 ⟨1, 0, 0, false⟩) := by
        refine K.mono (fun j _ hs => ?_)
        have := O2.out.size
        rcases hs with hs | hs
        · exact hs
        · exact .inr (by omega)
      have b3 : Hid (Below w2.heap.size w2 ((w2.alloc (.cells #[.pointer (some ⟨b, 0, none⟩), .int .i64 1, .int .i64 0, .int .i64 0, .bool false] 81)).alloc (.cells #[] 5))) := ((Below.refl _ _).alloc (Nat.le_refl _) _).alloc (by simp) _
      have F2 : Hid (Sl .u8 ((w2.alloc (.cells #[.pointer (some ⟨b, 0, none⟩), .int .i64 1, .int .i64 0, .int .i64 0, .bool false] 81)).alloc (.cells #[] 5)) a n fresh) := (HF.out.1.onlyN O2.out HF.out.2.2).below b3.out
      have OL : Hid (((w2.alloc (.cells #[.pointer (some ⟨b, 0, none⟩), .int .i64 1, .int .i64 0, .int .i64 0, .bool false] 81)).alloc (.cells #[] 5)).ownsRow (w2.heap.size + 1) 5 1 (.slice (some ⟨w2.heap.size + 1, 0, none⟩) 0 0) 0 []) := by
        have := World.ownsRow_lit (e := 5) (size := 1) (base := w2.heap.size + 1) (w2.alloc (.cells #[.pointer (some ⟨b, 0, none⟩), .int .i64 1, .int .i64 0, .int .i64 0, .bool false] 81)) #[] 0 (by simp) (Nat.zero_le _) rfl
        have hsz : (w2.alloc (.cells #[.pointer (some ⟨b, 0, none⟩), .int .i64 1, .int .i64 0, .int .i64 0, .bool false] 81)).heap.size = w2.heap.size + 1 := by simp
        rw [hsz] at this
        exact this
      clear K
      go_wp2_with (at_builtin; refine wpList_append_sl rfl _ _ 26 rfl (w2.heap.size + 1) 5 i0 _ 1 Try.underlying26 hi hz0 hz1 hz2 rfl (.slice (some ⟨w2.heap.size + 1, 0, none⟩) 0 0) 0 [] rfl OL.out .u8 a n c fresh rfl F2.out HF.out.2.1 (by unfold maxLen; omega) (by omega) (by simp) ?_)
      intro v3 w3 o3 g3 _
      have B3 : Hid (Below (w2.heap.size + 1) (w2.alloc (.cells #[.pointer (some ⟨b, 0, none⟩), .int .i64 1, .int .i64 0, .int .i64 0, .bool false] 81)) w3) := by
        refine Below.grown (((Below.refl (w2.heap.size + 1) _).alloc (by simp) _)) g3 (by simp) (fun k hk => ?_)
        simp [Value.ownBlock] at hk
        omega
      obtain ⟨x3, c3, rfl⟩ := own_form o3
      have S3 : Hid (SlB w3 w.heap.size x3 n c3 fresh) := (SlB.own o3 F2.out.2.1).base (by have := O2.out.size; omega)
      have K3 : Hid (RKept w3 (fun j => S j ∨ w.heap.size ≤ j) b w2.heap.size d1 ⟨1, 0, 0, false⟩) := HK.out.below (by simpa using B3.out)
      have O3 : Hid (Only S w w3) := O2.out.trans ((Below.onlyS ((Below.refl w2.heap.size w2).alloc (Nat.le_refl _) _) S).trans (Below.onlyS (by simpa using B3.out) S))
      have hl3 : Hid (w.heap.size ≤ w2.heap.size) := O2.out.size
      clear o3 g3 HK b3
      go_wp2
      refine bodyPost_ret (results_tmp4 rfl _ _ _) rfl ?_
      exact ropenEnd_some HE.out O3.out hl3.out K3.out S3.out (RowsB.nil _ _)
    · have HE : Hid (d.opened fresh = (q, d1, none, [], [])) := by
        show _ = _
        rw [HE0.out, HR.out]
        simp [hq]
      go_wp2
      refine bodyPost_ret (results_tmp4 rfl _ _ _) rfl ?_
      exact ropenEnd_none HE.out O2.out K2.out

def RLogEnd (w : World) (S : Nat → Prop) (b l : Nat) (r : Int × D × Lg) (e : Ending) (w' : World) : Prop :=
  e = .returned (.int .i64 r.1) ∧ RKept w' (fun j => S j ∨ w.heap.size ≤ j) b l r.2.1 r.2.2 ∧ Only S w w'
theorem rlogEnd {w w' : World} {S : Nat → Prop} {b l : Nat} {r : Int × D × Lg} {q : Int} {d : D} {g : Lg} (h : r = (q, d, g)) (k : RKept w' (fun j => S j ∨ w.heap.size ≤ j) b l d g) (o : Only S w w') : RLogEnd w S b l r (.returned (.int .i64 q)) w' := by
  subst h
  exact ⟨rfl, k, o⟩

set_option maxRecDepth 100000 in
set_option maxHeartbeats 8000000 in
theorem ref_logadd (b l : Nat) (w : World) (S : Nat → Prop) (d : D) (g : Lg) (h : RKept w S b l d g) (a : Option Addr) (n c : Nat) (row : List Int) (hS : Sl .u8 w a n row) (hn : a = none → c = 0)
    (hm : n ≤ 900000) (ho : d.ops ≤ 4611686018427380000) (hgn : g.n ≤ 4611686018427387904) :
    Calls Try.prog 24 #[.pointer (some ⟨l, 0, none⟩), .slice a n c] w (RLogEnd w S b l (d.add g row)) := by
  have hb := h.block
  have H : Hid (RKept w S b l d g ∧ n = row.length) := ⟨h, hS.1⟩
  obtain ⟨gg, gs, gn, gt⟩ := g
  simp only at hgn
  go_enter Try.func24, Try.ntmps24
  by_cases hbig : 60000 < n
  · have R := ref_put_no a n c w hbig (by omega)
    have HE : Hid (d.add ⟨gg, gs, gn, gt⟩ row = (10, d, ⟨gg, gs, gn, gt⟩)) := by
      show _ = _
      unfold D.add
      rw [if_pos (.inr (by have := H.out.2; omega))]
    obtain ⟨⟨k0, k1, k2, k3, k4⟩, fz⟩ := h.at'.five
    clear h hS
    go_wp2_with fail
    go_at_call 26
    refine R.mono ?_
    rintro e w3 ⟨rfl, hw⟩
    obtain rfl := hw.symm
    cases gt <;> (go_wp2; go_ret; exact rlogEnd HE.out (H.out.1.more _) (Only.refl _ _))
  have R := ref_put a n c row w hS hn (by omega)
  have HB : Hid (Bs row) := hS.2.1
  clear h hS hn
  go_wp2_with fail
  go_at_call 26
  refine R.mono ?_
  rintro e w3 ⟨v3, rfl, o3, b3⟩
  obtain ⟨x3, c3, rfl⟩ := own_form o3
  have S3 : Hid (SlB w3 w.heap.size x3 (n + 2) c3 (recS row)) := SlB.own o3 (recS_bs' HB.out (by have := H.out.2; omega))
  have H3 : Hid (RKept w3 S b l d ⟨gg, gs, gn, gt⟩ ∧ Below w.heap.size w w3) := ⟨H.out.1.below b3, b3⟩
  have HN : Hid (n = row.length) := H.out.2
  obtain ⟨⟨k0, k1, k2, k3, k4⟩, fz⟩ := H3.out.1.at'.five
  clear R o3 b3 H
  cases gt
  case true =>
    have HE : Hid (d.add ⟨gg, gs, gn, true⟩ row = (10, d, ⟨gg, gs, gn, true⟩)) := by
      show _ = _
      unfold D.add
      rw [if_pos (.inl rfl)]
    go_wp2
    go_ret
    exact rlogEnd HE.out (H3.out.1.more _) (Below.onlyS H3.out.2 S)
  case false =>
    have kd : Below w3.heap.size w3 w3.drew := (Below.refl _ _).drew
    have AP := ref_append b w3.drew _ d (H3.out.1.below kd).deck gs x3 (n + 2) c3 (recS row) (S3.out.below kd).sl S3.out.nn (fun _ x hx => by have := S3.out.at' x hx; omega) (by omega) (by omega)
    have hop2 := append_ops d gs (recS row)
    obtain ⟨r, hr⟩ : ∃ r, d.append gs (recS row) = r := ⟨_, rfl⟩
    obtain ⟨q, d1⟩ := r
    rw [hr] at AP hop2
    have HE0 : Hid (d.put gs (recS row) = if q ≠ 0 then (q, d1) else d1.sync) := by
      show _ = _
      rw [D.put, hr]
    have HE : Hid (d.add ⟨gg, gs, gn, false⟩ row = if (d.put gs (recS row)).1 = 0 then (0, (d.put gs (recS row)).2, ⟨gg, gs, gn + 1, false⟩) else (if (d.put gs (recS row)).1 = 3 then 10 else (d.put gs (recS row)).1, (d.put gs (recS row)).2, ⟨gg, gs, gn, false⟩)) := by
      show _ = _
      unfold D.add
      rw [if_neg (by have := HN.out; simp; omega)]
    have HST : Hid (∀ w4 (k : RDeck w4 (fun j => (S j ∧ j ≠ l) ∨ w3.drew.heap.size ≤ j) b d1) (o : Only (fun j => S j ∧ j ≠ l) w3.drew w4), RKept w4 (fun j => S j ∨ w.heap.size ≤ j) b l d1 ⟨gg, gs, gn, false⟩ ∧ Only S w w4) := by
      intro w4 k o
      have st := (H3.out.1.below kd).step k o
      refine ⟨st.1.mono (fun j _ hs => ?_), (Below.onlyS H3.out.2 S).trans ((Below.onlyS kd S).trans st.2)⟩
      have := H3.out.2.size
      rcases hs with hs | hs
      · exact .inl hs
      · exact .inr (by simp at hs; omega)
    clear hr kd
    simp only at hop2
    go_wp2
    go_region_with (go_at_call 20; refine AP.mono ?_; rintro e w4 ⟨rfl, kk, oo⟩)
    all_goals
      have K4 : Hid (RKept w4 (fun j => S j ∨ w.heap.size ≤ j) b l d1 ⟨gg, gs, gn, false⟩ ∧ Only S w w4) := HST.out w4 kk oo
      clear AP kk oo k0 k1 k2 k3 k4 fz HST S3 H3
      try simp only
      by_cases q3 : q = 3
      · subst q3
        have HE2 : Hid (d.add ⟨gg, gs, gn, false⟩ row = (10, d1, ⟨gg, gs, gn, false⟩)) := by
          show _ = _
          rw [HE.out, HE0.out]
          simp
        go_wp2
        go_ret
        exact rlogEnd HE2.out K4.out.1 K4.out.2
      by_cases q0 : q = 0
      · subst q0
        obtain ⟨⟨k0, k1, k2, k3, k4⟩, fz⟩ := K4.out.1.at'.five
        have SY := ref_sync b w4 _ d1 K4.out.1.deck (by omega)
        obtain ⟨r5, hr5⟩ : ∃ r, d1.sync = r := ⟨_, rfl⟩
        obtain ⟨q5, d5⟩ := r5
        have hq5 : q5 = 0 ∨ q5 = 11 := by
          have : q5 = d1.sync.1 := by rw [hr5]
          rw [this]
          unfold D.sync
          split
          · exact .inr rfl
          · split
            · exact .inr rfl
            · exact .inl rfl
        rw [hr5] at SY
        have HE1 : Hid (d.put gs (recS row) = (q5, d5)) := by
          show _ = _
          rw [HE0.out, hr5]
          simp
        clear hr5
        go_wp2_with fail
        go_at_call 21
        refine SY.mono ?_
        rintro e w5 ⟨rfl, k5, o5⟩
        have st5 := K4.out.1.step (k5.mono (fun _ _ hs => .inl hs)) o5
        have K5 : Hid (RKept w5 (fun j => S j ∨ w.heap.size ≤ j) b l d5 ⟨gg, gs, gn, false⟩ ∧ Only S w w5) := by
          refine ⟨st5.1.mono (fun j _ hs => ?_), K4.out.2.news st5.2⟩
          have := K4.out.2.size
          rcases hs with hs | hs
          · exact hs
          · exact .inr (by omega)
        clear SY k5 o5 k0 k1 k2 k3 k4 fz st5
        try simp only
        rcases hq5 with rfl | rfl
        · have HE2 : Hid (d.add ⟨gg, gs, gn, false⟩ row = (0, d5, ⟨gg, gs, gn + 1, false⟩)) := by
            show _ = _
            rw [HE.out, HE1.out]
            simp
          obtain ⟨⟨k0, k1, k2, k3, k4⟩, fz⟩ := K5.out.1.at'.five
          have j1 : IntKind.i64.wrap ((gn : Int) + 1) = (gn : Int) + 1 := i64_wf (by omega) (by omega)
          go_wp2
          go_ret
          have T : RLgAt (w5.setCell ⟨l, 3, none⟩ (.int .i64 ((gn : Int) + 1))) l b ⟨gg, gs, gn + 1, false⟩ := heap_setCell_same _ l 3 _ _ _ K5.out.1.at'
          have o6 : Only (· = l) w5 (w5.setCell ⟨l, 3, none⟩ (.int .i64 ((gn : Int) + 1))) := (Only.refl (· = l) w5).setCell (p := ⟨l, 3, none⟩) rfl _
          have K6 := K5.out.1.turn T o6
          exact rlogEnd HE2.out K6.1 (K5.out.2.news K6.2)
        · have HE2 : Hid (d.add ⟨gg, gs, gn, false⟩ row = (11, d5, ⟨gg, gs, gn, false⟩)) := by
            show _ = _
            rw [HE.out, HE1.out]
            simp
          go_wp2
          go_ret
          exact rlogEnd HE2.out K5.out.1 K5.out.2
      · have HE2 : Hid (d.add ⟨gg, gs, gn, false⟩ row = (q, d1, ⟨gg, gs, gn, false⟩)) := by
          show _ = _
          rw [HE.out, HE0.out, if_pos q0, if_neg q0, if_neg q3]
        go_wp2
        go_ret
        exact rlogEnd HE2.out K4.out.1 K4.out.2

set_option maxRecDepth 100000 in
set_option maxHeartbeats 8000000 in
theorem ref_logsave (b l : Nat) (w : World) (S : Nat → Prop) (d : D) (g : Lg) (h : RKept w S b l d g) (a : Option Addr) (n c : Nat) (snap : List Int) (hS : Sl .u8 w a n snap) (hn : a = none → c = 0)
    (hm : n ≤ 900000) (ho : d.ops ≤ 4611686018427380000) (g1 : 0 ≤ g.gen) (g2 : g.gen ≤ 4611686018427387904) (gs : g.side = 0 ∨ g.side = 1) :
    Calls Try.prog 25 #[.pointer (some ⟨l, 0, none⟩), .slice a n c] w (RLogEnd w S b l (d.resave g snap)) := by
  obtain ⟨⟨k0, k1, k2, k3, k4⟩, fz⟩ := h.at'.five
  have kd : Below w.heap.size w w.drew := (Below.refl _ _).drew
  have hd := (h.below kd).deck
  obtain ⟨gg, sd, gn, gt⟩ := g
  simp only at g1 g2 gs k1 k2 k3 k4
  have B := ref_saveD b w.drew _ d hd (gg + 1) (1 - sd) (i64_wf (by omega) (by omega)) a n c snap (hS.below kd) hn (by omega) (by omega)
  obtain ⟨r, hr⟩ : ∃ r, d.save (gg + 1) (1 - sd) snap = r := ⟨_, rfl⟩
  obtain ⟨q, d1⟩ := r
  rw [hr] at B
  have HE : Hid (d.resave ⟨gg, sd, gn, gt⟩ snap = if q = 0 then (0, d1, ⟨gg + 1, 1 - sd, 0, false⟩) else (q, d1, ⟨gg, sd, gn, gt⟩)) := by
    show _ = _
    unfold D.resave
    simp only [hr]
  have HST : Hid (∀ w4 (k : RDeck w4 (fun j => (S j ∧ j ≠ l) ∨ w.drew.heap.size ≤ j) b d1) (o : Only (fun j => S j ∧ j ≠ l) w.drew w4), RKept w4 (fun j => S j ∨ w.heap.size ≤ j) b l d1 ⟨gg, sd, gn, gt⟩ ∧ Only S w w4) := by
    intro w4 k o
    have st := (h.below kd).step k o
    exact ⟨st.1, (Below.onlyS kd S).trans st.2⟩
  have j1 : IntKind.i64.wrap (gg + 1) = gg + 1 := i64_wf (by omega) (by omega)
  have j2 : IntKind.i64.wrap (1 - sd) = 1 - sd := i64_wf (by omega) (by omega)
  clear h hS kd hr hd
  go_enter Try.func25, Try.ntmps25
  go_wp2
  go_region_with (go_at_call 42; refine B.mono ?_; rintro e w4 ⟨rfl, kk, oo⟩)
  all_goals
    have K4 : Hid (RKept w4 (fun j => S j ∨ w.heap.size ≤ j) b l d1 ⟨gg, sd, gn, gt⟩ ∧ Only S w w4) := HST.out w4 kk oo
    clear B kk oo k0 k1 k2 k3 k4 fz HST
    try simp only
    by_cases q0 : q = 0
    · subst q0
      have HE2 : Hid (d.resave ⟨gg, sd, gn, gt⟩ snap = (0, d1, ⟨gg + 1, 1 - sd, 0, false⟩)) := by
        show _ = _
        rw [HE.out]
        simp
      obtain ⟨⟨k0, k1, k2, k3, k4⟩, fz⟩ := K4.out.1.at'.five
      simp only at k0 k1 k2 k3 k4
      go_wp2
      go_ret
      have T : RLgAt ((((w4.setCell ⟨l, 1, none⟩ (.int .i64 (gg + 1))).setCell ⟨l, 2, none⟩ (.int .i64 (1 - sd))).setCell ⟨l, 3, none⟩ (.int .i64 0)).setCell ⟨l, 4, none⟩ (.bool false)) l b ⟨gg + 1, 1 - sd, 0, false⟩ :=
        heap_setCell_same _ l 4 _ _ _ (heap_setCell_same _ l 3 _ _ _ (heap_setCell_same _ l 2 _ _ _ (heap_setCell_same _ l 1 _ _ _ K4.out.1.at')))
      have o6 : Only (· = l) w4 ((((w4.setCell ⟨l, 1, none⟩ (.int .i64 (gg + 1))).setCell ⟨l, 2, none⟩ (.int .i64 (1 - sd))).setCell ⟨l, 3, none⟩ (.int .i64 0)).setCell ⟨l, 4, none⟩ (.bool false)) :=
        ((((Only.refl (· = l) w4).setCell (p := ⟨l, 1, none⟩) rfl _).setCell (p := ⟨l, 2, none⟩) rfl _).setCell (p := ⟨l, 3, none⟩) rfl _).setCell (p := ⟨l, 4, none⟩) rfl _
      have K6 := K4.out.1.turn T o6
      exact rlogEnd HE2.out K6.1 (K4.out.2.news K6.2)
    · have HE2 : Hid (d.resave ⟨gg, sd, gn, gt⟩ snap = (q, d1, ⟨gg, sd, gn, gt⟩)) := by
        show _ = _
        rw [HE.out, if_neg q0]
      go_wp2
      go_ret
      exact rlogEnd HE2.out K4.out.1 K4.out.2

end Go.Proofs.Ytdecdjjknbbolaa
