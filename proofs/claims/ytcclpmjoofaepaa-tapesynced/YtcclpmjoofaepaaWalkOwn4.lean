/-
  girolaw4.TapeOwn.
-/
import Derived.Test.YtcclpmjoofaepaaTapeFacts
import Derived.Test.YtcclpmjoofaepaaArgs
namespace Go.Proofs.Ytcclpmjoofaepaa
open Go.RowKit
set_option linter.unusedVariables false

theorem Walk.IsRow.none {k : IntKind} {w : World} {a : Option Addr} {len cap : Nat} {zs : List Int} (h : Walk.IsRow k w a len cap zs) : a = none → cap = 0 := by
  rcases h with ⟨rfl, rfl, rfl, rfl⟩ | ⟨x, rfl, _⟩
  · exact fun _ => rfl
  · intro h; simp at h

theorem own_not_nil {w : World} {B : Nat} {T : TypeId} {v : Value} {n : Nat} {xs : List Value} (h : w.ownsRow B T 1 v n xs) (h1 : 1 ≤ n) : v ≠ .slice none 0 0 := by
  rintro rfl
  rcases h.2 with ⟨_, h0⟩ | ⟨g, cap, cur, hv, _⟩
  · omega
  · simp at hv

theorem own_first {w : World} {B : Nat} {T : TypeId} {v : Value} {n : Nat} {zs : List Int} (h : w.ownsRow B T 1 v n (zs.map (Value.int .u8))) (hn : n = zs.length) (h1 : 1 ≤ n) :
    ∃ g c z, v = .slice (some ⟨g, 0, none⟩) n c ∧ B ≤ g ∧ g < w.heap.size ∧ w.cell? ⟨g, 0, none⟩ = some (.int .u8 z) ∧ w.frozen? ⟨g, 0, none⟩ = false ∧ n ≤ c ∧ c ≤ 9223372036854775807 := by
  obtain ⟨g, c, rfl⟩ := own_some h (own_not_nil h h1)
  have hl := h.lt g rfl
  have hc := h.cellAt 0 (by omega)
  have hc2 := own_cap h
  refine ⟨g, c, zs.getD 0 0, rfl, hl.1, hl.2, ?_, h.frozenAt 0, hc2.1, hc2.2⟩
  rw [hc]
  cases zs with
  | nil => simp at hn; omega
  | cons z zs => rfl

set_option maxHeartbeats 4000000 in
theorem own_main (a0 : Option Addr) (L cap0 : Nat) (zs : List Int) (by' : Int) (w : World) (hS : Sl .u8 w a0 L zs) (hn : a0 = none → cap0 = 0) (h1 : 1 ≤ L) (h2 : L ≤ 100) (hb : by' ≠ 0) :
    Calls Try.prog 6 #[.slice a0 L cap0, .int .u8 by'] w fun e w' => e = .returned (.bool true) ∧ Below w.heap.size w w' := by
  obtain ⟨i0, hi, hz0, hz1, hz2⟩ := info_parts infoU8
  have HL : Hid (zs.length = L) := hS.1.symm
  have HS : Hid (Sl .u8 w a0 L zs ∧ (a0 = none → cap0 = 0)) := ⟨hS, hn⟩
  have HBS : Hid (Bs zs) := hS.2.1
  have i1 : (1 : Int) ≤ L := by omega
  have i2 : (L : Int) ≤ 100 := by omega
  have i3 : (by' == 0) = false := by simpa using hb
  have i4 : (0 : Int) < L := by omega
  clear hS hn
  go_enter Try.func6, Try.ntmps6
  go_wp2_with (at_builtin; refine wpList_append_sl rfl _ _ 27 rfl w.heap.size 5 i0 _ 1 Try.underlying27 hi hz0 hz1 hz2 rfl _ 0 [] rfl (World.ownsRow_lit w #[] 0 (Nat.le_refl _) (Nat.zero_le _) rfl) .u8 a0 L cap0 zs rfl (HS.out.1.alloc _) HS.out.2 (by unfold maxLen; omega) (by omega) (by simp) ?_)
  intro vx wx ox gx _
  have BX : Below w.heap.size w wx := ((Below.refl w.heap.size w).alloc (Nat.le_refl _) _).grown gx (by simp) (fun k hk => by simp [Value.ownBlock] at hk; omega)
  obtain ⟨g, cx, zx, rfl, hg1, hg2, hgc, hgf, hcx, hcm⟩ := own_first ox HL.out.symm h1
  have SX : Hid (Sl .u8 wx (some ⟨g, 0, none⟩) L zs) := by
    have ox' := ox
    have hL := HL.out
    subst hL
    obtain ⟨a, c, hv, hs, _⟩ := Sl.own ox' HBS.out
    simp at hv
    obtain ⟨rfl, rfl⟩ := hv
    exact hs
  clear ox gx
  go_wp2_with fail
  go_at_call 9
  refine (new_well 200 wx (by decide) (by decide)).mono ?_
  rintro e w2 ⟨rfl, d2, b2⟩
  obtain ⟨bd, hbd⟩ : ∃ b, wx.heap.size = b := ⟨_, rfl⟩
  have HB : Hid (wx.heap.size = bd) := hbd
  have SX2 : Hid (Sl .u8 w2 (some ⟨g, 0, none⟩) L zs) := SX.out.below b2
  have B2 : Hid (Below w.heap.size w w2) := BX.trans (b2.mono BX.size)
  have C2 := (b2.cell (p := ⟨g, 0, none⟩) hg2).trans hgc
  have F2 := (b2.frozen (p := ⟨g, 0, none⟩) hg2).trans hgf
  have hgb : g ≠ bd := by omega
  have hg3 : g < w2.heap.size := by have := b2.size; omega
  have hbd2 : bd < w2.heap.size := by obtain ⟨a0, c0, a1, c1, h⟩ := d2; exact hbd ▸ lt_of_block h.dk
  have hbw : w.heap.size ≤ bd := by have := BX.size; omega
  rw [hbd] at d2
  rw [hbd]
  clear hbd SX b2 hgc hgf hg2 BX
  have hap : (D.new 200).append 1 zs = (0, (D.new 200).more1 zs) := by
    have := HL.out
    simp [D.append, D.new, D.read, D.crash]
    omega
  go_wp2_with fail
  go_at_call 11
  refine (deck_append bd w2 _ _ d2 1 _ L cx zs SX2.out (by simp) (fun _ x hx => by simp at hx; subst hx; exact hgb) (by omega) (by decide)).mono ?_
  rw [hap]
  rintro e w3 ⟨rfl, d3, o3⟩
  have C3 := o3.cell C2 hgb
  have F3 : w3.frozen? ⟨g, 0, none⟩ = false := (World.frozen?_of_block (a := ⟨g, 0, none⟩) (o3.block g hg3 hgb)).trans F2
  have B3 : Hid (Below w.heap.size w w3) := B2.out.trans (o3.below (fun k hk => hk ▸ hbw) B2.out.size)
  have hg4 : g < w3.heap.size := by have := o3.size; omega
  have D3 : Hid (Deck w3 (fun k => k = bd ∨ w2.heap.size ≤ k) bd ((D.new 200).more1 zs)) := d3
  clear d2 d3 C2 F2 hap SX2 B2
  go_wp2_with fail
  go_at_call 24
  have D4 : Hid (Deck (w3.setCell ⟨g, 0, none⟩ (.int .u8 (bits .xor .u8 zx by'))) (fun k => k = bd ∨ w2.heap.size ≤ k) bd ((D.new 200).more1 zs)) :=
    D3.out.only ((Only.refl (· = g) w3).setCell (p := ⟨g, 0, none⟩) rfl _) (fun k hk he => by subst he; omega)
  have B4 : Hid (Below w.heap.size w (w3.setCell ⟨g, 0, none⟩ (.int .u8 (bits .xor .u8 zx by')))) := B3.out.setCell (p := ⟨g, 0, none⟩) hg1 _
  obtain ⟨w4, hw4⟩ : ∃ w4, w3.setCell ⟨g, 0, none⟩ (.int .u8 (bits .xor .u8 zx by')) = w4 := ⟨_, rfl⟩
  rw [hw4] at D4 B4
  rw [hw4]
  clear hw4 D3 B3 C3 F3 hg4 o3 hgb hg3
  refine (deck_read bd w4 _ _ D4.out 1).mono ?_
  rw [show ((D.new 200).more1 zs).read 1 = zs by simp [D.read, D.more1, D.new]]
  rintro e w5 ⟨vy, rfl, oy, b5⟩
  rw [HL.out] at oy
  obtain ⟨gy, cy, zy, rfl, hy1, hy2, hyc, hyf, hcy, hcym⟩ := own_first oy HL.out.symm h1
  have B5 : Hid (Below w.heap.size w w5) := B4.out.trans (b5.mono B4.out.size)
  have TY : (convert 27 9 (.slice (some ⟨gy, 0, none⟩) L cy)).run Try.prog w5 = .ok (.string (strOfNums zs)) w5 := by
    have ox' := oy
    have hL := HL.out
    subst hL
    obtain ⟨a, c, hv, hs, _⟩ := Sl.own ox' HBS.out
    simp at hv
    obtain ⟨rfl, rfl⟩ := hv
    exact hs.text (P := Try.prog) (cap := cy) 27 9 5 Try.underlying27 Try.underlying5 Try.underlying9
  have TA : (convert 27 9 (.slice a0 L cap0)).run Try.prog w5 = .ok (.string (strOfNums zs)) w5 :=
    (HS.out.1.below B5.out).text (P := Try.prog) (cap := cap0) 27 9 5 Try.underlying27 Try.underlying5 Try.underlying9
  have D5 : Hid (Deck w5 (fun k => w.heap.size ≤ k ∧ k < w4.heap.size) bd ((D.new 200).more1 zs)) :=
    (D4.out.mono (S' := fun k => w.heap.size ≤ k ∧ k < w4.heap.size) (fun k hk hs => ⟨by have := B4.out.size; have := hbw; rcases hs with h | h <;> omega, hk⟩)).below b5
  have hw4s : w.heap.size ≤ w4.heap.size := B4.out.size
  clear D4 B4 b5 oy
  go_wp2
  have H7 : Hid (Deck (w5.setCell ⟨gy, 0, none⟩ (.int .u8 (bits .xor .u8 zy by'))) (fun k => w.heap.size ≤ k ∧ k < w4.heap.size) bd ((D.new 200).more1 zs)) :=
    D5.out.only ((Only.refl (· = gy) w5).setCell (p := ⟨gy, 0, none⟩) rfl _) (fun k hk he => by subst he; omega)
  have B7 : Hid (Below w.heap.size w (w5.setCell ⟨gy, 0, none⟩ (.int .u8 (bits .xor .u8 zy by')))) := B5.out.setCell (p := ⟨gy, 0, none⟩) (by show w.heap.size ≤ gy; omega) _
  obtain ⟨w7, hw7⟩ : ∃ w7, w5.setCell ⟨gy, 0, none⟩ (.int .u8 (bits .xor .u8 zy by')) = w7 := ⟨_, rfl⟩
  rw [hw7] at H7 B7
  rw [hw7]
  have S7 : Hid (Sl .u8 w7 a0 L zs) := HS.out.1.below B7.out
  clear hw7 D5 B5 TY TA hyc hyf
  refine region_owes (L := [Fact.is (.pointer (some ⟨bd, 0, none⟩)),
    Fact.sl .u8 L zs,
    Fact.is (.string (strOfNums zs)),
    Fact.is (.slice a0 L cap0),
    Fact.is (.string (strOfNums zs)),
    Fact.is (.bool true),
    Fact.is (.bool true),
    Fact.is (.bool true),
    Fact.is (.bool true),
    Fact.is (.bool true)])
    (T := [46, 47, 48, 49, 50, 51, 52, 53, 54, 4]) (by kernel_rfl) (by kernel_rfl) rfl ?owes ?_
  case owes =>
    refine .cons (owes_move (.tmp 6) (.inl rfl) fun q u lh => ⟨wants_free rfl, lh.old 6 rfl⟩) ?_
    refine .cons (owes_call 24 Try.func24 (by kernel_rfl) (by kernel_rfl) [.tmp 46, .const (.int .i64 1)] #[23, 3] rfl fun q u lh => ⟨wants_free rfl, by have e46 : q.tmps.getD 46 undef = .pointer (some ⟨bd, 0, none⟩) := lh.dep 0 rfl; show Calls Try.prog 24 #[q.tmps.getD 46 undef, (.int .i64 1)] u _; rw [e46]; exact read_fact bd u _ _ (H7.out.below lh.below) 1 zs L rfl HL.out⟩) ?_
    refine .cons (owes_text_new 27 9 5 47 1 L zs rfl rfl rfl rfl rfl Try.underlying27 Try.underlying5 Try.underlying9 fun q u lh => wants_free rfl) ?_
    refine .cons (owes_move (.tmp 0) (.inl rfl) fun q u lh => ⟨wants_free rfl, lh.old 0 rfl⟩) ?_
    refine .cons (owes_text 27 9 5 49 3 a0 L cap0 zs rfl rfl rfl rfl rfl S7.out Try.underlying27 Try.underlying5 Try.underlying9 fun q u lh => wants_free rfl) ?_
    refine .cons (owes_eql 9 9 (.tmp 48) (.tmp 50) rfl rfl fun q u lh => ⟨wants_free rfl, .string (strOfNums zs), lh.dep 2 rfl, lh.dep 4 rfl, eq_str⟩) ?_
    refine .cons (owes_move (.tmp 51) (.inl rfl) fun q u lh => ⟨wants_free rfl, lh.dep 5 rfl⟩) ?_
    refine .cons (owes_call 26 Try.func26 (by kernel_rfl) (by kernel_rfl) [] #[] rfl fun q u lh => ⟨lh.wants1 6 true rfl rfl rfl, by show Calls Try.prog 26 #[] u _; exact known_fact u⟩) ?_
    refine .cons (owes_pick (.tmp 52) (.tmp 53) (.const (.bool false)) rfl fun q u lh => ⟨wants_free rfl, true, lh.dep 6 rfl, lh.dep 7 rfl⟩) ?_
    refine .cons (owes_move (.tmp 54) (.inr rfl) fun q u lh => ⟨wants_free rfl, lh.dep 8 rfl⟩) ?_
    exact .nil _
  intro q u hb hsz hdf hold hfact
  have h4 : q.tmps.getD 4 undef = .bool true := hfact 9 (by decide)
  go_wp2
  refine bodyPost_ret (results_tmp rfl _ _ _) hdf ⟨?_, B7.out.trans (hb.mono B7.out.size)⟩
  rw [h4]

theorem Walk.tapeOwn (a0 : Option Addr) (len0 cap0 : Nat) (z0 : List Int) (a1 : Int) (w : World) (w0 : Walk.IsRow .u8 w a0 len0 cap0 z0) (w1 : (Lit.int .u8 a1).wf = true) :
    Calls Try.prog 6 #[.slice a0 len0 cap0, .int .u8 a1] w fun e w' => e = .returned (.bool true) ∧ Below w.heap.size w w' := by
  obtain ⟨hS, hc, hm⟩ := w0.sl Walk.wf_u8'
  have c0 : (len0 : Int) = len0 := rfl
  by_cases h1 : (len0 : Int) < 1
  · go_enter Try.func6, Try.ntmps6
    go_wp2
    go_ret
    exact ⟨rfl, Below.refl _ _⟩
  by_cases h2 : (100 : Int) < len0
  · go_enter Try.func6, Try.ntmps6
    go_wp2
    go_ret
    exact ⟨rfl, Below.refl _ _⟩
  by_cases h3 : a1 = 0
  · subst h3
    go_enter Try.func6, Try.ntmps6
    go_wp2
    go_ret
    exact ⟨rfl, Below.refl _ _⟩
  exact own_main a0 len0 cap0 (z0.take len0) a1 w hS w0.none (by omega) (by omega) h3

end Go.Proofs.Ytcclpmjoofaepaa
