/-
  tape: New, Read, Append, and the methods of a nil deck.
-/
import Derived.Test.YtdecdjjknbbolaaTapeMeth
namespace Go.Proofs.Ytdecdjjknbbolaa
open Go.RowKit
set_option linter.unusedVariables false
set_option linter.unusedSimpArgs false

theorem new_well (room : Int) (w : World) (h0 : 0 ≤ room) (h1 : room ≤ 200000) :
    Calls Try.prog 8 #[.int .i64 room] w (fun e w' => e = .returned (.pointer (some ⟨w.heap.size, 0, none⟩)) ∧ Deck w' (· = w.heap.size) w.heap.size (D.new room) ∧ Below w.heap.size w w') := by
  go_enter Try.func8, Try.ntmps8
  go_wp2
  go_ret
  refine ⟨rfl, ⟨none, 0, none, 0, heap_alloc_new w _, World.ownsRow_nil _ _ _ _, World.ownsRow_nil _ _ _ _, rfl, fun x hx => by simp at hx, fun x hx => by simp at hx, fun x y hx => by simp at hx, ?_⟩, (Below.refl _ _).alloc (Nat.le_refl _) _⟩
  exact ⟨h0, h1, by simp [D.new], by simp [D.new], h0, h0, Bs.nil, Bs.nil, by simp [D.new]⟩

theorem new_bad (room : Int) (w : World) (h : room < 0 ∨ 200000 < room) :
    Calls Try.prog 8 #[.int .i64 room] w (fun e w' => e = .returned (.pointer none) ∧ w' = w) := by
  by_cases h0 : room < 0
  · go_enter Try.func8, Try.ntmps8
    go_wp2
    go_ret
    exact ⟨rfl, rfl⟩
  · have h1 : 200000 < room := by omega
    go_enter Try.func8, Try.ntmps8
    go_wp2
    go_ret
    exact ⟨rfl, rfl⟩

theorem Lies.sl0 {w : World} {S : Nat → Prop} {b : Nat} {a0 : Option Addr} {c0 : Nat} {a1 : Option Addr} {c1 : Nat} {d : D} (h : Lies w S b a0 c0 a1 c1 d) : Sl .u8 w a0 d.z0.length d.z0 := by
  obtain ⟨a, c, hv, hs, _⟩ := Sl.own h.own0 h.ok.b0
  simp at hv
  obtain ⟨rfl, rfl⟩ := hv
  exact hs
theorem Lies.sl1 {w : World} {S : Nat → Prop} {b : Nat} {a0 : Option Addr} {c0 : Nat} {a1 : Option Addr} {c1 : Nat} {d : D} (h : Lies w S b a0 c0 a1 c1 d) : Sl .u8 w a1 d.z1.length d.z1 := by
  obtain ⟨a, c, hv, hs, _⟩ := Sl.own h.own1 h.ok.b1
  simp at hv
  obtain ⟨rfl, rfl⟩ := hv
  exact hs

/-- A slice of bytes in new memory. -/
def NewRow (w : World) (zs : List Int) (e : Ending) (w' : World) : Prop :=
  ∃ v, e = .returned v ∧ w'.ownsRow w.heap.size 5 1 v zs.length (zs.map (Value.int .u8)) ∧ Below w.heap.size w w'

set_option maxHeartbeats 4000000 in
theorem deck_read_0 (b : Nat) (w : World) (S : Nat → Prop) (d : D) (h : Deck w S b d) :
    Calls Try.prog 35 #[.pointer (some ⟨b, 0, none⟩), .int .i64 0] w (NewRow w d.z0) := by
  obtain ⟨a0, c0, a1, c1, h⟩ := h
  obtain ⟨i0, hi, hz0, hz1, hz2⟩ := info_parts infoU8
  have I := isSide_any 0 w
  rw [show decide ((0 : Int) ≤ 0 ∧ (0 : Int) ≤ 1) = true by decide] at I
  obtain ⟨⟨k0, k1, k2, k3, k4⟩, ⟨k5, k6, k7, k8, k9⟩, fz⟩ := h.dk.ten
  have hl : d.z0.length ≤ 200000 := by have := h.ok.l0; have := h.ok.r1; omega
  have H : Hid (Sl .u8 w a0 d.z0.length d.z0) := h.sl0
  have H0 : Hid (a0 = none → c0 = 0) := h.cap0.2.2
  clear h
  go_enter Try.func35, Try.ntmps35
  go_wp2_with fail
  go_at_call 48
  refine I.mono ?_
  rintro e w1 ⟨rfl, hw⟩
  obtain rfl := hw.symm
  go_wp2_with (at_builtin; refine wpList_append_sl rfl _ _ 26 rfl w.heap.size 5 i0 _ 1 Try.underlying26 hi hz0 hz1 hz2 rfl _ 0 [] rfl (World.ownsRow_nil _ _ _ _) .u8 a0 d.z0.length c0 d.z0 rfl H.out H0.out (by unfold maxLen; omega) (by omega) (Nat.le_refl _) ?_)
  intro v' w' h1 h2
  have HB : Below w.heap.size w w' := (Below.refl _ _).grown h2 (Nat.le_refl _) (fun k hk => by simp [Value.ownBlock] at hk)
  go_wp2
  go_ret
  exact ⟨_, rfl, h1, HB⟩

set_option maxHeartbeats 4000000 in
theorem deck_read_1 (b : Nat) (w : World) (S : Nat → Prop) (d : D) (h : Deck w S b d) :
    Calls Try.prog 35 #[.pointer (some ⟨b, 0, none⟩), .int .i64 1] w (NewRow w d.z1) := by
  obtain ⟨a0, c0, a1, c1, h⟩ := h
  obtain ⟨i0, hi, hz0, hz1, hz2⟩ := info_parts infoU8
  have I := isSide_any 1 w
  rw [show decide ((0 : Int) ≤ 1 ∧ (1 : Int) ≤ 1) = true by decide] at I
  obtain ⟨⟨k0, k1, k2, k3, k4⟩, ⟨k5, k6, k7, k8, k9⟩, fz⟩ := h.dk.ten
  have hl : d.z1.length ≤ 200000 := by have := h.ok.l1; have := h.ok.r1; omega
  have H : Hid (Sl .u8 w a1 d.z1.length d.z1) := h.sl1
  have H0 : Hid (a1 = none → c1 = 0) := h.cap1.2.2
  clear h
  go_enter Try.func35, Try.ntmps35
  go_wp2_with fail
  go_at_call 48
  refine I.mono ?_
  rintro e w1 ⟨rfl, hw⟩
  obtain rfl := hw.symm
  go_wp2_with (at_builtin; refine wpList_append_sl rfl _ _ 26 rfl w.heap.size 5 i0 _ 1 Try.underlying26 hi hz0 hz1 hz2 rfl _ 0 [] rfl (World.ownsRow_nil _ _ _ _) .u8 a1 d.z1.length c1 d.z1 rfl H.out H0.out (by unfold maxLen; omega) (by omega) (Nat.le_refl _) ?_)
  intro v' w' h1 h2
  have HB : Below w.heap.size w w' := (Below.refl _ _).grown h2 (Nat.le_refl _) (fun k hk => by simp [Value.ownBlock] at hk)
  go_wp2
  go_ret
  exact ⟨_, rfl, h1, HB⟩

theorem deck_read_no (b : Nat) (w : World) (side : Int) (hs : ¬ (0 ≤ side ∧ side ≤ 1)) :
    Calls Try.prog 35 #[.pointer (some ⟨b, 0, none⟩), .int .i64 side] w (fun e w' => e = .returned (.slice none 0 0) ∧ w' = w) := by
  have I := isSide_any side w
  rw [decide_eq_false hs] at I
  clear hs
  go_enter Try.func35, Try.ntmps35
  go_wp2_with fail
  go_at_call 48
  refine I.mono ?_
  rintro e w1 ⟨rfl, hw⟩
  obtain rfl := hw.symm
  go_wp2
  go_ret
  exact ⟨rfl, rfl⟩

theorem deck_read (b : Nat) (w : World) (S : Nat → Prop) (d : D) (h : Deck w S b d) (side : Int) :
    Calls Try.prog 35 #[.pointer (some ⟨b, 0, none⟩), .int .i64 side] w (NewRow w (d.read side)) := by
  by_cases hs : 0 ≤ side ∧ side ≤ 1
  · rcases (show side = 0 ∨ side = 1 by omega) with rfl | rfl
    · exact deck_read_0 b w S d h
    · exact deck_read_1 b w S d h
  · have e : d.read side = [] := by unfold D.read; rw [if_neg (by omega), if_neg (by omega)]
    rw [e]
    refine (deck_read_no b w side hs).mono ?_
    rintro e w' ⟨rfl, rfl⟩
    exact ⟨_, rfl, World.ownsRow_nil _ _ _ _, Below.refl _ _⟩

/-- What Append leaves. -/
def AppEnd (w : World) (S : Nat → Prop) (b : Nat) (r : Int × D) (e : Ending) (w' : World) : Prop :=
  e = .returned (.int .i64 r.1) ∧ Deck w' (fun k => S k ∨ w.heap.size ≤ k) b r.2 ∧ Only S w w'

set_option maxHeartbeats 4000000 in
theorem deck_append_no (b : Nat) (w : World) (S : Nat → Prop) (d : D) (h : Deck w S b d) (side r : Int) (ad : Option Addr) (m c : Nat) (hr : mayS d.dn side = r) (hn : r ≠ 0) :
    Calls Try.prog 18 #[.pointer (some ⟨b, 0, none⟩), .int .i64 side, .slice ad m c] w (fun e w' => e = .returned (.int .i64 r) ∧ w' = w) := by
  obtain ⟨a0, c0, a1, c1, h⟩ := h
  have M := may_any b w _ _ _ _ _ _ _ _ _ _ h.dk side
  rw [hr] at M
  clear h hr
  go_enter Try.func18, Try.ntmps18
  go_wp2_with fail
  go_at_call 36
  refine M.mono ?_
  rintro e w1 ⟨rfl, hw⟩
  obtain rfl := hw.symm
  go_wp2
  go_ret
  exact ⟨rfl, rfl⟩

set_option maxHeartbeats 4000000 in
theorem deck_append_0_full (b : Nat) (w : World) (S : Nat → Prop) (d : D) (h : Deck w S b d) (ad : Option Addr) (m c : Nat) (hr : mayS d.dn 0 = 0) (hf : d.room - (d.z0.length : Int) < (m : Int)) (hm : m ≤ 1000000) :
    Calls Try.prog 18 #[.pointer (some ⟨b, 0, none⟩), .int .i64 0, .slice ad m c] w (fun e w' => e = .returned (.int .i64 3) ∧ Only (fun _ => False) w w') := by
  obtain ⟨a0, c0, a1, c1, h⟩ := h
  have M := may_any b w _ _ _ _ _ _ _ _ _ _ h.dk 0
  rw [hr] at M
  obtain ⟨⟨k0, k1, k2, k3, k4⟩, ⟨k5, k6, k7, k8, k9⟩, fz⟩ := h.dk.ten
  have hl : d.z0.length ≤ 200000 := by have := h.ok.l0; have := h.ok.r1; omega
  have r0 := h.ok.r0
  have r1 := h.ok.r1
  have j0 : wrap64 (d.room - (d.z0.length : Int)) = d.room - (d.z0.length : Int) := by unfold wrap64; omega
  clear h hr
  go_enter Try.func18, Try.ntmps18
  go_wp2_with fail
  go_at_call 36
  refine M.mono ?_
  rintro e w1 ⟨rfl, hw⟩
  obtain rfl := hw.symm
  go_wp2
  go_quiet (fail)
  go_wp2
  go_ret
  exact ⟨rfl, (Only.refl _ _).drewN nq⟩

set_option maxHeartbeats 4000000 in
theorem deck_append_0_crash (b : Nat) (w : World) (S : Nat → Prop) (d : D) (h : Deck w S b d) (ad : Option Addr) (m c : Nat) (hr : mayS d.dn 0 = 0) (hf : ¬ d.room - (d.z0.length : Int) < (m : Int)) (hm : m ≤ 1000000) (hc : d.crash = true) :
    Calls Try.prog 18 #[.pointer (some ⟨b, 0, none⟩), .int .i64 0, .slice ad m c] w (fun e w' => e = .returned (.int .i64 11) ∧ Deck w' S b d.lost ∧ Only S w w') := by
  obtain ⟨a0, c0, a1, c1, h⟩ := h
  have M := may_any b w _ _ _ _ _ _ _ _ _ _ h.dk 0
  rw [hr] at M
  obtain ⟨⟨k0, k1, k2, k3, k4⟩, ⟨k5, k6, k7, k8, k9⟩, fz⟩ := h.dk.ten
  have hl : d.z0.length ≤ 200000 := by have := h.ok.l0; have := h.ok.r1; omega
  have r0 := h.ok.r0
  have r1 := h.ok.r1
  have j0 : wrap64 (d.room - (d.z0.length : Int)) = d.room - (d.z0.length : Int) := by unfold wrap64; omega
  have H : Hid (Lies w S b a0 c0 a1 c1 d ∧ d.crash = true) := ⟨h, hc⟩
  clear h hr hc
  go_enter Try.func18, Try.ntmps18
  go_wp2_with fail
  go_at_call 36
  refine M.mono ?_
  rintro e w1 ⟨rfl, hw⟩
  obtain rfl := hw.symm
  go_wp2
  go_quiet (fail)
  have N := begin_crash b (w.drewN nq) _ _ _ _ _ _ _ _ _ _ _ _ _ _ H.out.1.dk (D.crash_true H.out.2).1 (D.crash_true H.out.2).2 H.out.1.ok.k1 H.out.1.ok.s0 H.out.1.ok.s1 H.out.1.cap0.1 H.out.1.cap1.1 H.out.1.cap0.2.1 H.out.1.cap1.2.1 H.out.1.cap0.2.2 H.out.1.cap1.2.2
  clear M
  go_wp2_with fail
  go_at_call 37
  refine N.mono ?_
  rintro e w1 ⟨rfl, hd, o⟩
  have O : Hid (Only (· = b) w w1) := ((Only.refl (· = b) w).drewN nq).trans o.1
  have L : Hid (Lies w1 S b a0 c0 a1 c1 d.lost) := H.out.1.lost O.out hd
  clear N hd o k0 k1 k2 k3 k4 k5 k6 k7 k8 k9 fz
  go_wp2
  go_ret
  exact ⟨rfl, ⟨a0, c0, a1, c1, L.out⟩, only_b O.out H.out.1.sb⟩

set_option maxHeartbeats 4000000 in
theorem deck_append_0 (b : Nat) (w : World) (S : Nat → Prop) (d : D) (h : Deck w S b d) (ad : Option Addr) (m c : Nat) (ys : List Int) (hS : Sl .u8 w ad m ys) (hn : ad = none → c = 0) (hne : ys ≠ [] → ∀ x, ad = some x → x.block ≠ b)
    (hr : mayS d.dn 0 = 0) (hf : ¬ d.room - (d.z0.length : Int) < (m : Int)) (hm : m ≤ 1000000) (hc : d.crash = false) (ho : d.ops ≤ 4611686018427387904) :
    Calls Try.prog 18 #[.pointer (some ⟨b, 0, none⟩), .int .i64 0, .slice ad m c] w (fun e w' => e = .returned (.int .i64 0) ∧ Deck w' (fun k => S k ∨ w.heap.size ≤ k) b (d.more0 ys) ∧ Only S w w') := by
  obtain ⟨a0, c0, a1, c1, h⟩ := h
  obtain ⟨i0, hi, hz0, hz1, hz2⟩ := info_parts infoU8
  have M := may_any b w _ _ _ _ _ _ _ _ _ _ h.dk 0
  rw [hr] at M
  have hdn : d.dn = false := by
    cases hd : d.dn with
    | false => rfl
    | true => simp [mayS, hd] at hr
  obtain ⟨⟨k0, k1, k2, k3, k4⟩, ⟨k5, k6, k7, k8, k9⟩, fz⟩ := h.dk.ten
  have hl : d.z0.length ≤ 200000 := by have := h.ok.l0; have := h.ok.r1; omega
  have r0 := h.ok.r0
  have r1 := h.ok.r1
  have j0 : wrap64 (d.room - (d.z0.length : Int)) = d.room - (d.z0.length : Int) := by unfold wrap64; omega
  have H : Hid (Lies w S b a0 c0 a1 c1 d ∧ d.crash = false ∧ d.dn = false) := ⟨h, hc, hdn⟩
  have HS : Hid (Sl .u8 w ad m ys ∧ (ad = none → c = 0) ∧ (ys ≠ [] → ∀ x, ad = some x → x.block ≠ b)) := ⟨hS, hn, hne⟩
  clear h hr hc hdn hS hn hne
  go_enter Try.func18, Try.ntmps18
  go_wp2_with fail
  go_at_call 36
  refine M.mono ?_
  rintro e w1 ⟨rfl, hw⟩
  obtain rfl := hw.symm
  go_wp2
  go_quiet (fail)
  have N := begin_well b (w.drewN nq) _ _ _ _ _ _ _ _ _ _ H.out.1.dk (D.crash_false H.out.2.1) ho
  rw [H.out.2.2] at N
  clear M
  go_wp2_with fail
  go_at_call 37
  refine N.mono ?_
  rintro e w1 ⟨rfl, hd, o⟩
  have O : Hid (Only (· = b) w w1) := ((Only.refl (· = b) w).drewN nq).trans o.1
  have hs1 : w1.heap.size = w.heap.size := o.2
  have HZ : Hid (w1.heap.size = w.heap.size) := hs1
  clear N o k0 k1 k2 k3 k4 k5 k6 k7 k8 k9 fz hs1
  have HD : Hid (Dk w1 b d.room (.slice a0 d.z0.length c0) d.s0 (.slice a1 d.z1.length c1) d.s1 (d.ops + 1) d.ar d.at' d.kp false) := hd
  obtain ⟨⟨k0, k1, k2, k3, k4⟩, ⟨k5, k6, k7, k8, k9⟩, fz⟩ := hd.ten
  clear hd
  have own0 : Hid (w1.ownsRow 0 5 1 (.slice a0 d.z0.length c0) d.z0.length (d.z0.map (Value.int .u8))) := own_only H.out.1.own0 O.out (fun x hx => (H.out.1.sa0 x hx).2)
  have own1 : Hid (w1.ownsRow 0 5 1 (.slice a1 d.z1.length c1) d.z1.length (d.z1.map (Value.int .u8))) := own_only H.out.1.own1 O.out (fun x hx => (H.out.1.sa1 x hx).2)
  have S1 : Hid (Sl .u8 w1 ad m ys) := by
    refine ⟨HS.out.1.1, HS.out.1.2.1, ?_⟩
    rcases HS.out.1.2.2 with h0 | ⟨b', off, ha, hcell⟩
    · exact .inl h0
    · exact .inr ⟨b', off, ha, fun i hi => O.out.cell (p := ⟨b', off + i, none⟩) (hcell i hi) (HS.out.2.2 (fun h0 => by rw [h0] at hi; simp at hi) ⟨b', off, none⟩ ha)⟩
  go_wp2_with (at_builtin; refine wpList_append_apart rfl _ _ 26 rfl 5 i0 _ 1 Try.underlying26 hi hz0 hz1 hz2 rfl a0 d.z0.length c0 _ rfl own0.out .u8 ad m c ys rfl S1.out HS.out.2.1 (by unfold maxLen; omega) (by omega) ?_)
  intro a' c' w' h1 h2 h3
  have hab : ∀ x, a0 = some x → x.block ≠ b := fun x hx => (H.out.1.sa0 x hx).2
  have hD2 : Dk w' b d.room (.slice a0 d.z0.length c0) d.s0 (.slice a1 d.z1.length c1) d.s1 (d.ops + 1) d.ar d.at' d.kp false := by
    refine (h2.block b (lt_of_block HD.out) ?_).trans HD.out
    intro he
    cases hx : a0 with
    | none => simp [hx] at he
    | some x => simp [hx] at he; exact hab x hx he.symm
  have O2 : Only S w w' := (only_b O.out H.out.1.sb).grown h2 (fun k hk => by
    cases hx : a0 with
    | none => simp [hx] at hk
    | some x => simp [hx] at hk; exact hk ▸ (H.out.1.sa0 x hx).1)
  have hlow : ∀ x, a1 = some x → x.block < w.heap.size := by
    intro x hx
    have := H.out.1.own1.lt
    subst hx
    exact (this x.block rfl).2
  have hblow : b < w.heap.size := lt_of_block H.out.1.dk
  have own2 : w'.ownsRow 0 5 1 (.slice a1 d.z1.length c1) d.z1.length (d.z1.map (Value.int .u8)) := by
    refine own1.out.kept h2 ?_
    cases hx : a1 with
    | none => exact .inl rfl
    | some x =>
      refine .inr (fun he => ?_)
      cases hy : a0 with
      | none => simp [hy, Value.ownBlock] at he
      | some y => simp [hy, Value.ownBlock] at he; exact H.out.1.ne y x hy hx he.symm
  have hS2 : ∀ x, a' = some x → (S x.block ∨ w.heap.size ≤ x.block) ∧ x.block ≠ b := by
    intro x hx
    rcases h3 x hx with hq | hq
    · exact ⟨.inl (H.out.1.sa0 x hq).1, hab x hq⟩
    · have := HZ.out; exact ⟨.inr (by omega), by omega⟩
  have hN : ∀ x y, a' = some x → a1 = some y → x.block ≠ y.block := by
    intro x y hx hy
    rcases h3 x hx with hq | hq
    · exact H.out.1.ne x y hq hy
    · have := HZ.out; have := hlow y hy; omega
  have hlen : (d.z0 ++ ys).length = d.z0.length + m := by rw [List.length_append, HS.out.1.1]
  have HL : Hid (∀ w2, Only (· = b) w' w2 → Dk w2 b d.room (.slice a' (d.z0.length + m) c') d.s0 (.slice a1 d.z1.length c1) d.s1 (d.ops + 1) d.ar d.at' d.kp false → Deck w2 (fun k => S k ∨ w.heap.size ≤ k) b (d.more0 ys)) := by
    intro w2 o2 d2
    have q1 := own_only h1 o2 (fun x hx => (hS2 x hx).2)
    have q2 := own_only own2 o2 (fun x hx => (H.out.1.sa1 x hx).2)
    rw [← List.map_append] at q1
    refine ⟨a', c', a1, c1, ?_, ?_, q2, .inl H.out.1.sb, fun x hx => hS2 x hx, fun x hx => ⟨.inl (H.out.1.sa1 x hx).1, (H.out.1.sa1 x hx).2⟩, hN, ?_⟩
    · simp only [D.more0, hlen]; exact d2
    · simp only [D.more0, hlen]; exact q1
    · have k := H.out.1.ok
      refine ⟨k.r0, k.r1, ?_, ?_, ?_, ?_, k.b0.append HS.out.1.2.1, k.b1, k.k1⟩
      · have := k.s0; simp only [D.more0, List.length_append]; omega
      · have := k.s1; simp only [D.more0, List.length_append]; omega
      · have := k.l0; have := HS.out.1.1; simp only [D.more0, List.length_append]; omega
      · have := k.l1; have := HS.out.1.1; simp only [D.more0, List.length_append]; omega
  have HO2 : Hid (Only S w w' ∧ S b) := ⟨O2, H.out.1.sb⟩
  have HD2 : Hid (Dk w' b d.room (.slice a0 d.z0.length c0) d.s0 (.slice a1 d.z1.length c1) d.s1 (d.ops + 1) d.ar d.at' d.kp false) := hD2
  clear k0 k1 k2 k3 k4 k5 k6 k7 k8 k9 fz h1 h2 h3 hab O2 hlow hblow own2 hS2 hN hlen own0 own1 S1 HD HS H O HZ
  obtain ⟨⟨k0, k1, k2, k3, k4⟩, ⟨k5, k6, k7, k8, k9⟩, fz⟩ := hD2.ten
  clear hD2
  go_wp2
  go_ret
  exact ⟨rfl, HL.out _ ((Only.refl (· = b) w').setCell (p := ⟨b, 1, none⟩) rfl _) (heap_setCell_same _ b 1 _ _ _ HD2.out), HO2.out.1.setCell (p := ⟨b, 1, none⟩) HO2.out.2 _⟩

set_option maxHeartbeats 4000000 in
theorem deck_append_1_full (b : Nat) (w : World) (S : Nat → Prop) (d : D) (h : Deck w S b d) (ad : Option Addr) (m c : Nat) (hr : mayS d.dn 1 = 0) (hf : d.room - (d.z1.length : Int) < (m : Int)) (hm : m ≤ 1000000) :
    Calls Try.prog 18 #[.pointer (some ⟨b, 0, none⟩), .int .i64 1, .slice ad m c] w (fun e w' => e = .returned (.int .i64 3) ∧ Only (fun _ => False) w w') := by
  obtain ⟨a0, c0, a1, c1, h⟩ := h
  have M := may_any b w _ _ _ _ _ _ _ _ _ _ h.dk 1
  rw [hr] at M
  obtain ⟨⟨k0, k1, k2, k3, k4⟩, ⟨k5, k6, k7, k8, k9⟩, fz⟩ := h.dk.ten
  have hl : d.z1.length ≤ 200000 := by have := h.ok.l1; have := h.ok.r1; omega
  have r0 := h.ok.r0
  have r1 := h.ok.r1
  have j0 : wrap64 (d.room - (d.z1.length : Int)) = d.room - (d.z1.length : Int) := by unfold wrap64; omega
  clear h hr
  go_enter Try.func18, Try.ntmps18
  go_wp2_with fail
  go_at_call 36
  refine M.mono ?_
  rintro e w1 ⟨rfl, hw⟩
  obtain rfl := hw.symm
  go_wp2
  go_quiet (fail)
  go_wp2
  go_ret
  exact ⟨rfl, (Only.refl _ _).drewN nq⟩

set_option maxHeartbeats 4000000 in
theorem deck_append_1_crash (b : Nat) (w : World) (S : Nat → Prop) (d : D) (h : Deck w S b d) (ad : Option Addr) (m c : Nat) (hr : mayS d.dn 1 = 0) (hf : ¬ d.room - (d.z1.length : Int) < (m : Int)) (hm : m ≤ 1000000) (hc : d.crash = true) :
    Calls Try.prog 18 #[.pointer (some ⟨b, 0, none⟩), .int .i64 1, .slice ad m c] w (fun e w' => e = .returned (.int .i64 11) ∧ Deck w' S b d.lost ∧ Only S w w') := by
  obtain ⟨a0, c0, a1, c1, h⟩ := h
  have M := may_any b w _ _ _ _ _ _ _ _ _ _ h.dk 1
  rw [hr] at M
  obtain ⟨⟨k0, k1, k2, k3, k4⟩, ⟨k5, k6, k7, k8, k9⟩, fz⟩ := h.dk.ten
  have hl : d.z1.length ≤ 200000 := by have := h.ok.l1; have := h.ok.r1; omega
  have r0 := h.ok.r0
  have r1 := h.ok.r1
  have j0 : wrap64 (d.room - (d.z1.length : Int)) = d.room - (d.z1.length : Int) := by unfold wrap64; omega
  have H : Hid (Lies w S b a0 c0 a1 c1 d ∧ d.crash = true) := ⟨h, hc⟩
  clear h hr hc
  go_enter Try.func18, Try.ntmps18
  go_wp2_with fail
  go_at_call 36
  refine M.mono ?_
  rintro e w1 ⟨rfl, hw⟩
  obtain rfl := hw.symm
  go_wp2
  go_quiet (fail)
  have N := begin_crash b (w.drewN nq) _ _ _ _ _ _ _ _ _ _ _ _ _ _ H.out.1.dk (D.crash_true H.out.2).1 (D.crash_true H.out.2).2 H.out.1.ok.k1 H.out.1.ok.s0 H.out.1.ok.s1 H.out.1.cap0.1 H.out.1.cap1.1 H.out.1.cap0.2.1 H.out.1.cap1.2.1 H.out.1.cap0.2.2 H.out.1.cap1.2.2
  clear M
  go_wp2_with fail
  go_at_call 37
  refine N.mono ?_
  rintro e w1 ⟨rfl, hd, o⟩
  have O : Hid (Only (· = b) w w1) := ((Only.refl (· = b) w).drewN nq).trans o.1
  have L : Hid (Lies w1 S b a0 c0 a1 c1 d.lost) := H.out.1.lost O.out hd
  clear N hd o k0 k1 k2 k3 k4 k5 k6 k7 k8 k9 fz
  go_wp2
  go_ret
  exact ⟨rfl, ⟨a0, c0, a1, c1, L.out⟩, only_b O.out H.out.1.sb⟩

set_option maxHeartbeats 4000000 in
theorem deck_append_1 (b : Nat) (w : World) (S : Nat → Prop) (d : D) (h : Deck w S b d) (ad : Option Addr) (m c : Nat) (ys : List Int) (hS : Sl .u8 w ad m ys) (hn : ad = none → c = 0) (hne : ys ≠ [] → ∀ x, ad = some x → x.block ≠ b)
    (hr : mayS d.dn 1 = 0) (hf : ¬ d.room - (d.z1.length : Int) < (m : Int)) (hm : m ≤ 1000000) (hc : d.crash = false) (ho : d.ops ≤ 4611686018427387904) :
    Calls Try.prog 18 #[.pointer (some ⟨b, 0, none⟩), .int .i64 1, .slice ad m c] w (fun e w' => e = .returned (.int .i64 0) ∧ Deck w' (fun k => S k ∨ w.heap.size ≤ k) b (d.more1 ys) ∧ Only S w w') := by
  obtain ⟨a0, c0, a1, c1, h⟩ := h
  obtain ⟨i0, hi, hz0, hz1, hz2⟩ := info_parts infoU8
  have M := may_any b w _ _ _ _ _ _ _ _ _ _ h.dk 1
  rw [hr] at M
  have hdn : d.dn = false := by
    cases hd : d.dn with
    | false => rfl
    | true => simp [mayS, hd] at hr
  obtain ⟨⟨k0, k1, k2, k3, k4⟩, ⟨k5, k6, k7, k8, k9⟩, fz⟩ := h.dk.ten
  have hl : d.z1.length ≤ 200000 := by have := h.ok.l1; have := h.ok.r1; omega
  have r0 := h.ok.r0
  have r1 := h.ok.r1
  have j0 : wrap64 (d.room - (d.z1.length : Int)) = d.room - (d.z1.length : Int) := by unfold wrap64; omega
  have H : Hid (Lies w S b a0 c0 a1 c1 d ∧ d.crash = false ∧ d.dn = false) := ⟨h, hc, hdn⟩
  have HS : Hid (Sl .u8 w ad m ys ∧ (ad = none → c = 0) ∧ (ys ≠ [] → ∀ x, ad = some x → x.block ≠ b)) := ⟨hS, hn, hne⟩
  clear h hr hc hdn hS hn hne
  go_enter Try.func18, Try.ntmps18
  go_wp2_with fail
  go_at_call 36
  refine M.mono ?_
  rintro e w1 ⟨rfl, hw⟩
  obtain rfl := hw.symm
  go_wp2
  go_quiet (fail)
  have N := begin_well b (w.drewN nq) _ _ _ _ _ _ _ _ _ _ H.out.1.dk (D.crash_false H.out.2.1) ho
  rw [H.out.2.2] at N
  clear M
  go_wp2_with fail
  go_at_call 37
  refine N.mono ?_
  rintro e w1 ⟨rfl, hd, o⟩
  have O : Hid (Only (· = b) w w1) := ((Only.refl (· = b) w).drewN nq).trans o.1
  have hs1 : w1.heap.size = w.heap.size := o.2
  have HZ : Hid (w1.heap.size = w.heap.size) := hs1
  clear N o k0 k1 k2 k3 k4 k5 k6 k7 k8 k9 fz hs1
  have HD : Hid (Dk w1 b d.room (.slice a0 d.z0.length c0) d.s0 (.slice a1 d.z1.length c1) d.s1 (d.ops + 1) d.ar d.at' d.kp false) := hd
  obtain ⟨⟨k0, k1, k2, k3, k4⟩, ⟨k5, k6, k7, k8, k9⟩, fz⟩ := hd.ten
  clear hd
  have own0 : Hid (w1.ownsRow 0 5 1 (.slice a0 d.z0.length c0) d.z0.length (d.z0.map (Value.int .u8))) := own_only H.out.1.own0 O.out (fun x hx => (H.out.1.sa0 x hx).2)
  have own1 : Hid (w1.ownsRow 0 5 1 (.slice a1 d.z1.length c1) d.z1.length (d.z1.map (Value.int .u8))) := own_only H.out.1.own1 O.out (fun x hx => (H.out.1.sa1 x hx).2)
  have S1 : Hid (Sl .u8 w1 ad m ys) := by
    refine ⟨HS.out.1.1, HS.out.1.2.1, ?_⟩
    rcases HS.out.1.2.2 with h0 | ⟨b', off, ha, hcell⟩
    · exact .inl h0
    · exact .inr ⟨b', off, ha, fun i hi => O.out.cell (p := ⟨b', off + i, none⟩) (hcell i hi) (HS.out.2.2 (fun h0 => by rw [h0] at hi; simp at hi) ⟨b', off, none⟩ ha)⟩
  go_wp2_with (at_builtin; refine wpList_append_apart rfl _ _ 26 rfl 5 i0 _ 1 Try.underlying26 hi hz0 hz1 hz2 rfl a1 d.z1.length c1 _ rfl own1.out .u8 ad m c ys rfl S1.out HS.out.2.1 (by unfold maxLen; omega) (by omega) ?_)
  intro a' c' w' h1 h2 h3
  have hab : ∀ x, a1 = some x → x.block ≠ b := fun x hx => (H.out.1.sa1 x hx).2
  have hD2 : Dk w' b d.room (.slice a0 d.z0.length c0) d.s0 (.slice a1 d.z1.length c1) d.s1 (d.ops + 1) d.ar d.at' d.kp false := by
    refine (h2.block b (lt_of_block HD.out) ?_).trans HD.out
    intro he
    cases hx : a1 with
    | none => simp [hx] at he
    | some x => simp [hx] at he; exact hab x hx he.symm
  have O2 : Only S w w' := (only_b O.out H.out.1.sb).grown h2 (fun k hk => by
    cases hx : a1 with
    | none => simp [hx] at hk
    | some x => simp [hx] at hk; exact hk ▸ (H.out.1.sa1 x hx).1)
  have hlow : ∀ x, a0 = some x → x.block < w.heap.size := by
    intro x hx
    have := H.out.1.own0.lt
    subst hx
    exact (this x.block rfl).2
  have hblow : b < w.heap.size := lt_of_block H.out.1.dk
  have own2 : w'.ownsRow 0 5 1 (.slice a0 d.z0.length c0) d.z0.length (d.z0.map (Value.int .u8)) := by
    refine own0.out.kept h2 ?_
    cases hx : a0 with
    | none => exact .inl rfl
    | some x =>
      refine .inr (fun he => ?_)
      cases hy : a1 with
      | none => simp [hy, Value.ownBlock] at he
      | some y => simp [hy, Value.ownBlock] at he; exact H.out.1.ne x y hx hy he
  have hS2 : ∀ x, a' = some x → (S x.block ∨ w.heap.size ≤ x.block) ∧ x.block ≠ b := by
    intro x hx
    rcases h3 x hx with hq | hq
    · exact ⟨.inl (H.out.1.sa1 x hq).1, hab x hq⟩
    · have := HZ.out; exact ⟨.inr (by omega), by omega⟩
  have hN : ∀ x y, a' = some x → a0 = some y → x.block ≠ y.block := by
    intro x y hx hy
    rcases h3 x hx with hq | hq
    · exact fun he => H.out.1.ne y x hy hq he.symm
    · have := HZ.out; have := hlow y hy; omega
  have hlen : (d.z1 ++ ys).length = d.z1.length + m := by rw [List.length_append, HS.out.1.1]
  have HL : Hid (∀ w2, Only (· = b) w' w2 → Dk w2 b d.room (.slice a0 d.z0.length c0) d.s0 (.slice a' (d.z1.length + m) c') d.s1 (d.ops + 1) d.ar d.at' d.kp false → Deck w2 (fun k => S k ∨ w.heap.size ≤ k) b (d.more1 ys)) := by
    intro w2 o2 d2
    have q1 := own_only h1 o2 (fun x hx => (hS2 x hx).2)
    have q2 := own_only own2 o2 (fun x hx => (H.out.1.sa0 x hx).2)
    rw [← List.map_append] at q1
    refine ⟨a0, c0, a', c', ?_, q2, ?_, .inl H.out.1.sb, fun x hx => ⟨.inl (H.out.1.sa0 x hx).1, (H.out.1.sa0 x hx).2⟩, fun x hx => hS2 x hx, fun x y hx hy he => hN y x hy hx he.symm, ?_⟩
    · simp only [D.more1, hlen]; exact d2
    · simp only [D.more1, hlen]; exact q1
    · have k := H.out.1.ok
      refine ⟨k.r0, k.r1, ?_, ?_, ?_, ?_, k.b0, k.b1.append HS.out.1.2.1, k.k1⟩
      · have := k.s0; simp only [D.more1, List.length_append]; omega
      · have := k.s1; simp only [D.more1, List.length_append]; omega
      · have := k.l0; have := HS.out.1.1; simp only [D.more1, List.length_append]; omega
      · have := k.l1; have := HS.out.1.1; simp only [D.more1, List.length_append]; omega
  have HO2 : Hid (Only S w w' ∧ S b) := ⟨O2, H.out.1.sb⟩
  have HD2 : Hid (Dk w' b d.room (.slice a0 d.z0.length c0) d.s0 (.slice a1 d.z1.length c1) d.s1 (d.ops + 1) d.ar d.at' d.kp false) := hD2
  clear k0 k1 k2 k3 k4 k5 k6 k7 k8 k9 fz h1 h2 h3 hab O2 hlow hblow own2 hS2 hN hlen own0 own1 S1 HD HS H O HZ
  obtain ⟨⟨k0, k1, k2, k3, k4⟩, ⟨k5, k6, k7, k8, k9⟩, fz⟩ := hD2.ten
  clear hD2
  go_wp2
  go_ret
  exact ⟨rfl, HL.out _ ((Only.refl (· = b) w').setCell (p := ⟨b, 3, none⟩) rfl _) (heap_setCell_same _ b 3 _ _ _ HD2.out), HO2.out.1.setCell (p := ⟨b, 3, none⟩) HO2.out.2 _⟩

theorem deck_append (b : Nat) (w : World) (S : Nat → Prop) (d : D) (h : Deck w S b d) (side : Int) (ad : Option Addr) (m c : Nat) (ys : List Int) (hS : Sl .u8 w ad m ys) (hn : ad = none → c = 0) (hne : ys ≠ [] → ∀ x, ad = some x → x.block ≠ b)
    (hm : m ≤ 1000000) (ho : d.ops ≤ 4611686018427387904) :
    Calls Try.prog 18 #[.pointer (some ⟨b, 0, none⟩), .int .i64 side, .slice ad m c] w (AppEnd w S b (d.append side ys)) := by
  unfold D.append
  have hS0 : ∀ k, k < w.heap.size → S k → S k ∨ w.heap.size ≤ k := fun _ _ hk => .inl hk
  cases hdn : d.dn with
  | true =>
    refine (deck_append_no b w S d h side 11 ad m c (by simp [mayS, hdn]) (by decide)).mono ?_
    rintro e w' ⟨rfl, rfl⟩
    exact ⟨rfl, h.mono hS0, Only.refl _ _⟩
  | false =>
    by_cases hs : 0 ≤ side ∧ side ≤ 1
    · simp only [hs, not_true, if_false, Bool.false_eq_true, and_self]
      have hm0 : mayS d.dn side = 0 := by simp [mayS, hdn, hs]
      rcases (show side = 0 ∨ side = 1 by omega) with rfl | rfl
      · have hrd : d.read 0 = d.z0 := by simp [D.read]
        rw [hrd, ← hS.1]
        by_cases hf : d.room - (d.z0.length : Int) < (m : Int)
        · simp only [hf, if_true]
          refine (deck_append_0_full b w S d h ad m c hm0 hf hm).mono ?_
          rintro e w' ⟨rfl, o⟩
          exact ⟨rfl, (h.only o (fun _ _ hk => hk)).mono (fun _ _ hk => .inl hk), o.mono (fun _ _ hk => hk.elim)⟩
        · simp only [hf, if_false]
          cases hc : d.crash with
          | true =>
            refine (deck_append_0_crash b w S d h ad m c hm0 hf hm hc).mono ?_
            rintro e w' ⟨rfl, hd, o⟩
            exact ⟨rfl, hd.mono (fun _ _ hk => .inl hk), o⟩
          | false => exact deck_append_0 b w S d h ad m c ys hS hn hne hm0 hf hm hc ho
      · have hrd : d.read 1 = d.z1 := by simp [D.read]
        rw [hrd, ← hS.1]
        by_cases hf : d.room - (d.z1.length : Int) < (m : Int)
        · simp only [hf, if_true]
          refine (deck_append_1_full b w S d h ad m c hm0 hf hm).mono ?_
          rintro e w' ⟨rfl, o⟩
          exact ⟨rfl, (h.only o (fun _ _ hk => hk)).mono (fun _ _ hk => .inl hk), o.mono (fun _ _ hk => hk.elim)⟩
        · simp only [hf, if_false]
          cases hc : d.crash with
          | true =>
            refine (deck_append_1_crash b w S d h ad m c hm0 hf hm hc).mono ?_
            rintro e w' ⟨rfl, hd, o⟩
            exact ⟨rfl, hd.mono (fun _ _ hk => .inl hk), o⟩
          | false => exact deck_append_1 b w S d h ad m c ys hS hn hne hm0 hf hm hc ho
    · simp only [hs, not_false_eq_true, if_true, if_false, Bool.false_eq_true]
      refine (deck_append_no b w S d h side 1 ad m c (by simp [mayS, hdn, hs]) (by decide)).mono ?_
      rintro e w' ⟨rfl, rfl⟩
      exact ⟨rfl, h.mono hS0, Only.refl _ _⟩

end Go.Proofs.Ytdecdjjknbbolaa
