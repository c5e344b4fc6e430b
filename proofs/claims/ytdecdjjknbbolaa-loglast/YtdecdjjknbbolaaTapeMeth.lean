/-
  tape: what its methods answer and leave, of a deck wherever it lies.
-/
import Derived.Test.YtdecdjjknbbolaaTapeDeck
namespace Go.Proofs.Ytdecdjjknbbolaa
open Go.RowKit
set_option linter.unusedVariables false

/-- Does it crash ahead of the next operation? -/
def D.crash (d : D) : Bool := d.ar && decide (d.at' ≤ (d.ops : Int))

/-- Behind the crash. -/
def D.lost (d : D) : D := ⟨d.room, d.z0.take (left0 d.kp d.z0.length d.s0), left0 d.kp d.z0.length d.s0, d.z1.take (left1 d.kp d.z0.length d.s0 d.z1.length d.s1), left1 d.kp d.z0.length d.s0 d.z1.length d.s1, d.ops, d.ar, d.at', d.kp, true⟩

def D.new (room : Int) : D := ⟨room, [], 0, [], 0, 0, false, 0, 0, false⟩
def D.armed (d : D) (x y : Int) : D := ⟨d.room, d.z0, d.s0, d.z1, d.s1, d.ops, true, x, y, d.dn⟩
def D.fresh (d : D) : D := ⟨d.room, d.z0.take d.s0, d.s0, d.z1.take d.s1, d.s1, 0, false, 0, 0, false⟩
def D.kept (d : D) : D := ⟨d.room, d.z0, d.z0.length, d.z1, d.z1.length, d.ops + 1, d.ar, d.at', d.kp, false⟩
def D.sync (d : D) : Int × D := if d.dn then (11, d) else if d.crash then (11, d.lost) else (0, d.kept)
def D.none0 (d : D) : D := ⟨d.room, [], 0, d.z1, d.s1, d.ops + 1, d.ar, d.at', d.kp, false⟩
def D.none1 (d : D) : D := ⟨d.room, d.z0, d.s0, [], 0, d.ops + 1, d.ar, d.at', d.kp, false⟩
def D.wipe (d : D) (side : Int) : Int × D := if d.dn then (11, d) else if ¬ (0 ≤ side ∧ side ≤ 1) then (1, d) else if d.crash then (11, d.lost) else (0, if side = 0 then d.none0 else d.none1)
def D.more0 (d : D) (ys : List Int) : D := ⟨d.room, d.z0 ++ ys, d.s0, d.z1, d.s1, d.ops + 1, d.ar, d.at', d.kp, false⟩
def D.more1 (d : D) (ys : List Int) : D := ⟨d.room, d.z0, d.s0, d.z1 ++ ys, d.s1, d.ops + 1, d.ar, d.at', d.kp, false⟩
def D.read (d : D) (side : Int) : List Int := if side = 0 then d.z0 else if side = 1 then d.z1 else []
def D.append (d : D) (side : Int) (ys : List Int) : Int × D := if d.dn then (11, d) else if ¬ (0 ≤ side ∧ side ≤ 1) then (1, d) else if d.room - ((d.read side).length : Int) < (ys.length : Int) then (3, d) else
  if d.crash then (11, d.lost) else (0, if side = 0 then d.more0 ys else d.more1 ys)

theorem D.crash_true {d : D} (h : d.crash = true) : d.ar = true ∧ d.at' ≤ (d.ops : Int) := by simpa [D.crash] using h
theorem D.crash_false {d : D} (h : d.crash = false) : d.ar = false ∨ (d.ops : Int) < d.at' := by
  simp [D.crash] at h
  cases ha : d.ar with
  | false => exact .inl rfl
  | true => exact .inr (by have := h ha; omega)

theorem Lies.lost {w w' : World} {S : Nat → Prop} {b : Nat} {a0 : Option Addr} {c0 : Nat} {a1 : Option Addr} {c1 : Nat} {d : D} (h : Lies w S b a0 c0 a1 c1 d) (o : Only (· = b) w w')
    (hd : Dk w' b d.room (.slice a0 (left0 d.kp d.z0.length d.s0) c0) (left0 d.kp d.z0.length d.s0) (.slice a1 (left1 d.kp d.z0.length d.s0 d.z1.length d.s1) c1) (left1 d.kp d.z0.length d.s0 d.z1.length d.s1) d.ops d.ar d.at' d.kp true) :
    Lies w' S b a0 c0 a1 c1 d.lost :=
  h.turned o hd (left0_le h.ok.s0).2 (left1_le h.ok.s1).2 (Nat.le_refl _) (Nat.le_refl _) h.ok.k1

theorem Lies.same {w w' : World} {S : Nat → Prop} {b : Nat} {a0 : Option Addr} {c0 : Nat} {a1 : Option Addr} {c1 : Nat} {d : D} (h : Lies w S b a0 c0 a1 c1 d) (o : Only (· = b) w w')
    {s0 s1 ops : Nat} {ar : Bool} {at' kp : Int} {dn : Bool} (hd : Dk w' b d.room (.slice a0 d.z0.length c0) s0 (.slice a1 d.z1.length c1) s1 ops ar at' kp dn)
    (hs0 : s0 ≤ d.z0.length) (hs1 : s1 ≤ d.z1.length) (hk : kp ≤ 9223372036854775807) : Lies w' S b a0 c0 a1 c1 ⟨d.room, d.z0, s0, d.z1, s1, ops, ar, at', kp, dn⟩ := by
  have := h.turned o hd (Nat.le_refl _) (Nat.le_refl _) hs0 hs1 hk
  rwa [List.take_length, List.take_length] at this

theorem only_b {w w' : World} {S : Nat → Prop} {b : Nat} (h : Only (· = b) w w') (hb : S b) : Only S w w' := h.mono (fun k _ hk => hk ▸ hb)

theorem deck_down (b : Nat) (w : World) (S : Nat → Prop) (d : D) (h : Deck w S b d) : Calls Try.prog 38 #[.pointer (some ⟨b, 0, none⟩)] w (fun e w' => e = .returned (.bool d.dn) ∧ w' = w) := by
  obtain ⟨a0, c0, a1, c1, h⟩ := h
  exact down_any b w _ _ _ _ _ _ _ _ _ _ h.dk
theorem deck_room (b : Nat) (w : World) (S : Nat → Prop) (d : D) (h : Deck w S b d) : Calls Try.prog 44 #[.pointer (some ⟨b, 0, none⟩)] w (fun e w' => e = .returned (.int .i64 d.room) ∧ w' = w) := by
  obtain ⟨a0, c0, a1, c1, h⟩ := h
  exact room_any b w _ _ _ _ _ _ _ _ _ _ h.dk

theorem deck_arm (b : Nat) (w : World) (S : Nat → Prop) (d : D) (h : Deck w S b d) (x y : Int) (hy : y ≤ 9223372036854775807) :
    Calls Try.prog 12 #[.pointer (some ⟨b, 0, none⟩), .agg #[.int .i64 x, .int .i64 y]] w (fun e w' => e = .returned (.tuple #[]) ∧ Deck w' S b (d.armed x y) ∧ Only S w w') := by
  obtain ⟨a0, c0, a1, c1, h⟩ := h
  refine (arm_any b w _ _ _ _ _ _ _ _ _ _ h.dk x y).mono ?_
  rintro e w' ⟨rfl, hd, o⟩
  exact ⟨rfl, ⟨a0, c0, a1, c1, h.same o hd h.ok.s0 h.ok.s1 hy⟩, only_b o h.sb⟩

theorem deck_restart (b : Nat) (w : World) (S : Nat → Prop) (d : D) (h : Deck w S b d) :
    Calls Try.prog 14 #[.pointer (some ⟨b, 0, none⟩)] w (fun e w' => e = .returned (.tuple #[]) ∧ Deck w' S b d.fresh ∧ Only S w w') := by
  obtain ⟨a0, c0, a1, c1, h⟩ := h
  refine (restart_any b w _ _ _ _ _ _ _ _ _ _ _ _ _ _ h.dk h.ok.s0 h.ok.s1 h.cap0.1 h.cap1.1 h.cap0.2.1 h.cap1.2.1 h.cap0.2.2 h.cap1.2.2).mono ?_
  rintro e w' ⟨rfl, hd, o⟩
  exact ⟨rfl, ⟨a0, c0, a1, c1, h.turned o.1 hd h.ok.s0 h.ok.s1 (Nat.le_refl _) (Nat.le_refl _) (by omega)⟩, only_b o.1 h.sb⟩

theorem deck_sync (b : Nat) (w : World) (S : Nat → Prop) (d : D) (h : Deck w S b d) (ho : d.ops ≤ 4611686018427387904) :
    Calls Try.prog 19 #[.pointer (some ⟨b, 0, none⟩)] w (fun e w' => e = .returned (.int .i64 d.sync.1) ∧ Deck w' S b d.sync.2 ∧ Only S w w') := by
  obtain ⟨a0, c0, a1, c1, h⟩ := h
  unfold D.sync
  cases hdn : d.dn with
  | true =>
    refine (sync_down b w _ _ _ _ _ _ _ _ _ _ h.dk hdn).mono ?_
    rintro e w' ⟨rfl, rfl⟩
    exact ⟨rfl, ⟨a0, c0, a1, c1, h⟩, Only.refl _ _⟩
  | false =>
    cases hc : d.crash with
    | true =>
      refine (sync_crash b w _ _ _ _ _ _ _ _ _ _ _ _ _ _ h.dk hdn (D.crash_true hc).1 (D.crash_true hc).2 h.ok.k1 h.ok.s0 h.ok.s1 h.cap0.1 h.cap1.1 h.cap0.2.1 h.cap1.2.1 h.cap0.2.2 h.cap1.2.2).mono ?_
      rintro e w' ⟨rfl, hd, o⟩
      exact ⟨rfl, ⟨a0, c0, a1, c1, h.lost o.1 hd⟩, only_b o.1 h.sb⟩
    | false =>
      refine (sync_well b w _ _ _ _ _ _ _ _ _ _ _ _ _ _ h.dk hdn (D.crash_false hc) ho h.ok.s0 h.ok.s1 h.cap0.1 h.cap1.1 h.cap0.2.1 h.cap1.2.1 h.cap0.2.2 h.cap1.2.2).mono ?_
      rintro e w' ⟨rfl, hd, o⟩
      exact ⟨rfl, ⟨a0, c0, a1, c1, h.same o.1 hd (Nat.le_refl _) (Nat.le_refl _) h.ok.k1⟩, only_b o.1 h.sb⟩

set_option maxHeartbeats 4000000 in
theorem deck_wipe_no (b : Nat) (w : World) (S : Nat → Prop) (d : D) (h : Deck w S b d) (side r : Int) (hr : mayS d.dn side = r) (hn : r ≠ 0) :
    Calls Try.prog 45 #[.pointer (some ⟨b, 0, none⟩), .int .i64 side] w (fun e w' => e = .returned (.int .i64 r) ∧ w' = w) := by
  obtain ⟨a0, c0, a1, c1, h⟩ := h
  have M := may_any b w _ _ _ _ _ _ _ _ _ _ h.dk side
  rw [hr] at M
  clear h hr
  go_enter Try.func45, Try.ntmps45
  go_wp2_with fail
  go_at_call 36
  refine M.mono ?_
  rintro e w1 ⟨rfl, hw⟩
  obtain rfl := hw.symm
  go_wp2
  go_ret
  exact ⟨rfl, rfl⟩

set_option maxHeartbeats 4000000 in
theorem deck_wipe_crash (b : Nat) (w : World) (S : Nat → Prop) (d : D) (h : Deck w S b d) (side : Int) (hr : mayS d.dn side = 0) (hc : d.crash = true) :
    Calls Try.prog 45 #[.pointer (some ⟨b, 0, none⟩), .int .i64 side] w (fun e w' => e = .returned (.int .i64 11) ∧ Deck w' S b d.lost ∧ Only S w w') := by
  obtain ⟨a0, c0, a1, c1, h⟩ := h
  have M := may_any b w _ _ _ _ _ _ _ _ _ _ h.dk side
  rw [hr] at M
  have N := begin_crash b w _ _ _ _ _ _ _ _ _ _ _ _ _ _ h.dk (D.crash_true hc).1 (D.crash_true hc).2 h.ok.k1 h.ok.s0 h.ok.s1 h.cap0.1 h.cap1.1 h.cap0.2.1 h.cap1.2.1 h.cap0.2.2 h.cap1.2.2
  go_enter Try.func45, Try.ntmps45
  go_wp2_with fail
  go_at_call 36
  refine M.mono ?_
  rintro e w1 ⟨rfl, hw⟩
  obtain rfl := hw.symm
  go_wp2_with fail
  go_at_call 37
  refine N.mono ?_
  rintro e w1 ⟨rfl, hd, o⟩
  have L := h.lost o.1 hd
  have O := only_b o.1 h.sb
  clear M N h hd o hr hc
  go_wp2
  go_ret
  exact ⟨rfl, ⟨a0, c0, a1, c1, L⟩, O⟩

set_option maxHeartbeats 4000000 in
theorem deck_wipe_0 (b : Nat) (w : World) (S : Nat → Prop) (d : D) (h : Deck w S b d) (hr : mayS d.dn 0 = 0) (hc : d.crash = false) (ho : d.ops ≤ 4611686018427387904) :
    Calls Try.prog 45 #[.pointer (some ⟨b, 0, none⟩), .int .i64 0] w (fun e w' => e = .returned (.int .i64 0) ∧ Deck w' S b d.none0 ∧ Only S w w') := by
  obtain ⟨a0, c0, a1, c1, h⟩ := h
  have M := may_any b w _ _ _ _ _ _ _ _ _ _ h.dk 0
  rw [hr] at M
  have hdn : d.dn = false := by
    cases hd : d.dn with
    | false => rfl
    | true => simp [mayS, hd] at hr
  have N := begin_well b w _ _ _ _ _ _ _ _ _ _ h.dk (D.crash_false hc) ho
  go_enter Try.func45, Try.ntmps45
  go_wp2_with fail
  go_at_call 36
  refine M.mono ?_
  rintro e w1 ⟨rfl, hw⟩
  obtain rfl := hw.symm
  go_wp2_with fail
  go_at_call 37
  refine N.mono ?_
  rintro e w1 ⟨rfl, hd, o⟩
  have K := keep0 b w1 _ _ _ _ _ _ _ _ _ _ _ _ hd 0 0 rfl (Nat.zero_le _) h.cap0.2.1 h.cap0.2.2
  rw [hdn] at K
  have H : Hid (Lies w S b a0 c0 a1 c1 d ∧ Turned w b w1) := ⟨h, o⟩
  clear M N h hd o hr hc
  go_wp2_with fail
  go_at_call 39
  refine K.mono ?_
  rintro e w2 ⟨rfl, hd, o⟩
  have O := H.out.2.trans o
  have L : Hid (Lies w2 S b a0 c0 a1 c1 d.none0) := by
    have := H.out.1.turned O.1 (m0 := 0) (s0 := 0) (m1 := d.z1.length) (s1 := d.s1) hd (Nat.zero_le _) (Nat.le_refl _) (Nat.le_refl _) H.out.1.ok.s1 H.out.1.ok.k1
    rw [List.take_length, List.take_zero] at this
    exact this
  have P : Hid (Only S w w2) := only_b O.1 H.out.1.sb
  clear K H hd o O
  go_wp2
  go_ret
  exact ⟨rfl, ⟨a0, c0, a1, c1, L.out⟩, P.out⟩

set_option maxHeartbeats 4000000 in
theorem deck_wipe_1 (b : Nat) (w : World) (S : Nat → Prop) (d : D) (h : Deck w S b d) (hr : mayS d.dn 1 = 0) (hc : d.crash = false) (ho : d.ops ≤ 4611686018427387904) :
    Calls Try.prog 45 #[.pointer (some ⟨b, 0, none⟩), .int .i64 1] w (fun e w' => e = .returned (.int .i64 0) ∧ Deck w' S b d.none1 ∧ Only S w w') := by
  obtain ⟨a0, c0, a1, c1, h⟩ := h
  have M := may_any b w _ _ _ _ _ _ _ _ _ _ h.dk 1
  rw [hr] at M
  have hdn : d.dn = false := by
    cases hd : d.dn with
    | false => rfl
    | true => simp [mayS, hd] at hr
  have N := begin_well b w _ _ _ _ _ _ _ _ _ _ h.dk (D.crash_false hc) ho
  go_enter Try.func45, Try.ntmps45
  go_wp2_with fail
  go_at_call 36
  refine M.mono ?_
  rintro e w1 ⟨rfl, hw⟩
  obtain rfl := hw.symm
  go_wp2_with fail
  go_at_call 37
  refine N.mono ?_
  rintro e w1 ⟨rfl, hd, o⟩
  have K := keep1 b w1 _ _ _ _ _ _ _ _ _ _ _ _ hd 0 0 rfl (Nat.zero_le _) h.cap1.2.1 h.cap1.2.2
  rw [hdn] at K
  have H : Hid (Lies w S b a0 c0 a1 c1 d ∧ Turned w b w1) := ⟨h, o⟩
  clear M N h hd o hr hc
  go_wp2_with fail
  go_at_call 39
  refine K.mono ?_
  rintro e w2 ⟨rfl, hd, o⟩
  have O := H.out.2.trans o
  have L : Hid (Lies w2 S b a0 c0 a1 c1 d.none1) := by
    have := H.out.1.turned O.1 (m1 := 0) (s1 := 0) (m0 := d.z0.length) (s0 := d.s0) hd (Nat.le_refl _) (Nat.zero_le _) H.out.1.ok.s0 (Nat.le_refl _) H.out.1.ok.k1
    rw [List.take_length, List.take_zero] at this
    exact this
  have P : Hid (Only S w w2) := only_b O.1 H.out.1.sb
  clear K H hd o O
  go_wp2
  go_ret
  exact ⟨rfl, ⟨a0, c0, a1, c1, L.out⟩, P.out⟩

theorem deck_wipe (b : Nat) (w : World) (S : Nat → Prop) (d : D) (h : Deck w S b d) (side : Int) (ho : d.ops ≤ 4611686018427387904) :
    Calls Try.prog 45 #[.pointer (some ⟨b, 0, none⟩), .int .i64 side] w (fun e w' => e = .returned (.int .i64 (d.wipe side).1) ∧ Deck w' S b (d.wipe side).2 ∧ Only S w w') := by
  unfold D.wipe
  cases hdn : d.dn with
  | true =>
    refine (deck_wipe_no b w S d h side 11 (by simp [mayS, hdn]) (by decide)).mono ?_
    rintro e w' ⟨rfl, rfl⟩
    exact ⟨rfl, h, Only.refl _ _⟩
  | false =>
    by_cases hs : 0 ≤ side ∧ side ≤ 1
    · simp only [hs, not_true, if_false, Bool.false_eq_true, and_self]
      have hm : mayS d.dn side = 0 := by simp [mayS, hdn, hs]
      cases hc : d.crash with
      | true => exact deck_wipe_crash b w S d h side hm hc
      | false =>
        simp only [if_false, Bool.false_eq_true]
        rcases (show side = 0 ∨ side = 1 by omega) with rfl | rfl
        · exact deck_wipe_0 b w S d h hm hc ho
        · exact deck_wipe_1 b w S d h hm hc ho
    · simp only [hs, not_false_eq_true, if_true, if_false, Bool.false_eq_true]
      refine (deck_wipe_no b w S d h side 1 (by simp [mayS, hdn, hs]) (by decide)).mono ?_
      rintro e w' ⟨rfl, rfl⟩
      exact ⟨rfl, h, Only.refl _ _⟩

end Go.Proofs.Ytdecdjjknbbolaa
