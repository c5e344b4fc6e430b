/-
  girolaw4.TapePlays.
-/
import Derived.Test.YtcclpmjoofaepaaTapeHalf
import Derived.Test.YtcclpmjoofaepaaTapeFacts
import Derived.Test.YtcclpmjoofaepaaArgs
import Derived.Deep.CutRange
import Derived.Deep.CutBlock
import Derived.Deep.RegionHeld3
namespace Go.Proofs.Ytcclpmjoofaepaa
open Go.RowKit
set_option linter.unusedVariables false
set_option linter.unusedSimpArgs false

/-- What the walk is told of a script. -/
def Script (w : World) (a : Option Addr) (n : Nat) (K Sd At Kp : Nat → Int) (A : Nat → Option Addr) (L C : Nat → Nat) (Z : Nat → List Int) : Prop :=
  n = 0 ∨ ∃ bb off, a = some ⟨bb, off, none⟩ ∧ bb < w.heap.size ∧ ∀ r, r < n →
    (w.cell? ⟨bb, off + r * 5, none⟩ = some (.int .i64 (K r)) ∧ w.cell? ⟨bb, off + r * 5 + 1, none⟩ = some (.int .i64 (Sd r)) ∧ w.cell? ⟨bb, off + r * 5 + 2, none⟩ = some (.slice (A r) (L r) (C r)) ∧
      w.cell? ⟨bb, off + r * 5 + 3, none⟩ = some (.int .i64 (At r)) ∧ w.cell? ⟨bb, off + r * 5 + 4, none⟩ = some (.int .i64 (Kp r))) ∧ Sl .u8 w (A r) (L r) (Z r) ∧ (A r = none → C r = 0) ∧ Kp r ≤ 9223372036854775807

theorem hdown_fact {w0 u : World} {b1 b2 : Nat} {d e : D} (h : Half w0 u b1 b2 d e) (x : Bool) (hx : d.dn = x) :
    Calls Try.prog 21 #[.pointer (some ⟨b1, 0, none⟩)] u fun e w' => ∃ v, e = .returned v ∧ Below u.heap.size u w' ∧ (Fact.is (.bool x)).1 w' v := by
  obtain ⟨S1, _, h1, _⟩ := h
  exact down_fact b1 u S1 d h1 x hx
theorem hops_fact {w0 u : World} {b1 b2 : Nat} {d e : D} (h : Half w0 u b1 b2 d e) (x : Int) (hx : (d.ops : Int) = x) :
    Calls Try.prog 22 #[.pointer (some ⟨b1, 0, none⟩)] u fun e w' => ∃ v, e = .returned v ∧ Below u.heap.size u w' ∧ (Fact.is (.int .i64 x)).1 w' v := by
  obtain ⟨S1, _, h1, _⟩ := h
  exact ops_fact b1 u S1 d h1 x hx
theorem hroom_fact {w0 u : World} {b1 b2 : Nat} {d e : D} (h : Half w0 u b1 b2 d e) (x : Int) (hx : d.room = x) :
    Calls Try.prog 23 #[.pointer (some ⟨b1, 0, none⟩)] u fun e w' => ∃ v, e = .returned v ∧ Below u.heap.size u w' ∧ (Fact.is (.int .i64 x)).1 w' v := by
  obtain ⟨S1, _, h1, _⟩ := h
  exact room_fact b1 u S1 d h1 x hx
theorem hread_fact {w0 u : World} {b1 b2 : Nat} {d e : D} (h : Half w0 u b1 b2 d e) (side : Int) (zs : List Int) (n : Nat) (hz : d.read side = zs) (hn : zs.length = n) :
    Calls Try.prog 24 #[.pointer (some ⟨b1, 0, none⟩), .int .i64 side] u fun e w' => ∃ v, e = .returned v ∧ Below u.heap.size u w' ∧ (Fact.sl .u8 n zs).1 w' v := by
  obtain ⟨S1, _, h1, _⟩ := h
  exact read_fact b1 u S1 d h1 side zs n hz hn
theorem hrread_fact {w0 u : World} {b1 b2 : Nat} {d e : D} (h : Half w0 u b1 b2 d e) (side : Int) (hs : side = 0 ∨ side = 1) (zs : List Int) (n : Nat) (hz : e.read side = zs) (hn : zs.length = n) :
    Calls Try.prog 25 #[.pointer (some ⟨b2, 0, none⟩), .int .i64 side] u fun e w' => ∃ v, e = .returned v ∧ Below u.heap.size u w' ∧ (Fact.sl .u8 n zs).1 w' v := by
  obtain ⟨_, S2, _, h2, _⟩ := h
  refine (ref_read b2 u S2 e h2 side hs).mono ?_
  have hb := D.read_bs h2.ok side
  rw [hz] at hb ⊢
  rintro e w' ⟨v, rfl, ho, k⟩
  have hc := ho
  obtain ⟨a, c, rfl, hs, hn'⟩ := Sl.own ho hb
  have := own_cap hc
  subst hn
  exact ⟨_, rfl, k, a, c, rfl, hs, this.1, this.2⟩
theorem hdown_cell {w0 u : World} {b1 b2 : Nat} {d e : D} (h : Half w0 u b1 b2 d e) (x : Bool) (hx : e.dn = x) : u.cell? ⟨b2, 9, none⟩ = some (.bool x) := by
  obtain ⟨_, S2, _, ⟨_, _, _, _, _, _, h2⟩, _⟩ := h
  rw [← hx]
  exact h2.dk.ten.2.1.2.2.2.2
theorem hops_cell {w0 u : World} {b1 b2 : Nat} {d e : D} (h : Half w0 u b1 b2 d e) (x : Int) (hx : (e.ops : Int) = x) : u.cell? ⟨b2, 5, none⟩ = some (.int .i64 x) := by
  obtain ⟨_, S2, _, ⟨_, _, _, _, _, _, h2⟩, _⟩ := h
  rw [← hx]
  exact h2.dk.ten.2.1.1

/-- What each operation does to the room and to how many there were. -/
theorem append_calm (d : D) (side : Int) (ys : List Int) : (d.append side ys).2.room = d.room ∧ (d.append side ys).2.ops ≤ d.ops + 1 := by
  unfold D.append
  split
  · exact ⟨rfl, Nat.le_succ _⟩
  · split
    · exact ⟨rfl, Nat.le_succ _⟩
    · split
      · exact ⟨rfl, Nat.le_succ _⟩
      · split
        · exact ⟨rfl, Nat.le_succ _⟩
        · dsimp only
          split
          · exact ⟨rfl, Nat.le_refl _⟩
          · exact ⟨rfl, Nat.le_refl _⟩
theorem wipe_calm (d : D) (side : Int) : (d.wipe side).2.room = d.room ∧ (d.wipe side).2.ops ≤ d.ops + 1 := by
  unfold D.wipe
  split
  · exact ⟨rfl, Nat.le_succ _⟩
  · split
    · exact ⟨rfl, Nat.le_succ _⟩
    · split
      · exact ⟨rfl, Nat.le_succ _⟩
      · dsimp only
        split
        · exact ⟨rfl, Nat.le_refl _⟩
        · exact ⟨rfl, Nat.le_refl _⟩
theorem sync_calm (d : D) : d.sync.2.room = d.room ∧ d.sync.2.ops ≤ d.ops + 1 := by
  unfold D.sync
  split
  · exact ⟨rfl, Nat.le_succ _⟩
  · split
    · exact ⟨rfl, Nat.le_succ _⟩
    · exact ⟨rfl, Nat.le_refl _⟩

/-- The cells of the copy of an act. -/
theorem act_cells {w : World} {g : Nat} {v0 v1 v2 v3 v4 : Value} {t : TypeId} (h : w.heap[g]? = some (.cells #[v0, v1, v2, v3, v4] t (0, 0))) :
    w.cell? ⟨g, 0, none⟩ = some v0 ∧ w.cell? ⟨g, 1, none⟩ = some v1 ∧ w.cell? ⟨g, 2, none⟩ = some v2 ∧ w.cell? ⟨g, 3, none⟩ = some v3 ∧ w.cell? ⟨g, 4, none⟩ = some v4 :=
  ⟨cell_of_row w g 0 _ _ _ h, cell_of_row w g 1 _ _ _ h, cell_of_row w g 2 _ _ _ h, cell_of_row w g 3 _ _ _ h, cell_of_row w g 4 _ _ _ h⟩

set_option maxRecDepth 100000 in
set_option maxHeartbeats 4000000 in
theorem plays_in (room : Int) (a1 : Option Addr) (n cap1 : Nat) (K Sd At Kp : Nat → Int) (A : Nat → Option Addr) (L C : Nat → Nat) (Z : Nat → List Int) (w : World)
    (h0 : 0 ≤ room) (h1 : room ≤ 200000) (hn : n ≤ 80) (hR : Script w a1 n K Sd At Kp A L C Z) :
    Calls Try.prog 3 #[.int .i64 room, .slice a1 n cap1] w fun e w' => e = .returned (.bool true) ∧ Below w.heap.size w w' := by
  have HR : Hid (Script w a1 n K Sd At Kp A L C Z) := hR
  have i1 : (n : Int) ≤ 80 := by omega
  clear hR
  go_enter Try.func3, Try.ntmps3
  go_wp2_with fail
  go_at_call 9
  refine (new_well room w h0 h1).mono ?_
  rintro e w1 ⟨rfl, d1, k1⟩
  have hb1 : w.heap.size < w1.heap.size := by obtain ⟨_, _, _, _, h⟩ := d1; exact lt_of_block h.dk
  go_wp2_with fail
  go_at_call 10
  refine (rnew_well room w1 h0 h1).mono ?_
  rintro e w2 ⟨rfl, d2, k2⟩
  have hb2 : w1.heap.size < w2.heap.size := by obtain ⟨_, _, _, _, _, _, h⟩ := d2; exact lt_of_block h.dk
  have HF : Hid (Half w w2 w.heap.size w1.heap.size (D.new room) (D.new room)) :=
    ⟨(· = w.heap.size), (· = w1.heap.size), d1.below k2, d2, fun j hj => by subst hj; omega, fun j hj => by subst hj; omega, fun j hj hs => by omega, k1.trans (k2.mono (by omega))⟩
  obtain ⟨b1, hB1⟩ : ∃ b, w.heap.size = b := ⟨_, rfl⟩
  obtain ⟨b2, hB2⟩ : ∃ b, w1.heap.size = b := ⟨_, rfl⟩
  rw [hB1, hB2] at HF
  rw [hB1, hB2]
  clear hB1 hB2 d1 d2 k1 k2 hb1 hb2
  go_wp2
  go_loopw [7] (fun i wr => ∃ (k : Nat) (d : D), i = .int .i64 k ∧ k ≤ n ∧ Half w wr b1 b2 d d ∧ d.room = room ∧ d.ops ≤ k) (fun i _ => ((n : Int) - intOf i).toNat)
  case atStart => exact ⟨0, _, rfl, by omega, HF.out, rfl, Nat.le_refl _⟩
  case round =>
    clear HF
    obtain ⟨k, d, rfl, hk, hm, hd⟩ := hrel
    by_cases hlt : k < n
    · have hltI : (k : Int) < (n : Int) := by omega
      obtain ⟨bb, off, ha1, hbb, hrow⟩ := HR.out.resolve_left (by omega)
      obtain ⟨⟨r0, r1, r2, r3, r4⟩, r5, r6, r7⟩ := hrow k hlt
      obtain ⟨kk, hkk⟩ : ∃ x, K k = x := ⟨_, rfl⟩
      obtain ⟨sd, hsd⟩ : ∃ x, Sd k = x := ⟨_, rfl⟩
      obtain ⟨tt, htt⟩ : ∃ x, At k = x := ⟨_, rfl⟩
      obtain ⟨kp, hkp⟩ : ∃ x, Kp k = x := ⟨_, rfl⟩
      obtain ⟨Ak, hAk⟩ : ∃ x, A k = x := ⟨_, rfl⟩
      obtain ⟨Lk, hLk⟩ : ∃ x, L k = x := ⟨_, rfl⟩
      obtain ⟨Ck, hCk⟩ : ∃ x, C k = x := ⟨_, rfl⟩
      obtain ⟨Zk, hZk⟩ : ∃ x, Z k = x := ⟨_, rfl⟩
      rw [hkk] at r0
      rw [hsd] at r1
      rw [hAk, hLk, hCk] at r2
      rw [htt] at r3
      rw [hkp] at r4 r7
      rw [hAk, hLk, hZk] at r5
      rw [hAk, hCk] at r6
      have HRk : Hid (Sl .u8 w Ak Lk Zk ∧ (Ak = none → Ck = 0) ∧ kp ≤ 9223372036854775807) := ⟨r5, r6, r7⟩
      have bl := hm.below
      have c0 := (bl.cell (p := ⟨bb, off + k * 5, none⟩) hbb).trans r0
      have c1 := (bl.cell (p := ⟨bb, off + k * 5 + 1, none⟩) hbb).trans r1
      have c2 := (bl.cell (p := ⟨bb, off + k * 5 + 2, none⟩) hbb).trans r2
      have c3 := (bl.cell (p := ⟨bb, off + k * 5 + 3, none⟩) hbb).trans r3
      have c4 := (bl.cell (p := ⟨bb, off + k * 5 + 4, none⟩) hbb).trans r4
      clear r0 r1 r2 r3 r4 r5 r6 r7 hrow hkk hsd htt hkp hAk hLk hCk hZk
      subst ha1
      have HM : Hid (Half w wr b1 b2 d d ∧ d.room = room ∧ d.ops ≤ k) := ⟨hm, hd⟩
      clear hm hd
      by_cases hbig : (300 : Int) < Lk
      · have blw := HM.out.1.below
        go_wp2
        go_ret
        exact ⟨rfl, blw.alloc blw.size _⟩
      · go_upto_block 2 with fail
        obtain ⟨w5, hw5⟩ : ∃ x, wr.alloc (.cells #[.int .i64 kk, .int .i64 sd, .slice Ak Lk Ck, .int .i64 tt, .int .i64 kp] 31) = x := ⟨_, rfl⟩
        obtain ⟨g, hg⟩ : ∃ x, wr.heap.size = x := ⟨_, rfl⟩
        have HG : Hid (w5.heap[g]? = some (.cells #[.int .i64 kk, .int .i64 sd, .slice Ak Lk Ck, .int .i64 tt, .int .i64 kp] 31 (0, 0))) := by rw [← hw5, ← hg]; exact heap_alloc_new wr _
        have HF : Hid (Far w w5 b1 b2 d d g) := by rw [← hw5, ← hg]; exact HM.out.1.far _
        rw [hw5]
        rw [hg]
        clear hw5 hg c0 c1 c2 c3 c4 hbb bl
        go_cut [9] from 22 to 140 (fun s wc => s = .bool true ∧ ∃ d' : D, Half w wc b1 b2 d' d' ∧ d'.room = room ∧ d'.ops ≤ k + 1)
        case first =>
          obtain ⟨q0, q1, q2, q3, q4⟩ := act_cells HG.out
          have hops : d.ops ≤ 4611686018427387904 := by have := HM.out.2.2; omega
          by_cases e2 : kk = 2
          · subst e2
            obtain ⟨r, d', hw⟩ : ∃ x y, d.sync = (x, y) := ⟨_, _, rfl⟩
            have hc := sync_calm d
            rw [hw] at hc
            have HW : Hid (d'.room = d.room ∧ d'.ops ≤ d.ops + 1) := hc
            clear hc
            go_wp2_with fail
            go_at_call 13
            refine (far_sync HF.out hops r d' hw).mono ?_
            rintro e w6 ⟨rfl, f6, e6⟩
            have G6 : Hid (w6.heap[g]? = some (.cells #[.int .i64 2, .int .i64 sd, .slice Ak Lk Ck, .int .i64 tt, .int .i64 kp] 31 (0, 0))) := e6.trans HG.out
            clear q0 q1 q2 q3 q4 e6
            obtain ⟨q0, q1, q2, q3, q4⟩ := act_cells G6.out
            go_wp2_with fail
            go_at_call 14
            refine (far_rsync f6 hops r d' hw).mono ?_
            rintro e w7 ⟨rfl, f7, e7⟩
            have H7 : Hid (Half w w7 b1 b2 d' d') := f7.half
            clear q0 q1 q2 q3 q4 f6 f7 e7 G6
            go_wp2
            go_meet
            case rel => exact ⟨rfl, d', H7.out, HW.out.1.trans HM.out.2.1, by have := HW.out.2; have := HM.out.2.2; omega⟩
          have n2 : (kk == 2) = false := by simpa using e2
          by_cases e4 : kk = 4
          · subst e4
            go_wp2_with fail
            go_at_call 17
            refine (far_arm HF.out tt kp HRk.out.2.2).mono ?_
            rintro e w6 ⟨rfl, f6, e6⟩
            have G6 : Hid (w6.heap[g]? = some (.cells #[.int .i64 4, .int .i64 sd, .slice Ak Lk Ck, .int .i64 tt, .int .i64 kp] 31 (0, 0))) := e6.trans HG.out
            clear q0 q1 q2 q3 q4 e6
            obtain ⟨q0, q1, q2, q3, q4⟩ := act_cells G6.out
            go_wp2_with fail
            go_at_call 18
            refine (far_rarm f6 tt kp HRk.out.2.2).mono ?_
            rintro e w7 ⟨rfl, f7, e7⟩
            have H7 : Hid (Half w w7 b1 b2 (d.armed tt kp) (d.armed tt kp)) := f7.half
            clear q0 q1 q2 q3 q4 f6 f7 e7 G6
            go_wp2
            go_meet
            case rel => exact ⟨rfl, d.armed tt kp, H7.out, HM.out.2.1, Nat.le_succ_of_le HM.out.2.2⟩
          have n4 : (kk == 4) = false := by simpa using e4
          by_cases e5 : kk = 5
          · subst e5
            go_wp2_with fail
            go_at_call 19
            refine (far_restart HF.out).mono ?_
            rintro e w6 ⟨rfl, f6, e6⟩
            have G6 : Hid (w6.heap[g]? = some (.cells #[.int .i64 5, .int .i64 sd, .slice Ak Lk Ck, .int .i64 tt, .int .i64 kp] 31 (0, 0))) := e6.trans HG.out
            clear q0 q1 q2 q3 q4 e6
            obtain ⟨q0, q1, q2, q3, q4⟩ := act_cells G6.out
            go_wp2_with fail
            go_at_call 20
            refine (far_rrestart f6).mono ?_
            rintro e w7 ⟨rfl, f7, e7⟩
            have H7 : Hid (Half w w7 b1 b2 d.fresh d.fresh) := f7.half
            clear q0 q1 q2 q3 q4 f6 f7 e7 G6
            go_wp2
            go_meet
            case rel => exact ⟨rfl, d.fresh, H7.out, HM.out.2.1, Nat.zero_le _⟩
          have n5 : (kk == 5) = false := by simpa using e5
          by_cases e1 : kk = 1
          · subst e1
            obtain ⟨r, d', hw⟩ : ∃ x y, d.append sd Zk = (x, y) := ⟨_, _, rfl⟩
            have hc := append_calm d sd Zk
            rw [hw] at hc
            have HW : Hid (d'.room = d.room ∧ d'.ops ≤ d.ops + 1) := hc
            have hL : Lk ≤ 1000000 := by omega
            clear hc
            go_wp2
            go_region_held3 (fun w' => w'.cell? ⟨g, 1, none⟩ = some (.int .i64 sd) ∧ w'.cell? ⟨g, 2, none⟩ = some (.slice Ak Lk Ck)) (first | go_keep | (refine ⟨?_, ?_⟩ <;> assumption))
              (first
              | (go_at_call 11; refine (far_append (HF.out.drewF) sd Ak Lk Ck Zk HRk.out.1 HRk.out.2.1 hL hops r d' hw).mono ?_; rintro e w6 ⟨rfl, f6, e6⟩; obtain ⟨s0, s1, s2, s3, s4⟩ := act_cells (e6.trans HG.out))
              | (go_at_call 12; refine (far_rappend f6 sd Ak Lk Ck Zk HRk.out.1 HRk.out.2.1 hL hops r d' hw).mono ?_; rintro e w7 ⟨rfl, f7, e7⟩; obtain ⟨p0, p1, p2, p3, p4⟩ := act_cells (e7.trans (e6.trans HG.out)))
              | fail)
            all_goals
              have H7 : Hid (Half w w7 b1 b2 d' d') := f7.half
              clear q0 q1 q2 q3 q4 f6 f7 e6 e7 s0 s1 s2 s3 s4 p0 p1 p2 p3 p4
              go_wp2
              go_meet
              case rel => exact ⟨rfl, d', H7.out, HW.out.1.trans HM.out.2.1, by have := HW.out.2; have := HM.out.2.2; omega⟩
          have n1 : (kk == 1) = false := by simpa using e1
          by_cases e3 : kk = 3
          · subst e3
            obtain ⟨r, d', hw⟩ : ∃ x y, d.wipe sd = (x, y) := ⟨_, _, rfl⟩
            have hc := wipe_calm d sd
            rw [hw] at hc
            have HW : Hid (d'.room = d.room ∧ d'.ops ≤ d.ops + 1) := hc
            clear hc
            go_wp2
            go_region_held3 (fun w' => w'.cell? ⟨g, 1, none⟩ = some (.int .i64 sd)) (first | go_keep | assumption)
              (first
              | (go_at_call 15; refine (far_wipe (HF.out.drewF) sd hops r d' hw).mono ?_; rintro e w6 ⟨rfl, f6, e6⟩; obtain ⟨s0, s1, s2, s3, s4⟩ := act_cells (e6.trans HG.out))
              | (go_at_call 16; refine (far_rwipe f6 sd hops r d' hw).mono ?_; rintro e w7 ⟨rfl, f7, e7⟩; obtain ⟨p0, p1, p2, p3, p4⟩ := act_cells (e7.trans (e6.trans HG.out)))
              | fail)
            all_goals
              have H7 : Hid (Half w w7 b1 b2 d' d') := f7.half
              clear q0 q1 q2 q3 q4 f6 f7 e6 e7 s0 s1 s2 s3 s4 p0 p1 p2 p3 p4
              go_wp2
              go_meet
              case rel => exact ⟨rfl, d', H7.out, HW.out.1.trans HM.out.2.1, by have := HW.out.2; have := HM.out.2.2; omega⟩
          have n3 : (kk == 3) = false := by simpa using e3
          have H7 : Hid (Half w w5 b1 b2 d d) := HF.out.half
          go_wp2
          go_meet
          case rel => exact ⟨rfl, d, H7.out, HM.out.2.1, Nat.le_succ_of_le HM.out.2.2⟩
        case rest =>
          obtain ⟨rfl, d', hh, hr1, hr2⟩ := hcut
          have HC : Hid (Half w wc b1 b2 d' d') := hh
          have HD' : Hid (d'.room = room ∧ d'.ops ≤ k + 1) := ⟨hr1, hr2⟩
          obtain ⟨dn, hdn⟩ : ∃ x, d'.dn = x := ⟨_, rfl⟩
          obtain ⟨op, hop⟩ : ∃ x, (d'.ops : Int) = x := ⟨_, rfl⟩
          obtain ⟨z0, hz0⟩ : ∃ x, d'.read 0 = x := ⟨_, rfl⟩
          obtain ⟨z1, hz1⟩ : ∃ x, d'.read 1 = x := ⟨_, rfl⟩
          obtain ⟨l0, hl0⟩ : ∃ x, z0.length = x := ⟨_, rfl⟩
          obtain ⟨l1, hl1⟩ : ∃ x, z1.length = x := ⟨_, rfl⟩
          have HN : Hid (d'.dn = dn ∧ (d'.ops : Int) = op ∧ d'.room = room ∧ d'.read 0 = z0 ∧ z0.length = l0 ∧ d'.read 1 = z1 ∧ z1.length = l1) := ⟨hdn, hop, hr1, hz0, hl0, hz1, hl1⟩
          clear hh hr1 hr2 hdn hop hz0 hz1 hl0 hl1 HG HF
          go_wp2
          refine region_owes (L := [Fact.is (.bool true),
            Fact.is (.bool false),
            Fact.is (.bool false),
            Fact.is (.pointer (some ⟨b1, 0, none⟩)),
            Fact.is (.bool dn),
            Fact.is (.pointer (some ⟨b2, 0, none⟩)),
            Fact.is (.pointer (some ⟨b2, 0, none⟩)),
            Fact.is (.pointer (some ⟨b2, 9, none⟩)),
            Fact.is (.bool dn),
            Fact.is (.bool false),
            Fact.is (.bool false),
            Fact.is (.bool false),
            Fact.is (.pointer (some ⟨b1, 0, none⟩)),
            Fact.is (.int .i64 op),
            Fact.is (.pointer (some ⟨b2, 0, none⟩)),
            Fact.is (.pointer (some ⟨b2, 0, none⟩)),
            Fact.is (.pointer (some ⟨b2, 5, none⟩)),
            Fact.is (.int .i64 op),
            Fact.is (.bool false),
            Fact.is (.bool false),
            Fact.is (.bool false),
            Fact.is (.pointer (some ⟨b1, 0, none⟩)),
            Fact.is (.int .i64 room),
            Fact.is (.int .i64 room),
            Fact.is (.bool false),
            Fact.is (.bool false),
            Fact.is (.bool false),
            Fact.is (.pointer (some ⟨b1, 0, none⟩)),
            Fact.sl .u8 l0 z0,
            Fact.is (.string (strOfNums z0)),
            Fact.is (.pointer (some ⟨b2, 0, none⟩)),
            Fact.sl .u8 l0 z0,
            Fact.is (.string (strOfNums z0)),
            Fact.is (.bool false),
            Fact.is (.bool false),
            Fact.is (.bool false),
            Fact.is (.pointer (some ⟨b1, 0, none⟩)),
            Fact.sl .u8 l1 z1,
            Fact.is (.string (strOfNums z1)),
            Fact.is (.pointer (some ⟨b2, 0, none⟩)),
            Fact.sl .u8 l1 z1,
            Fact.is (.string (strOfNums z1)),
            Fact.is (.bool false),
            Fact.is (.bool false),
            Fact.is (.bool false),
            Fact.is (.pointer (some ⟨b1, 0, none⟩)),
            Fact.sl .u8 0 [],
            Fact.is (.int .i64 0),
            Fact.is (.bool false),
            Fact.is (.bool false)])
            (T := [91, 92, 93, 94, 95, 96, 97, 98, 99, 100, 101, 102, 103, 104, 105, 106, 107, 108, 109, 110, 111, 112, 113, 114, 115, 116, 117, 118, 119, 120, 121, 122, 123, 124, 125, 126, 127, 128, 129, 130, 131, 132, 133, 134, 135, 136, 137, 138, 139, 140]) (by kernel_rfl) (by kernel_rfl) rfl ?owes ?_
          case owes =>
            refine .cons (owes_move (.tmp 9) (.inl rfl) fun q u lh => ⟨wants_free rfl, lh.old 9 rfl⟩) ?_
            refine .cons (owes_value fun q u lh => ⟨wants_free rfl, .bool false, by have e91 : q.tmps.getD 91 undef = .bool true := lh.dep 0 rfl; simp [execOp, Act.eval, e91, go_sem], rfl⟩) ?_
            refine .cons (owes_move (.tmp 92) (.inl rfl) fun q u lh => ⟨wants_free rfl, lh.dep 1 rfl⟩) ?_
            refine .cons (owes_move (.tmp 5) (.inl rfl) fun q u lh => ⟨lh.wants1 2 false rfl rfl rfl, lh.old 5 rfl⟩) ?_
            refine .cons (owes_call 21 Try.func21 (by kernel_rfl) (by kernel_rfl) [.tmp 94] #[23] rfl fun q u lh => ⟨lh.wants1 2 false rfl rfl rfl, by have e94 : q.tmps.getD 94 undef = .pointer (some ⟨b1, 0, none⟩) := lh.dep 3 rfl; show Calls Try.prog 21 #[q.tmps.getD 94 undef] u _; rw [e94]; exact hdown_fact (HC.out.grow lh.below) dn HN.out.1⟩) ?_
            refine .cons (owes_move (.tmp 6) (.inl rfl) fun q u lh => ⟨lh.wants1 2 false rfl rfl rfl, lh.old 6 rfl⟩) ?_
            refine .cons (owes_value fun q u lh => ⟨lh.wants1 2 false rfl rfl rfl, .pointer (some ⟨b2, 0, none⟩), by have e96 : q.tmps.getD 96 undef = .pointer (some ⟨b2, 0, none⟩) := lh.dep 5 rfl; simp [execOp, Act.eval, e96, go_sem], rfl⟩) ?_
            refine .cons (owes_value fun q u lh => ⟨lh.wants1 2 false rfl rfl rfl, .pointer (some ⟨b2, 9, none⟩), by have e97 : q.tmps.getD 97 undef = .pointer (some ⟨b2, 0, none⟩) := lh.dep 6 rfl; simp [execOp, Act.eval, e97, go_sem], rfl⟩) ?_
            refine .cons (owes_value fun q u lh => ⟨lh.wants1 2 false rfl rfl rfl, .bool dn, by have e98 : q.tmps.getD 98 undef = .pointer (some ⟨b2, 9, none⟩) := lh.dep 7 rfl; have c := hdown_cell (HC.out.grow lh.below) dn HN.out.1; simp [execOp, Act.eval, e98, c, go_sem], rfl⟩) ?_
            refine .cons (owes_value fun q u lh => ⟨lh.wants1 2 false rfl rfl rfl, .bool false, by have e95 : q.tmps.getD 95 undef = .bool dn := lh.dep 4 rfl; have e99 : q.tmps.getD 99 undef = .bool dn := lh.dep 8 rfl; simp [execOp, Act.eval, e95, e99, go_sem], rfl⟩) ?_
            refine .cons (owes_pick (.tmp 93) (.const (.bool true)) (.tmp 100) rfl fun q u lh => ⟨wants_free rfl, false, lh.dep 2 rfl, lh.dep 9 rfl⟩) ?_
            refine .cons (owes_move (.tmp 101) (.inl rfl) fun q u lh => ⟨wants_free rfl, lh.dep 10 rfl⟩) ?_
            refine .cons (owes_move (.tmp 5) (.inl rfl) fun q u lh => ⟨lh.wants1 11 false rfl rfl rfl, lh.old 5 rfl⟩) ?_
            refine .cons (owes_call 22 Try.func22 (by kernel_rfl) (by kernel_rfl) [.tmp 103] #[23] rfl fun q u lh => ⟨lh.wants1 11 false rfl rfl rfl, by have e103 : q.tmps.getD 103 undef = .pointer (some ⟨b1, 0, none⟩) := lh.dep 12 rfl; show Calls Try.prog 22 #[q.tmps.getD 103 undef] u _; rw [e103]; exact hops_fact (HC.out.grow lh.below) op HN.out.2.1⟩) ?_
            refine .cons (owes_move (.tmp 6) (.inl rfl) fun q u lh => ⟨lh.wants1 11 false rfl rfl rfl, lh.old 6 rfl⟩) ?_
            refine .cons (owes_value fun q u lh => ⟨lh.wants1 11 false rfl rfl rfl, .pointer (some ⟨b2, 0, none⟩), by have e105 : q.tmps.getD 105 undef = .pointer (some ⟨b2, 0, none⟩) := lh.dep 14 rfl; simp [execOp, Act.eval, e105, go_sem], rfl⟩) ?_
            refine .cons (owes_value fun q u lh => ⟨lh.wants1 11 false rfl rfl rfl, .pointer (some ⟨b2, 5, none⟩), by have e106 : q.tmps.getD 106 undef = .pointer (some ⟨b2, 0, none⟩) := lh.dep 15 rfl; simp [execOp, Act.eval, e106, go_sem], rfl⟩) ?_
            refine .cons (owes_value fun q u lh => ⟨lh.wants1 11 false rfl rfl rfl, .int .i64 op, by have e107 : q.tmps.getD 107 undef = .pointer (some ⟨b2, 5, none⟩) := lh.dep 16 rfl; have c := hops_cell (HC.out.grow lh.below) op HN.out.2.1; simp [execOp, Act.eval, e107, c, go_sem], rfl⟩) ?_
            refine .cons (owes_value fun q u lh => ⟨lh.wants1 11 false rfl rfl rfl, .bool false, by have e104 : q.tmps.getD 104 undef = .int .i64 op := lh.dep 13 rfl; have e108 : q.tmps.getD 108 undef = .int .i64 op := lh.dep 17 rfl; simp [execOp, Act.eval, e104, e108, go_sem], rfl⟩) ?_
            refine .cons (owes_pick (.tmp 102) (.const (.bool true)) (.tmp 109) rfl fun q u lh => ⟨wants_free rfl, false, lh.dep 11 rfl, lh.dep 18 rfl⟩) ?_
            refine .cons (owes_move (.tmp 110) (.inl rfl) fun q u lh => ⟨wants_free rfl, lh.dep 19 rfl⟩) ?_
            refine .cons (owes_move (.tmp 5) (.inl rfl) fun q u lh => ⟨lh.wants1 20 false rfl rfl rfl, lh.old 5 rfl⟩) ?_
            refine .cons (owes_call 23 Try.func23 (by kernel_rfl) (by kernel_rfl) [.tmp 112] #[23] rfl fun q u lh => ⟨lh.wants1 20 false rfl rfl rfl, by have e112 : q.tmps.getD 112 undef = .pointer (some ⟨b1, 0, none⟩) := lh.dep 21 rfl; show Calls Try.prog 23 #[q.tmps.getD 112 undef] u _; rw [e112]; exact hroom_fact (HC.out.grow lh.below) room HN.out.2.2.1⟩) ?_
            refine .cons (owes_move (.tmp 0) (.inl rfl) fun q u lh => ⟨lh.wants1 20 false rfl rfl rfl, lh.old 0 rfl⟩) ?_
            refine .cons (owes_value fun q u lh => ⟨lh.wants1 20 false rfl rfl rfl, .bool false, by have e113 : q.tmps.getD 113 undef = .int .i64 room := lh.dep 22 rfl; have e114 : q.tmps.getD 114 undef = .int .i64 room := lh.dep 23 rfl; simp [execOp, Act.eval, e113, e114, go_sem], rfl⟩) ?_
            refine .cons (owes_pick (.tmp 111) (.const (.bool true)) (.tmp 115) rfl fun q u lh => ⟨wants_free rfl, false, lh.dep 20 rfl, lh.dep 24 rfl⟩) ?_
            refine .cons (owes_move (.tmp 116) (.inl rfl) fun q u lh => ⟨wants_free rfl, lh.dep 25 rfl⟩) ?_
            refine .cons (owes_move (.tmp 5) (.inl rfl) fun q u lh => ⟨lh.wants1 26 false rfl rfl rfl, lh.old 5 rfl⟩) ?_
            refine .cons (owes_call 24 Try.func24 (by kernel_rfl) (by kernel_rfl) [.tmp 118, .const (.int .i64 0)] #[23, 3] rfl fun q u lh => ⟨lh.wants1 26 false rfl rfl rfl, by have e118 : q.tmps.getD 118 undef = .pointer (some ⟨b1, 0, none⟩) := lh.dep 27 rfl; show Calls Try.prog 24 #[q.tmps.getD 118 undef, (.int .i64 0)] u _; rw [e118]; exact hread_fact (HC.out.grow lh.below) 0 z0 l0 HN.out.2.2.2.1 HN.out.2.2.2.2.1⟩) ?_
            refine .cons (owes_text_new 27 9 5 119 28 l0 z0 rfl rfl rfl rfl rfl Try.underlying27 Try.underlying5 Try.underlying9 fun q u lh => lh.wants1 26 false rfl rfl rfl) ?_
            refine .cons (owes_move (.tmp 6) (.inl rfl) fun q u lh => ⟨lh.wants1 26 false rfl rfl rfl, lh.old 6 rfl⟩) ?_
            refine .cons (owes_call 25 Try.func25 (by kernel_rfl) (by kernel_rfl) [.tmp 121, .const (.int .i64 0)] #[25, 3] rfl fun q u lh => ⟨lh.wants1 26 false rfl rfl rfl, by have e121 : q.tmps.getD 121 undef = .pointer (some ⟨b2, 0, none⟩) := lh.dep 30 rfl; show Calls Try.prog 25 #[q.tmps.getD 121 undef, (.int .i64 0)] u _; rw [e121]; exact hrread_fact (HC.out.grow lh.below) 0 (.inl rfl) z0 l0 HN.out.2.2.2.1 HN.out.2.2.2.2.1⟩) ?_
            refine .cons (owes_text_new 27 9 5 122 31 l0 z0 rfl rfl rfl rfl rfl Try.underlying27 Try.underlying5 Try.underlying9 fun q u lh => lh.wants1 26 false rfl rfl rfl) ?_
            refine .cons (owes_value fun q u lh => ⟨lh.wants1 26 false rfl rfl rfl, .bool false, by have e120 : q.tmps.getD 120 undef = .string (strOfNums z0) := lh.dep 29 rfl; have e123 : q.tmps.getD 123 undef = .string (strOfNums z0) := lh.dep 32 rfl; simp [execOp, Act.eval, e120, e123, go_sem], rfl⟩) ?_
            refine .cons (owes_pick (.tmp 117) (.const (.bool true)) (.tmp 124) rfl fun q u lh => ⟨wants_free rfl, false, lh.dep 26 rfl, lh.dep 33 rfl⟩) ?_
            refine .cons (owes_move (.tmp 125) (.inl rfl) fun q u lh => ⟨wants_free rfl, lh.dep 34 rfl⟩) ?_
            refine .cons (owes_move (.tmp 5) (.inl rfl) fun q u lh => ⟨lh.wants1 35 false rfl rfl rfl, lh.old 5 rfl⟩) ?_
            refine .cons (owes_call 24 Try.func24 (by kernel_rfl) (by kernel_rfl) [.tmp 127, .const (.int .i64 1)] #[23, 3] rfl fun q u lh => ⟨lh.wants1 35 false rfl rfl rfl, by have e127 : q.tmps.getD 127 undef = .pointer (some ⟨b1, 0, none⟩) := lh.dep 36 rfl; show Calls Try.prog 24 #[q.tmps.getD 127 undef, (.int .i64 1)] u _; rw [e127]; exact hread_fact (HC.out.grow lh.below) 1 z1 l1 HN.out.2.2.2.2.2.1 HN.out.2.2.2.2.2.2⟩) ?_
            refine .cons (owes_text_new 27 9 5 128 37 l1 z1 rfl rfl rfl rfl rfl Try.underlying27 Try.underlying5 Try.underlying9 fun q u lh => lh.wants1 35 false rfl rfl rfl) ?_
            refine .cons (owes_move (.tmp 6) (.inl rfl) fun q u lh => ⟨lh.wants1 35 false rfl rfl rfl, lh.old 6 rfl⟩) ?_
            refine .cons (owes_call 25 Try.func25 (by kernel_rfl) (by kernel_rfl) [.tmp 130, .const (.int .i64 1)] #[25, 3] rfl fun q u lh => ⟨lh.wants1 35 false rfl rfl rfl, by have e130 : q.tmps.getD 130 undef = .pointer (some ⟨b2, 0, none⟩) := lh.dep 39 rfl; show Calls Try.prog 25 #[q.tmps.getD 130 undef, (.int .i64 1)] u _; rw [e130]; exact hrread_fact (HC.out.grow lh.below) 1 (.inr rfl) z1 l1 HN.out.2.2.2.2.2.1 HN.out.2.2.2.2.2.2⟩) ?_
            refine .cons (owes_text_new 27 9 5 131 40 l1 z1 rfl rfl rfl rfl rfl Try.underlying27 Try.underlying5 Try.underlying9 fun q u lh => lh.wants1 35 false rfl rfl rfl) ?_
            refine .cons (owes_value fun q u lh => ⟨lh.wants1 35 false rfl rfl rfl, .bool false, by have e129 : q.tmps.getD 129 undef = .string (strOfNums z1) := lh.dep 38 rfl; have e132 : q.tmps.getD 132 undef = .string (strOfNums z1) := lh.dep 41 rfl; simp [execOp, Act.eval, e129, e132, go_sem], rfl⟩) ?_
            refine .cons (owes_pick (.tmp 126) (.const (.bool true)) (.tmp 133) rfl fun q u lh => ⟨wants_free rfl, false, lh.dep 35 rfl, lh.dep 42 rfl⟩) ?_
            refine .cons (owes_move (.tmp 134) (.inl rfl) fun q u lh => ⟨wants_free rfl, lh.dep 43 rfl⟩) ?_
            refine .cons (owes_move (.tmp 5) (.inl rfl) fun q u lh => ⟨lh.wants1 44 false rfl rfl rfl, lh.old 5 rfl⟩) ?_
            refine .cons (owes_call 24 Try.func24 (by kernel_rfl) (by kernel_rfl) [.tmp 136, .const (.int .i64 2)] #[23, 3] rfl fun q u lh => ⟨lh.wants1 44 false rfl rfl rfl, by have e136 : q.tmps.getD 136 undef = .pointer (some ⟨b1, 0, none⟩) := lh.dep 45 rfl; show Calls Try.prog 24 #[q.tmps.getD 136 undef, (.int .i64 2)] u _; rw [e136]; exact hread_fact (HC.out.grow lh.below) 2 [] 0 rfl rfl⟩) ?_
            refine .cons (owes_value fun q u lh => ⟨lh.wants1 44 false rfl rfl rfl, .int .i64 0, by obtain ⟨a, c, hv, _⟩ : (Fact.sl .u8 0 []).1 u (q.tmps.getD 137 undef) := lh.dep 46 rfl; simp [execOp, Act.eval, hv, go_sem], rfl⟩) ?_
            refine .cons (owes_value fun q u lh => ⟨lh.wants1 44 false rfl rfl rfl, .bool false, by have e138 : q.tmps.getD 138 undef = .int .i64 0 := lh.dep 47 rfl; simp [execOp, Act.eval, e138, go_sem], rfl⟩) ?_
            refine .cons (owes_pick (.tmp 135) (.const (.bool true)) (.tmp 139) rfl fun q u lh => ⟨wants_free rfl, false, lh.dep 44 rfl, lh.dep 48 rfl⟩) ?_
            exact .nil _
          intro q u hb hsz hdf hold hfact
          obtain ⟨a119, c119, v119, s119, l119, m119⟩ : (Fact.sl .u8 l0 z0).1 u (q.tmps.getD 119 undef) := hfact 28 (by decide)
          obtain ⟨a122, c122, v122, s122, l122, m122⟩ : (Fact.sl .u8 l0 z0).1 u (q.tmps.getD 122 undef) := hfact 31 (by decide)
          obtain ⟨a128, c128, v128, s128, l128, m128⟩ : (Fact.sl .u8 l1 z1).1 u (q.tmps.getD 128 undef) := hfact 37 (by decide)
          obtain ⟨a131, c131, v131, s131, l131, m131⟩ : (Fact.sl .u8 l1 z1).1 u (q.tmps.getD 131 undef) := hfact 40 (by decide)
          obtain ⟨a137, c137, v137, s137, l137, m137⟩ : (Fact.sl .u8 0 []).1 u (q.tmps.getD 137 undef) := hfact 46 (by decide)
          obtain rfl := frame_puts hsz hdf [91, 92, 93, 94, 95, 96, 97, 98, 99, 100, 101, 102, 103, 104, 105, 106, 107, 108, 109, 110, 111, 112, 113, 114, 115, 116, 117, 118, 119, 120, 121, 122, 123, 124, 125, 126, 127, 128, 129, 130, 131, 132, 133, 134, 135, 136, 137, 138, 139, 140] hold [(91, Value.bool true), (92, Value.bool false), (93, Value.bool false), (94, Value.pointer (some ⟨b1, 0, none⟩)), (95, Value.bool dn), (96, Value.pointer (some ⟨b2, 0, none⟩)), (97, Value.pointer (some ⟨b2, 0, none⟩)), (98, Value.pointer (some ⟨b2, 9, none⟩)), (99, Value.bool dn), (100, Value.bool false), (101, Value.bool false), (102, Value.bool false), (103, Value.pointer (some ⟨b1, 0, none⟩)), (104, Value.int .i64 op), (105, Value.pointer (some ⟨b2, 0, none⟩)), (106, Value.pointer (some ⟨b2, 0, none⟩)), (107, Value.pointer (some ⟨b2, 5, none⟩)), (108, Value.int .i64 op), (109, Value.bool false), (110, Value.bool false), (111, Value.bool false), (112, Value.pointer (some ⟨b1, 0, none⟩)), (113, Value.int .i64 room), (114, Value.int .i64 room), (115, Value.bool false), (116, Value.bool false), (117, Value.bool false), (118, Value.pointer (some ⟨b1, 0, none⟩)), (119, Value.slice a119 l0 c119), (120, Value.string (strOfNums z0)), (121, Value.pointer (some ⟨b2, 0, none⟩)), (122, Value.slice a122 l0 c122), (123, Value.string (strOfNums z0)), (124, Value.bool false), (125, Value.bool false), (126, Value.bool false), (127, Value.pointer (some ⟨b1, 0, none⟩)), (128, Value.slice a128 l1 c128), (129, Value.string (strOfNums z1)), (130, Value.pointer (some ⟨b2, 0, none⟩)), (131, Value.slice a131 l1 c131), (132, Value.string (strOfNums z1)), (133, Value.bool false), (134, Value.bool false), (135, Value.bool false), (136, Value.pointer (some ⟨b1, 0, none⟩)), (137, Value.slice a137 0 c137), (138, Value.int .i64 0), (139, Value.bool false), (140, Value.bool false)] ⟨hfact 0 (by decide), hfact 1 (by decide), hfact 2 (by decide), hfact 3 (by decide), hfact 4 (by decide), hfact 5 (by decide), hfact 6 (by decide), hfact 7 (by decide), hfact 8 (by decide), hfact 9 (by decide), hfact 10 (by decide), hfact 11 (by decide), hfact 12 (by decide), hfact 13 (by decide), hfact 14 (by decide), hfact 15 (by decide), hfact 16 (by decide), hfact 17 (by decide), hfact 18 (by decide), hfact 19 (by decide), hfact 20 (by decide), hfact 21 (by decide), hfact 22 (by decide), hfact 23 (by decide), hfact 24 (by decide), hfact 25 (by decide), hfact 26 (by decide), hfact 27 (by decide), v119, hfact 29 (by decide), hfact 30 (by decide), v122, hfact 32 (by decide), hfact 33 (by decide), hfact 34 (by decide), hfact 35 (by decide), hfact 36 (by decide), v128, hfact 38 (by decide), hfact 39 (by decide), v131, hfact 41 (by decide), hfact 42 (by decide), hfact 43 (by decide), hfact 44 (by decide), hfact 45 (by decide), v137, hfact 47 (by decide), hfact 48 (by decide), hfact 49 (by decide), trivial⟩ rfl
          clear hsz hdf hold hfact
          have H9 : Hid (Half w u b1 b2 d' d') := HC.out.grow hb
          clear hb s119 l119 m119 s122 l122 m122 s128 l128 m128 s131 l131 m131 s137 l137 m137
          set_option maxRecDepth 100000 in
          simp only [puts, Act.put, List.setIfInBounds_toArray, List.set_cons_zero, List.set_cons_succ]
          go_wp2
          go_roundw
          case rel => exact ⟨k + 1, d', by go_num, by omega, H9.out, HD'.out⟩
          case measure => simp [intOf]; omega
    · have hltI : ¬ (k : Int) < (n : Int) := by omega
      have blw := hm.below
      go_wp2_with fail
      go_at_call 26
      refine (known_true wr).mono ?_
      rintro e w9 ⟨rfl, hb9⟩
      go_wp2
      go_ret
      exact ⟨rfl, blw.trans (hb9.mono blw.size)⟩

theorem plays_none (room : Int) (a1 : Option Addr) (n cap1 : Nat) (w : World) (h : room < 0 ∨ 200000 < room) (hn : n ≤ 80) :
    Calls Try.prog 3 #[.int .i64 room, .slice a1 n cap1] w fun e w' => e = .returned (.bool true) ∧ Below w.heap.size w w' := by
  have i1 : (n : Int) ≤ 80 := by omega
  go_enter Try.func3, Try.ntmps3
  go_wp2_with fail
  go_at_call 9
  refine (new_bad room w h).mono ?_
  rintro e w1 ⟨rfl, hw⟩
  obtain rfl := hw.symm
  go_wp2_with fail
  go_at_call 10
  refine (rnew_bad room w h).mono ?_
  rintro e w1 ⟨rfl, hw⟩
  obtain rfl := hw.symm
  go_wp2
  refine wp_loop_rounds 1 ?_
  rw [rounds_succ]
  go_wp2_with fail
  go_at_call 26
  refine (known_true w).mono ?_
  rintro e w9 ⟨rfl, hb9⟩
  go_wp2
  go_ret
  exact ⟨rfl, hb9⟩

theorem Walk.tapePlays (a0 : Int) (a1 : Option Addr) (len1 cap1 : Nat) (K Sd At Kp : Nat → Int) (A : Nat → Option Addr) (L C : Nat → Nat) (Z : Nat → List Int) (w : World)
    (w0 : (Lit.int .i64 a0).wf = true) (w1 : Script w a1 len1 K Sd At Kp A L C Z) :
    Calls Try.prog 3 #[.int .i64 a0, .slice a1 len1 cap1] w fun e w' => e = .returned (.bool true) ∧ Below w.heap.size w w' := by
  by_cases h1 : (80 : Int) < len1
  · go_enter Try.func3, Try.ntmps3
    go_wp2
    go_ret
    exact ⟨rfl, Below.refl _ _⟩
  by_cases h2 : 0 ≤ a0 ∧ a0 ≤ 200000
  · exact plays_in a0 a1 len1 cap1 K Sd At Kp A L C Z w h2.1 h2.2 (by omega) w1
  · exact plays_none a0 a1 len1 cap1 w (by omega) (by omega)

end Go.Proofs.Ytcclpmjoofaepaa
