/-
  giroref15: sent, classed.
-/
import Derived.Test.YtdikimddkhahdaaFitsAsk
import Derived.Test.YtdikimddkhahdaaLimOne
import Derived.Test.YtdikimddkhahdaaLimTwo
namespace Go.Proofs.Ytdikimddkhahdaa
open Go.RowKit
set_option linter.unusedVariables false
set_option linter.unusedSimpArgs false

theorem sentS_take {L : List P7} {k : Nat} (h : k < L.length) (i o : Int) : sentS (L.take (k + 1)) i o = sentS (L.take k) i o + sentG i o (L.getD k p70) := by unfold sentS; rw [take_snocA L p70 k h, sumS_snoc]
theorem plainS_take {L : List P7} {k : Nat} (h : k < L.length) (i : Int) : plainS (L.take (k + 1)) i = plainS (L.take k) i + plainG i (L.getD k p70) := by unfold plainS; rw [take_snocA L p70 k h, sumS_snoc]
theorem spentS_take {L : List P7} {k : Nat} (h : k < L.length) (i : Int) : spentS (L.take (k + 1)) i = spentS (L.take k) i + spentG i (L.getD k p70) := by unfold spentS; rw [take_snocA L p70 k h, sumS_snoc]
theorem len_take {L : List P7} {k n : Nat} (hn : n = L.length) (h : n ≤ 64) : (L.take k).length ≤ 64 := by rw [List.length_take]; omega
theorem netS_range {L : List P7} (h : MvPays L) (hl : L.length ≤ 64) (i k : Int) : -70368744177664 ≤ netS L i k ∧ netS L i k ≤ 70368744177664 := by
  have h1 := h.sent hl i k
  have h2 := h.sent hl k i
  unfold netS
  omega
theorem dTo_range {L : List P7} (h : MvPays L) (hl : L.length ≤ 64) (i : Int) (k : Nat) : -(k * 70368744177664 : Int) ≤ dTo L i k ∧ dTo L i k ≤ (k * 70368744177664 : Int) := by
  induction k with
  | zero => simp [dTo]
  | succ k ih =>
    have := netS_range h hl i k
    simp only [dTo]
    omega

set_option maxHeartbeats 4000000 in
theorem refFSent_any (a : Option Addr) (n c : Nat) (L : List P7) (i o : Int) (w : World) (h : PGood w a n c L) (hn : n ≤ 64) (hp : MvPays L) :
    Calls Try.prog 42 #[.slice a n c, .int .i64 i, .int .i64 o] w fun e w' => e = .returned (.int .i64 (sentS L i o)) ∧ w' = w := by
  have HL : Hid (n = L.length) := h.len
  have HG : Hid (PGood w a n c L) := h
  have HP : Hid (∀ k, 0 ≤ sentS (L.take k) i o ∧ sentS (L.take k) i o ≤ 70368744177664) := fun k => (hp.take k).sent (len_take h.len hn) i o
  clear h hp
  go_enter Try.func42, Try.ntmps42
  go_wp2
  go_loop [7, 8] (fun s t => ∃ k : Nat, k ≤ n ∧ t = .int .i64 k ∧ s = .int .i64 (sentS (L.take k) i o)) (fun _ t => n - (intOf t).toNat)
  case atStart => exact ⟨0, by omega, rfl, rfl⟩
  case round =>
    obtain ⟨k, hk, rfl, rfl⟩ := hrel
    by_cases hlt : k < n
    · have k1 : (k : Int) < (n : Int) := by omega
      obtain ⟨b, off, rfl, HC⟩ := HG.out.at hlt
      have C0 := HC k hlt
      have HE : Hid (sentS (L.take (k + 1)) i o = sentS (L.take k) i o + sentG i o (L.getD k p70)) := sentS_take (by have := HL.out; omega) i o
      have r0 := HP.out k
      have r1 := HP.out (k + 1)
      rw [HE.out] at r1
      generalize L.getD k p70 = x at C0 HE r1
      generalize sentS (L.take k) i o = s at HE r0 r1 ⊢
      obtain ⟨x0, x1, x2, x3, x4, x5, x6⟩ := x
      obtain ⟨p0, p1, p2, p3, p4, p5, p6⟩ := C0
      simp only [P7.id, P7.fr, P7.to, P7.am, P7.cl, P7.st, P7.ti] at p0 p1 p2 p3 p4 p5 p6
      clear HC
      by_cases h1 : x1 = i
      case neg =>
        have h1' : (x1 == i) = false := by simpa using h1
        have HF : Hid (sentS (L.take (k + 1)) i o = s) := by show _ = _; rw [HE.out]; unfold sentG; rw [if_neg (fun x => h1 x.1)]; omega
        clear HE h1 r0 r1
        go_wp2
        go_round
        case rel => exact ⟨k + 1, by omega, by go_num, by rw [HF.out]⟩
        case measure => simp [intOf]; omega
      by_cases h2 : x2 = o
      case neg =>
        have h2' : (x2 == o) = false := by simpa using h2
        have HF : Hid (sentS (L.take (k + 1)) i o = s) := by show _ = _; rw [HE.out]; unfold sentG; rw [if_neg (fun x => h2 x.2)]; omega
        subst h1
        clear HE h2 r0 r1
        go_wp2
        go_round
        case rel => exact ⟨k + 1, by omega, by go_num, by rw [HF.out]⟩
        case measure => simp [intOf]; omega
      subst h1 h2
      have eg : sentG x1 x2 (x0, x1, x2, x3, x4, x5, x6) = x3 := by unfold sentG; rw [if_pos ⟨rfl, rfl⟩]
      rw [eg] at HE r1
      obtain ⟨r10, r11⟩ := r1
      clear eg r0
      go_wp2
      go_round
      case rel => exact ⟨k + 1, by omega, by go_num, by rw [HE.out]⟩
      case measure => simp [intOf]; omega
    · obtain rfl : k = n := by omega
      have HT : Hid (L.take k = L) := by show _ = _; rw [HL.out, List.take_length]
      go_wp2
      go_ret
      exact ⟨by rw [HT.out]; rfl, rfl⟩

set_option maxHeartbeats 4000000 in
theorem refClassed_any (a : Option Addr) (n c : Nat) (L : List P7) (i : Int) (w : World) (h : PGood w a n c L) (hn : n ≤ 64) (hp : MvPays L) :
    Calls Try.prog 40 #[.slice a n c, .int .i64 i] w fun e w' => e = .returned (.tuple #[.int .i64 (plainS L i), .int .i64 (spentS L i)]) ∧ w' = w := by
  have HL : Hid (n = L.length) := h.len
  have HG : Hid (PGood w a n c L) := h
  have HP : Hid (∀ k, 0 ≤ plainS (L.take k) i ∧ plainS (L.take k) i ≤ 70368744177664) := fun k => (hp.take k).plain (len_take h.len hn) i
  have HQ : Hid (∀ k, 0 ≤ spentS (L.take k) i ∧ spentS (L.take k) i ≤ 70368744177664) := fun k => (hp.take k).spent (len_take h.len hn) i
  clear h hp
  go_enter Try.func40, Try.ntmps40
  go_wp2
  go_loop [6, 7, 8, 22, 30] (fun s v t _ _ => ∃ k : Nat, k ≤ n ∧ t = .int .i64 k ∧ s = .int .i64 (plainS (L.take k) i) ∧ v = .int .i64 (spentS (L.take k) i)) (fun _ _ t _ _ => n - (intOf t).toNat)
  case atStart => exact ⟨0, by omega, rfl, rfl, rfl⟩
  case round =>
    obtain ⟨k, hk, rfl, rfl, rfl⟩ := hrel
    by_cases hlt : k < n
    · have k1 : (k : Int) < (n : Int) := by omega
      obtain ⟨b, off, rfl, HC⟩ := HG.out.at hlt
      have C0 := HC k hlt
      have HE : Hid (plainS (L.take (k + 1)) i = plainS (L.take k) i + plainG i (L.getD k p70)) := plainS_take (by have := HL.out; omega) i
      have HF : Hid (spentS (L.take (k + 1)) i = spentS (L.take k) i + spentG i (L.getD k p70)) := spentS_take (by have := HL.out; omega) i
      have r0 := HP.out k
      have r1 := HP.out (k + 1)
      have r2 := HQ.out k
      have r3 := HQ.out (k + 1)
      rw [HE.out] at r1
      rw [HF.out] at r3
      generalize L.getD k p70 = x at C0 HE HF r1 r3
      generalize plainS (L.take k) i = s at HE r0 r1 ⊢
      generalize spentS (L.take k) i = v at HF r2 r3 ⊢
      obtain ⟨x0, x1, x2, x3, x4, x5, x6⟩ := x
      obtain ⟨p0, p1, p2, p3, p4, p5, p6⟩ := C0
      simp only [P7.id, P7.fr, P7.to, P7.am, P7.cl, P7.st, P7.ti] at p0 p1 p2 p3 p4 p5 p6
      clear HC
      by_cases h1 : x1 = i
      case neg =>
        have h1' : (x1 == i) = false := by simpa using h1
        have HE2 : Hid (plainS (L.take (k + 1)) i = s) := by show _ = _; rw [HE.out]; unfold plainG; rw [if_neg (fun x => h1 x.1)]; omega
        have HF2 : Hid (spentS (L.take (k + 1)) i = v) := by show _ = _; rw [HF.out]; unfold spentG; rw [if_neg (fun x => h1 x.1)]; omega
        clear HE HF h1 r0 r1 r2 r3
        go_wp2
        go_round
        case rel => exact ⟨k + 1, by omega, by go_num, by rw [HE2.out], by rw [HF2.out]⟩
        case measure => simp [intOf]; omega
      subst h1
      by_cases h2 : x4 = 3
      · subst h2
        have e1 : plainG x1 (x0, x1, x2, x3, 3, x5, x6) = x3 := by unfold plainG; rw [if_pos ⟨rfl, rfl⟩]
        have e2 : spentG x1 (x0, x1, x2, x3, 3, x5, x6) = 0 := by unfold spentG; rw [if_neg (fun x => x.2 rfl)]
        rw [e1] at HE r1
        rw [e2] at HF
        have HF2 : Hid (spentS (L.take (k + 1)) x1 = v) := by show _ = _; rw [HF.out]; omega
        obtain ⟨r10, r11⟩ := r1
        clear e1 e2 r0 r2 r3 HF
        go_wp2
        go_round
        case rel => exact ⟨k + 1, by omega, by go_num, by rw [HE.out], by rw [HF2.out]⟩
        case measure => simp [intOf]; omega
      · have h2' : (x4 == 3) = false := by simpa using h2
        have e1 : plainG x1 (x0, x1, x2, x3, x4, x5, x6) = 0 := by unfold plainG; rw [if_neg (fun x => h2 x.2)]
        have e2 : spentG x1 (x0, x1, x2, x3, x4, x5, x6) = x3 := by unfold spentG; rw [if_pos ⟨rfl, h2⟩]
        rw [e1] at HE
        rw [e2] at HF r3
        have HE2 : Hid (plainS (L.take (k + 1)) x1 = s) := by show _ = _; rw [HE.out]; omega
        obtain ⟨r30, r31⟩ := r3
        clear e1 e2 r0 r1 r2 HE h2
        go_wp2
        go_round
        case rel => exact ⟨k + 1, by omega, by go_num, by rw [HE2.out], by rw [HF.out]⟩
        case measure => simp [intOf]; omega
    · obtain rfl : k = n := by omega
      have HT : Hid (L.take k = L) := by show _ = _; rw [HL.out, List.take_length]
      go_wp2
      go_ret2
      exact ⟨by rw [HT.out]; rfl, rfl⟩


end Go.Proofs.Ytdikimddkhahdaa
