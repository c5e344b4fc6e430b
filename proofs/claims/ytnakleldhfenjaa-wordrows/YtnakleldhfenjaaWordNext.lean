/-
  The contracts of slices.Clip, giro/word's Next and giroref2's Next, over this seat's program.
-/
import Derived.Test.YtnakleldhfenjaaWordGet
namespace Go.Proofs.Ytnakleldhfenjaa
open Go.RowKit
set_option linter.unusedVariables false

set_option maxHeartbeats 400000 in
theorem clip_any (a : Option Addr) (len cap : Nat) (w : World) (hc : len ≤ cap) (hm : cap ≤ 9223372036854775807) :
    Calls Try.prog 22 #[.slice a len cap] w fun e w' => e = .returned (.slice a len len) ∧ w' = w := by
  go_enter Try.func22, Try.ntmps22
  go_wp2
  go_ret
  exact ⟨rfl, rfl⟩

/-- The row that bytes begin with: the numbers, and what is behind them. -/
def nextS (bs : List Int) : Option (List Int × List Int) :=
  if bs.length < 8 then none else
  if dec (bs.take 8) < 0 ∨ ((bs.length - 8) / 8 : Nat) < dec (bs.take 8) then none else
  some (decs (dec (bs.take 8)).toNat (bs.drop 8), bs.drop (8 + 8 * (dec (bs.take 8)).toNat))

/-- What Next answers. -/
def NextEnd (w : World) (bs : List Int) (e : Ending) (w' : World) : Prop :=
  Below w.heap.size w w' ∧ match nextS bs with
  | none => e = .returned (.tuple #[.slice none 0 0, .slice none 0 0, .bool false])
  | some (l, r) => ∃ v a cap, e = .returned (.tuple #[v, .slice a r.length cap, .bool true]) ∧ w'.ownsRow w.heap.size 2 1 v l.length (l.map (Value.int .i64)) ∧
      Sl .u8 w a r.length r ∧ r.length ≤ cap ∧ cap ≤ 9223372036854775807

set_option maxHeartbeats 400000 in
theorem next_short (a : Option Addr) (len cap : Nat) (bs : List Int) (w : World) (h : Sl .u8 w a len bs) (h8 : len < 8) : Calls Try.prog 12 #[.slice a len cap] w (NextEnd w bs) := by
  have hN : nextS bs = none := by unfold nextS; rw [if_pos (by have := h.1; omega)]
  go_enter Try.func12, Try.ntmps12
  go_wp2
  go_ret3
  unfold NextEnd
  rw [hN]
  exact ⟨Below.refl _ _, rfl⟩

set_option maxHeartbeats 1000000 in
theorem next_any (a : Option Addr) (len cap : Nat) (bs : List Int) (w : World) (h : Sl .u8 w a len bs) (hcap : len ≤ cap) (hmx : cap ≤ 9223372036854775807) (hreach : len ≤ 140737488355328) :
    Calls Try.prog 12 #[.slice a len cap] w (NextEnd w bs) := by
  by_cases h8 : len < 8
  · exact next_short a len cap bs w h h8
  have h8' : 8 ≤ len := by omega
  have N : ∀ n, Calls Try.prog 21 #[.slice a len cap] (w.drewN n) fun e w' => e = .returned (.int .i64 (dec (bs.take 8))) ∧ w' = w.drewN n :=
    fun n => number_any a len cap bs (w.drewN n) (h.drew n) h8' hcap hmx
  have hS := h.from hcap 8 h8'
  have Hl : Hid (len = bs.length) := h.1
  have HE : Hid (dec (bs.take 8) < 0 ∨ ((len - 8) / 8 : Nat) < dec (bs.take 8) → nextS bs = none) := fun hc => by
    unfold nextS; rw [if_neg (by have := Hl.out; omega), if_pos (by rw [← Hl.out]; exact hc)]
  have HF : Hid (¬ (dec (bs.take 8) < 0 ∨ ((len - 8) / 8 : Nat) < dec (bs.take 8)) → nextS bs = some (decs (dec (bs.take 8)).toNat (bs.drop 8), bs.drop (8 + 8 * (dec (bs.take 8)).toNat))) := fun hc => by
    unfold nextS; rw [if_neg (by have := Hl.out; omega), if_neg (by rw [← Hl.out]; exact hc)]
  obtain ⟨m, hm⟩ : ∃ m, dec (bs.take 8) = m := ⟨_, rfl⟩
  rw [hm] at N HE HF
  have hb := dec_wf (bs.take 8)
  rw [hm] at hb
  obtain ⟨m0, m1⟩ := wf_i64 hb
  have i8 : (8 : Int) ≤ (len : Int) := by omega
  clear h8 hb hm
  go_enter Try.func12, Try.ntmps12
  go_wp2
  go_quiet ((go_at_call 21; exact Calls.quiet_of_same (N _)))
  generalize hB : (if cap = 8 then a else Option.map (fun x => ({ block := x.block, off := x.off + 8 } : Addr)) a) = B
  have hT : Sl .u8 w B (len - 8) (bs.drop 8) := by rw [← hB]; exact hS
  have H : Hid (Sl .u8 w a len bs) := h
  clear hB hS N h
  obtain ⟨L, hL⟩ : ∃ L, len - 8 = L := ⟨_, rfl⟩
  obtain ⟨C, hC⟩ : ∃ C, cap - 8 = C := ⟨_, rfl⟩
  rw [hL] at HE HF hT ⊢
  rw [hC]
  have l0 : 8 + L = len := by omega
  have lc : L ≤ C := by omega
  have cm : C ≤ 9223372036854775807 := by omega
  have HL : Hid (8 + L = len) := l0
  have l1 : L ≤ 140737488355328 := by omega
  clear hL hC l0
  by_cases hneg : m < 0
  · have hN := HE.out (.inl hneg)
    have HN : Hid (nextS bs = none) := hN
    clear HE HF hT hN
    go_wp2
    go_ret3
    unfold NextEnd
    rw [HN.out]
    exact ⟨below_drewN (Below.refl _ _) _, rfl⟩
  · have m2 : 0 ≤ m := by omega
    clear hneg m0
    by_cases hbig : (L : Int) / 8 < m
    · have HN : Hid (nextS bs = none) := HE.out (.inr (by omega))
      clear HE HF hT
      go_wp2
      go_ret3
      unfold NextEnd
      rw [HN.out]
      exact ⟨below_drewN (Below.refl _ _) _, rfl⟩
    · obtain ⟨M, rfl⟩ : ∃ M : Nat, m = (M : Int) := ⟨m.toNat, by omega⟩
      have HN : Hid (nextS bs = some (decs M (bs.drop 8), bs.drop (8 + 8 * M))) := by
        have := HF.out (by omega)
        rw [Int.toNat_natCast] at this
        exact this
      have M8 : 8 * M ≤ L := by omega
      have M9 : 8 * (M : Int) ≤ (L : Int) := by omega
      have M10 : (M : Int) ≤ (L : Int) / 8 := by omega
      have eT : (8 * (M : Int)).toNat = 8 * M := by omega
      clear HE HF hbig
      have hT1 : Hid (Sl .u8 w B (8 * M) ((bs.drop 8).take (8 * M))) := hT.take (8 * M) M8
      have hr : (bs.drop (8 + 8 * M)).length = L - 8 * M := by have h1 := Hl.out; have h2 := HL.out; simp; omega
      have hT2 : Hid (Sl .u8 w (if C = 8 * M then B else Option.map (fun x => x.add (8 * M)) B) (bs.drop (8 + 8 * M)).length (bs.drop (8 + 8 * M))) := by
        have := hT.cutI lc (8 * M) M8
        rw [List.drop_drop] at this
        rw [hr]
        exact this
      have Hr : Hid ((bs.drop (8 + 8 * M)).length = L - 8 * M) := hr
      obtain ⟨R, hR⟩ : ∃ R, (if C = 8 * M then B else Option.map (fun x => x.add (8 * M)) B) = R := ⟨_, rfl⟩
      rw [hR] at hT2
      clear hT hr
      go_wp2
      go_region_with (first
        | (go_at_call 20; refine (numbers_any B (8 * M) C M ((bs.drop 8).take (8 * M)) _ (hT1.out.drew _) rfl (by omega) cm (by omega)).mono ?_; rintro e w1 ⟨v, rfl, hown, bel⟩)
        | (go_at_call 22; refine (clip_any _ _ _ _ (by omega) (by omega)).mono ?_; rintro e w2 ⟨rfl, hw⟩; obtain rfl := hw.symm))
      all_goals go_wp2
      all_goals go_ret3
      all_goals unfold NextEnd
      all_goals rw [HN.out]
      all_goals rw [decs_take] at hown
      all_goals refine ⟨(below_drewN (Below.refl _ _) _).trans bel, v, R, L - 8 * M, ?_, by rw [decs_length]; exact hown, hT2.out, by rw [Hr.out]; exact Nat.le_refl _, by omega⟩
      all_goals rw [Hr.out]
      all_goals rfl

set_option maxHeartbeats 400000 in
theorem refNext_short (a : Option Addr) (len cap : Nat) (bs : List Int) (w : World) (h : Sl .u8 w a len bs) (h8 : len < 8) : Calls Try.prog 18 #[.slice a len cap] w (NextEnd w bs) := by
  have hN : nextS bs = none := by unfold nextS; rw [if_pos (by have := h.1; omega)]
  go_enter Try.func18, Try.ntmps18
  go_wp2
  go_ret3
  unfold NextEnd
  rw [hN]
  exact ⟨Below.refl _ _, rfl⟩

set_option maxHeartbeats 1000000 in
theorem refNext_any (a : Option Addr) (len cap : Nat) (bs : List Int) (w : World) (h : Sl .u8 w a len bs) (hcap : len ≤ cap) (hmx : cap ≤ 9223372036854775807) (hreach : len ≤ 140737488355328) :
    Calls Try.prog 18 #[.slice a len cap] w (NextEnd w bs) := by
  by_cases h8 : len < 8
  · exact refNext_short a len cap bs w h h8
  have h8' : 8 ≤ len := by omega
  have N := one_any a 8 cap (bs.take 8) w (h.take 8 h8') (by omega) (by omega)
  rw [List.take_take, Nat.min_self] at N
  have Hl : Hid (len = bs.length) := h.1
  have HE : Hid (dec (bs.take 8) < 0 ∨ ((len - 8) / 8 : Nat) < dec (bs.take 8) → nextS bs = none) := fun hc => by
    unfold nextS; rw [if_neg (by have := Hl.out; omega), if_pos (by rw [← Hl.out]; exact hc)]
  have HF : Hid (¬ (dec (bs.take 8) < 0 ∨ ((len - 8) / 8 : Nat) < dec (bs.take 8)) → nextS bs = some (decs (dec (bs.take 8)).toNat (bs.drop 8), bs.drop (8 + 8 * (dec (bs.take 8)).toNat))) := fun hc => by
    unfold nextS; rw [if_neg (by have := Hl.out; omega), if_neg (by rw [← Hl.out]; exact hc)]
  obtain ⟨m, hm⟩ : ∃ m, dec (bs.take 8) = m := ⟨_, rfl⟩
  rw [hm] at N HE HF
  have hb := dec_wf (bs.take 8)
  rw [hm] at hb
  obtain ⟨m0, m1⟩ := wf_i64 hb
  have i8 : (8 : Int) ≤ (len : Int) := by omega
  have i9 : (8 : Int) ≤ (cap : Int) := by omega
  have c0 : ¬ cap = 0 := by omega
  have HS : Hid (Sl .u8 w a len bs) := h
  clear h8 hb hm h
  by_cases hneg : m < 0
  · have HN : Hid (nextS bs = none) := HE.out (.inl hneg)
    clear HE HF
    go_enter Try.func18, Try.ntmps18
    go_wp2_with (go_at_call 23; refine N.mono ?_; rintro e w' ⟨rfl, hw⟩; obtain rfl := hw.symm)
    go_ret3
    unfold NextEnd
    rw [HN.out]
    exact ⟨Below.refl _ _, rfl⟩
  · have m2 : 0 ≤ m := by omega
    clear hneg m0
    by_cases hbig : ((len : Int) - 8) / 8 < m
    · have HN : Hid (nextS bs = none) := HE.out (.inr (by omega))
      clear HE HF
      go_enter Try.func18, Try.ntmps18
      go_wp2_with (go_at_call 23; refine N.mono ?_; rintro e w' ⟨rfl, hw⟩; obtain rfl := hw.symm)
      go_ret3
      unfold NextEnd
      rw [HN.out]
      exact ⟨Below.refl _ _, rfl⟩
    · obtain ⟨M, rfl⟩ : ∃ M : Nat, m = (M : Int) := ⟨m.toNat, by omega⟩
      have HN : Hid (nextS bs = some (decs M (bs.drop 8), bs.drop (8 + 8 * M))) := by
        have := HF.out (by omega)
        rw [Int.toNat_natCast] at this
        exact this
      have M8 : 8 + 8 * M ≤ len := by omega
      have M9 : 8 + 8 * (M : Int) ≤ (len : Int) := by omega
      have M10 : 8 + 8 * (M : Int) ≤ (cap : Int) := by omega
      have eT : (8 + 8 * (M : Int)).toNat = 8 + 8 * M := by omega
      have eU : 8 + 8 * M - 8 = 8 * M := by omega
      clear HE HF
      have G : ∀ a', Sl .u8 w a' (8 * M) ((bs.take (8 + 8 * M)).drop 8) → Calls Try.prog 17 #[.slice a' (8 * M) (cap - 8)] w (GetEnd w M ((bs.take (8 + 8 * M)).drop 8)) :=
        fun a' ha => refGet_good a' (8 * M) (cap - 8) M _ w ha rfl (by omega) (by omega) (by omega)
      have hr : (bs.drop (8 + 8 * M)).length = len - (8 + 8 * M) := by have h1 := Hl.out; simp; omega
      have Hr : Hid ((bs.drop (8 + 8 * M)).length = len - (8 + 8 * M)) := hr
      have hT2 : Hid (Sl .u8 w (if cap = 8 + 8 * M then a else Option.map (fun x => x.add (8 + 8 * M)) a) (bs.drop (8 + 8 * M)).length (bs.drop (8 + 8 * M))) := by
        have := HS.out.cutI hcap (8 + 8 * M) M8
        rw [hr]
        exact this
      obtain ⟨R, hR⟩ : ∃ R, (if cap = 8 + 8 * M then a else Option.map (fun x => x.add (8 + 8 * M)) a) = R := ⟨_, rfl⟩
      rw [hR] at hT2
      have hT1 : Hid (Sl .u8 w (cutA a cap 8) (8 * M) ((bs.take (8 + 8 * M)).drop 8)) := by
        have := HS.out.cutA hcap 8 (8 + 8 * M) cap (by omega) M8 (by omega)
        rw [eU] at this
        exact this
      obtain ⟨B, hB⟩ : ∃ B, (if cap = 8 then a else Option.map (fun x => ({ block := x.block, off := x.off + 8 } : Addr)) a) = B := ⟨_, rfl⟩
      have hT1 : Hid (Sl .u8 w B (8 * M) ((bs.take (8 + 8 * M)).drop 8)) := by rw [← hB]; exact hT1
      clear hr
      go_enter Try.func18, Try.ntmps18
      go_wp2_with (first
        | (go_at_call 23; refine N.mono ?_; rintro e w' ⟨rfl, hw⟩; obtain rfl := hw.symm)
        | (go_at_call 17; refine (G B hT1.out).mono ?_; rintro e w1 ⟨v, rfl, hown, bel⟩))
      rw [List.drop_take, eU, decs_take] at hown
      have Hown : Hid (w1.ownsRow w.heap.size 2 1 v M ((decs M (bs.drop 8)).map (Value.int .i64))) := hown
      have Hbel : Hid (Below w.heap.size w w1) := bel
      clear hown bel
      go_quiet (fail)
      go_wp2
      go_ret3
      unfold NextEnd
      rw [HN.out]
      refine ⟨below_drewN Hbel.out _, v, R, cap - (8 + 8 * M), ?_, by rw [decs_length]; exact Hown.out, hT2.out, by rw [Hr.out]; omega, by omega⟩
      rw [Hr.out]
      rfl

end Go.Proofs.Ytnakleldhfenjaa
