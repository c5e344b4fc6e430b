/-
  The contracts of giro/word's Get and of giroref2's Get, over this seat's program.
-/
import Derived.Test.YtdecdjjknbbolaaWordNums
namespace Go.Proofs.Ytdecdjjknbbolaa
open Go.RowKit
set_option linter.unusedVariables false

set_option maxHeartbeats 400000 in
theorem get_bad (a : Option Addr) (len cap : Nat) (w : World) (h : ¬ len % 8 = 0) (hm : len ≤ 9223372036854775807) :
    Calls Try.prog 47 #[.slice a len cap] w fun e w' => e = .returned (.tuple #[.slice none 0 0, .int .i64 2]) ∧ w' = w := by
  have hd : ((len : Int) % 8 == 0) = false := by rw [beq_eq_false_iff_ne]; omega
  go_enter Try.func47, Try.ntmps47
  go_wp2
  go_ret2
  exact ⟨rfl, rfl⟩

/-- What Get answers: the call's own row of the numbers, and no error. -/
def GetEnd (w : World) (m : Nat) (bs : List Int) (e : Ending) (w' : World) : Prop :=
  ∃ v, e = .returned (.tuple #[v, .int .i64 0]) ∧ w'.ownsRow w.heap.size 2 1 v m ((decs m bs).map (Value.int .i64)) ∧ Below w.heap.size w w'

set_option maxHeartbeats 400000 in
theorem get_good (a : Option Addr) (len cap m : Nat) (bs : List Int) (w : World) (h : Sl .u8 w a len bs) (hm : 8 * m = len) (hcap : len ≤ cap) (hmx : cap ≤ 9223372036854775807) (hreach : len ≤ 140737488355328) :
    Calls Try.prog 47 #[.slice a len cap] w (GetEnd w m bs) := by
  have N := numbers_any a len cap m bs w h hm hcap hmx hreach
  have hd : (len : Int) % 8 = 0 := by omega
  clear hm
  go_enter Try.func47, Try.ntmps47
  go_wp2_with (go_at_call 54; refine N.mono ?_; rintro e w' ⟨v, rfl, hown, bel⟩)
  go_ret2
  exact ⟨v, rfl, hown, bel⟩

set_option maxHeartbeats 400000 in
theorem refGet_bad (a : Option Addr) (len cap : Nat) (w : World) (h : ¬ len % 8 = 0) (hm : len ≤ 9223372036854775807) :
    Calls Try.prog 57 #[.slice a len cap] w fun e w' => e = .returned (.tuple #[.slice none 0 0, .int .i64 2]) ∧ w' = w := by
  have hd : ((len : Int) % 8 == 0) = false := by rw [beq_eq_false_iff_ne]; omega
  go_enter Try.func57, Try.ntmps57
  go_wp2
  go_ret2
  exact ⟨rfl, rfl⟩

set_option maxHeartbeats 1000000 in
theorem refGet_good (a : Option Addr) (len cap m : Nat) (bs : List Int) (w : World) (h : Sl .u8 w a len bs) (hm : 8 * m = len) (hcap : len ≤ cap) (hmx : cap ≤ 9223372036854775807) (hreach : len ≤ 140737488355328) :
    Calls Try.prog 57 #[.slice a len cap] w (GetEnd w m bs) := by
  obtain ⟨i0, hi, hz0, hz1, hz2⟩ := info_parts infoI64
  have hd : (len : Int) % 8 = 0 := by omega
  have HM : Hid (8 * m = len) := hm
  clear hm
  go_enter Try.func57, Try.ntmps57
  go_wp2
  clear hd
  go_loopw [4, 5] (fun l i wr => ∃ (k : Nat), 8 * k ≤ len ∧ i = .int .i64 ((8 * k : Nat) : Int) ∧ wr.ownsRow w.heap.size 2 1 l k ((decs k bs).map (Value.int .i64)) ∧ Below w.heap.size w wr) (fun _ i _ => len - (intOf i).toNat)
  case atStart => exact ⟨0, by omega, rfl, World.ownsRow_nil _ _ _ _, Below.refl _ _⟩
  case round =>
    obtain ⟨k, hk, rfl, hown, hbel⟩ := hrel
    by_cases hlt : 8 * k < len
    · have h8 : 8 * k + 8 ≤ len := by have := HM.out; omega
      obtain ⟨K, hK⟩ : ∃ K, 8 * k = K := ⟨_, rfl⟩
      have hc := (h.below hbel).cutB hcap K (K + 8) 8 (by omega) (by omega) (by omega)
      have N := one_any _ 8 (cap - K) ((bs.take (K + 8)).drop K) wr hc (by omega) (by omega)
      obtain ⟨n, hn⟩ : ∃ n, dec ((((bs.take (K + 8)).drop K)).take 8) = n := ⟨_, rfl⟩
      rw [hn] at N
      have hn' : dec ((bs.drop K).take 8) = n := by
        rw [← hn, List.drop_take, List.take_take]; congr 2; omega
      have Hn : Hid (dec ((bs.drop (8 * k)).take 8) = n) := by rw [hK]; exact hn'
      have HK : Hid (8 * k = K) := hK
      rw [hK] at hlt h8 ⊢
      have hkk : k + 1 ≤ 17592186044416 := by omega
      have hws : w.heap.size ≤ wr.heap.size := hbel.size
      have Hbel : Hid (Below w.heap.size w wr) := hbel
      have i0' : (0 : Int) ≤ (K : Int) := by omega
      have i1 : (K : Int) < (len : Int) := by omega
      have i2 : (K : Int) + 8 ≤ (cap : Int) := by omega
      clear hn hn' hK hbel hc hk
      go_wp2_with (first
        | (go_at_call 59; refine N.mono ?_; rintro e w' ⟨rfl, hw⟩; obtain rfl := hw.symm)
        | (at_builtin; refine wpList_append_own _ rfl _ _ 57 rfl w.heap.size 2 i0 (.int .i64 0) 1 8 Try.underlying57 hi hz0 hz1 hz2 rfl (by decide) _ _ _ rfl (hown.alloc _) ⟨wr.heap.size, 0, none⟩ 1 1 [.int .i64 n] rfl rfl ?c1 ?c2 ?c3 ?c4 ?c5 ?_))
      case c1 => exact one_new wr _ _
      case c2 => intro u hu; simp at hu; subst hu; rfl
      case c3 => unfold maxLen; omega
      case c4 => omega
      case c5 => simp; omega
      intro v' w2 hown' hgrow _
      have R2 : Hid (Below w.heap.size w w2) := (Hbel.out.alloc hws _).grown hgrow (by simp; omega) (fun j hj => (hown.lt j hj).1)
      have R1 : Hid (w2.ownsRow w.heap.size 2 1 v' (k + 1) ((decs (k + 1) bs).map (Value.int .i64))) := by
        show w2.ownsRow w.heap.size 2 1 v' (k + 1) ((decs (k + 1) bs).map (Value.int .i64))
        rw [decs_snoc, Hn.out]; simpa using hown'
      clear hown' hgrow hown Hn Hbel
      go_wp2
      go_roundw
      case rel => exact ⟨k + 1, by have := HK.out; omega, by have := HK.out; simp; omega, R1.out, R2.out⟩
      case measure => simp [intOf]; omega
    · have hkm : k = m := by have := HM.out; omega
      subst hkm
      have Hown : Hid (wr.ownsRow w.heap.size 2 1 _ k ((decs k bs).map (Value.int .i64))) := hown
      have Hbel : Hid (Below w.heap.size w wr) := hbel
      obtain ⟨K, hK⟩ : ∃ K, 8 * k = K := ⟨_, rfl⟩
      rw [hK] at hlt ⊢
      have i1 : ¬ (K : Int) < (len : Int) := by omega
      clear hown hbel hK
      go_wp2
      go_ret2
      exact ⟨_, rfl, Hown.out, Hbel.out⟩

end Go.Proofs.Ytdecdjjknbbolaa
