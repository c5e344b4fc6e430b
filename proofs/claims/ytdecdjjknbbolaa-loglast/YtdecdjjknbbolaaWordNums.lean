/-
  The contracts of giro/word's numbers and Get, and of giroref2's Get, over this seat's program.
-/
import Derived.Test.YtdecdjjknbbolaaWordRead
namespace Go.Proofs.Ytdecdjjknbbolaa
open Go.RowKit
set_option linter.unusedVariables false

def slLen : Value → Nat
  | .slice _ n _ => n
  | _ => 0

theorem one_new (w : World) (T : TypeId) (v : Value) (j : Nat) (u : Value) (hj : [v][j]? = some u) : (w.alloc (.cells #[v] T)).cell? ((⟨w.heap.size, 0, none⟩ : Addr).add j) = some u := by
  match j, hj with
  | 0, hj => simp at hj; subst hj; simp [Addr.add]

theorem oneCell_int (k : IntKind) (zs : List Int) : ∀ u ∈ zs.map (Value.int k), u.oneCell' = true := by
  intro u hu
  obtain ⟨z, _, rfl⟩ := List.mem_map.1 hu
  rfl

/-- What numbers answers: the call's own row of the numbers. -/
def NumsEnd (w : World) (m : Nat) (bs : List Int) (e : Ending) (w' : World) : Prop :=
  ∃ v, e = .returned v ∧ w'.ownsRow w.heap.size 2 1 v m ((decs m bs).map (Value.int .i64)) ∧ Below w.heap.size w w'

set_option maxHeartbeats 1000000 in
theorem numbers_any (a : Option Addr) (len cap m : Nat) (bs : List Int) (w : World) (h : Sl .u8 w a len bs) (hm : 8 * m = len) (hcap : len ≤ cap) (hmx : cap ≤ 9223372036854775807) (hreach : len ≤ 140737488355328) :
    Calls Try.prog 54 #[.slice a len cap] w (NumsEnd w m bs) := by
  obtain ⟨i0, hi, hz0, hz1, hz2⟩ := info_parts infoI64
  have q1 : (len : Int) / 8 = (m : Int) := by omega
  have HM : Hid (8 * m = len) := hm
  clear hm
  go_enter Try.func54, Try.ntmps54
  go_wp2_with (at_make; refine wpList_make_own _ rfl _ _ 57 rfl w.heap.size 2 i0 (.int .i64 0) 1 Try.underlying57 hi hz0 hz1 _ _ _ m rfl rfl (by omega) ?bytes ?maxl ?base ?_)
  case bytes => rw [hz2]; omega
  case maxl => unfold maxLen; omega
  case base => omega
  intro w1 hown1 hg1
  have bel1 : Below w.heap.size w w1 := (Below.refl _ _).grown hg1 (Nat.le_refl _) (fun k hk => by simp at hk)
  go_wp2
  go_loopw [0, 3] (fun b l wr => ∃ (k L : Nat) (a' : Option Addr) (cap' : Nat), 8 * k + L = 8 * m ∧ b = .slice a' L cap' ∧ L ≤ cap' ∧ cap' ≤ 9223372036854775807 ∧ Sl .u8 w a' L (bs.drop (8 * k)) ∧
      wr.ownsRow w.heap.size 2 1 l k ((decs k bs).map (Value.int .i64)) ∧ Below w.heap.size w wr) (fun b _ _ => slLen b)
  case atStart => exact ⟨0, len, a, cap, by have := HM.out; omega, rfl, hcap, hmx, h, hown1, bel1⟩
  case round =>
    obtain ⟨k, L, a', cap', hk, rfl, hc', hm', hS, hown, hbel⟩ := hrel
    have hkm : m ≤ 17592186044416 := by have := HM.out; omega
    clear bel1 hown1 hg1 h q1
    by_cases hlt : 0 < L
    · have h8 : 8 ≤ L := by omega
      have hk1 : k + 1 ≤ m := by omega
      have N := number_any a' L cap' (bs.drop (8 * k)) wr (hS.below hbel) h8 hc' hm'
      obtain ⟨n, hn⟩ : ∃ n, dec ((bs.drop (8 * k)).take 8) = n := ⟨_, rfl⟩
      rw [hn] at N
      have hpos : (0 : Int) < (L : Int) := by omega
      have hws : w.heap.size ≤ wr.heap.size := hbel.size
      have Hn : Hid (dec ((bs.drop (8 * k)).take 8) = n) := hn
      have Hbel : Hid (Below w.heap.size w wr) := hbel
      have HS : Hid (Sl .u8 w a' L (bs.drop (8 * k))) := hS
      have Hk : Hid (8 * k + L = 8 * m) := hk
      clear hn hbel hS hk
      go_wp2_with (first
        | (go_at_call 58; refine N.mono ?_; rintro e w' ⟨rfl, hw⟩; obtain rfl := hw.symm)
        | (at_builtin; refine wpList_append_own _ rfl _ _ 57 rfl w.heap.size 2 i0 (.int .i64 0) 1 8 Try.underlying57 hi hz0 hz1 hz2 rfl (by decide) _ _ _ rfl (hown.alloc _) ⟨wr.heap.size, 0, none⟩ 1 1 [.int .i64 n] rfl rfl ?c1 ?c2 ?c3 ?c4 ?c5 ?_))
      case c1 => exact one_new wr _ _
      case c2 => intro u hu; simp at hu; subst hu; rfl
      case c3 => unfold maxLen; omega
      case c4 => omega
      case c5 => simp; omega
      intro v' w2 hown' hgrow _
      have B2 : Below w.heap.size w w2 := (Hbel.out.alloc hws _).grown hgrow (by simp; omega) (fun j hj => (hown.lt j hj).1)
      have R1 : Hid (w2.ownsRow w.heap.size 2 1 v' (k + 1) ((decs (k + 1) bs).map (Value.int .i64))) := by
        show w2.ownsRow w.heap.size 2 1 v' (k + 1) ((decs (k + 1) bs).map (Value.int .i64))
        rw [decs_snoc, Hn.out]; simpa using hown'
      have R2 : Hid (Below w.heap.size w w2) := B2
      have R3 : Hid (Sl .u8 w (cutA a' cap' 8) (L - 8) (bs.drop (8 * (k + 1)))) := by
        have h3 := HS.out.from hc' 8 h8
        rw [List.drop_drop] at h3
        exact h3
      clear hown' hgrow hown Hn Hbel B2 HS
      go_wp2
      go_roundw
      case rel => exact ⟨k + 1, L - 8, _, cap' - 8, by have := Hk.out; omega, rfl, by omega, by omega, R3.out, R1.out, R2.out⟩
      case measure => simp [slLen]; omega
    · obtain rfl : k = m := by omega
      obtain rfl : L = 0 := by omega
      have Hown : Hid (wr.ownsRow w.heap.size 2 1 _ k ((decs k bs).map (Value.int .i64))) := hown
      have Hbel : Hid (Below w.heap.size w wr) := hbel
      clear hown hbel hS hk
      go_wp2
      go_ret
      exact ⟨_, rfl, Hown.out, Hbel.out⟩

end Go.Proofs.Ytdecdjjknbbolaa
