/-
  Texts of this seat in one: Arith, Bits, Share, Worth, Sum, Known, Ref, AcctIs, AcctDo, AcctRef, Bytes, BlkI, Rows64, LimRow, LimSq, Same, LimSame, LimEq, LimBooks, LimRefSame.
-/
import Derived.Laws.Bits64b
import Derived.Laws.BitsLemmas
import Derived.Test.YtlackjldopeigaaRows
import Derived.WalkKit
import Derived.WalkSpells
import Derived.Laws.Externs
import Derived.Deep.QuietTactic
import Derived.BigQuiet
import Derived.Deep.Light
import Derived.WalkSmall
import Derived.Test.YtlackjldopeigaaRowBase
import Derived.Laws.Rows
import Derived.OneCell
import Derived.Maps.AppendAt

/-
  Plain arithmetic of words, masks, products and quotients: no Go text in sight.
-/
namespace Go.Proofs.Ytlackjldopeigaa
namespace Ar
set_option linter.unusedVariables false

theorem wraps_u64 (n : Int) (h0 : 0 ≤ n) (h1 : n < 2 ^ 64) : IntKind.u64.wrap n = n := by rw [IntKind.wrap_u64]; omega
theorem wraps_i64 (n : Int) (h0 : 0 ≤ n) (h1 : n < 2 ^ 63) : IntKind.i64.wrap n = n := by rw [IntKind.wrap_i64]; omega

theorem low32_u64 (x : Int) (h0 : 0 ≤ x) (h1 : x < 18446744073709551616) : bits .and .u64 x 4294967295 = x % 4294967296 :=
  bits_mask .u64 64 (by decide) wraps_u64 32 (by decide) x h0 h1

theorem low_i64 (j : Nat) (m : Int) (hm : (BitVec.ofInt 64 m).toNat = 2 ^ j - 1) (hj : j ≤ 62) (n : Int) : bits .and .i64 n m = n % 2 ^ j := by
  have key : (BitVec.ofInt 64 n &&& BitVec.ofInt 64 m).toNat = (n % ((2 ^ 64 : Nat) : Int)).toNat % 2 ^ j := by
    rw [BitVec.toNat_and, BitVec.toNat_ofInt, hm, Nat.and_two_pow_sub_one_eq_mod]
  show IntKind.i64.wrap ((BitVec.ofInt 64 n &&& BitVec.ofInt 64 m).toNat : Nat) = n % 2 ^ j
  have hd : (2 : Int) ^ 64 = 2 ^ j * 2 ^ (64 - j) := by rw [← Int.pow_add]; congr 1; omega
  have hle : (2 : Int) ^ j ≤ 2 ^ 62 := by exact_mod_cast Nat.pow_le_pow_right (by omega) hj
  have hpos : (0 : Int) < 2 ^ j := by exact_mod_cast Nat.two_pow_pos j
  have e : ((((n % ((2 ^ 64 : Nat) : Int)).toNat % 2 ^ j : Nat)) : Int) = n % 2 ^ j := by
    have h1 : (((n % ((2 ^ 64 : Nat) : Int)).toNat : Nat) : Int) = n % 2 ^ 64 := by
      rw [Int.toNat_of_nonneg (Int.emod_nonneg _ (by decide))]; rfl
    rw [Int.natCast_emod, h1]
    show n % 2 ^ 64 % ((2 ^ j : Nat) : Int) = n % 2 ^ j
    rw [Int.natCast_pow]
    show n % 2 ^ 64 % (2 ^ j : Int) = n % 2 ^ j
    exact Int.emod_emod_of_dvd n ⟨2 ^ (64 - j), hd⟩
  rw [key, e]
  have a1 := Int.emod_nonneg n (Int.ne_of_gt hpos)
  have a2 := Int.emod_lt_of_pos n hpos
  exact wraps_i64 _ a1 (by omega)

theorem low32_i64 (n : Int) : bits .and .i64 n 4294967295 = n % 4294967296 := low_i64 32 4294967295 (by decide) (by decide) n
theorem low16_i64 (n : Int) : bits .and .i64 n 65535 = n % 65536 := low_i64 16 65535 (by decide) (by decide) n

/-- The product of two words by halves. -/
theorem split (a b c d : Int) : (a * 4294967296 + b) * (c * 4294967296 + d) = a * c * 18446744073709551616 + (a * d + b * c) * 4294967296 + b * d := by
  have e : (18446744073709551616 : Int) = 4294967296 * 4294967296 := by decide
  rw [e]
  simp only [Int.add_mul, Int.mul_add]
  have e1 : a * 4294967296 * (c * 4294967296) = a * c * (4294967296 * 4294967296) := by
    rw [Int.mul_assoc, Int.mul_left_comm 4294967296 c, ← Int.mul_assoc a c]
  have e2 : a * 4294967296 * d = a * d * 4294967296 := by rw [Int.mul_assoc, Int.mul_comm 4294967296 d, ← Int.mul_assoc]
  have e3 : b * (c * 4294967296) = b * c * 4294967296 := by rw [← Int.mul_assoc]
  rw [e1, e2, e3]
  omega

theorem half_le (a b : Int) (a0 : 0 ≤ a) (a1 : a ≤ 4294967295) (b0 : 0 ≤ b) (b1 : b ≤ 4294967295) : 0 ≤ a * b ∧ a * b ≤ 18446744065119617025 := by
  refine ⟨Int.mul_nonneg a0 b0, ?_⟩
  have h := Int.mul_le_mul a1 b1 b0 (by decide : (0 : Int) ≤ 4294967295)
  simpa using h

theorem mul_hi (x y : Int) (hx0 : 0 ≤ x) (hx : x < 18446744073709551616) (hy0 : 0 ≤ y) (hy : y < 18446744073709551616) :
    IntKind.u64.wrap
      (IntKind.u64.wrap (IntKind.u64.wrap (x / 4294967296 * (y / 4294967296)) +
            IntKind.u64.wrap (IntKind.u64.wrap (x / 4294967296 * bits BinOp.and IntKind.u64 y 4294967295) +
                  IntKind.u64.wrap (bits BinOp.and IntKind.u64 x 4294967295 * bits BinOp.and IntKind.u64 y 4294967295) / 4294967296) / 4294967296) +
        IntKind.u64.wrap (bits BinOp.and IntKind.u64
                (IntKind.u64.wrap (IntKind.u64.wrap (x / 4294967296 * bits BinOp.and IntKind.u64 y 4294967295) +
                    IntKind.u64.wrap (bits BinOp.and IntKind.u64 x 4294967295 * bits BinOp.and IntKind.u64 y 4294967295) / 4294967296)) 4294967295 +
              IntKind.u64.wrap (bits BinOp.and IntKind.u64 x 4294967295 * (y / 4294967296))) / 4294967296) = x * y / 18446744073709551616 := by
  rw [low32_u64 x hx0 hx, low32_u64 y hy0 hy]
  have e := split (x / 4294967296) (x % 4294967296) (y / 4294967296) (y % 4294967296)
  have ex : x / 4294967296 * 4294967296 + x % 4294967296 = x := by omega
  have ey : y / 4294967296 * 4294967296 + y % 4294967296 = y := by omega
  rw [ex, ey] at e
  rw [e]
  have ha := half_le (x / 4294967296) (y / 4294967296) (by omega) (by omega) (by omega) (by omega)
  have hb := half_le (x / 4294967296) (y % 4294967296) (by omega) (by omega) (by omega) (by omega)
  have hc := half_le (x % 4294967296) (y / 4294967296) (by omega) (by omega) (by omega) (by omega)
  have hd := half_le (x % 4294967296) (y % 4294967296) (by omega) (by omega) (by omega) (by omega)
  generalize x / 4294967296 * (y / 4294967296) = a at *
  generalize x / 4294967296 * (y % 4294967296) = b at *
  generalize x % 4294967296 * (y / 4294967296) = c at *
  generalize x % 4294967296 * (y % 4294967296) = d at *
  clear e ex ey hx0 hx hy0 hy
  rw [wraps_u64 a (by omega) (by omega), wraps_u64 b (by omega) (by omega), wraps_u64 d (by omega) (by omega), wraps_u64 c (by omega) (by omega)]
  rw [wraps_u64 (b + d / 4294967296) (by omega) (by omega)]
  rw [low32_u64 (b + d / 4294967296) (by omega) (by omega)]
  rw [wraps_u64 ((b + d / 4294967296) % 4294967296 + c) (by omega) (by omega)]
  rw [wraps_u64 (a + (b + d / 4294967296) / 4294967296) (by omega) (by omega)]
  rw [wraps_u64 _ (by omega) (by omega)]
  omega

theorem mul_lo (x y : Int) : IntKind.u64.wrap (x * y) = x * y % 18446744073709551616 := IntKind.wrap_u64 _

/-! The quotient by 10000 of a number of two words: the divisor is shifted by 50, its low half is 0. -/
theorem div_u (hi lo : Int) (g0 : 0 ≤ hi) (g1 : hi < 10000) (h0 : 0 ≤ lo) (h1 : lo < 18446744073709551616) :
    bits .or .u64 (hi * 1125899906842624) (lo / 16384) = hi * 1125899906842624 + lo / 16384 :=
  bits_join .u64 64 (by decide) wraps_u64 50 _ _ (by omega) (by omega) (by omega) (by omega) (by omega) (by omega)

theorem div_t (u v : Int) (u0 : 0 ≤ u) (u1 : u < 11258999068426240000) (v0 : 0 ≤ v) (v1 : v < 18446744073709551616) :
    IntKind.u64.wrap (IntKind.u64.wrap (IntKind.u64.wrap (u * 4294967296) + v / 4294967296) - IntKind.u64.wrap (u / 2621440000 * 11258999068426240000)) =
      u % 2621440000 * 4294967296 + v / 4294967296 := by
  simp only [IntKind.wrap_u64]
  omega

theorem div_r (t z : Int) (t0 : 0 ≤ t) (t1 : t < 11258999068426240000) (z0 : 0 ≤ z) (z1 : z < 4294967296) :
    IntKind.u64.wrap (IntKind.u64.wrap (IntKind.u64.wrap (t * 4294967296) + z) - IntKind.u64.wrap (t / 2621440000 * 11258999068426240000)) =
      t % 2621440000 * 4294967296 + z := by
  simp only [IntKind.wrap_u64]
  omega

/-- The two steps of the long division, put together. -/
theorem div_all (n u v1 z t : Int) (hn : n * 1125899906842624 = (u * 4294967296 + v1) * 4294967296 + z) (v0 : 0 ≤ v1) (v2 : v1 < 4294967296) (z0 : 0 ≤ z) (z1 : z < 4294967296)
    (ht : t = u % 2621440000 * 4294967296 + v1) :
    u / 2621440000 * 4294967296 + t / 2621440000 = n / 10000 ∧ (t % 2621440000 * 4294967296 + z) / 1125899906842624 = n % 10000 := by
  have hu : u = 2621440000 * (u / 2621440000) + u % 2621440000 := by omega
  have ht' : t = 2621440000 * (t / 2621440000) + t % 2621440000 := by omega
  have b1 : 0 ≤ t % 2621440000 := by omega
  have b2 : t % 2621440000 < 2621440000 := by omega
  generalize t / 2621440000 = q0 at *
  generalize t % 2621440000 = r0 at *
  generalize u / 2621440000 = q1 at *
  generalize u % 2621440000 = r1 at *
  constructor <;> omega

end Ar
end Go.Proofs.Ytlackjldopeigaa

/-
  The contracts of math/bits.Add64, Mul64 and (at the divisor 10000) Div64 over this seat's program.
-/
namespace Go.Proofs.Ytlackjldopeigaa
open Go.RowKit
set_option linter.unusedVariables false

theorem add64 (x y c : Int) (hx : 0 ≤ x) (hy : 0 ≤ y) (hc0 : 0 ≤ c) (hc : c ≤ 1) (w : World) : (callFunc 104 #[.int .u64 x, .int .u64 y, .int .u64 c]).run Try.prog w =
    .ok (.value (.tuple #[.int .u64 ((x + y + c) % 18446744073709551616), .int .u64 ((x + y + c) / 18446744073709551616)])) w := by
  rw [run_callFunc_extern Try.func104 (by kernel_rfl) (by kernel_rfl) (by kernel_rfl) (e := add64Entry) (by kernel_rfl), run_add64 x y c hx hy hc0 hc]
  rfl

theorem add64_0 (x y : Int) (hx : 0 ≤ x) (hy : 0 ≤ y) (w : World) : (callFunc 104 #[.int .u64 x, .int .u64 y, .int .u64 0]).run Try.prog w =
    .ok (.value (.tuple #[.int .u64 ((x + y) % 18446744073709551616), .int .u64 ((x + y) / 18446744073709551616)])) w := by
  simpa using add64 x y 0 hx hy (Int.le_refl 0) (by decide) w

theorem ret_int {k : IntKind} {a b : Int} (h : a = b) : Ending.returned (.int k a) = .returned (.int k b) := by rw [h]
theorem ret2_int {k l : IntKind} {a b c d : Int} (h1 : a = c) (h2 : b = d) : Ending.returned (.tuple #[.int k a, .int l b]) = .returned (.tuple #[.int k c, .int l d]) := by rw [h1, h2]

/-! The same, with the answers under names of their own. -/
theorem add64_as (x y c s d : Int) (h : Hid (x + y + c = d * 18446744073709551616 + s)) (hx : 0 ≤ x) (hy : 0 ≤ y) (hc0 : 0 ≤ c) (hc : c ≤ 1) (s0 : 0 ≤ s) (s1 : s < 18446744073709551616) (w : World) :
    (callFunc 104 #[.int .u64 x, .int .u64 y, .int .u64 c]).run Try.prog w = .ok (.value (.tuple #[.int .u64 s, .int .u64 d])) w := by
  have h := h.out
  rw [add64 x y c hx hy hc0 hc w]
  have e1 : (x + y + c) % 18446744073709551616 = s := by omega
  have e2 : (x + y + c) / 18446744073709551616 = d := by omega
  rw [e1, e2]


end Go.Proofs.Ytlackjldopeigaa

/-
  The contracts of giro/cash's share, Worth and Less over this seat's program.
-/
namespace Go.Proofs.Ytlackjldopeigaa
open Go.RowKit
set_option linter.unusedVariables false

/-- What an int64 holds of a number: the number, or 0. -/
def heldV (s : Int) : Int := if -9223372036854775808 ≤ s ∧ s ≤ 9223372036854775807 then s else 0
/-- Does an int64 hold it? -/
def heldB (s : Int) : Bool := decide (-9223372036854775808 ≤ s ∧ s ≤ 9223372036854775807)

theorem heldV_yes {s : Int} (h0 : -9223372036854775808 ≤ s) (h1 : s ≤ 9223372036854775807) : heldV s = s := by unfold heldV; rw [if_pos ⟨h0, h1⟩]
theorem heldB_yes {s : Int} (h0 : -9223372036854775808 ≤ s) (h1 : s ≤ 9223372036854775807) : heldB s = true := by unfold heldB; exact decide_eq_true ⟨h0, h1⟩
theorem heldV_no {s : Int} (h : ¬ (-9223372036854775808 ≤ s ∧ s ≤ 9223372036854775807)) : heldV s = 0 := by unfold heldV; rw [if_neg h]
theorem heldB_no {s : Int} (h : ¬ (-9223372036854775808 ≤ s ∧ s ≤ 9223372036854775807)) : heldB s = false := by unfold heldB; exact decide_eq_false h
theorem heldV_wf (s : Int) : -9223372036854775808 ≤ heldV s ∧ heldV s ≤ 9223372036854775807 := by unfold heldV; split <;> omega

/-- (n times rate) by 10000, where n is q times 10000 and r more. -/
theorem share_sum (n q r rate : Int) (h : n = q * 10000 + r) : n * rate / 10000 = q * rate + r * rate / 10000 := by
  subst h
  have e : (q * 10000 + r) * rate = r * rate + q * rate * 10000 := by
    rw [Int.add_mul, Int.mul_right_comm]; omega
  rw [e, Int.add_mul_ediv_right _ _ (by decide)]
  omega


end Go.Proofs.Ytlackjldopeigaa

/-
  The contracts of giro/cash's Worth and Less over this seat's program.
-/
namespace Go.Proofs.Ytlackjldopeigaa
open Go.RowKit
set_option linter.unusedVariables false

/-- May that be asked of Worth? -/
def askedB (p m c : Int) : Bool := decide (0 ≤ p ∧ 0 ≤ m ∧ 0 ≤ c ∧ c ≤ 10000)
def worthV (p m c : Int) : Int := if askedB p m c = true then heldV (p * m * (10000 - c) / 10000) else 0
def worthB (p m c : Int) : Bool := askedB p m c && heldB (p * m * (10000 - c) / 10000)

theorem asked_yes {p m c : Int} (h1 : 0 ≤ p) (h2 : 0 ≤ m) (h3 : 0 ≤ c) (h4 : c ≤ 10000) : askedB p m c = true := decide_eq_true ⟨h1, h2, h3, h4⟩
theorem asked_no {p m c : Int} (h : ¬ (0 ≤ p ∧ 0 ≤ m ∧ 0 ≤ c ∧ c ≤ 10000)) : askedB p m c = false := decide_eq_false h
theorem worthV_yes {p m c : Int} (h1 : 0 ≤ p) (h2 : 0 ≤ m) (h3 : 0 ≤ c) (h4 : c ≤ 10000) : worthV p m c = heldV (p * m * (10000 - c) / 10000) := by unfold worthV; rw [if_pos (asked_yes h1 h2 h3 h4)]
theorem worthB_yes {p m c : Int} (h1 : 0 ≤ p) (h2 : 0 ≤ m) (h3 : 0 ≤ c) (h4 : c ≤ 10000) : worthB p m c = heldB (p * m * (10000 - c) / 10000) := by unfold worthB; rw [asked_yes h1 h2 h3 h4]; rfl
theorem worthV_no {p m c : Int} (h : ¬ (0 ≤ p ∧ 0 ≤ m ∧ 0 ≤ c ∧ c ≤ 10000)) : worthV p m c = 0 := by unfold worthV; rw [asked_no h]; rfl
theorem worthB_no {p m c : Int} (h : ¬ (0 ≤ p ∧ 0 ≤ m ∧ 0 ≤ c ∧ c ≤ 10000)) : worthB p m c = false := by unfold worthB; rw [asked_no h]; rfl


end Go.Proofs.Ytlackjldopeigaa

/-
  The contracts of giro/cash's signWord, Sum and Add over this seat's program.
-/
namespace Go.Proofs.Ytlackjldopeigaa
open Go.RowKit
set_option linter.unusedVariables false

/-- The sum of a list. -/
def tot : List Int → Int
  | [] => 0
  | x :: l => x + tot l

theorem tot_append (l m : List Int) : tot (l ++ m) = tot l + tot m := by
  induction l with
  | nil => simp [tot]
  | cons x l ih => simp only [List.cons_append, tot, ih]; omega

theorem tot_take (l : List Int) (k : Nat) (h : k < l.length) : tot (l.take (k + 1)) = tot (l.take k) + l.getD k 0 := by
  rw [List.take_succ_eq_append_getElem h, tot_append]
  simp [tot, h]

theorem tot_bound (l : List Int) (h : ∀ n ∈ l, -9223372036854775808 ≤ n ∧ n ≤ 9223372036854775807) :
    -9223372036854775808 * l.length ≤ tot l ∧ tot l ≤ 9223372036854775807 * l.length := by
  induction l with
  | nil => simp [tot]
  | cons x l ih =>
    have h1 := h x (by simp)
    have h2 := ih (fun n hn => h n (by simp [hn]))
    simp only [tot, List.length_cons, Int.natCast_add, Int.natCast_one]
    omega

theorem ret_ib {k : IntKind} {a c : Int} {b d : Bool} (h1 : a = c) (h2 : b = d) : Ending.returned (.tuple #[.int k a, .bool b]) = .returned (.tuple #[.int k c, .bool d]) := by rw [h1, h2]

/-- What the walk is told of a slice of int64s: its elements. -/
def Has (w : World) (a : Option Addr) (len : Nat) (zs : List Int) : Prop :=
  len = zs.length ∧ zs.length ≤ 140737488355328 ∧ (∀ n ∈ zs, -9223372036854775808 ≤ n ∧ n ≤ 9223372036854775807) ∧
    (zs = [] ∨ ∃ b off, a = some ⟨b, off, none⟩ ∧ ∀ i, i < zs.length → w.cell? ⟨b, off + i, none⟩ = some (.int .i64 (zs.getD i 0)))

set_option maxHeartbeats 400000 in
theorem sign_neg (n : Int) (h : n < 0) (w : World) :
    Calls Try.prog 105 #[.int .i64 n] w fun e w' => e = .returned (.int .u64 18446744073709551615) ∧ w' = w := by
  go_enter Try.func105, Try.ntmps105
  go_wp2
  go_ret
  exact ⟨rfl, rfl⟩

set_option maxHeartbeats 400000 in
theorem sign_pos (n : Int) (h : 0 ≤ n) (w : World) :
    Calls Try.prog 105 #[.int .i64 n] w fun e w' => e = .returned (.int .u64 0) ∧ w' = w := by
  go_enter Try.func105, Try.ntmps105
  go_wp2
  go_ret
  exact ⟨rfl, rfl⟩

set_option maxHeartbeats 2000000 in
theorem sum_row (b off cap : Nat) (zs : List Int) (w : World) (hlen : zs.length ≤ 140737488355328)
    (hwf : ∀ n ∈ zs, -9223372036854775808 ≤ n ∧ n ≤ 9223372036854775807)
    (hc : ∀ i, i < zs.length → w.cell? ⟨b, off + i, none⟩ = some (.int .i64 (zs.getD i 0))) :
    Calls Try.prog 103 #[.slice (some ⟨b, off, none⟩) zs.length cap] w fun e w' => e = .returned (.tuple #[.int .i64 (heldV (tot zs)), .bool (heldB (tot zs))]) ∧ w' = w := by
  go_enter Try.func103, Try.ntmps103
  go_wp2
  go_loop [4, 5, 12] (fun h l i => ∃ (k : Nat) (H L j : Int), k ≤ zs.length ∧ i = .int .i64 k ∧ h = .int .u64 H ∧ l = .int .u64 L ∧ 0 ≤ H ∧ H < 18446744073709551616 ∧ 0 ≤ L ∧ L < 18446744073709551616 ∧
      H * 18446744073709551616 + L = tot (zs.take k) + j * 340282366920938463463374607431768211456) (fun _ _ i => zs.length - (intOf i).toNat)
  case atStart => exact ⟨0, 0, 0, 0, by omega, rfl, rfl, rfl, by omega, by omega, by omega, by omega, by simp [tot]⟩
  case round =>
    obtain ⟨k, H, L, j, hk, rfl, rfl, rfl, H0, H1, L0, L1, hj⟩ := hrel
    have J : Hid (H * 18446744073709551616 + L = tot (zs.take k) + j * 340282366920938463463374607431768211456) := hj
    clear hj
    by_cases hlt : k < zs.length
    · obtain ⟨n, hn⟩ : ∃ n, zs.getD k 0 = n := ⟨_, rfl⟩
      have hcell := hc k hlt
      rw [hn] at hcell
      have hb : -9223372036854775808 ≤ n ∧ n ≤ 9223372036854775807 := by
        refine hwf n ?_
        rw [← hn]
        simp [List.getD_eq_getElem?_getD, hlt]
      obtain ⟨n0, n1⟩ := hb
      have T : Hid (tot (zs.take (k + 1)) = tot (zs.take k) + n) := by rw [tot_take zs k hlt, hn]; exact rfl
      clear hc hwf hn
      by_cases hs : n < 0
      · have eN : IntKind.u64.wrap n = n + 18446744073709551616 := by rw [IntKind.wrap_u64]; omega
        obtain ⟨m, hm⟩ : ∃ m, m = n + 18446744073709551616 := ⟨_, rfl⟩
        rw [← hm] at eN
        have m0 : 0 ≤ m := by omega
        have m1 : m < 18446744073709551616 := by omega
        have A1 : L + m + 0 = (L + m) / 18446744073709551616 * 18446744073709551616 + (L + m) % 18446744073709551616 := by omega
        have s0 : 0 ≤ (L + m) % 18446744073709551616 := by omega
        have s1 : (L + m) % 18446744073709551616 < 18446744073709551616 := by omega
        have d0 : 0 ≤ (L + m) / 18446744073709551616 := by omega
        have d1 : (L + m) / 18446744073709551616 ≤ 1 := by omega
        generalize (L + m) / 18446744073709551616 = d at *
        generalize (L + m) % 18446744073709551616 = s at *
        have A2 : H + 18446744073709551615 + d = (H + 18446744073709551615 + d) / 18446744073709551616 * 18446744073709551616 + (H + 18446744073709551615 + d) % 18446744073709551616 := by omega
        have t0 : 0 ≤ (H + 18446744073709551615 + d) % 18446744073709551616 := by omega
        have t1 : (H + 18446744073709551615 + d) % 18446744073709551616 < 18446744073709551616 := by omega
        generalize (H + 18446744073709551615 + d) / 18446744073709551616 = c at *
        generalize (H + 18446744073709551615 + d) % 18446744073709551616 = t at *
        have A1' : Hid (L + m + 0 = d * 18446744073709551616 + s) := A1
        have A2' : Hid (H + 18446744073709551615 + d = c * 18446744073709551616 + t) := A2
        have hm' : Hid (m = n + 18446744073709551616) := hm
        clear A1 A2 hm
        go_wp2_with (first
          | (go_at_call 105; refine (sign_neg n hs _).mono ?_; rintro e w' ⟨rfl, rfl⟩)
          | simp only [add64_as L m 0 s d A1' L0 m0 (by decide) (by decide) s0 s1]
          | simp only [add64_as H 18446744073709551615 d t c A2' H0 (by decide) d0 d1 t0 t1])
        go_round
        case rel =>
          have J := J.out
          have T := T.out
          have A1 := A1'.out
          have A2 := A2'.out
          have hm := hm'.out
          exact ⟨k + 1, t, s, j + 1 - c, by omega, by go_num, rfl, rfl, t0, t1, s0, s1, by rw [T]; omega⟩
        case measure => simp [intOf]; omega
      · have A1 : L + n + 0 = (L + n) / 18446744073709551616 * 18446744073709551616 + (L + n) % 18446744073709551616 := by omega
        have s0 : 0 ≤ (L + n) % 18446744073709551616 := by omega
        have s1 : (L + n) % 18446744073709551616 < 18446744073709551616 := by omega
        have d0 : 0 ≤ (L + n) / 18446744073709551616 := by omega
        have d1 : (L + n) / 18446744073709551616 ≤ 1 := by omega
        generalize (L + n) / 18446744073709551616 = d at *
        generalize (L + n) % 18446744073709551616 = s at *
        have A2 : H + 0 + d = (H + d) / 18446744073709551616 * 18446744073709551616 + (H + d) % 18446744073709551616 := by omega
        have t0 : 0 ≤ (H + d) % 18446744073709551616 := by omega
        have t1 : (H + d) % 18446744073709551616 < 18446744073709551616 := by omega
        generalize (H + d) / 18446744073709551616 = c at *
        generalize (H + d) % 18446744073709551616 = t at *
        have A1' : Hid (L + n + 0 = d * 18446744073709551616 + s) := A1
        have A2' : Hid (H + 0 + d = c * 18446744073709551616 + t) := A2
        clear A1 A2
        have hs' : 0 ≤ n := by omega
        clear hs
        go_wp2_with (first
          | (go_at_call 105; refine (sign_pos n hs' _).mono ?_; rintro e w' ⟨rfl, rfl⟩)
          | simp only [add64_as L n 0 s d A1' L0 hs' (by decide) (by decide) s0 s1]
          | simp only [add64_as H 0 d t c A2' H0 (by decide) d0 d1 t0 t1])
        go_round
        case rel =>
          have J := J.out
          have T := T.out
          have A1 := A1'.out
          have A2 := A2'.out
          exact ⟨k + 1, t, s, j - c, by omega, by go_num, rfl, rfl, t0, t1, s0, s1, by rw [T]; omega⟩
        case measure => simp [intOf]; omega
    · have hK : zs.take k = zs := List.take_of_length_le (by omega)
      have B := tot_bound zs hwf
      have J := J.out
      rw [hK] at J
      have B0 : -1298074214633706907132624082305024 ≤ tot zs := by omega
      have B1 : tot zs ≤ 1298074214633706907132624082305024 := by omega
      clear B hK hwf hc
      by_cases hs : L < 9223372036854775808
      · by_cases hH : H = 0
        · subst hH
          obtain ⟨V, G⟩ : Hid (L = heldV (tot zs)) ∧ Hid (true = heldB (tot zs)) := by
            have E : tot zs = L := by omega
            rw [E]; exact ⟨(heldV_yes (by omega) (by omega)).symm, (heldB_yes (by omega) (by omega)).symm⟩
          clear J B0 B1
          go_wp2_with (go_at_call 105; refine (sign_pos L L0 _).mono ?_; rintro e w' ⟨rfl, rfl⟩)
          go_ret2
          exact ⟨ret_ib V.out G.out, rfl⟩
        · obtain ⟨V, G⟩ : Hid (0 = heldV (tot zs)) ∧ Hid (false = heldB (tot zs)) := by
            have E : ¬ (-9223372036854775808 ≤ tot zs ∧ tot zs ≤ 9223372036854775807) := by omega
            exact ⟨(heldV_no E).symm, (heldB_no E).symm⟩
          have hH' : (H == 0) = false := by simp; omega
          clear J B0 B1 hH
          go_wp2_with (go_at_call 105; refine (sign_pos L L0 _).mono ?_; rintro e w' ⟨rfl, rfl⟩)
          go_ret2
          exact ⟨ret_ib V.out G.out, rfl⟩
      · have eL : IntKind.i64.wrap L = L - 18446744073709551616 := by rw [IntKind.wrap_i64]; omega
        obtain ⟨y, hy⟩ : ∃ y, y = L - 18446744073709551616 := ⟨_, rfl⟩
        rw [← hy] at eL
        have y0 : -9223372036854775808 ≤ y := by omega
        have y1 : y < 0 := by omega
        by_cases hH : H = 18446744073709551615
        · subst hH
          obtain ⟨V, G⟩ : Hid (y = heldV (tot zs)) ∧ Hid (true = heldB (tot zs)) := by
            have E : tot zs = y := by omega
            rw [E]; exact ⟨(heldV_yes (by omega) (by omega)).symm, (heldB_yes (by omega) (by omega)).symm⟩
          clear J B0 B1 hy
          go_wp2_with (go_at_call 105; refine (sign_neg y y1 _).mono ?_; rintro e w' ⟨rfl, rfl⟩)
          go_ret2
          exact ⟨ret_ib V.out G.out, rfl⟩
        · obtain ⟨V, G⟩ : Hid (0 = heldV (tot zs)) ∧ Hid (false = heldB (tot zs)) := by
            have E : ¬ (-9223372036854775808 ≤ tot zs ∧ tot zs ≤ 9223372036854775807) := by omega
            exact ⟨(heldV_no E).symm, (heldB_no E).symm⟩
          have hH' : (H == 18446744073709551615) = false := by simp; omega
          clear J B0 B1 hH hy
          go_wp2_with (go_at_call 105; refine (sign_neg y y1 _).mono ?_; rintro e w' ⟨rfl, rfl⟩)
          go_ret2
          exact ⟨ret_ib V.out G.out, rfl⟩

set_option maxHeartbeats 400000 in
theorem sum_none (a : Option Addr) (cap : Nat) (w : World) :
    Calls Try.prog 103 #[.slice a 0 cap] w fun e w' => e = .returned (.tuple #[.int .i64 0, .bool true]) ∧ w' = w := by
  go_enter Try.func103, Try.ntmps103
  go_wp2
  refine wp_loop_rounds 1 ?_
  rw [rounds_succ]
  go_wp2_with (go_at_call 105; refine (sign_pos 0 (by decide) _).mono ?_; rintro e w' ⟨rfl, rfl⟩)
  go_ret2
  exact ⟨rfl, rfl⟩

/-- Sum. -/
theorem sum_any (a : Option Addr) (len cap : Nat) (zs : List Int) (w : World) (h : Has w a len zs) :
    Calls Try.prog 103 #[.slice a len cap] w fun e w' => e = .returned (.tuple #[.int .i64 (heldV (tot zs)), .bool (heldB (tot zs))]) ∧ w' = w := by
  obtain ⟨rfl, h1, h2, h3⟩ := h
  rcases h3 with rfl | ⟨b, off, rfl, h3⟩
  · refine (sum_none a cap w).mono ?_
    rintro e w' ⟨rfl, rfl⟩
    exact ⟨by simp [tot, heldV, heldB], rfl⟩
  · exact sum_row b off cap zs w h1 h2 h3

end Go.Proofs.Ytlackjldopeigaa

/-
  The contracts of giro/cash's Add and of girolaw1's known over this seat's program.
-/
namespace Go.Proofs.Ytlackjldopeigaa
open Go.RowKit
set_option linter.unusedVariables false

/-- A slice that has just been laid has the elements that were laid. -/
theorem has_new {w : World} {b : Nat} {zs : List Int} (hlen : zs.length ≤ 140737488355328) (hwf : ∀ n ∈ zs, -9223372036854775808 ≤ n ∧ n ≤ 9223372036854775807)
    (hc : ∀ i, i < zs.length → w.cell? ⟨b, i, none⟩ = ((zs.map (Value.int .i64)).toArray)[i]?) : Has w (some ⟨b, 0, none⟩) zs.length zs := by
  refine ⟨rfl, hlen, hwf, .inr ⟨b, 0, rfl, ?_⟩⟩
  intro i hi
  rw [Nat.zero_add, hc i hi]
  simp [hi]

theorem has_alloc (w : World) (t : TypeId) (zs : List Int) (hlen : zs.length ≤ 140737488355328) (hwf : ∀ n ∈ zs, -9223372036854775808 ≤ n ∧ n ≤ 9223372036854775807) :
    Has (w.alloc (.cells (zs.map (Value.int .i64)).toArray t)) (some ⟨w.heap.size, 0, none⟩) zs.length zs :=
  has_new hlen hwf fun i hi => World.cell?_alloc_at _ _ _ _ rfl

theorem sum_two (a b : Int) (a0 : -9223372036854775808 ≤ a) (a1 : a ≤ 9223372036854775807) (b0 : -9223372036854775808 ≤ b) (b1 : b ≤ 9223372036854775807) (w : World) :
    Calls Try.prog 103 #[.slice (some ⟨w.heap.size, 0, none⟩) 2 2] (w.alloc (.cells #[.int .i64 a, .int .i64 b] 2)) fun e w' =>
      e = .returned (.tuple #[.int .i64 (heldV (a + b)), .bool (heldB (a + b))]) ∧ w' = w.alloc (.cells #[.int .i64 a, .int .i64 b] 2) := by
  have hs := sum_any (some ⟨w.heap.size, 0, none⟩) 2 2 [a, b] (w.alloc (.cells #[.int .i64 a, .int .i64 b] 2)) (has_alloc w 2 [a, b] (by simp) (by simp; omega))
  have ht : tot [a, b] = a + b := by simp [tot]
  rw [ht] at hs
  exact hs

theorem sum_known (w : World) : Calls Try.prog 103 #[.slice (some ⟨w.heap.size, 0, none⟩) 3 3] (w.alloc (.cells #[.int .i64 4611686018427387904, .int .i64 4611686018427387904, .int .i64 (-4611686018427387904)] 2)) fun e w' =>
    e = .returned (.tuple #[.int .i64 4611686018427387904, .bool true]) ∧ w' = w.alloc (.cells #[.int .i64 4611686018427387904, .int .i64 4611686018427387904, .int .i64 (-4611686018427387904)] 2) :=
  sum_any (some ⟨w.heap.size, 0, none⟩) 3 3 [4611686018427387904, 4611686018427387904, -4611686018427387904] _ (has_alloc w 2 [4611686018427387904, 4611686018427387904, -4611686018427387904] (by decide) (by decide))



end Go.Proofs.Ytlackjldopeigaa

/-
  The contracts of giroref1's Add and Less over this seat's program.
-/
namespace Go.Proofs.Ytlackjldopeigaa
open Go.RowKit
set_option linter.unusedVariables false

end Go.Proofs.Ytlackjldopeigaa

/-
  acct: is it an account: the program's answer and the document's; a less b.
-/
namespace Go.Proofs.Ytlackjldopeigaa
open Go.RowKit
set_option linter.unusedVariables false
set_option linter.unusedSimpArgs false

/-- May a credit or a reserve be so much? -/
def setB (n : Int) : Bool := decide (0 ≤ n ∧ n ≤ 2305843009213693952)
/-- May a balance? -/
def balB (b : Int) : Bool := decide (-4611686018427387904 < b ∧ b < 4611686018427387904)
/-- Is it an account? -/
def acctB (b c r : Int) : Bool := balB b && (setB c && setB r)

theorem setB_low {n : Int} (h : n < 0) : false = setB n := by unfold setB; symm; rw [decide_eq_false_iff_not]; omega
theorem setB_rest {n : Int} (h : 0 ≤ n) : decide (n ≤ 2305843009213693952) = setB n := by simp [setB, h]
theorem balB_low {n : Int} (h : n ≤ -4611686018427387904) : balB n = false := by unfold balB; rw [decide_eq_false_iff_not]; omega
theorem balB_rest {n : Int} (h : -4611686018427387904 < n) : balB n = decide (n < 4611686018427387904) := by simp [balB, h]
theorem acctB_yes {b c r : Int} : acctB b c r = true ↔ -4611686018427387904 < b ∧ b < 4611686018427387904 ∧ 0 ≤ c ∧ c ≤ 2305843009213693952 ∧ 0 ≤ r ∧ r ≤ 2305843009213693952 := by
  simp only [acctB, balB, setB, Bool.and_eq_true, decide_eq_true_iff]; omega

theorem maySet_any (n : Int) (w : World) : Calls Try.prog 97 #[.int .i64 n] w fun e w' => e = .returned (.bool (setB n)) ∧ w' = w := by
  rcases Int.lt_or_le n 0 with h | h
  · go_enter Try.func97, Try.ntmps97
    go_wp2
    go_ret
    exact ⟨rt_bool (setB_low h), rfl⟩
  · go_enter Try.func97, Try.ntmps97
    go_wp2
    go_ret
    exact ⟨rt_bool (setB_rest h), rfl⟩

set_option maxHeartbeats 1000000 in
theorem acctIs_any (b c r : Int) (w : World) : Calls Try.prog 83 #[.agg #[.int .i64 b, .int .i64 c, .int .i64 r]] w fun e w' => e = .returned (.bool (acctB b c r)) ∧ Below w.heap.size w w' := by
  unfold acctB
  rcases Int.lt_or_le (-4611686018427387904) b with h | h
  · rw [balB_rest h]
    have M1 := maySet_any c
    have M2 := maySet_any r
    generalize setB c = p at M1 ⊢
    generalize setB r = q at M2 ⊢
    rcases Int.lt_or_le b 4611686018427387904 with k | k
    · rw [decide_eq_true k]
      go_enter Try.func83, Try.ntmps83
      go_wp2_with fail
      go_at_call 97
      refine (M1 _).mono ?_
      rintro e w1 ⟨rfl, hw⟩
      have A1 : At3 w1 w.heap.size b c r := by rw [hw]; exact At3.new _ _ _ _ _ _
      have B1 : Hid (Below w.heap.size w w1) := by rw [hw]; exact box_below _ _
      obtain ⟨c0, c1, c2⟩ := A1
      clear hw M1
      cases p
      · go_wp2
        go_ret
        exact ⟨rfl, B1.out⟩
      · go_wp2_with fail
        go_at_call 97
        refine (M2 _).mono ?_
        rintro e w2 ⟨rfl, hw⟩
        obtain rfl := hw.symm
        clear M2
        go_wp2
        go_ret
        exact ⟨rt_bool (by simp), B1.out⟩
    · rw [decide_eq_false (by omega)]
      go_enter Try.func83, Try.ntmps83
      go_wp2
      go_ret
      exact ⟨rt_bool (by simp), box_below _ _⟩
  · rw [balB_low h]
    go_enter Try.func83, Try.ntmps83
    go_wp2
    go_ret
    exact ⟨rt_bool (by simp), box_below _ _⟩

set_option maxHeartbeats 1000000 in
theorem refAcctIs_any (b c r : Int) (w : World) : Calls Try.prog 39 #[.agg #[.int .i64 b, .int .i64 c, .int .i64 r]] w fun e w' => e = .returned (.bool (acctB b c r)) ∧ Below w.heap.size w w' := by
  unfold acctB
  rcases Int.lt_or_le (-4611686018427387904) b with h | h
  · rw [balB_rest h]
    rcases Int.lt_or_le b 4611686018427387904 with k | k
    · rw [decide_eq_true k]
      rcases Int.lt_or_le c 0 with m | m
      · rw [← setB_low m]
        go_enter Try.func39, Try.ntmps39
        go_wp2
        go_ret
        exact ⟨rt_bool (by simp), box_below _ _⟩
      · rw [← setB_rest m]
        rcases Int.lt_or_le 2305843009213693952 c with o | o
        · rw [decide_eq_false (by omega)]
          go_enter Try.func39, Try.ntmps39
          go_wp2
          go_ret
          exact ⟨rt_bool (by simp), box_below _ _⟩
        · rw [decide_eq_true o]
          rcases Int.lt_or_le r 0 with p | p
          · rw [← setB_low p]
            go_enter Try.func39, Try.ntmps39
            go_wp2
            go_ret
            exact ⟨rt_bool (by simp), box_below _ _⟩
          · rw [← setB_rest p]
            go_enter Try.func39, Try.ntmps39
            go_wp2
            go_ret
            exact ⟨rt_bool (by simp), box_below _ _⟩
    · rw [decide_eq_false (by omega)]
      go_enter Try.func39, Try.ntmps39
      go_wp2
      go_ret
      exact ⟨rt_bool (by simp), box_below _ _⟩
  · rw [balB_low h]
    go_enter Try.func39, Try.ntmps39
    go_wp2
    go_ret
    exact ⟨rt_bool (by simp), box_below _ _⟩

theorem sum_three (a b c : Int) (a0 : -9223372036854775808 ≤ a) (a1 : a ≤ 9223372036854775807) (b0 : -9223372036854775808 ≤ b) (b1 : b ≤ 9223372036854775807) (c0 : -9223372036854775808 ≤ c) (c1 : c ≤ 9223372036854775807) (w : World) :
    Calls Try.prog 103 #[.slice (some ⟨w.heap.size, 0, none⟩) 3 3] (w.alloc (.cells #[.int .i64 a, .int .i64 b, .int .i64 c] 2)) fun e w' =>
      e = .returned (.tuple #[.int .i64 (heldV (a + b + c)), .bool (heldB (a + b + c))]) ∧ w' = w.alloc (.cells #[.int .i64 a, .int .i64 b, .int .i64 c] 2) := by
  have hs := sum_any (some ⟨w.heap.size, 0, none⟩) 3 3 [a, b, c] (w.alloc (.cells #[.int .i64 a, .int .i64 b, .int .i64 c] 2)) (has_alloc w 2 [a, b, c] (by simp) (by simp; omega))
  have ht : tot [a, b, c] = a + b + c := by simp [tot]; omega
  rw [ht] at hs
  exact hs

theorem flip_i64 (b : Int) (b0 : -9223372036854775808 ≤ b) (b1 : b ≤ 9223372036854775807) : bits .xor .i64 (-1) b = -b - 1 := by
  show IntKind.i64.wrap ((BitVec.ofInt 64 (-1) ^^^ BitVec.ofInt 64 b).toNat : Nat) = -b - 1
  have e : (BitVec.ofInt 64 (-1) ^^^ BitVec.ofInt 64 b) = ~~~ (BitVec.ofInt 64 b) := by
    have h : BitVec.ofInt 64 (-1) = BitVec.allOnes 64 := by decide
    rw [h, BitVec.allOnes_xor]
  rw [e, BitVec.toNat_not, BitVec.toNat_ofInt, IntKind.wrap_i64]
  omega

set_option maxHeartbeats 1000000 in
/-- a less b. -/
theorem aless_any (a b : Int) (a0 : -9223372036854775808 ≤ a) (a1 : a ≤ 9223372036854775807) (b0 : -9223372036854775808 ≤ b) (b1 : b ≤ 9223372036854775807) (w : World) :
    Calls Try.prog 96 #[.int .i64 a, .int .i64 b] w fun e w' => e = .returned (.tuple #[.int .i64 (heldV (a - b)), .bool (heldB (a - b))]) ∧ Below w.heap.size w w' := by
  have hf := flip_i64 b b0 b1
  have E : Hid (a + (-b - 1) + 1 = a - b) := by show a + (-b - 1) + 1 = a - b; omega
  have S3 := sum_three a (-b - 1) 1 a0 a1 (by omega) (by omega) (by decide) (by decide) w
  rw [E.out] at S3
  go_enter Try.func96, Try.ntmps96
  go_wp2_with fail
  go_at_call 103
  refine S3.mono ?_
  rintro e w1 ⟨rfl, hw⟩
  have B1 : Hid (Below w.heap.size w w1) := by rw [hw]; exact box_below _ _
  clear hw S3 hf
  go_wp2
  go_ret2
  exact ⟨rfl, B1.out⟩

end Go.Proofs.Ytlackjldopeigaa

/-
  acct: Room, Kept, become, In, Out.
-/
namespace Go.Proofs.Ytlackjldopeigaa
open Go.RowKit
set_option linter.unusedVariables false
set_option linter.unusedSimpArgs false

/-- An account that lies at g by itself. -/
def Acc (w : World) (g : Nat) (b c r : Int) : Prop := w.heap[g]? = some (.cells #[.int .i64 b, .int .i64 c, .int .i64 r] 53 (0, 0))

theorem Acc.at3 {w : World} {g : Nat} {b c r : Int} (h : Acc w g b c r) : At3 w g b c r := ⟨cell_of_row w g 0 _ _ _ h, cell_of_row w g 1 _ _ _ h, cell_of_row w g 2 _ _ _ h⟩
theorem Acc.below {w w' : World} {g : Nat} {b c r : Int} (h : Acc w g b c r) (hb : Below w.heap.size w w') : Acc w' g b c r := by
  unfold Acc; rw [hb.block g h.at3.lt]; exact h
theorem Acc.new (w : World) (b c r : Int) : Acc (w.alloc (.cells #[.int .i64 b, .int .i64 c, .int .i64 r] 53)) w.heap.size b c r := heap_alloc_new w _
theorem Acc.set {w : World} {g : Nat} {b c r : Int} (h : Acc w g b c r) (x y z : Int) : Acc (w.setRow g #[.int .i64 x, .int .i64 y, .int .i64 z]) g x y z := setRow_heap w g _ _ _ _ h
theorem Acc.far {w : World} {g k : Nat} {b c r : Int} (h : Acc w g b c r) (hk : g ≠ k) (cs : Array Value) : Acc (w.setRow k cs) g b c r := by unfold Acc; rw [setRow_other _ _ _ _ hk]; exact h
theorem acctSize : (Try.prog.info? 53).map (·.size) = some 3 := by kernel_rfl

/-- An account is laid over another one. -/
theorem store_acct {ops : Array Oper} {rest : List Oper} {o : Oper} {a : Act} {w : World} {Q : Exit → Act → World → Prop} (hgd : o.guard = none) (x y : Operand) (ho : o.op = .store 53 x y)
    (g : Nat) (b c r : Int) (hx : a.eval x = .pointer (some ⟨g, 0, none⟩)) (hy : a.eval y = .agg #[.int .i64 b, .int .i64 c, .int .i64 r])
    (b0 c0 r0 : Int) (hg : Acc w g b0 c0 r0)
    (h : wpList Try.prog ops Q rest (a.put o.dst undef) (w.setRow g #[.int .i64 b, .int .i64 c, .int .i64 r])) : wpList Try.prog ops Q (o :: rest) a w :=
  wpList_store_row hgd 53 x y ho g _ hx hy _ _ hg acctSize (by simp) (by simp [Value.oneCell']) h

/-- How much a payment of a class may take; what of a reserve is kept. -/
def roomV (b c r k : Int) : Int := if k = 3 then b + c - r else b + c
def keptV (r n : Int) : Int := if r ≤ n then 0 else r - n

theorem room_normal {b c r : Int} : b + c - r = roomV b c r 3 := by simp [roomV]
theorem room_other {b c r k : Int} (h : ¬ k = 3) : b + c = roomV b c r k := by simp [roomV, h]
theorem kept_none {r n : Int} (h : r ≤ n) : 0 = keptV r n := by simp [keptV, h]
theorem kept_some {r n : Int} (h : n < r) : r - n = keptV r n := by unfold keptV; rw [if_neg (by omega)]
theorem keptV_range {r n : Int} (hr : 0 ≤ r) (hn : 0 ≤ n) : 0 ≤ keptV r n ∧ keptV r n ≤ r := by unfold keptV; split <;> omega

set_option maxHeartbeats 1000000 in
theorem kept_any (b c r n : Int) (r0 : 0 ≤ r) (r1 : r ≤ 9223372036854775807) (n0 : 0 ≤ n) (n1 : n ≤ 9223372036854775807) (w : World) :
    Calls Try.prog 79 #[.agg #[.int .i64 b, .int .i64 c, .int .i64 r], .int .i64 n] w fun e w' => e = .returned (.int .i64 (keptV r n)) ∧ Below w.heap.size w w' := by
  have L := aless_any r n (by omega) (by omega) (by omega) (by omega)
  rw [heldV_yes (by omega) (by omega), heldB_yes (by omega) (by omega)] at L
  obtain ⟨d, hd⟩ : ∃ d, r - n = d := ⟨_, rfl⟩
  rw [hd] at L
  have HD : Hid (r - n = d) := hd
  rcases Int.lt_or_le d 0 with h | h
  · have K : Hid (0 = keptV r n) := kept_none (by omega)
    clear r0 r1 n0 n1 hd
    go_enter Try.func79, Try.ntmps79
    go_wp2_with fail
    go_at_call 96
    refine (L _).mono ?_
    rintro e w1 ⟨rfl, hb1⟩
    have B1 : Hid (Below w.heap.size w w1) := (box_below _ _).trans (hb1.mono (box_below _ _).size)
    clear hb1 L
    go_wp2
    go_ret
    exact ⟨rt_int K.out, B1.out⟩
  · have K : Hid (d = keptV r n) := by
      show d = keptV r n
      unfold keptV
      split <;> omega
    clear r0 r1 n0 n1 hd
    go_enter Try.func79, Try.ntmps79
    go_wp2_with fail
    go_at_call 96
    refine (L _).mono ?_
    rintro e w1 ⟨rfl, hb1⟩
    have B1 : Hid (Below w.heap.size w w1) := (box_below _ _).trans (hb1.mono (box_below _ _).size)
    clear hb1 L
    go_wp2
    go_ret
    exact ⟨rt_int K.out, B1.out⟩

/-- An account and an error are answered. -/
def AccEnd (w : World) (b c r er : Int) (e : Ending) (w' : World) : Prop := e = .returned (.tuple #[.agg #[.int .i64 b, .int .i64 c, .int .i64 r], .int .i64 er]) ∧ Below w.heap.size w w'

/-- Two accounts, three, laid one behind the other. -/
theorem acc2 (w : World) (b c r x y z : Int) : let u := (w.alloc (.cells #[.int .i64 b, .int .i64 c, .int .i64 r] 53)).alloc (.cells #[.int .i64 x, .int .i64 y, .int .i64 z] 53)
    Acc u w.heap.size b c r ∧ Acc u (w.heap.size + 1) x y z ∧ Below w.heap.size w u := by
  refine ⟨(Acc.new w b c r).below (box_below _ _), ?_, (box_below _ _).alloc (by simp) _⟩
  have := Acc.new (w.alloc (.cells #[.int .i64 b, .int .i64 c, .int .i64 r] 53)) x y z
  rw [size_alloc] at this
  exact this
theorem acc3 (w : World) (b c r x y z i j k : Int) : let u := ((w.alloc (.cells #[.int .i64 b, .int .i64 c, .int .i64 r] 53)).alloc (.cells #[.int .i64 x, .int .i64 y, .int .i64 z] 53)).alloc (.cells #[.int .i64 i, .int .i64 j, .int .i64 k] 53)
    Acc u w.heap.size b c r ∧ Acc u (w.heap.size + 1) x y z ∧ Acc u (w.heap.size + 1 + 1) i j k ∧ Below w.heap.size w u := by
  obtain ⟨h1, h2, h3⟩ := acc2 w b c r x y z
  refine ⟨h1.below (box_below _ _), h2.below (box_below _ _), ?_, h3.alloc (by simp; omega) _⟩
  have := Acc.new ((w.alloc (.cells #[.int .i64 b, .int .i64 c, .int .i64 r] 53)).alloc (.cells #[.int .i64 x, .int .i64 y, .int .i64 z] 53)) i j k
  rw [size_alloc, size_alloc] at this
  exact this

theorem held_acct {t c r : Int} (hc : setB c = true) (hr : setB r = true) : (heldB t && acctB (heldV t) c r) = balB t := by
  unfold acctB
  rw [hc, hr]
  by_cases h : -9223372036854775808 ≤ t ∧ t ≤ 9223372036854775807
  · rw [heldB_yes h.1 h.2, heldV_yes h.1 h.2]; simp
  · have e : balB t = false := by unfold balB; rw [decide_eq_false_iff_not]; omega
    rw [heldB_no h, e]
    rfl
theorem held_cond {t b : Int} : cond (balB t) (heldV t) b = cond (balB t) t b := by
  cases h : balB t
  · rfl
  · unfold balB at h
    rw [decide_eq_true_iff] at h
    rw [heldV_yes (by omega) (by omega)]
theorem cond_same {α : Type} (q : Bool) (a : α) : cond q a a = a := by cases q <;> rfl
theorem acctB_sets {b c r : Int} (h : acctB b c r = true) : setB c = true ∧ setB r = true := by
  simp only [acctB, Bool.and_eq_true] at h; exact h.2
theorem setB_of {n : Int} (h0 : 0 ≤ n) (h1 : n ≤ 2305843009213693952) : setB n = true := decide_eq_true ⟨h0, h1⟩

/-- What a reserve is, behind a payment of a class. -/
def outR (r n k : Int) : Int := if k = 1 ∨ k = 2 then keptV r n else r

theorem outR_range {r n : Int} (k : Int) (hr : 0 ≤ r) (hn : 0 ≤ n) : 0 ≤ outR r n k ∧ outR r n k ≤ r := by
  unfold outR
  split
  · exact keptV_range hr hn
  · omega

end Go.Proofs.Ytlackjldopeigaa

/-
  giroref9: Room, Kept, In, Out.
-/
namespace Go.Proofs.Ytlackjldopeigaa
open Go.RowKit
set_option linter.unusedVariables false
set_option linter.unusedSimpArgs false

set_option maxHeartbeats 1000000 in
theorem refKept_any (b c r n : Int) (r0 : 0 ≤ r) (r1 : r ≤ 9223372036854775807) (n0 : 0 ≤ n) (n1 : n ≤ 9223372036854775807) (w : World) :
    Calls Try.prog 46 #[.agg #[.int .i64 b, .int .i64 c, .int .i64 r], .int .i64 n] w fun e w' => e = .returned (.int .i64 (keptV r n)) ∧ Below w.heap.size w w' := by
  rcases Int.lt_or_le n r with h | h
  · go_enter Try.func46, Try.ntmps46
    go_wp2
    go_ret
    exact ⟨rt_int (kept_some h), box_below _ _⟩
  · go_enter Try.func46, Try.ntmps46
    go_wp2
    go_ret
    exact ⟨rt_int (kept_none h), box_below _ _⟩

end Go.Proofs.Ytlackjldopeigaa

/-
  Bytes: lists of them; a slice that the call owns, by its form.
-/
namespace Go.Proofs.Ytlackjldopeigaa
open Go.RowKit
set_option linter.unusedVariables false

/-- All are bytes. -/
def Bs (z : List Int) : Prop := ∀ n ∈ z, IntKind.u8.wrap n = n
theorem Bs.take {z : List Int} (h : Bs z) (n : Nat) : Bs (z.take n) := fun x hx => h x (List.mem_of_mem_take hx)
theorem Bs.drop {z : List Int} (h : Bs z) (n : Nat) : Bs (z.drop n) := fun x hx => h x (List.mem_of_mem_drop hx)
theorem Bs.append {z y : List Int} (h : Bs z) (k : Bs y) : Bs (z ++ y) := fun x hx => by
  rcases List.mem_append.1 hx with hx | hx
  · exact h x hx
  · exact k x hx
theorem Bs.nil : Bs [] := fun x hx => by simp at hx

theorem own_form {w : World} {B : Nat} {T : TypeId} {v : Value} {n : Nat} {xs : List Value} (h : w.ownsRow B T 1 v n xs) : ∃ a c, v = .slice a n c := by
  rcases h.2 with ⟨rfl, rfl⟩ | ⟨g, cap, cur, rfl, _⟩
  · exact ⟨none, 0, rfl⟩
  · exact ⟨_, _, rfl⟩

end Go.Proofs.Ytlackjldopeigaa

/-
  A block of int64s that a call has made and writes: what its cells hold, and what stands there behind a store.
-/
namespace Go.Proofs.Ytlackjldopeigaa
open Go.RowKit
set_option linter.unusedVariables false

/-- Block b holds just these numbers, and may be written. -/
def Blk (w : World) (b : Nat) (zs : List Int) : Prop := w.heap[b]? = some (.cells (zs.map (Value.int .i64)).toArray 2 (0, 0))

theorem Blk.lt {w : World} {b : Nat} {zs : List Int} (h : Blk w b zs) : b < w.heap.size := lt_of_block h
theorem Blk.cell {w : World} {b : Nat} {zs : List Int} (h : Blk w b zs) {i : Nat} (hi : i < zs.length) : w.cell? ⟨b, i, none⟩ = some (.int .i64 (zs.getD i 0)) := by
  rw [cell_of_row w b i _ _ _ h]
  simp [hi]
theorem Blk.free {w : World} {b : Nat} {zs : List Int} (h : Blk w b zs) (i : Nat) : w.frozen? ⟨b, i, none⟩ = false := frozen_of_row w b i _ _ h
theorem Blk.set {w : World} {b : Nat} {zs : List Int} (h : Blk w b zs) (i : Nat) (x : Int) : Blk (w.setCell ⟨b, i, none⟩ (.int .i64 x)) b (zs.set i x) := by
  unfold Blk
  rw [heap_setCell_same w b i _ _ _ h]
  simp [List.map_set]
theorem Blk.other {w : World} {b : Nat} {zs : List Int} (h : Blk w b zs) {a : Addr} (ha : b ≠ a.block) (v : Value) : Blk (w.setCell a v) b zs := by
  unfold Blk
  rw [heap_setCell_other w a b v ha]
  exact h
theorem Blk.drewN {w : World} {b : Nat} {zs : List Int} (h : Blk w b zs) (n : Nat) : Blk (w.drewN n) b zs := h
theorem Blk.drew {w : World} {b : Nat} {zs : List Int} (h : Blk w b zs) : Blk w.drew b zs := h
theorem Blk.alloc {w : World} {b : Nat} {zs : List Int} (h : Blk w b zs) (o : Obj) : Blk (w.alloc o) b zs := by
  unfold Blk
  rw [Below.heap_alloc w o b h.lt]
  exact h
theorem Blk.below {B : Nat} {w w' : World} {b : Nat} {zs : List Int} (h : Blk w b zs) (k : Below B w w') (hb : b < B) : Blk w' b zs := (k.block b hb).trans h
theorem Blk.made (w : World) (zs : List Int) : Blk (w.alloc (.cells (zs.map (Value.int .i64)).toArray 2)) w.heap.size zs := heap_alloc_new w _

end Go.Proofs.Ytlackjldopeigaa

/-
  Rows of int64s: as they are read, as a call makes them; what stays where other blocks alone are turned.
-/
namespace Go.Proofs.Ytlackjldopeigaa
open Go.RowKit
set_option linter.unusedVariables false
set_option linter.unusedSimpArgs false

theorem infoRow64 : (Try.prog.info? 22).map (fun i => (i.zero, i.size, i.bytes)) = some (some (.slice none 0 0), 1, 24) := by kernel_rfl

/-- All are int64s. -/
def W64 (z : List Int) : Prop := ∀ n ∈ z, IntKind.i64.wrap n = n
theorem W64.nil : W64 [] := fun x hx => by simp at hx

/-- The blocks of S are as they were. -/
def Kept (S : Nat → Prop) (w w' : World) : Prop := ∀ k, S k → w'.heap[k]? = w.heap[k]?
theorem Kept.cell {S : Nat → Prop} {w w' : World} (h : Kept S w w') (p : Addr) (hp : S p.block) : w'.cell? p = w.cell? p := by
  unfold World.cell?
  rw [h _ hp]
theorem Kept.refl (S : Nat → Prop) (w : World) : Kept S w w := fun _ _ => rfl
theorem Kept.trans {S : Nat → Prop} {w w' w2 : World} (h : Kept S w w') (k : Kept S w' w2) : Kept S w w2 := fun i hi => (k i hi).trans (h i hi)
theorem Kept.set {S : Nat → Prop} (w : World) (p : Addr) (v : Value) (hp : ¬ S p.block) : Kept S w (w.setCell p v) := fun k hk => heap_setCell_other w p k v (fun e => hp (e ▸ hk))

theorem own_kept {w w' : World} {B : Nat} {T : TypeId} {size : Nat} {v : Value} {n : Nat} {xs : List Value} (h : w.ownsRow B T size v n xs) (k : Kept (fun b => B ≤ b) w w') : w'.ownsRow B T size v n xs := by
  refine ⟨h.1, ?_⟩
  rcases h.2 with hn | ⟨g, cap, cur, hv, hb, hg, rest⟩
  · exact .inl hn
  · exact .inr ⟨g, cap, cur, hv, hb, (k g hb).trans hg, rest⟩

/-- Rows of int64s, as they are read. -/
def RowsI (w : World) (a : Option Addr) (n : Nat) (R : List (List Int)) : Prop :=
  n = R.length ∧ (∀ z ∈ R, W64 z) ∧ (R = [] ∨ ∃ b off, a = some ⟨b, off, none⟩ ∧ ∀ i, i < R.length → ∃ x c, w.cell? ⟨b, off + i, none⟩ = some (.slice x (R.getD i []).length c) ∧ Sl .i64 w x (R.getD i []).length (R.getD i []) ∧ (x = none → c = 0))

theorem RowsI.below {w w' : World} {a : Option Addr} {n : Nat} {R : List (List Int)} (h : RowsI w a n R) (k : Below w.heap.size w w') : RowsI w' a n R := by
  refine ⟨h.1, h.2.1, ?_⟩
  rcases h.2.2 with h0 | ⟨b, off, ha, hc⟩
  · exact .inl h0
  · refine .inr ⟨b, off, ha, fun i hi => ?_⟩
    obtain ⟨x, c, h1, h2, h3⟩ := hc i hi
    exact ⟨x, c, (k.cell (p := ⟨b, off + i, none⟩) (block_lt_of_cell h1)).trans h1, h2.below k, h3⟩

/-- Rows of int64s that the call has made since block B: the spine and each row are its own, apart from each other. -/
structure MadeI (w : World) (B : Nat) (v : Value) (vs : List Value) (R : List (List Int)) : Prop where
  own : w.ownsRow B 22 1 v R.length vs
  row : ∀ i, i < R.length → w.ownsRow B 2 1 (vs.getD i undef) (R.getD i []).length ((R.getD i []).map (Value.int .i64))
  spine : ∀ i, i < R.length → (vs.getD i undef).ownBlock = none ∨ (vs.getD i undef).ownBlock ≠ v.ownBlock
  rows : ∀ i j, i < R.length → j < R.length → i ≠ j → (vs.getD i undef).ownBlock = none ∨ (vs.getD i undef).ownBlock ≠ (vs.getD j undef).ownBlock
  bs : ∀ z ∈ R, W64 z

theorem MadeI.start (w : World) (B : Nat) : MadeI w B (.slice none 0 0) [] [] :=
  ⟨World.ownsRow_nil _ _ _ _, fun i hi => by simp at hi, fun i hi => by simp at hi, fun i j hi => by simp at hi, fun z hz => by simp at hz⟩

theorem getD_w64 {R : List (List Int)} (h : ∀ z ∈ R, W64 z) (i : Nat) : W64 (R.getD i []) := by
  by_cases hi : i < R.length
  · have : R.getD i [] = R[i] := by simp [List.getD_eq_getElem?_getD, hi]
    rw [this]
    exact h _ (List.getElem_mem hi)
  · have : R.getD i [] = [] := by simp [List.getD_eq_getElem?_getD, hi]
    rw [this]
    exact W64.nil

theorem MadeI.read {w : World} {B : Nat} {a : Option Addr} {n c : Nat} {vs : List Value} {R : List (List Int)} (h : MadeI w B (.slice a n c) vs R) : RowsI w a n R := by
  have hl := h.own.1
  obtain ⟨a', c', he⟩ := own_form h.own
  simp at he
  obtain ⟨rfl, hn, rfl⟩ := he
  refine ⟨hn, h.bs, ?_⟩
  by_cases h0 : R = []
  · exact .inl h0
  · have hp : 0 < R.length := List.length_pos_iff.2 h0
    obtain ⟨g, c2, hg⟩ := own_some h.own (by
      rintro he
      rcases h.own.2 with ⟨_, h1⟩ | ⟨g, cap, cur, hv, _⟩
      · omega
      · rw [he] at hv; simp at hv)
    simp at hg
    obtain ⟨rfl, _, rfl⟩ := hg
    subst hn
    refine .inr ⟨g, 0, rfl, fun i hi => ?_⟩
    obtain ⟨x, cx, hv, hs, hnn⟩ := Sl.own (h.row i hi) (getD_w64 h.bs i)
    refine ⟨x, cx, ?_, hs, hnn⟩
    rw [Nat.zero_add, h.own.cellAt i (by omega), ← hv]
    simp [List.getD_eq_getElem?_getD, show i < vs.length by omega]

theorem MadeI.below {w w' : World} {B : Nat} {v : Value} {vs : List Value} {R : List (List Int)} (h : MadeI w B v vs R) (k : Below w.heap.size w w') : MadeI w' B v vs R :=
  ⟨own_below h.own k, fun i hi => own_below (h.row i hi) k, h.spine, h.rows, h.bs⟩

/-- One row more: it is new; the spine is as it lay, or new. -/
theorem MadeI.more {w w1 w2 : World} {B : Nat} {v v' vr : Value} {vs : List Value} {R : List (List Int)} {z : List Int} (h : MadeI w B v vs R) (k : Below w.heap.size w w1) (hz : W64 z) (o : w1.ownsRow w.heap.size 2 1 vr z.length (z.map (Value.int .i64)))
    (hB : B ≤ w.heap.size) (g : w1.grownBy w2 v.ownBlock) (o2 : w2.ownsRow B 22 1 v' (R.length + 1) (vs ++ [vr])) (hv : v'.ownBlock = v.ownBlock ∨ ∃ j, v'.ownBlock = some j ∧ w1.heap.size ≤ j) : MadeI w2 B v' (vs ++ [vr]) (R ++ [z]) := by
  have hl : vs.length = R.length := by have := h.own.1; omega
  have hlow : ∀ b, v.ownBlock = some b → b < w.heap.size := fun b hb => (h.own.lt b hb).2
  have hrl : ∀ i, i < R.length → ∀ b, (vs.getD i undef).ownBlock = some b → b < w.heap.size := fun i hi b hb => ((h.row i hi).lt b hb).2
  have hnew : ∀ b, vr.ownBlock = some b → w.heap.size ≤ b ∧ b < w1.heap.size := fun b hb => o.lt b hb
  have gi : ∀ i, i < R.length → (vs ++ [vr]).getD i undef = vs.getD i undef := fun i hi => by simp [List.getD_eq_getElem?_getD, List.getElem?_append, hl, hi]
  have gr : ∀ i, i < R.length → (R ++ [z]).getD i [] = R.getD i [] := fun i hi => by simp [List.getD_eq_getElem?_getD, List.getElem?_append, hi]
  have gn : (vs ++ [vr]).getD R.length undef = vr := by simp [List.getD_eq_getElem?_getD, List.getElem?_append, hl]
  have gz : (R ++ [z]).getD R.length [] = z := by simp [List.getD_eq_getElem?_getD, List.getElem?_append]
  have split : ∀ i, i < (R ++ [z]).length → i < R.length ∨ i = R.length := fun i hi => by simp at hi; omega
  refine ⟨by simpa using o2, ?_, ?_, ?_, ?_⟩
  · intro i hi
    rcases split i hi with h1 | rfl
    · rw [gi i h1, gr i h1]
      exact (own_below (h.row i h1) k).kept g (h.spine i h1)
    · rw [gn, gz]
      refine (own_base o hB).kept g ?_
      cases hb : vr.ownBlock with
      | none => exact .inl rfl
      | some b =>
        refine .inr (fun he => ?_)
        have := hlow b he.symm
        have := (hnew b hb).1
        omega
  · intro i hi
    rcases split i hi with h1 | rfl
    · rw [gi i h1]
      rcases hv with hv | ⟨j, hv, hj⟩
      · rw [hv]; exact h.spine i h1
      · cases hb : (vs.getD i undef).ownBlock with
        | none => exact .inl rfl
        | some b => exact .inr (by rw [hv]; intro he; have := hrl i h1 b hb; have := k.size; simp at he; omega)
    · rw [gn]
      cases hb : vr.ownBlock with
      | none => exact .inl rfl
      | some b =>
        refine .inr (fun he => ?_)
        have := hnew b hb
        rcases hv with hv | ⟨j, hv, hj⟩
        · rw [hv] at he; have := hlow b he.symm; omega
        · rw [hv] at he; simp at he; omega
  · intro i j hi hj hij
    rcases split i hi with h1 | rfl
    · rcases split j hj with h2 | rfl
      · rw [gi i h1, gi j h2]; exact h.rows i j h1 h2 hij
      · rw [gi i h1, gn]
        cases hb : (vs.getD i undef).ownBlock with
        | none => exact .inl rfl
        | some b => exact .inr (fun he => by have := hrl i h1 b hb; have := (hnew b he.symm).1; omega)
    · rcases split j hj with h2 | rfl
      · rw [gn, gi j h2]
        cases hb : vr.ownBlock with
        | none => exact .inl rfl
        | some b => exact .inr (fun he => by have := hrl j h2 b he.symm; have := (hnew b hb).1; omega)
      · exact absurd rfl hij
  · intro y hy
    rcases List.mem_append.1 hy with hy | hy
    · exact h.bs y hy
    · simp at hy; rw [hy]; exact hz

theorem MadeI.kept {w w' : World} {B : Nat} {v : Value} {vs : List Value} {R : List (List Int)} (h : MadeI w B v vs R) (k : Kept (fun b => B ≤ b) w w') : MadeI w' B v vs R :=
  ⟨own_kept h.own k, fun i hi => own_kept (h.row i hi) k, h.spine, h.rows, h.bs⟩
theorem MadeI.base {w : World} {B B' : Nat} {v : Value} {vs : List Value} {R : List (List Int)} (h : MadeI w B v vs R) (k : B' ≤ B) : MadeI w B' v vs R :=
  ⟨own_base h.own k, fun i hi => own_base (h.row i hi) k, h.spine, h.rows, h.bs⟩

/-- A spine of m rows that is being filled: the first ones are made, the others are nil. -/
structure PartI (w : World) (g m : Nat) (vs : List Value) (R : List (List Int)) : Prop where
  len : vs.length = R.length
  fits : R.length ≤ m
  spine : w.heap[g]? = some (.cells (vs ++ List.replicate (m - R.length) (Value.slice none 0 0)).toArray 22 (0, 0))
  row : ∀ i, i < R.length → w.ownsRow (g + 1) 2 1 (vs.getD i undef) (R.getD i []).length ((R.getD i []).map (Value.int .i64))
  rows : ∀ i j, i < R.length → j < R.length → i ≠ j → (vs.getD i undef).ownBlock = none ∨ (vs.getD i undef).ownBlock ≠ (vs.getD j undef).ownBlock
  bs : ∀ z ∈ R, W64 z

theorem PartI.start {w : World} {g m : Nat} (h : w.heap[g]? = some (.cells (List.replicate m (Value.slice none 0 0)).toArray 22 (0, 0))) : PartI w g m [] [] :=
  ⟨rfl, Nat.zero_le _, by simpa using h, fun i hi => by simp at hi, fun i j hi => by simp at hi, fun z hz => by simp at hz⟩
theorem PartI.below {w w' : World} {g m : Nat} {vs : List Value} {R : List (List Int)} (h : PartI w g m vs R) (k : Below w.heap.size w w') : PartI w' g m vs R :=
  ⟨h.len, h.fits, (k.block g (lt_of_block h.spine)).trans h.spine, fun i hi => own_below (h.row i hi) k, h.rows, h.bs⟩
theorem PartI.cell {w : World} {g m : Nat} {vs : List Value} {R : List (List Int)} (h : PartI w g m vs R) (hk : R.length < m) : w.cell? ⟨g, R.length, none⟩ = some (.slice none 0 0) := by
  have hl := h.len
  rw [cell_of_row w g _ _ _ _ h.spine]
  simp only [List.getElem?_toArray]
  rw [List.getElem?_append_right (by omega), List.getElem?_replicate, if_pos (by omega)]
theorem PartI.free {w : World} {g m : Nat} {vs : List Value} {R : List (List Int)} (h : PartI w g m vs R) (i : Nat) : w.frozen? ⟨g, i, none⟩ = false := frozen_of_row w g i _ _ h.spine

theorem PartI.more {w w1 : World} {g m : Nat} {vs : List Value} {R : List (List Int)} {vr : Value} {z : List Int} (h : PartI w g m vs R) (hk : R.length < m) (k : Below w.heap.size w w1) (hz : W64 z)
    (o : w1.ownsRow w.heap.size 2 1 vr z.length (z.map (Value.int .i64))) : PartI (w1.setCell ⟨g, R.length, none⟩ vr) g m (vs ++ [vr]) (R ++ [z]) := by
  have hg := lt_of_block h.spine
  have h1 := h.below k
  have hl := h.len
  have gi : ∀ i, i < R.length → (vs ++ [vr]).getD i undef = vs.getD i undef := fun i hi => by simp [List.getD_eq_getElem?_getD, List.getElem?_append, hl, hi]
  have gr : ∀ i, i < R.length → (R ++ [z]).getD i [] = R.getD i [] := fun i hi => by simp [List.getD_eq_getElem?_getD, List.getElem?_append, hi]
  have gn : (vs ++ [vr]).getD R.length undef = vr := by simp [List.getD_eq_getElem?_getD, List.getElem?_append, hl]
  have gz : (R ++ [z]).getD R.length [] = z := by simp [List.getD_eq_getElem?_getD, List.getElem?_append]
  have split : ∀ i, i < (R ++ [z]).length → i < R.length ∨ i = R.length := fun i hi => by simp at hi; omega
  have ap : ∀ {B : Nat} {v : Value} {n : Nat} {xs : List Value}, w1.ownsRow B 2 1 v n xs → g < B → (w1.setCell ⟨g, R.length, none⟩ vr).ownsRow B 2 1 v n xs := fun ho hB =>
    own_kept ho (Kept.set w1 ⟨g, R.length, none⟩ vr (by show ¬ _ ≤ g; omega))
  refine ⟨by simp [hl], by simp; omega, ?_, ?_, ?_, ?_⟩
  · rw [heap_setCell_same w1 g R.length _ _ _ h1.spine]
    have e : (vs ++ List.replicate (m - R.length) (Value.slice none 0 0)).set R.length vr = (vs ++ [vr]) ++ List.replicate (m - (R ++ [z]).length) (Value.slice none 0 0) := by
      have : m - R.length = (m - (R.length + 1)) + 1 := by omega
      rw [this, List.replicate_succ, ← hl, List.set_append_right _ _ (Nat.le_refl _)]
      simp [hl]
    simp only [List.setIfInBounds_toArray, e]
  · intro i hi
    rcases split i hi with h2 | rfl
    · rw [gi i h2, gr i h2]
      exact ap (h1.row i h2) (by omega)
    · rw [gn, gz]
      exact ap (own_base o (by omega)) (by omega)
  · intro i j hi hj hij
    rcases split i hi with h2 | rfl
    · rcases split j hj with h3 | rfl
      · rw [gi i h2, gi j h3]; exact h.rows i j h2 h3 hij
      · rw [gi i h2, gn]
        cases hb : (vs.getD i undef).ownBlock with
        | none => exact .inl rfl
        | some b => exact .inr (fun he => by have := ((h.row i h2).lt b hb).2; have := (o.lt b he.symm).1; omega)
    · rcases split j hj with h3 | rfl
      · rw [gn, gi j h3]
        cases hb : vr.ownBlock with
        | none => exact .inl rfl
        | some b => exact .inr (fun he => by have := ((h.row j h3).lt b he.symm).2; have := (o.lt b hb).1; omega)
      · exact absurd rfl hij
  · intro y hy
    rcases List.mem_append.1 hy with hy | hy
    · exact h.bs y hy
    · simp at hy; rw [hy]; exact hz

theorem PartI.all {w : World} {g : Nat} {vs : List Value} {R : List (List Int)} (h : PartI w g R.length vs R) {B : Nat} (hB : B ≤ g) (hm : R.length ≤ maxLen) : MadeI w B (.slice (some ⟨g, 0, none⟩) R.length R.length) vs R := by
  have hsp := h.spine
  simp only [Nat.sub_self, List.replicate_zero, List.append_nil] at hsp
  refine ⟨⟨by rw [h.len]; omega, .inr ⟨g, R.length, vs.toArray, rfl, hB, hsp, Nat.le_refl _, hm, by simp [h.len], ?_⟩⟩, fun i hi => own_base (h.row i hi) (by omega), ?_, h.rows, h.bs⟩
  · rw [Nat.mul_one, ← h.len]; simp
  · intro i hi
    cases hb : (vs.getD i undef).ownBlock with
    | none => exact .inl rfl
    | some b =>
      refine .inr (fun he => ?_)
      have := ((h.row i hi).lt b hb).1
      simp [Value.ownBlock] at he
      omega

end Go.Proofs.Ytlackjldopeigaa

/-
  lim: rows and squares of a number: the program's answers and the document's.
-/
namespace Go.Proofs.Ytlackjldopeigaa
open Go.RowKit
set_option linter.unusedVariables false
set_option linter.unusedSimpArgs false

/-- So many there may be. -/
def partB (n : Int) : Bool := decide (0 ≤ n ∧ n ≤ 6)
theorem partB_low {n : Int} (h : n < 0) : false = partB n := by unfold partB; symm; rw [decide_eq_false_iff_not]; omega
theorem partB_rest {n : Int} (h : 0 ≤ n) : decide (n ≤ 6) = partB n := by simp [partB, h]

theorem mayHave_any (n : Int) (w : World) : Calls Try.prog 81 #[.int .i64 n] w fun e w' => e = .returned (.bool (partB n)) ∧ w' = w := by
  rcases Int.lt_or_le n 0 with h | h
  · go_enter Try.func81, Try.ntmps81
    go_wp2
    go_ret
    exact ⟨rt_bool (partB_low h), rfl⟩
  · go_enter Try.func81, Try.ntmps81
    go_wp2
    go_ret
    exact ⟨rt_bool (partB_rest h), rfl⟩

/-- n times v. -/
def rowL (n v : Int) : List Int := if partB n = true then List.replicate n.toNat v else []
/-- n rows of it. -/
def squareL (n v : Int) : List (List Int) := if partB n = true then List.replicate n.toNat (List.replicate n.toNat v) else []
theorem rowL_no {n v : Int} (h : partB n = false) : rowL n v = [] := by simp [rowL, h]
theorem rowL_yes {m : Nat} {v : Int} (h : m ≤ 6) : rowL m v = List.replicate m v := by
  have : partB m = true := by simp [partB]; omega
  simp [rowL, this]
theorem squareL_no {n v : Int} (h : partB n = false) : squareL n v = [] := by simp [squareL, h]
theorem squareL_yes {m : Nat} {v : Int} (h : m ≤ 6) : squareL m v = List.replicate m (List.replicate m v) := by
  have : partB m = true := by simp [partB]; omega
  simp [squareL, this]
theorem w64_rep {m : Nat} {v : Int} (h : IntKind.i64.wrap v = v) : W64 (List.replicate m v) := fun x hx => by rw [(List.mem_replicate.1 hx).2]; exact h

theorem make64 (w : World) (n : Nat) (h : n ≤ 1000000) :
    ∃ w', (Instr.makeSlice 22 (.int .i64 n) (.int .i64 n)).run Try.prog w = .ok (.slice (some ⟨w.heap.size, 0, none⟩) n n) w' ∧ Blk w' w.heap.size (List.replicate n 0) ∧ Below w.heap.size w w' := by
  obtain ⟨i, hi, hz0, hz1, hz2⟩ := info_parts infoI64
  have hr := run_make (P := Try.prog) w 22 2 i (.int .i64 0) Try.underlying22 hi hz0 .i64 .i64 n n (by omega) (Int.le_refl _) (by rw [hz2]; omega) (by omega)
  simp only [Int.toNat_natCast, hz1, Nat.mul_one] at hr
  refine ⟨_, hr, ?_, (Below.refl _ _).alloc (Nat.le_refl _) _⟩
  have e : madeCells (Value.int .i64 0).cells n = ((List.replicate n 0).map (Value.int .i64)).toArray := by
    apply Array.toList_inj.1
    show (madeCells #[Value.int .i64 0] n).toList = _
    rw [toList_madeCells_one]
    simp
  unfold Blk
  rw [e]
  exact heap_alloc_new w _

theorem makeRows64 (w : World) (n : Nat) (h : n ≤ 1000000) :
    ∃ w', (Instr.makeSlice 25 (.int .i64 n) (.int .i64 n)).run Try.prog w = .ok (.slice (some ⟨w.heap.size, 0, none⟩) n n) w' ∧ w'.heap[w.heap.size]? = some (.cells (List.replicate n (Value.slice none 0 0)).toArray 22 (0, 0)) ∧ Below w.heap.size w w' := by
  obtain ⟨i, hi, hz0, hz1, hz2⟩ := info_parts infoRow64
  have hr := run_make (P := Try.prog) w 25 22 i (.slice none 0 0) Try.underlying25 hi hz0 .i64 .i64 n n (by omega) (Int.le_refl _) (by rw [hz2]; omega) (by omega)
  simp only [Int.toNat_natCast, hz1, Nat.mul_one] at hr
  refine ⟨_, hr, ?_, (Below.refl _ _).alloc (Nat.le_refl _) _⟩
  have e : madeCells (Value.slice none 0 0).cells n = (List.replicate n (Value.slice none 0 0)).toArray := by
    apply Array.toList_inj.1
    show (madeCells #[Value.slice none 0 0] n).toList = _
    rw [toList_madeCells_one]
  rw [e]
  exact heap_alloc_new w _

/-- What a row leaves: a new list. -/
def RowEnd (w : World) (zs : List Int) (e : Ending) (w' : World) : Prop :=
  ∃ v, e = .returned v ∧ w'.ownsRow w.heap.size 2 1 v zs.length (zs.map (Value.int .i64)) ∧ W64 zs ∧ Below w.heap.size w w'
def RowsEnd (w : World) (R : List (List Int)) (e : Ending) (w' : World) : Prop :=
  ∃ v vs, e = .returned v ∧ MadeI w' w.heap.size v vs R ∧ Below w.heap.size w w'

theorem blk_own {w : World} {B b : Nat} {zs : List Int} (h : Blk w b zs) (hB : B ≤ b) (hm : zs.length ≤ maxLen) : w.ownsRow B 2 1 (.slice (some ⟨b, 0, none⟩) zs.length zs.length) zs.length (zs.map (Value.int .i64)) :=
  ⟨by simp, .inr ⟨b, zs.length, _, rfl, hB, h, Nat.le_refl _, hm, by simp, by rw [Nat.mul_one]; exact List.take_of_length_le (by simp)⟩⟩

/-- The first k are v, the others 0. -/
def fillL (m k : Nat) (v : Int) : List Int := List.replicate k v ++ List.replicate (m - k) 0
theorem fillL_set {m k : Nat} {v : Int} (h : k < m) : (fillL m k v).set k v = fillL m (k + 1) v := by
  unfold fillL
  have e : m - k = (m - (k + 1)) + 1 := by omega
  have hk : (List.replicate k v).length ≤ k := by simp
  rw [e, List.replicate_succ, List.set_append_right _ _ hk]
  simp [List.replicate_succ', List.append_assoc]
theorem fillL_len {m k : Nat} {v : Int} (h : k ≤ m) : (fillL m k v).length = m := by unfold fillL; simp; omega
theorem fillL_zero {m : Nat} {v : Int} : fillL m 0 v = List.replicate m 0 := by simp [fillL]
theorem fillL_all {m : Nat} {v : Int} : fillL m m v = List.replicate m v := by simp [fillL]

theorem row_end {w w' : World} {m : Nat} {v : Int} (hm : m ≤ 6) (hv : IntKind.i64.wrap v = v) (hk : Blk w' w.heap.size (fillL m m v)) (hb : Below w.heap.size w w') :
    RowEnd w (List.replicate m v) (.returned (.slice (some ⟨w.heap.size, 0, none⟩) m m)) w' := by
  rw [fillL_all] at hk
  have := blk_own hk (Nat.le_refl _) (by simp [maxLen]; omega)
  simp only [List.length_replicate] at this
  exact ⟨_, rfl, by simpa using this, w64_rep hv, hb⟩

end Go.Proofs.Ytlackjldopeigaa

/-
  lim: squares of a number: the program's answers and the document's.
-/
namespace Go.Proofs.Ytlackjldopeigaa
open Go.RowKit
set_option linter.unusedVariables false
set_option linter.unusedSimpArgs false

theorem rep_len {m : Nat} {z : List Int} : (List.replicate m z).length = m := by simp

end Go.Proofs.Ytlackjldopeigaa

/-
  giroref2's Same over this seat's program.
-/
namespace Go.Proofs.Ytlackjldopeigaa
open Go.RowKit
set_option linter.unusedVariables false

set_option maxHeartbeats 1000000 in
theorem same_row (b1 o1 c1 b2 o2 c2 : Nat) (xs ys : List Int) (w : World) (hl : xs.length = ys.length) (hm : xs.length ≤ 9223372036854775807)
    (h1 : ∀ i, i < xs.length → w.cell? ⟨b1, o1 + i, none⟩ = some (.int .i64 (xs.getD i 0))) (h2 : ∀ i, i < ys.length → w.cell? ⟨b2, o2 + i, none⟩ = some (.int .i64 (ys.getD i 0))) :
    Calls Try.prog 50 #[.slice (some ⟨b1, o1, none⟩) xs.length c1, .slice (some ⟨b2, o2, none⟩) xs.length c2] w fun e w' => e = .returned (.bool (decide (xs = ys))) ∧ ∃ n, w' = w.drewN n := by
  go_enter Try.func50, Try.ntmps50
  go_wp2
  go_loopw [5] (fun i wr => ∃ (k n : Nat), k ≤ xs.length ∧ i = .int .i64 k ∧ xs.take k = ys.take k ∧ wr = w.drewN n) (fun i _ => xs.length - (intOf i).toNat)
  case atStart => exact ⟨0, 0, by omega, rfl, by simp, rfl⟩
  case round =>
    obtain ⟨k, n, hk, rfl, he, rfl⟩ := hrel
    have HE : Hid (xs.take k = ys.take k) := he
    have HL : Hid (xs.length = ys.length) := hl
    clear he
    by_cases hlt : k < xs.length
    · have c1' := h1 k hlt
      have c2' := h2 k (by omega)
      obtain ⟨x, hx⟩ : ∃ x, xs.getD k 0 = x := ⟨_, rfl⟩
      obtain ⟨y, hy⟩ : ∃ y, ys.getD k 0 = y := ⟨_, rfl⟩
      rw [hx] at c1'
      rw [hy] at c2'
      have i1 : (k : Int) < (xs.length : Int) := by omega
      have HX : Hid (xs.getD k 0 = x) := hx
      have HY : Hid (ys.getD k 0 = y) := hy
      clear hx hy h1 h2 hl
      by_cases hxy : x = y
      · subst hxy
        go_wp2
        go_quiet (fail)
        go_wp2
        go_roundw
        case rel => exact ⟨k + 1, n + nq, by omega, by go_num, by rw [take_snoc xs k hlt, take_snoc ys k (by rw [← HL.out]; exact hlt), HE.out, HX.out, HY.out], rfl⟩
        case measure => simp [intOf]; omega
      · have hxy' : (x == y) = false := by simp [hxy]
        have HD : Hid (false = decide (xs = ys)) := by
          have : ¬ xs = ys := fun h => hxy (by rw [← HX.out, ← HY.out, h])
          show false = decide (xs = ys)
          rw [decide_eq_false this]
        clear hxy
        go_wp2
        go_quiet (fail)
        go_wp2
        go_ret
        exact ⟨rt_bool HD.out, n + nq, by first | rfl | exact World.drewN_drewN _ _ _⟩
    · obtain rfl : k = xs.length := by omega
      have HD : Hid (true = decide (xs = ys)) := by
        have h := HE.out
        rw [List.take_length, HL.out, List.take_length] at h
        show true = decide (xs = ys)
        rw [decide_eq_true h]
      clear h1 h2 hl
      go_wp2
      go_ret
      exact ⟨rt_bool HD.out, _, rfl⟩

set_option maxHeartbeats 400000 in
theorem same_not (a b : Option Addr) (la lb c1 c2 : Nat) (w : World) (h : la ≠ lb) :
    Calls Try.prog 50 #[.slice a la c1, .slice b lb c2] w fun e w' => e = .returned (.bool false) ∧ w' = w := by
  have h' : ((la : Int) == (lb : Int)) = false := by rw [beq_eq_false_iff_ne]; omega
  go_enter Try.func50, Try.ntmps50
  go_wp2
  go_ret
  exact ⟨rfl, rfl⟩

set_option maxHeartbeats 400000 in
theorem same_none (a b : Option Addr) (c1 c2 : Nat) (w : World) :
    Calls Try.prog 50 #[.slice a 0 c1, .slice b 0 c2] w fun e w' => e = .returned (.bool true) ∧ w' = w := by
  go_enter Try.func50, Try.ntmps50
  go_wp2
  refine wp_loop_rounds 1 ?_
  rw [rounds_succ]
  go_wp2
  go_ret
  exact ⟨rfl, rfl⟩

/-- Same. -/
theorem same_any (a b : Option Addr) (la lb c1 c2 : Nat) (xs ys : List Int) (w : World) (h1 : Sl .i64 w a la xs) (h2 : Sl .i64 w b lb ys) (hm : la ≤ 9223372036854775807) :
    Calls Try.prog 50 #[.slice a la c1, .slice b lb c2] w fun e w' => e = .returned (.bool (decide (xs = ys))) ∧ ∃ n, w' = w.drewN n := by
  have l1 := h1.1
  have l2 := h2.1
  subst l1 l2
  by_cases hl : xs.length = ys.length
  · rcases h1.2.2 with h0 | ⟨b1, o1, rfl, hc1⟩
    · subst h0
      have : ys = [] := List.length_eq_zero_iff.mp (by simpa using hl.symm)
      subst this
      refine (same_none a b c1 c2 w).mono ?_
      rintro e w' ⟨rfl, rfl⟩
      exact ⟨by simp, 0, rfl⟩
    · rcases h2.2.2 with h0 | ⟨b2, o2, rfl, hc2⟩
      · subst h0
        have : xs = [] := List.length_eq_zero_iff.mp (by simpa using hl)
        subst this
        refine (same_none _ b c1 c2 w).mono ?_
        rintro e w' ⟨rfl, rfl⟩
        exact ⟨by simp, 0, rfl⟩
      · have := same_row b1 o1 c1 b2 o2 c2 xs ys w hl hm hc1 hc2
        rw [← hl]
        exact this
  · refine (same_not a b _ _ c1 c2 w hl).mono ?_
    rintro e w' ⟨rfl, rfl⟩
    have : ¬ xs = ys := fun h => hl (by rw [h])
    exact ⟨by simp [this], 0, rfl⟩

end Go.Proofs.Ytlackjldopeigaa

/-
  lim: are two books one: the program's answers and the document's.
-/
namespace Go.Proofs.Ytlackjldopeigaa
open Go.RowKit
set_option linter.unusedVariables false
set_option linter.unusedSimpArgs false

theorem below_drewN (w : World) (n : Nat) : Below w.heap.size w (w.drewN n) := ⟨rfl, rfl, rfl, Nat.le_refl _, fun _ _ => rfl⟩

/-- An account: balance, credit, reserve. -/
abbrev A3 := Int × Int × Int
def a30 : A3 := (0, 0, 0)
/-- A slice of accounts. -/
def Accs (w : World) (a : Option Addr) (len : Nat) (A : List A3) : Prop :=
  len = A.length ∧ (A = [] ∨ ∃ b off, a = some ⟨b, off, none⟩ ∧ ∀ i, i < A.length → w.cell? ⟨b, off + i * 3, none⟩ = some (.int .i64 (A.getD i a30).1) ∧ w.cell? ⟨b, off + i * 3 + 1, none⟩ = some (.int .i64 (A.getD i a30).2.1) ∧ w.cell? ⟨b, off + i * 3 + 2, none⟩ = some (.int .i64 (A.getD i a30).2.2))
theorem Accs.below {w w' : World} {a : Option Addr} {len : Nat} {A : List A3} (h : Accs w a len A) (hb : Below w.heap.size w w') : Accs w' a len A := by
  refine ⟨h.1, ?_⟩
  rcases h.2 with h0 | ⟨b, off, ha, hc⟩
  · exact .inl h0
  · refine .inr ⟨b, off, ha, fun i hi => ?_⟩
    obtain ⟨c0, c1, c2⟩ := hc i hi
    have hlt := block_lt_of_cell c0
    rw [hb.cell (p := ⟨b, off + i * 3, none⟩) hlt, hb.cell (p := ⟨b, off + i * 3 + 1, none⟩) hlt, hb.cell (p := ⟨b, off + i * 3 + 2, none⟩) hlt]
    exact ⟨c0, c1, c2⟩

end Go.Proofs.Ytlackjldopeigaa

/-
  lim: are rows, accounts, books one: the program's answers and the document's.
-/
namespace Go.Proofs.Ytlackjldopeigaa
open Go.RowKit
set_option linter.unusedVariables false
set_option linter.unusedSimpArgs false

/-- The length of a row is one that there may be. -/
theorem RowsI.short {w : World} {a : Option Addr} {n : Nat} {R : List (List Int)} (h : RowsI w a n R) : n = R.length := h.1

/-- No row is longer than a slice may be. -/
def Short (R : List (List Int)) : Prop := ∀ z ∈ R, z.length ≤ 9223372036854775807
theorem Short.at {R : List (List Int)} (h : Short R) {k : Nat} (hk : k < R.length) : (R.getD k []).length ≤ 9223372036854775807 := by
  have e : R.getD k [] = R[k] := by simp [hk]
  rw [e]
  exact h _ (List.getElem_mem hk)

set_option maxHeartbeats 1000000 in
theorem refRows_row (b1 o1 c1 b2 o2 c2 : Nat) (xs ys : List (List Int)) (w : World) (hl : xs.length = ys.length) (hm : xs.length ≤ 9223372036854775807) (hsh : Short xs)
    (h1 : ∀ i, i < xs.length → ∃ x c, w.cell? ⟨b1, o1 + i, none⟩ = some (.slice x (xs.getD i []).length c) ∧ Sl .i64 w x (xs.getD i []).length (xs.getD i []) ∧ (x = none → c = 0))
    (h2 : ∀ i, i < ys.length → ∃ x c, w.cell? ⟨b2, o2 + i, none⟩ = some (.slice x (ys.getD i []).length c) ∧ Sl .i64 w x (ys.getD i []).length (ys.getD i []) ∧ (x = none → c = 0)) :
    Calls Try.prog 49 #[.slice (some ⟨b1, o1, none⟩) xs.length c1, .slice (some ⟨b2, o2, none⟩) xs.length c2] w fun e w' => e = .returned (.bool (decide (xs = ys))) ∧ ∃ n, w' = w.drewN n := by
  have HL : Hid (xs.length = ys.length) := hl
  clear hl
  go_enter Try.func49, Try.ntmps49
  go_wp2
  go_loopw [5] (fun i wr => ∃ (k n : Nat), k ≤ xs.length ∧ i = .int .i64 k ∧ xs.take k = ys.take k ∧ wr = w.drewN n) (fun i _ => xs.length - (intOf i).toNat)
  case atStart => exact ⟨0, 0, by omega, rfl, by simp, rfl⟩
  case round =>
    obtain ⟨k, n, hk, rfl, he, hwr⟩ := hrel
    have HE : Hid (xs.take k = ys.take k) := he
    clear he
    by_cases hlt : k < xs.length
    · obtain ⟨x1, d1, p0, s1, _⟩ := h1 k hlt
      obtain ⟨x2, d2, q0, s2, _⟩ := h2 k (by rw [← HL.out]; exact hlt)
      replace p0 : wr.cell? ⟨b1, o1 + k, none⟩ = some (.slice x1 (xs.getD k []).length d1) := by rw [hwr]; exact p0
      replace q0 : wr.cell? ⟨b2, o2 + k, none⟩ = some (.slice x2 (ys.getD k []).length d2) := by rw [hwr]; exact q0
      replace s1 : Sl .i64 wr x1 (xs.getD k []).length (xs.getD k []) := by rw [hwr]; exact s1
      replace s2 : Sl .i64 wr x2 (ys.getD k []).length (ys.getD k []) := by rw [hwr]; exact s2
      have E := fun m => same_any x1 x2 _ _ d1 d2 _ _ (wr.drewN m) (s1.drew m) (s2.drew m) (hsh.at hlt)
      have HW : Hid (wr = w.drewN n) := hwr
      clear hwr
      obtain ⟨x, hx⟩ : ∃ x, xs.getD k [] = x := ⟨_, rfl⟩
      obtain ⟨y, hy⟩ : ∃ y, ys.getD k [] = y := ⟨_, rfl⟩
      rw [hx] at p0 E
      rw [hy] at q0 E
      have i1 : (k : Int) < (xs.length : Int) := by omega
      have HX : Hid (xs.getD k [] = x) := hx
      have HY : Hid (ys.getD k [] = y) := hy
      obtain ⟨lx, hlx⟩ : ∃ l, x.length = l := ⟨_, rfl⟩
      obtain ⟨ly, hly⟩ : ∃ l, y.length = l := ⟨_, rfl⟩
      rw [hlx] at p0 E
      rw [hly] at q0 E
      clear hx hy h1 h2 s1 s2 hlx hly
      by_cases hxy : x = y
      · rw [decide_eq_true hxy] at E
        have HS : Hid (xs.take (k + 1) = ys.take (k + 1)) := by
          show _ = _
          rw [take_snocA xs [] k hlt, take_snocA ys [] k (by rw [← HL.out]; exact hlt), HE.out, HX.out, HY.out, hxy]
        clear hxy HX HY
        go_wp2
        go_quiet ((go_at_call 50; exact Calls.quiet_of (E _)))
        go_wp2
        go_roundw
        case rel => exact ⟨k + 1, n + nq, by omega, by go_num, HS.out, by rw [HW.out]; first | rfl | exact World.drewN_drewN _ _ _⟩
        case measure => simp [intOf]; omega
      · rw [decide_eq_false hxy] at E
        have HD : Hid (false = decide (xs = ys)) := by
          have : ¬ xs = ys := fun h => hxy (by rw [← HX.out, ← HY.out, h])
          show false = decide (xs = ys)
          rw [decide_eq_false this]
        clear hxy HX HY
        go_wp2
        go_quiet ((go_at_call 50; exact Calls.quiet_of (E _)))
        go_wp2
        go_ret
        exact ⟨rt_bool HD.out, n + nq, by rw [HW.out]; first | rfl | exact World.drewN_drewN _ _ _⟩
    · obtain rfl : k = xs.length := by omega
      have HD : Hid (true = decide (xs = ys)) := by
        have h := HE.out
        rw [List.take_length, HL.out, List.take_length] at h
        show true = decide (xs = ys)
        rw [decide_eq_true h]
      clear h1 h2
      go_wp2
      go_ret
      exact ⟨rt_bool HD.out, n, rfl⟩

set_option maxHeartbeats 400000 in
theorem refRows_not (a b : Option Addr) (la lb c1 c2 : Nat) (w : World) (h : la ≠ lb) :
    Calls Try.prog 49 #[.slice a la c1, .slice b lb c2] w fun e w' => e = .returned (.bool false) ∧ w' = w := by
  have h' : ((la : Int) == (lb : Int)) = false := by rw [beq_eq_false_iff_ne]; omega
  go_enter Try.func49, Try.ntmps49
  go_wp2
  go_ret
  exact ⟨rfl, rfl⟩

set_option maxHeartbeats 400000 in
theorem refRows_none (a b : Option Addr) (c1 c2 : Nat) (w : World) :
    Calls Try.prog 49 #[.slice a 0 c1, .slice b 0 c2] w fun e w' => e = .returned (.bool true) ∧ w' = w := by
  go_enter Try.func49, Try.ntmps49
  go_wp2
  refine wp_loop_rounds 1 ?_
  rw [rounds_succ]
  go_wp2
  go_ret
  exact ⟨rfl, rfl⟩

theorem refRows_any (a b : Option Addr) (la lb c1 c2 : Nat) (xs ys : List (List Int)) (w : World) (h1 : RowsI w a la xs) (h2 : RowsI w b lb ys) (hm : la ≤ 9223372036854775807) (hsh : Short xs) :
    Calls Try.prog 49 #[.slice a la c1, .slice b lb c2] w fun e w' => e = .returned (.bool (decide (xs = ys))) ∧ ∃ n, w' = w.drewN n := by
  have l1 := h1.1
  have l2 := h2.1
  subst l1 l2
  by_cases hl : xs.length = ys.length
  · rcases h1.2.2 with h0 | ⟨b1, o1, rfl, hc1⟩
    · subst h0
      have : ys = [] := List.length_eq_zero_iff.mp (by simpa using hl.symm)
      subst this
      refine (refRows_none a b c1 c2 w).mono ?_
      rintro e w' ⟨rfl, rfl⟩
      exact ⟨by simp, 0, rfl⟩
    · rcases h2.2.2 with h0 | ⟨b2, o2, rfl, hc2⟩
      · subst h0
        have : xs = [] := List.length_eq_zero_iff.mp (by simpa using hl)
        subst this
        refine (refRows_none _ b c1 c2 w).mono ?_
        rintro e w' ⟨rfl, rfl⟩
        exact ⟨by simp, 0, rfl⟩
      · have := refRows_row b1 o1 c1 b2 o2 c2 xs ys w hl hm hsh hc1 hc2
        rw [← hl]
        exact this
  · refine (refRows_not a b _ _ c1 c2 w hl).mono ?_
    rintro e w' ⟨rfl, rfl⟩
    have : ¬ xs = ys := fun h => hl (by rw [h])
    exact ⟨by simp [this], 0, rfl⟩

end Go.Proofs.Ytlackjldopeigaa

/-
  lim: books, and whether two are one: the program's answer and the document's.
-/
namespace Go.Proofs.Ytlackjldopeigaa
open Go.RowKit
set_option linter.unusedVariables false
set_option linter.unusedSimpArgs false

/-- Where the lists of books lie. -/
structure BA where
  aA : Option Addr
  nA : Nat
  cA : Nat
  aB : Option Addr
  nB : Nat
  cB : Nat
  aM : Option Addr
  nM : Nat
  cM : Nat
  aP : Option Addr
  nP : Nat
  cP : Nat
/-- Their value. -/
abbrev BA.val (x : BA) : Value := .agg #[.slice x.aA x.nA x.cA, .slice x.aB x.nB x.cB, .slice x.aM x.nM x.cM, .slice x.aP x.nP x.cP]
/-- What books hold: accounts, limits, positions. -/
structure Bks where
  A : List A3
  B : List (List Int)
  M : List Int
  P : List (List Int)
/-- These books lie there. -/
structure Bk (w : World) (x : BA) (b : Bks) : Prop where
  acc : Accs w x.aA x.nA b.A
  bil : RowsI w x.aB x.nB b.B
  mul : Sl .i64 w x.aM x.nM b.M
  pos : RowsI w x.aP x.nP b.P
  sA : x.nA ≤ 9223372036854775807
  sB : x.nB ≤ 9223372036854775807
  sM : x.nM ≤ 9223372036854775807
  sP : x.nP ≤ 9223372036854775807
  hB : Short b.B
  hP : Short b.P
  oA : x.aA = none → x.cA = 0
  oM : x.aM = none → x.cM = 0
theorem Bk.below {w w' : World} {x : BA} {b : Bks} (h : Bk w x b) (k : Below w.heap.size w w') : Bk w' x b :=
  ⟨h.acc.below k, h.bil.below k, h.mul.below k, h.pos.below k, h.sA, h.sB, h.sM, h.sP, h.hB, h.hP, h.oA, h.oM⟩

/-- Four values that lie at g. -/
def Box4 (w : World) (g : Nat) (x : BA) : Prop :=
  w.cell? ⟨g, 0, none⟩ = some (.slice x.aA x.nA x.cA) ∧ w.cell? ⟨g, 1, none⟩ = some (.slice x.aB x.nB x.cB) ∧ w.cell? ⟨g, 2, none⟩ = some (.slice x.aM x.nM x.cM) ∧ w.cell? ⟨g, 3, none⟩ = some (.slice x.aP x.nP x.cP)
theorem Box4.below {w w' : World} {g : Nat} {x : BA} (h : Box4 w g x) (k : Below w.heap.size w w') : Box4 w' g x := by
  obtain ⟨h0, h1, h2, h3⟩ := h
  have hg := block_lt_of_cell h0
  exact ⟨by rw [k.cell (p := ⟨g, 0, none⟩) hg]; exact h0, by rw [k.cell (p := ⟨g, 1, none⟩) hg]; exact h1, by rw [k.cell (p := ⟨g, 2, none⟩) hg]; exact h2, by rw [k.cell (p := ⟨g, 3, none⟩) hg]; exact h3⟩
theorem Box4.new (w : World) (x : BA) (t : TypeId) (fr : Nat × Nat) : Box4 (w.alloc (.cells #[.slice x.aA x.nA x.cA, .slice x.aB x.nB x.cB, .slice x.aM x.nM x.cM, .slice x.aP x.nP x.cP] t fr)) w.heap.size x :=
  ⟨by rw [cell_new]; rfl, by rw [cell_new]; rfl, by rw [cell_new]; rfl, by rw [cell_new]; rfl⟩

/-- Are two books one? -/
def sameB (a b : Bks) : Bool := decide (a.A = b.A) && (decide (a.B = b.B) && (decide (a.M = b.M) && decide (a.P = b.P)))
theorem sameB_yes {a b : Bks} : sameB a b = true ↔ a = b := by
  obtain ⟨a1, a2, a3, a4⟩ := a
  obtain ⟨b1, b2, b3, b4⟩ := b
  simp [sameB]

end Go.Proofs.Ytlackjldopeigaa

/-
  giroref10.Same: are two books one.
-/
namespace Go.Proofs.Ytlackjldopeigaa
open Go.RowKit
set_option linter.unusedVariables false
set_option linter.unusedSimpArgs false

theorem sameB_len {a b : Bks} (h : a.A.length ≠ b.A.length) : false = sameB a b := by
  have : ¬ a.A = b.A := fun e => h (by rw [e])
  simp [sameB, this]

set_option maxHeartbeats 4000000 in
theorem refSame_any (x y : BA) (a b : Bks) (w : World) (hx : Bk w x a) (hy : Bk w y b) : Calls Try.prog 25 #[x.val, y.val] w fun e w' => e = .returned (.bool (sameB a b)) ∧ Below w.heap.size w w' := by
  obtain ⟨aA, nA, cA, aB, nB, cB, aM, nM, cM, aP, nP, cP⟩ := x
  obtain ⟨dA, mA, eA, dB, mB, eB, dM, mM, eM, dP, mP, eP⟩ := y
  obtain ⟨w2, hw2⟩ : ∃ w2, w2 = (w.alloc (.cells #[.slice aA nA cA, .slice aB nB cB, .slice aM nM cM, .slice aP nP cP] 27)).alloc (.cells #[.slice dA mA eA, .slice dB mB eB, .slice dM mM eM, .slice dP mP eP] 27) := ⟨_, rfl⟩
  have B2 : Hid (Below w.heap.size w w2) := by rw [hw2]; exact (box_below _ _).alloc (box_below _ _).size _
  have X2 : Hid (Box4 w2 w.heap.size ⟨aA, nA, cA, aB, nB, cB, aM, nM, cM, aP, nP, cP⟩) := by rw [hw2]; exact (Box4.new w ⟨aA, nA, cA, aB, nB, cB, aM, nM, cM, aP, nP, cP⟩ _ _).below (box_below _ _)
  have Y2 : Hid (Box4 w2 (w.heap.size + 1) ⟨dA, mA, eA, dB, mB, eB, dM, mM, eM, dP, mP, eP⟩) := by
    have := Box4.new (w.alloc (.cells #[.slice aA nA cA, .slice aB nB cB, .slice aM nM cM, .slice aP nP cP] 27)) ⟨dA, mA, eA, dB, mB, eB, dM, mM, eM, dP, mP, eP⟩ 27 (0, 0)
    rw [size_alloc] at this
    rw [hw2]
    exact this
  have HX : Hid (Bk w2 ⟨aA, nA, cA, aB, nB, cB, aM, nM, cM, aP, nP, cP⟩ a) := hx.below B2.out
  have HY : Hid (Bk w2 ⟨dA, mA, eA, dB, mB, eB, dM, mM, eM, dP, mP, eP⟩ b) := hy.below B2.out
  clear hx hy
  by_cases hl : nA = mA
  · subst hl
    have HL : Hid (a.A.length = b.A.length) := by have h1 := HX.out.acc.1; have h2 := HY.out.acc.1; show _ = _; rw [← h1, ← h2]
    have E1 := refRows_any aB dB nB mB cB eB a.B b.B w2 HX.out.bil HY.out.bil HX.out.sB HX.out.hB
    have hs : sameB a b = (decide (a.B = b.B) && (decide (a.P = b.P) && (decide (a.M = b.M) && decide (a.A = b.A)))) := by
      unfold sameB
      generalize decide (a.A = b.A) = t1
      generalize decide (a.B = b.B) = t2
      generalize decide (a.M = b.M) = t3
      generalize decide (a.P = b.P) = t4
      cases t1 <;> cases t2 <;> cases t3 <;> cases t4 <;> rfl
    rw [hs]
    clear hs
    generalize decide (a.B = b.B) = q2 at E1 ⊢
    obtain ⟨q3, hq3⟩ : ∃ q, decide (a.M = b.M) = q := ⟨_, rfl⟩
    obtain ⟨q4, hq4⟩ : ∃ q, decide (a.P = b.P) = q := ⟨_, rfl⟩
    rw [hq3, hq4]
    have HQ3 : Hid (decide (a.M = b.M) = q3) := hq3
    have HQ4 : Hid (decide (a.P = b.P) = q4) := hq4
    obtain ⟨xs, hxs⟩ : ∃ xs, a.A = xs := ⟨_, rfl⟩
    obtain ⟨ys, hys⟩ : ∃ ys, b.A = ys := ⟨_, rfl⟩
    rw [hxs, hys]
    have HXS : Hid (a.A = xs) := hxs
    have HYS : Hid (b.A = ys) := hys
    clear hq3 hq4 hxs hys
    rw [hw2] at E1
    go_enter Try.func25, Try.ntmps25
    go_wp2_with fail
    go_at_call 49
    refine E1.mono ?_
    rintro e w3 ⟨rfl, n3, hw3⟩
    have B3 : Hid (Below w2.heap.size w2 w3) := by rw [hw3, ← hw2]; exact below_drewN _ _
    clear hw3 hw2 E1
    cases q2
    · go_wp2
      go_ret
      exact ⟨rt_bool (by simp), B2.out.trans (B3.out.mono B2.out.size)⟩
    have X3 : Hid (Box4 w3 w.heap.size ⟨aA, nA, cA, aB, nB, cB, aM, nM, cM, aP, nP, cP⟩) := X2.out.below B3.out
    have Y3 : Hid (Box4 w3 (w.heap.size + 1) ⟨dA, nA, eA, dB, mB, eB, dM, mM, eM, dP, mP, eP⟩) := Y2.out.below B3.out
    obtain ⟨x0, x1, x2, x3⟩ := X3.out
    obtain ⟨y0, y1, y2, y3⟩ := Y3.out
    have E2 := refRows_any aP dP nP mP cP eP a.P b.P w3 (HX.out.pos.below B3.out) (HY.out.pos.below B3.out) HX.out.sP HX.out.hP
    rw [HQ4.out] at E2
    clear X2 Y2 HQ4
    go_wp2_with fail
    go_at_call 49
    refine E2.mono ?_
    rintro e w4 ⟨rfl, n4, hw4⟩
    have B34 : Hid (Below w3.heap.size w3 w4) := by rw [hw4]; exact below_drewN _ _
    have B4 : Hid (Below w2.heap.size w2 w4) := B3.out.trans (B34.out.mono B3.out.size)
    clear hw4 E2
    cases q4
    · go_wp2
      go_ret
      exact ⟨rt_bool (by simp), B2.out.trans (B4.out.mono B2.out.size)⟩
    clear x0 x1 x2 x3 y0 y1 y2 y3
    have X4 : Hid (Box4 w4 w.heap.size ⟨aA, nA, cA, aB, nB, cB, aM, nM, cM, aP, nP, cP⟩) := X3.out.below B34.out
    have Y4 : Hid (Box4 w4 (w.heap.size + 1) ⟨dA, nA, eA, dB, mB, eB, dM, mM, eM, dP, mP, eP⟩) := Y3.out.below B34.out
    obtain ⟨x0, x1, x2, x3⟩ := X4.out
    obtain ⟨y0, y1, y2, y3⟩ := Y4.out
    have E3 := same_any aM dM nM mM cM eM a.M b.M w4 (HX.out.mul.below B4.out) (HY.out.mul.below B4.out) HX.out.sM
    rw [HQ3.out] at E3
    clear X3 Y3 B34 B3 HQ3
    go_wp2_with fail
    go_at_call 50
    refine E3.mono ?_
    rintro e w5 ⟨rfl, n5, hw5⟩
    have B45 : Hid (Below w4.heap.size w4 w5) := by rw [hw5]; exact below_drewN _ _
    have B5 : Hid (Below w2.heap.size w2 w5) := B4.out.trans (B45.out.mono B4.out.size)
    clear hw5 E3
    cases q3
    · go_wp2
      go_ret
      exact ⟨rt_bool (by simp), B2.out.trans (B5.out.mono B2.out.size)⟩
    clear x0 x1 x2 x3 y0 y1 y2 y3
    have X5 : Hid (Box4 w5 w.heap.size ⟨aA, nA, cA, aB, nB, cB, aM, nM, cM, aP, nP, cP⟩) := X4.out.below B45.out
    have Y5 : Hid (Box4 w5 (w.heap.size + 1) ⟨dA, nA, eA, dB, mB, eB, dM, mM, eM, dP, mP, eP⟩) := Y4.out.below B45.out
    have C5 : Hid (Accs w5 aA nA xs ∧ Accs w5 dA nA ys) := by rw [← HXS.out, ← HYS.out]; exact ⟨HX.out.acc.below B5.out, HY.out.acc.below B5.out⟩
    have hn : nA ≤ 9223372036854775807 := HX.out.sA
    have BW : Hid (Below w.heap.size w w5) := B2.out.trans (B5.out.mono B2.out.size)
    have HLL : Hid (xs.length = ys.length) := by rw [← HXS.out, ← HYS.out]; exact HL.out
    clear X4 Y4 B45 B4 HX HY B5 B2 HXS HYS HL
    go_wp2
    go_loopw [5] (fun i wr => ∃ (k n : Nat), k ≤ nA ∧ i = .int .i64 k ∧ xs.take k = ys.take k ∧ wr = w5.drewN n) (fun i _ => nA - (intOf i).toNat)
    case atStart => exact ⟨0, 0, by omega, rfl, by simp, rfl⟩
    case round =>
      obtain ⟨k, n, hk, rfl, he, hwr⟩ := hrel
      have HE : Hid (xs.take k = ys.take k) := he
      have Xr : Hid (Box4 wr w.heap.size ⟨aA, nA, cA, aB, nB, cB, aM, nM, cM, aP, nP, cP⟩) := by rw [hwr]; exact X5.out
      have Yr : Hid (Box4 wr (w.heap.size + 1) ⟨dA, nA, eA, dB, mB, eB, dM, mM, eM, dP, mP, eP⟩) := by rw [hwr]; exact Y5.out
      have Cr : Hid (Accs wr aA nA xs ∧ Accs wr dA nA ys) := by rw [hwr]; exact C5.out
      have BR : Hid (Below w.heap.size w wr) := by rw [hwr]; exact BW.out.trans ((below_drewN _ _).mono BW.out.size)
      have HW : Hid (wr = w5.drewN n) := hwr
      obtain ⟨x0, x1, x2, x3⟩ := Xr.out
      obtain ⟨y0, y1, y2, y3⟩ := Yr.out
      have L1 : Hid (nA = xs.length) := Cr.out.1.1
      clear he hwr x1 x2 x3 y1 y2 y3
      by_cases hlt : k < nA
      · have hlx : k < xs.length := by have := L1.out; omega
        have hly : k < ys.length := by rw [← HLL.out]; exact hlx
        obtain ⟨b1, o1, ha1, hc1⟩ := Cr.out.1.2.resolve_left (by intro h; rw [h] at hlx; simp at hlx)
        obtain ⟨b2, o2, ha2, hc2⟩ := Cr.out.2.2.resolve_left (by intro h; rw [h] at hly; simp at hly)
        subst ha1 ha2
        obtain ⟨p0, p1, p2⟩ := hc1 k hlx
        obtain ⟨r0, r1, r2⟩ := hc2 k hly
        obtain ⟨x, hx⟩ : ∃ x, xs.getD k a30 = x := ⟨_, rfl⟩
        obtain ⟨y, hy⟩ : ∃ y, ys.getD k a30 = y := ⟨_, rfl⟩
        rw [hx] at p0 p1 p2
        rw [hy] at r0 r1 r2
        have i1 : (k : Int) < (nA : Int) := by omega
        have HX : Hid (xs.getD k a30 = x) := hx
        have HY : Hid (ys.getD k a30 = y) := hy
        obtain ⟨u0, u1, u2⟩ := x
        obtain ⟨v0, v1, v2⟩ := y
        simp only at p0 p1 p2 r0 r1 r2
        have KX : Hid (k < xs.length ∧ k < ys.length) := ⟨hlx, hly⟩
        clear hx hy hc1 hc2 Cr C5 hlx hly X5 Y5 Xr Yr BW
        by_cases hxy : u0 = v0 ∧ u1 = v1 ∧ u2 = v2
        · obtain ⟨rfl, rfl, rfl⟩ := hxy
          go_wp2
          go_quiet (fail)
          go_wp2
          go_roundw
          case rel => exact ⟨k + 1, n + nq, by omega, by go_num, by rw [take_snocA xs a30 k KX.out.1, take_snocA ys a30 k KX.out.2, HE.out, HX.out, HY.out], by rw [HW.out]; first | rfl | exact World.drewN_drewN _ _ _⟩
          case measure => simp [intOf]; omega
        · have HD : Hid (false = decide (xs = ys)) := by
            have : ¬ xs = ys := fun h => hxy (by
              have e : (u0, u1, u2) = (v0, v1, v2) := by rw [← HX.out, ← HY.out, h]
              simpa using e)
            show false = decide (xs = ys)
            rw [decide_eq_false this]
          have hxy' : ((u0 == v0) && ((u1 == v1) && (u2 == v2))) = false := by
            rw [Bool.eq_false_iff]
            simp only [ne_eq, Bool.and_eq_true, beq_iff_eq]
            exact hxy
          clear hxy
          by_cases e0 : (u0 == v0) = true
          · by_cases e1 : (u1 == v1) = true
            · have e2 : (u2 == v2) = false := by simpa [e0, e1] using hxy'
              clear hxy'
              go_wp2
              go_quiet (fail)
              go_wp2
              go_ret
              exact ⟨rt_bool (by rw [HD.out]; simp), BR.out.trans ((below_drewN _ _).mono BR.out.size)⟩
            · replace e1 : (u1 == v1) = false := by simpa using e1
              clear hxy'
              go_wp2
              go_quiet (fail)
              go_wp2
              go_ret
              exact ⟨rt_bool (by rw [HD.out]; simp), BR.out.trans ((below_drewN _ _).mono BR.out.size)⟩
          · replace e0 : (u0 == v0) = false := by simpa using e0
            clear hxy'
            go_wp2
            go_quiet (fail)
            go_wp2
            go_ret
            exact ⟨rt_bool (by rw [HD.out]; simp), BR.out.trans ((below_drewN _ _).mono BR.out.size)⟩
      · obtain rfl : k = nA := by omega
        have HD : Hid (true = decide (xs = ys)) := by
          have h := HE.out
          rw [L1.out, List.take_length, HLL.out, List.take_length] at h
          show true = decide (xs = ys)
          rw [decide_eq_true h]
        clear Cr C5 X5 Y5 Xr Yr BW
        go_wp2
        go_ret
        exact ⟨rt_bool (by rw [HD.out]; first | done | simp), BR.out⟩
  · have h' : ((nA : Int) == (mA : Int)) = false := by rw [beq_eq_false_iff_ne]; omega
    have HD : Hid (false = sameB a b) := sameB_len (by have h1 := HX.out.acc.1; have h2 := HY.out.acc.1; simp only at h1 h2; omega)
    have BB : Hid (Below w.heap.size w ((w.alloc (.cells #[.slice aA nA cA, .slice aB nB cB, .slice aM nM cM, .slice aP nP cP] 27)).alloc (.cells #[.slice dA mA eA, .slice dB mB eB, .slice dM mM eM, .slice dP mP eP] 27))) := by rw [← hw2]; exact B2.out
    clear HX HY X2 Y2 hw2 B2
    go_enter Try.func25, Try.ntmps25
    go_wp2
    go_ret
    exact ⟨rt_bool HD.out, BB.out⟩

end Go.Proofs.Ytlackjldopeigaa
