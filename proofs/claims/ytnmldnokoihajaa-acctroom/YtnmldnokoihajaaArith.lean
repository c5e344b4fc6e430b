/-
  Plain arithmetic of words, masks, products and quotients: no Go text in sight.
-/
import Derived.Laws.Bits64b
import Derived.Laws.BitsLemmas
namespace Go.Proofs.Ytnmldnokoihajaa
namespace Ar
set_option linter.unusedVariables false

theorem wraps_u64 (n : Int) (h0 : 0 ≤ n) (h1 : n < 2 ^ 64) : IntKind.u64.wrap n = n := by rw [IntKind.wrap_u64]; omega
theorem wraps_i64 (n : Int) (h0 : 0 ≤ n) (h1 : n < 2 ^ 63) : IntKind.i64.wrap n = n := by rw [IntKind.wrap_i64]; omega

theorem low32_u64 (x : Int) (h0 : 0 ≤ x) (h1 : x < 18446744073709551616) : bits .and .u64 x 4294967295 = x % 4294967296 :=
  bits_mask .u64 64 (by decide) wraps_u64 32 (by decide) x h0 h1

theorem low_i64 (j : Nat) (m : Int) (hm : (BitVec.ofInt 64 m).toNat = 2 ^ j - 1) (hj : j ≤ 62) (n : Int) : bits .and .i64 n m = n % 2 ^ j := by
  have key : (BitVec.ofInt 64 n &&& BitVec.ofInt 64 m).toNat = (n % ((2 ^ 64 : Nat) : Int)).toNat % 2 ^ j := by
    rw [BitVec.toNat_and, BitVec.toNat_ofInt, hm, Nat.and_two_pow_sub_one_eq_mod]
  show IntKind.i64.wrap ((BitVec.ofInt 64 n &&& BitVec.ofInt 64 m).toNat : Nat) = n % 2 ^ j
  have hd : (2 : Int) ^ 64 = 2 ^ j * 2 ^ (64 - j) := by rw [← Int.pow_add]; congr 1; omega
  have hle : (2 : Int) ^ j ≤ 2 ^ 62 := by exact_mod_cast Nat.pow_le_pow_right (by omega) hj
  have hpos : (0 : Int) < 2 ^ j := by exact_mod_cast Nat.two_pow_pos j
  have e : ((((n % ((2 ^ 64 : Nat) : Int)).toNat % 2 ^ j : Nat)) : Int) = n % 2 ^ j := by
    have h1 : (((n % ((2 ^ 64 : Nat) : Int)).toNat : Nat) : Int) = n % 2 ^ 64 := by
      rw [Int.toNat_of_nonneg (Int.emod_nonneg _ (by decide))]; rfl
    rw [Int.natCast_emod, h1]
    show n % 2 ^ 64 % ((2 ^ j : Nat) : Int) = n % 2 ^ j
    rw [Int.natCast_pow]
    show n % 2 ^ 64 % (2 ^ j : Int) = n % 2 ^ j
    exact Int.emod_emod_of_dvd n ⟨2 ^ (64 - j), hd⟩
  rw [key, e]
  have a1 := Int.emod_nonneg n (Int.ne_of_gt hpos)
  have a2 := Int.emod_lt_of_pos n hpos
  exact wraps_i64 _ a1 (by omega)

theorem low32_i64 (n : Int) : bits .and .i64 n 4294967295 = n % 4294967296 := low_i64 32 4294967295 (by decide) (by decide) n
theorem low16_i64 (n : Int) : bits .and .i64 n 65535 = n % 65536 := low_i64 16 65535 (by decide) (by decide) n

/-- The product of two words by halves. -/
theorem split (a b c d : Int) : (a * 4294967296 + b) * (c * 4294967296 + d) = a * c * 18446744073709551616 + (a * d + b * c) * 4294967296 + b * d := by
  have e : (18446744073709551616 : Int) = 4294967296 * 4294967296 := by decide
  rw [e]
  simp only [Int.add_mul, Int.mul_add]
  have e1 : a * 4294967296 * (c * 4294967296) = a * c * (4294967296 * 4294967296) := by
    rw [Int.mul_assoc, Int.mul_left_comm 4294967296 c, ← Int.mul_assoc a c]
  have e2 : a * 4294967296 * d = a * d * 4294967296 := by rw [Int.mul_assoc, Int.mul_comm 4294967296 d, ← Int.mul_assoc]
  have e3 : b * (c * 4294967296) = b * c * 4294967296 := by rw [← Int.mul_assoc]
  rw [e1, e2, e3]
  omega

theorem half_le (a b : Int) (a0 : 0 ≤ a) (a1 : a ≤ 4294967295) (b0 : 0 ≤ b) (b1 : b ≤ 4294967295) : 0 ≤ a * b ∧ a * b ≤ 18446744065119617025 := by
  refine ⟨Int.mul_nonneg a0 b0, ?_⟩
  have h := Int.mul_le_mul a1 b1 b0 (by decide : (0 : Int) ≤ 4294967295)
  simpa using h

theorem mul_hi (x y : Int) (hx0 : 0 ≤ x) (hx : x < 18446744073709551616) (hy0 : 0 ≤ y) (hy : y < 18446744073709551616) :
    IntKind.u64.wrap
      (IntKind.u64.wrap (IntKind.u64.wrap (x / 4294967296 * (y / 4294967296)) +
            IntKind.u64.wrap (IntKind.u64.wrap (x / 4294967296 * bits BinOp.and IntKind.u64 y 4294967295) +
                  IntKind.u64.wrap (bits BinOp.and IntKind.u64 x 4294967295 * bits BinOp.and IntKind.u64 y 4294967295) / 4294967296) / 4294967296) +
        IntKind.u64.wrap (bits BinOp.and IntKind.u64
                (IntKind.u64.wrap (IntKind.u64.wrap (x / 4294967296 * bits BinOp.and IntKind.u64 y 4294967295) +
                    IntKind.u64.wrap (bits BinOp.and IntKind.u64 x 4294967295 * bits BinOp.and IntKind.u64 y 4294967295) / 4294967296)) 4294967295 +
              IntKind.u64.wrap (bits BinOp.and IntKind.u64 x 4294967295 * (y / 4294967296))) / 4294967296) = x * y / 18446744073709551616 := by
  rw [low32_u64 x hx0 hx, low32_u64 y hy0 hy]
  have e := split (x / 4294967296) (x % 4294967296) (y / 4294967296) (y % 4294967296)
  have ex : x / 4294967296 * 4294967296 + x % 4294967296 = x := by omega
  have ey : y / 4294967296 * 4294967296 + y % 4294967296 = y := by omega
  rw [ex, ey] at e
  rw [e]
  have ha := half_le (x / 4294967296) (y / 4294967296) (by omega) (by omega) (by omega) (by omega)
  have hb := half_le (x / 4294967296) (y % 4294967296) (by omega) (by omega) (by omega) (by omega)
  have hc := half_le (x % 4294967296) (y / 4294967296) (by omega) (by omega) (by omega) (by omega)
  have hd := half_le (x % 4294967296) (y % 4294967296) (by omega) (by omega) (by omega) (by omega)
  generalize x / 4294967296 * (y / 4294967296) = a at *
  generalize x / 4294967296 * (y % 4294967296) = b at *
  generalize x % 4294967296 * (y / 4294967296) = c at *
  generalize x % 4294967296 * (y % 4294967296) = d at *
  clear e ex ey hx0 hx hy0 hy
  rw [wraps_u64 a (by omega) (by omega), wraps_u64 b (by omega) (by omega), wraps_u64 d (by omega) (by omega), wraps_u64 c (by omega) (by omega)]
  rw [wraps_u64 (b + d / 4294967296) (by omega) (by omega)]
  rw [low32_u64 (b + d / 4294967296) (by omega) (by omega)]
  rw [wraps_u64 ((b + d / 4294967296) % 4294967296 + c) (by omega) (by omega)]
  rw [wraps_u64 (a + (b + d / 4294967296) / 4294967296) (by omega) (by omega)]
  rw [wraps_u64 _ (by omega) (by omega)]
  omega

theorem mul_lo (x y : Int) : IntKind.u64.wrap (x * y) = x * y % 18446744073709551616 := IntKind.wrap_u64 _

/-! The quotient by 10000 of a number of two words: the divisor is shifted by 50, its low half is 0. -/
theorem div_u (hi lo : Int) (g0 : 0 ≤ hi) (g1 : hi < 10000) (h0 : 0 ≤ lo) (h1 : lo < 18446744073709551616) :
    bits .or .u64 (hi * 1125899906842624) (lo / 16384) = hi * 1125899906842624 + lo / 16384 :=
  bits_join .u64 64 (by decide) wraps_u64 50 _ _ (by omega) (by omega) (by omega) (by omega) (by omega) (by omega)

theorem div_t (u v : Int) (u0 : 0 ≤ u) (u1 : u < 11258999068426240000) (v0 : 0 ≤ v) (v1 : v < 18446744073709551616) :
    IntKind.u64.wrap (IntKind.u64.wrap (IntKind.u64.wrap (u * 4294967296) + v / 4294967296) - IntKind.u64.wrap (u / 2621440000 * 11258999068426240000)) =
      u % 2621440000 * 4294967296 + v / 4294967296 := by
  simp only [IntKind.wrap_u64]
  omega

theorem div_r (t z : Int) (t0 : 0 ≤ t) (t1 : t < 11258999068426240000) (z0 : 0 ≤ z) (z1 : z < 4294967296) :
    IntKind.u64.wrap (IntKind.u64.wrap (IntKind.u64.wrap (t * 4294967296) + z) - IntKind.u64.wrap (t / 2621440000 * 11258999068426240000)) =
      t % 2621440000 * 4294967296 + z := by
  simp only [IntKind.wrap_u64]
  omega

/-- The two steps of the long division, put together. -/
theorem div_all (n u v1 z t : Int) (hn : n * 1125899906842624 = (u * 4294967296 + v1) * 4294967296 + z) (v0 : 0 ≤ v1) (v2 : v1 < 4294967296) (z0 : 0 ≤ z) (z1 : z < 4294967296)
    (ht : t = u % 2621440000 * 4294967296 + v1) :
    u / 2621440000 * 4294967296 + t / 2621440000 = n / 10000 ∧ (t % 2621440000 * 4294967296 + z) / 1125899906842624 = n % 10000 := by
  have hu : u = 2621440000 * (u / 2621440000) + u % 2621440000 := by omega
  have ht' : t = 2621440000 * (t / 2621440000) + t % 2621440000 := by omega
  have b1 : 0 ≤ t % 2621440000 := by omega
  have b2 : t % 2621440000 < 2621440000 := by omega
  generalize t / 2621440000 = q0 at *
  generalize t % 2621440000 = r0 at *
  generalize u / 2621440000 = q1 at *
  generalize u % 2621440000 = r1 at *
  constructor <;> omega

end Ar
end Go.Proofs.Ytnmldnokoihajaa
