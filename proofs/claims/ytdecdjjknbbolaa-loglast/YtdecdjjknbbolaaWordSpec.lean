/-
  Numbers as bytes, in plain mathematics: eight bytes a number, the highest first; and back.
-/
import Derived.Test.YtdecdjjknbbolaaSl
import Derived.Test.YtdecdjjknbbolaaArith
namespace Go.Proofs.Ytdecdjjknbbolaa
open Go.RowKit
set_option linter.unusedVariables false

/-- The eight bytes of a number. -/
def enc (n : Int) : List Int := [n / 72057594037927936 % 256, n / 281474976710656 % 256, n / 1099511627776 % 256, n / 4294967296 % 256, n / 16777216 % 256, n / 65536 % 256, n / 256 % 256, n % 256]
def encs : List Int → List Int
  | [] => []
  | n :: l => enc n ++ encs l
/-- The number that bytes make. -/
def big (bs : List Int) : Int := bs.foldl (fun n x => n * 256 + x) 0
def dec (bs : List Int) : Int := IntKind.i64.wrap (big bs)
def decs : Nat → List Int → List Int
  | 0, _ => []
  | m + 1, bs => dec (bs.take 8) :: decs m (bs.drop 8)

theorem enc_length (n : Int) : (enc n).length = 8 := rfl
theorem encs_length (l : List Int) : (encs l).length = 8 * l.length := by
  induction l with
  | nil => rfl
  | cons n l ih => simp [encs, enc_length, ih]; omega
theorem encs_append (l m : List Int) : encs (l ++ m) = encs l ++ encs m := by
  induction l with
  | nil => rfl
  | cons n l ih => simp [encs, ih]
theorem encs_one (n : Int) : encs [n] = enc n := by simp [encs]
theorem enc_wf (n : Int) : ∀ x ∈ enc n, IntKind.u8.wrap x = x := by
  intro x hx
  simp only [enc, List.mem_cons, List.not_mem_nil, or_false] at hx
  refine u8_wf ?_ ?_ <;> rcases hx with h | h | h | h | h | h | h | h <;> omega
theorem encs_wf (l : List Int) : ∀ x ∈ encs l, IntKind.u8.wrap x = x := by
  induction l with
  | nil => intro x hx; simp [encs] at hx
  | cons n l ih =>
    intro x hx
    simp only [encs, List.mem_append] at hx
    rcases hx with h | h
    · exact enc_wf n x h
    · exact ih x h

theorem big_snoc (bs : List Int) (x : Int) : big (bs ++ [x]) = big bs * 256 + x := by simp [big]
theorem big_take (bs : List Int) (k : Nat) (h : k < bs.length) : big (bs.take (k + 1)) = big (bs.take k) * 256 + bs.getD k 0 := by
  rw [List.take_succ_eq_append_getElem h, big_snoc]
  simp [h]
theorem big_bound (bs : List Int) (h : ∀ n ∈ bs, IntKind.u8.wrap n = n) (k : Nat) (hk : k ≤ bs.length) : 0 ≤ big (bs.take k) ∧ big (bs.take k) < 256 ^ k := by
  induction k with
  | zero => simp [big]
  | succ k ih =>
    have h1 := ih (by omega)
    rw [big_take bs k (by omega), Int.pow_succ]
    have h2 := wf_u8 (h _ (getD_mem (show k < bs.length by omega)))
    omega

theorem dec_enc (n : Int) (h : IntKind.i64.wrap n = n) : dec (enc n) = n := by
  have h := wf_i64 h
  simp only [dec, big, enc, List.foldl_cons, List.foldl_nil]
  rw [IntKind.wrap_i64]
  omega

theorem decs_length (m : Nat) (bs : List Int) : (decs m bs).length = m := by
  induction m generalizing bs with
  | zero => rfl
  | succ m ih => simp [decs, ih]
theorem dec_wf (bs : List Int) : IntKind.i64.wrap (dec bs) = dec bs := by
  simp only [dec, IntKind.wrap_i64]; omega
theorem decs_wf (m : Nat) (bs : List Int) : ∀ n ∈ decs m bs, IntKind.i64.wrap n = n := by
  induction m generalizing bs with
  | zero => intro n hn; simp [decs] at hn
  | succ m ih =>
    intro n hn
    simp only [decs, List.mem_cons] at hn
    rcases hn with h | h
    · rw [h]; exact dec_wf _
    · exact ih _ n h
theorem decs_snoc (m : Nat) (bs : List Int) : decs (m + 1) bs = decs m bs ++ [dec ((bs.drop (8 * m)).take 8)] := by
  induction m generalizing bs with
  | zero => simp [decs]
  | succ m ih =>
    rw [decs, ih (bs.drop 8), decs]
    simp [Nat.mul_add, Nat.add_comm]

theorem decs_encs (l more : List Int) (h : ∀ n ∈ l, IntKind.i64.wrap n = n) : decs l.length (encs l ++ more) = l := by
  induction l with
  | nil => rfl
  | cons n l ih =>
    have e1 : (encs (n :: l) ++ more).take 8 = enc n := by simp [encs, enc]
    have e2 : (encs (n :: l) ++ more).drop 8 = encs l ++ more := by simp [encs, enc]
    rw [List.length_cons, decs, e1, e2, dec_enc n (h n (by simp)), ih (fun x hx => h x (by simp [hx]))]

theorem decs_take (m : Nat) (bs : List Int) : decs m (bs.take (8 * m)) = decs m bs := by
  induction m generalizing bs with
  | zero => rfl
  | succ m ih =>
    have e1 : (bs.take (8 * (m + 1))).take 8 = bs.take 8 := by rw [List.take_take, Nat.min_eq_left (by omega)]
    have e2 : (bs.take (8 * (m + 1))).drop 8 = (bs.drop 8).take (8 * m) := by rw [List.drop_take]; congr 1
    rw [decs, decs, e1, e2, ih]

theorem or_byte_u64 (m x : Int) (h0 : 0 ≤ m) (h1 : m < 18446744073709551616) (hm : m % 256 = 0) (x0 : 0 ≤ x) (x1 : x ≤ 255) : bits .or .u64 m x = m + x :=
  bits_join .u64 64 (by decide) Ar.wraps_u64 8 m x h0 (by omega) (by omega) x0 (by omega) (by omega)

theorem or_byte (m x : Int) (hm : m % 256 = 0) (x0 : 0 ≤ x) (x1 : x ≤ 255) : bits .or .i64 m x = IntKind.i64.wrap (m + x) := by
  have e : BitVec.ofInt 64 m = BitVec.ofInt 64 (m % 18446744073709551616) := by
    apply BitVec.eq_of_toInt_eq
    rw [BitVec.toInt_ofInt, BitVec.toInt_ofInt]
    simp only [Int.bmod_def]
    omega
  have h := or_byte_u64 (m % 18446744073709551616) x (by omega) (by omega) (by omega) x0 x1
  have h2 : IntKind.u64.wrap ((BitVec.ofInt 64 (m % 18446744073709551616) ||| BitVec.ofInt 64 x).toNat : Nat) = m % 18446744073709551616 + x := h
  have h3 : ((BitVec.ofInt 64 (m % 18446744073709551616) ||| BitVec.ofInt 64 x).toNat : Int) = m % 18446744073709551616 + x := by
    rw [← h2, IntKind.wrap_u64]
    have := (BitVec.ofInt 64 (m % 18446744073709551616) ||| BitVec.ofInt 64 x).isLt
    omega
  show IntKind.i64.wrap ((BitVec.ofInt 64 m ||| BitVec.ofInt 64 x).toNat : Nat) = _
  rw [e, h3]
  simp only [IntKind.wrap_i64]
  omega

end Go.Proofs.Ytdecdjjknbbolaa
