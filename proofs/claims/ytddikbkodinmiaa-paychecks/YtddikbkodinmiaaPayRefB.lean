/-
  pay: giroref11.Check: what it refuses.
-/
import Derived.Test.YtddikbkodinmiaaPayCk
namespace Go.Proofs.Ytddikbkodinmiaa
open Go.RowKit
set_option linter.unusedVariables false
set_option linter.unusedSimpArgs false

set_option maxHeartbeats 1000000 in
theorem refCheck_8 (n : Int) (a : Option Addr) (len cap : Nat) (cut cl per : Int) (i f o m c s u t : Int) (w : World) (h1 : 1 ≤ i) (h2 : 0 ≤ f) (h3 : f < n) (h4 : 0 ≤ o) (h5 : o < n) (h6 : ¬ f = o) (h7 : 1 ≤ m) (h : 1099511627776 < m) :
    Calls Try.prog 9 #[.agg #[.int .i64 n, .slice a len cap, .int .i64 cut, .int .i64 cl, .int .i64 per], .int .i64 t, .agg #[.int .i64 i, .int .i64 f, .int .i64 o, .int .i64 m, .int .i64 c, .int .i64 s, .int .i64 u]] w fun e w' => e = .returned (.int .i64 (ckS n cut cl i f o m c s u t)) ∧ Below w.heap.size w w' := by
  have HK : Hid ((1 : Int) = ckS n cut cl i f o m c s u t) := ck_no (pay_bad (by omega))
  have h6' : (f == o) = false := by simpa using h6
  clear h6
  go_enter Try.func9, Try.ntmps9
  go_wp2
  go_ret
  exact ⟨rt_int HK.out, (box_below _ _).alloc (box_below _ _).size _⟩
set_option maxHeartbeats 1000000 in
theorem refCheck_9 (n : Int) (a : Option Addr) (len cap : Nat) (cut cl per : Int) (i f o m c s u t : Int) (w : World) (h1 : 1 ≤ i) (h2 : 0 ≤ f) (h3 : f < n) (h4 : 0 ≤ o) (h5 : o < n) (h6 : ¬ f = o) (h7 : 1 ≤ m) (h8 : m ≤ 1099511627776) (h : c < 1) :
    Calls Try.prog 9 #[.agg #[.int .i64 n, .slice a len cap, .int .i64 cut, .int .i64 cl, .int .i64 per], .int .i64 t, .agg #[.int .i64 i, .int .i64 f, .int .i64 o, .int .i64 m, .int .i64 c, .int .i64 s, .int .i64 u]] w fun e w' => e = .returned (.int .i64 (ckS n cut cl i f o m c s u t)) ∧ Below w.heap.size w w' := by
  have HK : Hid ((1 : Int) = ckS n cut cl i f o m c s u t) := ck_no (pay_bad (by omega))
  have h6' : (f == o) = false := by simpa using h6
  clear h6
  go_enter Try.func9, Try.ntmps9
  go_wp2
  go_ret
  exact ⟨rt_int HK.out, (box_below _ _).alloc (box_below _ _).size _⟩
set_option maxHeartbeats 1000000 in
theorem refCheck_10 (n : Int) (a : Option Addr) (len cap : Nat) (cut cl per : Int) (i f o m c s u t : Int) (w : World) (h1 : 1 ≤ i) (h2 : 0 ≤ f) (h3 : f < n) (h4 : 0 ≤ o) (h5 : o < n) (h6 : ¬ f = o) (h7 : 1 ≤ m) (h8 : m ≤ 1099511627776) (h9 : 1 ≤ c) (h : 3 < c) :
    Calls Try.prog 9 #[.agg #[.int .i64 n, .slice a len cap, .int .i64 cut, .int .i64 cl, .int .i64 per], .int .i64 t, .agg #[.int .i64 i, .int .i64 f, .int .i64 o, .int .i64 m, .int .i64 c, .int .i64 s, .int .i64 u]] w fun e w' => e = .returned (.int .i64 (ckS n cut cl i f o m c s u t)) ∧ Below w.heap.size w w' := by
  have HK : Hid ((1 : Int) = ckS n cut cl i f o m c s u t) := ck_no (pay_bad (by omega))
  have h6' : (f == o) = false := by simpa using h6
  clear h6
  go_enter Try.func9, Try.ntmps9
  go_wp2
  go_ret
  exact ⟨rt_int HK.out, (box_below _ _).alloc (box_below _ _).size _⟩
set_option maxHeartbeats 1000000 in
theorem refCheck_11 (n : Int) (a : Option Addr) (len cap : Nat) (cut cl per : Int) (i f o m c s u t : Int) (w : World) (h1 : 1 ≤ i) (h2 : 0 ≤ f) (h3 : f < n) (h4 : 0 ≤ o) (h5 : o < n) (h6 : ¬ f = o) (h7 : 1 ≤ m) (h8 : m ≤ 1099511627776) (h9 : 1 ≤ c) (h10 : c ≤ 3) (h : s < 0) :
    Calls Try.prog 9 #[.agg #[.int .i64 n, .slice a len cap, .int .i64 cut, .int .i64 cl, .int .i64 per], .int .i64 t, .agg #[.int .i64 i, .int .i64 f, .int .i64 o, .int .i64 m, .int .i64 c, .int .i64 s, .int .i64 u]] w fun e w' => e = .returned (.int .i64 (ckS n cut cl i f o m c s u t)) ∧ Below w.heap.size w w' := by
  have HK : Hid ((1 : Int) = ckS n cut cl i f o m c s u t) := ck_no (pay_bad (by omega))
  have h6' : (f == o) = false := by simpa using h6
  clear h6
  go_enter Try.func9, Try.ntmps9
  go_wp2
  go_ret
  exact ⟨rt_int HK.out, (box_below _ _).alloc (box_below _ _).size _⟩
set_option maxHeartbeats 1000000 in
theorem refCheck_12 (n : Int) (a : Option Addr) (len cap : Nat) (cut cl per : Int) (i f o m c s u t : Int) (w : World) (h1 : 1 ≤ i) (h2 : 0 ≤ f) (h3 : f < n) (h4 : 0 ≤ o) (h5 : o < n) (h6 : ¬ f = o) (h7 : 1 ≤ m) (h8 : m ≤ 1099511627776) (h9 : 1 ≤ c) (h10 : c ≤ 3) (h11 : 0 ≤ s) (h : u < s) :
    Calls Try.prog 9 #[.agg #[.int .i64 n, .slice a len cap, .int .i64 cut, .int .i64 cl, .int .i64 per], .int .i64 t, .agg #[.int .i64 i, .int .i64 f, .int .i64 o, .int .i64 m, .int .i64 c, .int .i64 s, .int .i64 u]] w fun e w' => e = .returned (.int .i64 (ckS n cut cl i f o m c s u t)) ∧ Below w.heap.size w w' := by
  have HK : Hid ((1 : Int) = ckS n cut cl i f o m c s u t) := ck_no (pay_bad (by omega))
  have h6' : (f == o) = false := by simpa using h6
  clear h6
  go_enter Try.func9, Try.ntmps9
  go_wp2
  go_ret
  exact ⟨rt_int HK.out, (box_below _ _).alloc (box_below _ _).size _⟩
set_option maxHeartbeats 1000000 in
theorem refCheck_13 (n : Int) (a : Option Addr) (len cap : Nat) (cut cl per : Int) (i f o m c s u t : Int) (w : World) (h1 : 1 ≤ i) (h2 : 0 ≤ f) (h3 : f < n) (h4 : 0 ≤ o) (h5 : o < n) (h6 : ¬ f = o) (h7 : 1 ≤ m) (h8 : m ≤ 1099511627776) (h9 : 1 ≤ c) (h10 : c ≤ 3) (h11 : 0 ≤ s) (h12 : s ≤ u) (h : u < t) :
    Calls Try.prog 9 #[.agg #[.int .i64 n, .slice a len cap, .int .i64 cut, .int .i64 cl, .int .i64 per], .int .i64 t, .agg #[.int .i64 i, .int .i64 f, .int .i64 o, .int .i64 m, .int .i64 c, .int .i64 s, .int .i64 u]] w fun e w' => e = .returned (.int .i64 (ckS n cut cl i f o m c s u t)) ∧ Below w.heap.size w w' := by
  have HK : Hid ((1 : Int) = ckS n cut cl i f o m c s u t) := ck_no (pay_bad (by omega))
  have h6' : (f == o) = false := by simpa using h6
  clear h6
  go_enter Try.func9, Try.ntmps9
  go_wp2
  go_ret
  exact ⟨rt_int HK.out, (box_below _ _).alloc (box_below _ _).size _⟩
set_option maxHeartbeats 1000000 in
theorem refCheck_14 (n : Int) (a : Option Addr) (len cap : Nat) (cut cl per : Int) (i f o m c s u t : Int) (w : World) (h1 : 1 ≤ i) (h2 : 0 ≤ f) (h3 : f < n) (h4 : 0 ≤ o) (h5 : o < n) (h6 : ¬ f = o) (h7 : 1 ≤ m) (h8 : m ≤ 1099511627776) (h9 : 1 ≤ c) (h10 : c ≤ 3) (h11 : 0 ≤ s) (h12 : s ≤ u) (h13 : t ≤ u) (h : 1048576 < u) :
    Calls Try.prog 9 #[.agg #[.int .i64 n, .slice a len cap, .int .i64 cut, .int .i64 cl, .int .i64 per], .int .i64 t, .agg #[.int .i64 i, .int .i64 f, .int .i64 o, .int .i64 m, .int .i64 c, .int .i64 s, .int .i64 u]] w fun e w' => e = .returned (.int .i64 (ckS n cut cl i f o m c s u t)) ∧ Below w.heap.size w w' := by
  have HK : Hid ((1 : Int) = ckS n cut cl i f o m c s u t) := ck_no (pay_bad (by omega))
  have h6' : (f == o) = false := by simpa using h6
  clear h6
  go_enter Try.func9, Try.ntmps9
  go_wp2
  go_ret
  exact ⟨rt_int HK.out, (box_below _ _).alloc (box_below _ _).size _⟩

end Go.Proofs.Ytddikbkodinmiaa
