/-
  pay: giroref11.Check: what it refuses.
-/
import Derived.Test.YtddikbkodinmiaaPayCk
namespace Go.Proofs.Ytddikbkodinmiaa
open Go.RowKit
set_option linter.unusedVariables false
set_option linter.unusedSimpArgs false

set_option maxHeartbeats 1000000 in
theorem refCheck_1 (n : Int) (a : Option Addr) (len cap : Nat) (cut cl per : Int) (i f o m c s u t : Int) (w : World)  (h : i < 1) :
    Calls Try.prog 9 #[.agg #[.int .i64 n, .slice a len cap, .int .i64 cut, .int .i64 cl, .int .i64 per], .int .i64 t, .agg #[.int .i64 i, .int .i64 f, .int .i64 o, .int .i64 m, .int .i64 c, .int .i64 s, .int .i64 u]] w fun e w' => e = .returned (.int .i64 (ckS n cut cl i f o m c s u t)) ∧ Below w.heap.size w w' := by
  have HK : Hid ((1 : Int) = ckS n cut cl i f o m c s u t) := ck_no (pay_bad (by omega))
  go_enter Try.func9, Try.ntmps9
  go_wp2
  go_ret
  exact ⟨rt_int HK.out, (box_below _ _).alloc (box_below _ _).size _⟩
set_option maxHeartbeats 1000000 in
theorem refCheck_2 (n : Int) (a : Option Addr) (len cap : Nat) (cut cl per : Int) (i f o m c s u t : Int) (w : World) (h1 : 1 ≤ i) (h : f < 0) :
    Calls Try.prog 9 #[.agg #[.int .i64 n, .slice a len cap, .int .i64 cut, .int .i64 cl, .int .i64 per], .int .i64 t, .agg #[.int .i64 i, .int .i64 f, .int .i64 o, .int .i64 m, .int .i64 c, .int .i64 s, .int .i64 u]] w fun e w' => e = .returned (.int .i64 (ckS n cut cl i f o m c s u t)) ∧ Below w.heap.size w w' := by
  have HK : Hid ((1 : Int) = ckS n cut cl i f o m c s u t) := ck_no (pay_bad (by omega))
  go_enter Try.func9, Try.ntmps9
  go_wp2
  go_ret
  exact ⟨rt_int HK.out, (box_below _ _).alloc (box_below _ _).size _⟩
set_option maxHeartbeats 1000000 in
theorem refCheck_3 (n : Int) (a : Option Addr) (len cap : Nat) (cut cl per : Int) (i f o m c s u t : Int) (w : World) (h1 : 1 ≤ i) (h2 : 0 ≤ f) (h : n ≤ f) :
    Calls Try.prog 9 #[.agg #[.int .i64 n, .slice a len cap, .int .i64 cut, .int .i64 cl, .int .i64 per], .int .i64 t, .agg #[.int .i64 i, .int .i64 f, .int .i64 o, .int .i64 m, .int .i64 c, .int .i64 s, .int .i64 u]] w fun e w' => e = .returned (.int .i64 (ckS n cut cl i f o m c s u t)) ∧ Below w.heap.size w w' := by
  have HK : Hid ((1 : Int) = ckS n cut cl i f o m c s u t) := ck_no (pay_bad (by omega))
  go_enter Try.func9, Try.ntmps9
  go_wp2
  go_ret
  exact ⟨rt_int HK.out, (box_below _ _).alloc (box_below _ _).size _⟩
set_option maxHeartbeats 1000000 in
theorem refCheck_4 (n : Int) (a : Option Addr) (len cap : Nat) (cut cl per : Int) (i f o m c s u t : Int) (w : World) (h1 : 1 ≤ i) (h2 : 0 ≤ f) (h3 : f < n) (h : o < 0) :
    Calls Try.prog 9 #[.agg #[.int .i64 n, .slice a len cap, .int .i64 cut, .int .i64 cl, .int .i64 per], .int .i64 t, .agg #[.int .i64 i, .int .i64 f, .int .i64 o, .int .i64 m, .int .i64 c, .int .i64 s, .int .i64 u]] w fun e w' => e = .returned (.int .i64 (ckS n cut cl i f o m c s u t)) ∧ Below w.heap.size w w' := by
  have HK : Hid ((1 : Int) = ckS n cut cl i f o m c s u t) := ck_no (pay_bad (by omega))
  go_enter Try.func9, Try.ntmps9
  go_wp2
  go_ret
  exact ⟨rt_int HK.out, (box_below _ _).alloc (box_below _ _).size _⟩
set_option maxHeartbeats 1000000 in
theorem refCheck_5 (n : Int) (a : Option Addr) (len cap : Nat) (cut cl per : Int) (i f o m c s u t : Int) (w : World) (h1 : 1 ≤ i) (h2 : 0 ≤ f) (h3 : f < n) (h4 : 0 ≤ o) (h : n ≤ o) :
    Calls Try.prog 9 #[.agg #[.int .i64 n, .slice a len cap, .int .i64 cut, .int .i64 cl, .int .i64 per], .int .i64 t, .agg #[.int .i64 i, .int .i64 f, .int .i64 o, .int .i64 m, .int .i64 c, .int .i64 s, .int .i64 u]] w fun e w' => e = .returned (.int .i64 (ckS n cut cl i f o m c s u t)) ∧ Below w.heap.size w w' := by
  have HK : Hid ((1 : Int) = ckS n cut cl i f o m c s u t) := ck_no (pay_bad (by omega))
  go_enter Try.func9, Try.ntmps9
  go_wp2
  go_ret
  exact ⟨rt_int HK.out, (box_below _ _).alloc (box_below _ _).size _⟩
set_option maxHeartbeats 1000000 in
theorem refCheck_6 (n : Int) (a : Option Addr) (len cap : Nat) (cut cl per : Int) (i f o m c s u t : Int) (w : World) (h1 : 1 ≤ i) (h2 : 0 ≤ f) (h3 : f < n) (h4 : 0 ≤ o) (h5 : o < n) (h : f = o) :
    Calls Try.prog 9 #[.agg #[.int .i64 n, .slice a len cap, .int .i64 cut, .int .i64 cl, .int .i64 per], .int .i64 t, .agg #[.int .i64 i, .int .i64 f, .int .i64 o, .int .i64 m, .int .i64 c, .int .i64 s, .int .i64 u]] w fun e w' => e = .returned (.int .i64 (ckS n cut cl i f o m c s u t)) ∧ Below w.heap.size w w' := by
  have HK : Hid ((1 : Int) = ckS n cut cl i f o m c s u t) := ck_no (pay_bad (by omega))
  subst h
  go_enter Try.func9, Try.ntmps9
  go_wp2
  go_ret
  exact ⟨rt_int HK.out, (box_below _ _).alloc (box_below _ _).size _⟩
set_option maxHeartbeats 1000000 in
theorem refCheck_7 (n : Int) (a : Option Addr) (len cap : Nat) (cut cl per : Int) (i f o m c s u t : Int) (w : World) (h1 : 1 ≤ i) (h2 : 0 ≤ f) (h3 : f < n) (h4 : 0 ≤ o) (h5 : o < n) (h6 : ¬ f = o) (h : m < 1) :
    Calls Try.prog 9 #[.agg #[.int .i64 n, .slice a len cap, .int .i64 cut, .int .i64 cl, .int .i64 per], .int .i64 t, .agg #[.int .i64 i, .int .i64 f, .int .i64 o, .int .i64 m, .int .i64 c, .int .i64 s, .int .i64 u]] w fun e w' => e = .returned (.int .i64 (ckS n cut cl i f o m c s u t)) ∧ Below w.heap.size w w' := by
  have HK : Hid ((1 : Int) = ckS n cut cl i f o m c s u t) := ck_no (pay_bad (by omega))
  have h6' : (f == o) = false := by simpa using h6
  clear h6
  go_enter Try.func9, Try.ntmps9
  go_wp2
  go_ret
  exact ⟨rt_int HK.out, (box_below _ _).alloc (box_below _ _).size _⟩

end Go.Proofs.Ytddikbkodinmiaa
