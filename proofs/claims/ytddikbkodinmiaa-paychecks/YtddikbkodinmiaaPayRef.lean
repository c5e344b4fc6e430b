/-
  pay: giroref11.Check: its answer.
-/
import Derived.Test.YtddikbkodinmiaaPayRefA
import Derived.Test.YtddikbkodinmiaaPayRefB
namespace Go.Proofs.Ytddikbkodinmiaa
open Go.RowKit
set_option linter.unusedVariables false
set_option linter.unusedSimpArgs false

set_option maxHeartbeats 4000000 in
theorem refCheck_any (n : Int) (a : Option Addr) (len cap : Nat) (cut cl per : Int) (i f o m c s u t : Int) (w : World) :
    Calls Try.prog 9 #[.agg #[.int .i64 n, .slice a len cap, .int .i64 cut, .int .i64 cl, .int .i64 per], .int .i64 t, .agg #[.int .i64 i, .int .i64 f, .int .i64 o, .int .i64 m, .int .i64 c, .int .i64 s, .int .i64 u]] w fun e w' => e = .returned (.int .i64 (ckS n cut cl i f o m c s u t)) ∧ Below w.heap.size w w' := by
  rcases Int.lt_or_le i 1 with h1 | h1
  · exact refCheck_1 n a len cap cut cl per i f o m c s u t w  h1
  rcases Int.lt_or_le f 0 with h2 | h2
  · exact refCheck_2 n a len cap cut cl per i f o m c s u t w h1 h2
  rcases Int.lt_or_le f n with h3 | h3
  rotate_left
  · exact refCheck_3 n a len cap cut cl per i f o m c s u t w h1 h2 h3
  rcases Int.lt_or_le o 0 with h4 | h4
  · exact refCheck_4 n a len cap cut cl per i f o m c s u t w h1 h2 h3 h4
  rcases Int.lt_or_le o n with h5 | h5
  rotate_left
  · exact refCheck_5 n a len cap cut cl per i f o m c s u t w h1 h2 h3 h4 h5
  by_cases h6 : f = o
  · exact refCheck_6 n a len cap cut cl per i f o m c s u t w h1 h2 h3 h4 h5 h6
  rcases Int.lt_or_le m 1 with h7 | h7
  · exact refCheck_7 n a len cap cut cl per i f o m c s u t w h1 h2 h3 h4 h5 h6 h7
  rcases Int.lt_or_le 1099511627776 m with h8 | h8
  · exact refCheck_8 n a len cap cut cl per i f o m c s u t w h1 h2 h3 h4 h5 h6 h7 h8
  rcases Int.lt_or_le c 1 with h9 | h9
  · exact refCheck_9 n a len cap cut cl per i f o m c s u t w h1 h2 h3 h4 h5 h6 h7 h8 h9
  rcases Int.lt_or_le 3 c with h10 | h10
  · exact refCheck_10 n a len cap cut cl per i f o m c s u t w h1 h2 h3 h4 h5 h6 h7 h8 h9 h10
  rcases Int.lt_or_le s 0 with h11 | h11
  · exact refCheck_11 n a len cap cut cl per i f o m c s u t w h1 h2 h3 h4 h5 h6 h7 h8 h9 h10 h11
  rcases Int.lt_or_le u s with h12 | h12
  · exact refCheck_12 n a len cap cut cl per i f o m c s u t w h1 h2 h3 h4 h5 h6 h7 h8 h9 h10 h11 h12
  rcases Int.lt_or_le u t with h13 | h13
  · exact refCheck_13 n a len cap cut cl per i f o m c s u t w h1 h2 h3 h4 h5 h6 h7 h8 h9 h10 h11 h12 h13
  rcases Int.lt_or_le 1048576 u with h14 | h14
  · exact refCheck_14 n a len cap cut cl per i f o m c s u t w h1 h2 h3 h4 h5 h6 h7 h8 h9 h10 h11 h12 h13 h14
  have HK : Hid (mayS cut cl t c = ckS n cut cl i f o m c s u t) := ck_yes (pay_good ⟨h1, ⟨h2, h3⟩, ⟨h4, h5⟩, h6, ⟨h7, h8⟩, ⟨h9, h10⟩, h11, h12, h13, h14⟩)
  have T5 := refMay_any n a len cap cut cl per t c
  have h6' : (f == o) = false := by simpa using h6
  generalize ckS n cut cl i f o m c s u t = K at HK ⊢
  generalize mayS cut cl t c = M at HK T5
  have B2 : Hid (Below w.heap.size w ((w.alloc (.cells #[.int .i64 n, .slice a len cap, .int .i64 cut, .int .i64 cl, .int .i64 per] 24)).alloc (.cells #[.int .i64 i, .int .i64 f, .int .i64 o, .int .i64 m, .int .i64 c, .int .i64 s, .int .i64 u] 26))) := (box_below _ _).alloc (box_below _ _).size _
  clear h6
  go_enter Try.func9, Try.ntmps9
  go_wp2_with fail
  go_at_call 23
  refine (T5 _).mono ?_
  rintro e w6 ⟨rfl, hb⟩
  have B6 : Hid (Below w.heap.size w w6) := B2.out.trans (hb.mono B2.out.size)
  clear hb T5
  go_wp2
  go_ret
  exact ⟨rt_int HK.out, B6.out⟩

end Go.Proofs.Ytddikbkodinmiaa
