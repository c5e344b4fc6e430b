/-
  Messages that are one, commands that are one: '=='.
-/
import Derived.Test.YtaifnlfebdochaaKnown3
namespace Go.Proofs.Ytaifnlfebdochaa
open Go.RowKit

theorem arr_eq (d : Nat) (w : World) (f0 f1 f2 f3 f4 f5 : Int) : (Op.equalIn (d + 2) 22 (.agg #[.int .i64 f0, .int .i64 f1, .int .i64 f2, .int .i64 f3, .int .i64 f4, .int .i64 f5]) (.agg #[.int .i64 f0, .int .i64 f1, .int .i64 f2, .int .i64 f3, .int .i64 f4, .int .i64 f5])).run Try.prog w = .ok true w := by
  rw [Op.equalIn]
  simp [run_underlying Try.underlying22, Std.Legacy.Range.forIn_eq_forIn_range', List.range', go_sem]

end Go.Proofs.Ytaifnlfebdochaa
