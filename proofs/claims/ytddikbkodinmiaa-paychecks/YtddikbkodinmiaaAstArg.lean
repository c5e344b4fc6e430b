/-
  Assets as a law is handed them.
-/
import Derived.Test.YtddikbkodinmiaaAsts
import Derived.Test.YtddikbkodinmiaaPlainSl
namespace Go.Proofs.Ytddikbkodinmiaa
open Go.ChangeShapes Go.WideShapes Go.ChangeAt Go.RowKit

theorem asts_of {w : World} {a : Option Addr} {len : Nat} {Z : Nat → Nat → Int} (h : PlainRows w a len 2 Z) : Asts w a len (fun i => Z i 0) (fun i => Z i 1) := by
  rcases h with h | ⟨b, off, ha, hb, hc⟩
  · exact .inl h
  · exact .inr ⟨b, off, ha, hb, fun r hr => ⟨(hc r hr 0 (by omega)).1, (hc r hr 1 (by omega)).1⟩⟩

end Go.Proofs.Ytddikbkodinmiaa
