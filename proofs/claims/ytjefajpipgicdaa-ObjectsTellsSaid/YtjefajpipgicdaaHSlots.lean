/-
  HeaderSlots: for every shape the statement's function returns true, and writes nothing that was there.
-/
import Derived.Test.YtjefajpipgicdaaHAwake
set_option linter.unusedVariables false
namespace Go.Proofs.Ytjefajpipgicdaa.V
open Go.RowKit

theorem hPackYesI (S P : Int) (s p v : Nat) (w : World) (hS : S = (s : Int)) (hP : P = (p : Int)) (h1 : s ≤ 255) (h2 : p ≤ s) (hv : hpack s p = v) : Calls Try.prog 25 #[.agg #[.int .i64 S, .int .i64 P]] w fun e w' => e = .returned (.tuple #[.int .u64 v, .int .i64 0]) ∧ Below w.heap.size w w' := by
  subst hS; subst hP; exact hPackYes s p v w h1 h2 hv
end Go.Proofs.Ytjefajpipgicdaa.V
