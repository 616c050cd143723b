/-
  ObjectsParts, walked with the program's own functions.
-/
import Derived.Test.YtjefajpipgicdaaOProg
import Derived.Test.YtjefajpipgicdaaOLawParts
set_option linter.unusedVariables false
namespace Go.Proofs.Ytjefajpipgicdaa.V
open Go.RowKit

theorem objectsParts_walk (ao : Option Addr) (cap : Nat) (l : List RawV) (c : Int) (w : World) (u : Rw rc 4 w ao l) (b : ∀ r ∈ l, r.ok w) (_ : l.length ≤ cap) (_ : cap ≤ 9223372036854775807) (_ : ao = none → cap = 0) (b0 : -9223372036854775808 ≤ c) (b1 : c ≤ 9223372036854775807) :
    Calls Try.prog 6 #[.slice ao l.length cap, .int .i64 c] w fun e w' => e = .returned (.bool true) ∧ Below w.heap.size w w' :=
  objectsParts_try objC ao cap _ l c w rfl b u b0 b1
end Go.Proofs.Ytjefajpipgicdaa.V
