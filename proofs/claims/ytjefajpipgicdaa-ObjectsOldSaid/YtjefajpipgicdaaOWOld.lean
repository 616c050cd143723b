/-
  ObjectsOld, walked with the program's own functions.
-/
import Derived.Test.YtjefajpipgicdaaOProg
import Derived.Test.YtjefajpipgicdaaOLawOld
set_option linter.unusedVariables false
namespace Go.Proofs.Ytjefajpipgicdaa.V
open Go.RowKit

theorem objectsOld_walk (ao : Option Addr) (cap : Nat) (l : List RawV) (w : World) (u : Rw rc 4 w ao l) (b : ∀ r ∈ l, r.ok w) (_ : l.length ≤ cap) (_ : cap ≤ 9223372036854775807) (_ : ao = none → cap = 0) :
    Calls Try.prog 5 #[.slice ao l.length cap] w fun e w' => e = .returned (.bool true) ∧ Below w.heap.size w w' :=
  objectsOld_try objC ao cap _ l w rfl b u
end Go.Proofs.Ytjefajpipgicdaa.V
