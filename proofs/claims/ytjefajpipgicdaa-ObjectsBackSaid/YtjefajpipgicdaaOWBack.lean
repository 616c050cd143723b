/-
  ObjectsBack, walked with the program's own functions.
-/
import Derived.Test.YtjefajpipgicdaaOProg
import Derived.Test.YtjefajpipgicdaaOLawBack
set_option linter.unusedVariables false
namespace Go.Proofs.Ytjefajpipgicdaa.V
open Go.RowKit

theorem objectsBack_walk (ao : Option Addr) (cap : Nat) (l : List RawV) (w : World) (u : Rw rc 4 w ao l) (b : ∀ r ∈ l, r.ok w) (_ : l.length ≤ cap) (_ : cap ≤ 9223372036854775807) (_ : ao = none → cap = 0) :
    Calls Try.prog 4 #[.slice ao l.length cap] w fun e w' => e = .returned (.bool true) ∧ Below w.heap.size w w' :=
  objectsBack_try objC ao cap _ l w rfl b u
end Go.Proofs.Ytjefajpipgicdaa.V
