/-
  ObjectsSlots, walked with the program's own functions.
-/
import Derived.Test.YtjefajpipgicdaaOProg
import Derived.Test.YtjefajpipgicdaaOLawSlots
set_option linter.unusedVariables false
namespace Go.Proofs.Ytjefajpipgicdaa.V
open Go.RowKit

theorem objectsSlots_walk (ao : Option Addr) (cap : Nat) (l : List RawV) (c : Int) (x : Nat) (w : World) (u : Rw rc 4 w ao l) (b : ∀ r ∈ l, r.ok w) (_ : l.length ≤ cap) (_ : cap ≤ 9223372036854775807) (_ : ao = none → cap = 0) (b0 : -9223372036854775808 ≤ c) (b1 : c ≤ 9223372036854775807) (hx : x < 2 ^ 64) :
    Calls Try.prog 7 #[.slice ao l.length cap, .int .i64 c, .int .u64 x] w fun e w' => e = .returned (.bool true) ∧ Below w.heap.size w w' :=
  objectsSlots_try objC ao cap _ l c x w rfl b u b0 b1 hx
end Go.Proofs.Ytjefajpipgicdaa.V
