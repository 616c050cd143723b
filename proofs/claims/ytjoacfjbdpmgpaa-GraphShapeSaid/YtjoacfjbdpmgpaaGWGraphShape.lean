/-
  A law of graph, walked with the program's own functions: GraphShape.
-/
import Derived.Test.YtjoacfjbdpmgpaaGProg9
import Derived.Test.YtjoacfjbdpmgpaaGShapeW
set_option linter.unusedVariables false
namespace Go.Proofs.Ytjoacfjbdpmgpaa.V
open Go.RowKit

theorem graphShape_walk (lo : Option Addr) (lc : Nat) (raws : List NdV) (ro : Option Addr) (rc : Nat) (roots : List Int) (r : Int) (si : Int) (pi : Int) (w : World) (hL : Rw nc 2 w lo raws) (hK : ∀ x ∈ raws, x.ok w) (hlm : raws.length ≤ lc) (hlc : lc ≤ 9223372036854775807) (hln : lo = none → lc = 0) (hR : Rw ic 1 w ro roots) (hRb : ∀ p ∈ roots, ib p) (hrm : roots.length ≤ rc) (hrc : rc ≤ 9223372036854775807) (hrn : ro = none → rc = 0) (r0 : -9223372036854775808 ≤ r) (r1 : r ≤ 9223372036854775807) (si0 : -9223372036854775808 ≤ si) (si1 : si ≤ 9223372036854775807) (pi0 : -9223372036854775808 ≤ pi) (pi1 : pi ≤ 9223372036854775807) :
    Calls Try.prog 8 #[.slice lo raws.length lc, .slice ro roots.length rc, .int .i64 r, .int .i64 si, .int .i64 pi] w fun e w' => e = .returned (.bool true) ∧ Below w.heap.size w w' :=
  graphShape_try grC lo ro _ lc _ rc raws roots r si pi w rfl rfl hlm hlc hrm hrc hL hK hR hRb ⟨r0, r1⟩ ⟨si0, si1⟩ ⟨pi0, pi1⟩
end Go.Proofs.Ytjoacfjbdpmgpaa.V
