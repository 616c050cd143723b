/-
  A law of graph, walked with the program's own functions: GraphKeeps.
-/
import Derived.Test.YtjoacfjbdpmgpaaGProg9
import Derived.Test.YtjoacfjbdpmgpaaGKeepsW
set_option linter.unusedVariables false
namespace Go.Proofs.Ytjoacfjbdpmgpaa.V
open Go.RowKit

theorem graphKeeps_walk (lo : Option Addr) (lc : Nat) (raws : List NdV) (ro : Option Addr) (rc : Nat) (roots : List Int) (p : I5) (v : Nat) (w : World) (hL : Rw nc 2 w lo raws) (hK : ∀ x ∈ raws, x.ok w) (hlm : raws.length ≤ lc) (hlc : lc ≤ 9223372036854775807) (hln : lo = none → lc = 0) (hR : Rw ic 1 w ro roots) (hRb : ∀ p ∈ roots, ib p) (hrm : roots.length ≤ rc) (hrc : rc ≤ 9223372036854775807) (hrn : ro = none → rc = 0) (hp : p.ok) (vu : v < 2 ^ 64) :
    Calls Try.prog 5 #[.slice lo raws.length lc, .slice ro roots.length rc, .agg #[.int .i64 p.n0, .int .i64 p.n1, .int .i64 p.n2, .int .i64 p.n3, .int .i64 p.n4], .int .u64 (v : Int)] w fun e w' => e = .returned (.bool true) ∧ Below w.heap.size w w' :=
  graphKeeps_try grC lo ro _ lc _ rc raws roots p v w rfl rfl hlm hlc hrm hrc hL hK hR hRb hp vu
end Go.Proofs.Ytjoacfjbdpmgpaa.V
