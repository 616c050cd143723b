/-
  A law of graph, walked with the program's own functions: GraphRoots.
-/
import Derived.Test.YtjoacfjbdpmgpaaGProg9
import Derived.Test.YtjoacfjbdpmgpaaGRootsW
set_option linter.unusedVariables false
namespace Go.Proofs.Ytjoacfjbdpmgpaa.V
open Go.RowKit

theorem graphRoots_walk (lo : Option Addr) (lc : Nat) (raws : List NdV) (ro : Option Addr) (rc : Nat) (roots : List Int) (r : Int) (s : Int) (i : Int) (v : Nat) (w : World) (hL : Rw nc 2 w lo raws) (hK : ∀ x ∈ raws, x.ok w) (hlm : raws.length ≤ lc) (hlc : lc ≤ 9223372036854775807) (hln : lo = none → lc = 0) (hR : Rw ic 1 w ro roots) (hRb : ∀ p ∈ roots, ib p) (hrm : roots.length ≤ rc) (hrc : rc ≤ 9223372036854775807) (hrn : ro = none → rc = 0) (r0 : -9223372036854775808 ≤ r) (r1 : r ≤ 9223372036854775807) (s0 : -9223372036854775808 ≤ s) (s1 : s ≤ 9223372036854775807) (i0 : -9223372036854775808 ≤ i) (i1 : i ≤ 9223372036854775807) (vu : v < 2 ^ 64) :
    Calls Try.prog 6 #[.slice lo raws.length lc, .slice ro roots.length rc, .int .i64 r, .int .i64 s, .int .i64 i, .int .u64 (v : Int)] w fun e w' => e = .returned (.bool true) ∧ Below w.heap.size w w' :=
  graphRoots_try grC lo ro _ lc _ rc raws roots r s i v w rfl rfl hlm hlc hrm hrc hL hK hR hRb ⟨r0, r1⟩ ⟨s0, s1⟩ ⟨i0, i1⟩ vu
end Go.Proofs.Ytjoacfjbdpmgpaa.V
