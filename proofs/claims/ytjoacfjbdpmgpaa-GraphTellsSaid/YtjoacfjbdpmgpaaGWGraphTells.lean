/-
  A law of graph, walked with the program's own functions: GraphTells.
-/
import Derived.Test.YtjoacfjbdpmgpaaGProg9
import Derived.Test.YtjoacfjbdpmgpaaGTellsW
set_option linter.unusedVariables false
namespace Go.Proofs.Ytjoacfjbdpmgpaa.V
open Go.RowKit

theorem graphTells_walk (oa sa : Option Addr) (oq sq : Nat) (odd : List NdV) (sroots : List Int) (lo : Option Addr) (lc : Nat) (raws : List NdV) (ro : Option Addr) (rc : Nat) (roots : List Int) (a : Ac) (p : I5) (v : Nat) (w : World) (hOR : Rw nc 2 w oa odd) (hOK : ∀ x ∈ odd, x.ok w) (hSR : Rw ic 1 w sa sroots) (hSB : ∀ p ∈ sroots, ib p) (hNq : odd.length ≤ oq) (hoq : oq ≤ 9223372036854775807) (hon : oa = none → oq = 0) (hMq : sroots.length ≤ sq) (hsq : sq ≤ 9223372036854775807) (hsn : sa = none → sq = 0) (hL : Rw nc 2 w lo raws) (hK : ∀ x ∈ raws, x.ok w) (hlm : raws.length ≤ lc) (hlc : lc ≤ 9223372036854775807) (hln : lo = none → lc = 0) (hR : Rw ic 1 w ro roots) (hRb : ∀ p ∈ roots, ib p) (hrm : roots.length ≤ rc) (hrc : rc ≤ 9223372036854775807) (hrn : ro = none → rc = 0) (hab : ib a.kind ∧ ib a.r ∧ ib a.s ∧ ib a.i ∧ ib a.size ∧ ib a.ptrs) (hav : a.v < 2 ^ 64) (hp : p.ok) (vu : v < 2 ^ 64) :
    Calls Try.prog 3 #[.agg #[.slice oa odd.length oq, .slice sa sroots.length sq], .slice lo raws.length lc, .slice ro roots.length rc, .agg #[.int .i64 a.kind, .int .i64 a.r, .int .i64 a.s, .int .i64 a.i, .int .i64 a.size, .int .i64 a.ptrs, .int .u64 (a.v : Int)], .agg #[.int .i64 p.n0, .int .i64 p.n1, .int .i64 p.n2, .int .i64 p.n3, .int .i64 p.n4], .int .u64 (v : Int)] w fun e w' => e = .returned (.bool true) ∧ Below w.heap.size w w' :=
  graphTells_try grC oa sa _ oq _ sq odd sroots lo ro _ lc _ rc raws roots a p v w rfl rfl hOR hOK hSR hSB hNq hoq hon hMq hsq hsn rfl rfl hlm hlc hrm hrc hL hK hR hRb hab hav hp vu
end Go.Proofs.Ytjoacfjbdpmgpaa.V
