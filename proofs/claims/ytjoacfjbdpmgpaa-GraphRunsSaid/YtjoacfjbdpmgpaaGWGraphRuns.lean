/-
  A law of graph, walked with the program's own functions: GraphRuns.
-/
import Derived.Test.YtjoacfjbdpmgpaaGProg9
import Derived.Test.YtjoacfjbdpmgpaaGRunsW
set_option linter.unusedVariables false
namespace Go.Proofs.Ytjoacfjbdpmgpaa.V
open Go.RowKit

theorem graphRuns_walk (lo : Option Addr) (lc : Nat) (raws : List NdV) (ro : Option Addr) (rc : Nat) (roots : List Int) (s : Int) (i : Int) (v : Nat) (co : Option Addr) (cc : Nat) (acts : List I5) (w : World) (hL : Rw nc 2 w lo raws) (hK : ∀ x ∈ raws, x.ok w) (hlm : raws.length ≤ lc) (hlc : lc ≤ 9223372036854775807) (hln : lo = none → lc = 0) (hR : Rw ic 1 w ro roots) (hRb : ∀ p ∈ roots, ib p) (hrm : roots.length ≤ rc) (hrc : rc ≤ 9223372036854775807) (hrn : ro = none → rc = 0) (s0 : -9223372036854775808 ≤ s) (s1 : s ≤ 9223372036854775807) (i0 : -9223372036854775808 ≤ i) (i1 : i ≤ 9223372036854775807) (vu : v < 2 ^ 64) (hT : Rw i5c 5 w co acts) (hTb : ∀ x ∈ acts, x.ok) (hac : acts.length ≤ cc) (hcm : cc ≤ 9223372036854775807) (hcn : co = none → cc = 0) :
    Calls Try.prog 7 #[.slice lo raws.length lc, .slice ro roots.length rc, .int .i64 s, .int .i64 i, .int .u64 (v : Int), .slice co acts.length cc] w fun e w' => e = .returned (.bool true) ∧ Below w.heap.size w w' :=
  graphRuns_try grC lo ro _ lc _ rc raws roots s i v co _ cc acts w rfl rfl hlm hlc hrm hrc hL hK hR hRb ⟨s0, s1⟩ ⟨i0, i1⟩ vu rfl hac hcm hT hTb
end Go.Proofs.Ytjoacfjbdpmgpaa.V
