/-
  ObjectsTells, walked with the program's own functions.
-/
import Derived.Test.YtjefajpipgicdaaOProg
import Derived.Test.YtjefajpipgicdaaOTells
set_option linter.unusedVariables false
namespace Go.Proofs.Ytjefajpipgicdaa.V
open Go.RowKit

theorem objectsTells_walk {R4 : Shp → Prop} {R5 : Ob → Prop} (a0 : Option Addr) (c0 : Nat) (zs : List Nat) (aL : Option Addr) (cL : Nat) (l : List RawV) (which : Int) (x : Nat) (aS : Option Addr) (cS : Nat) (shs : List Shp) (aO : Option Addr) (cO : Nat) (ods : List Ob) (S0 P0 : Int) (aQ : Option Addr) (cQ : Nat) (qs : List Nat) (w : World)
    (b0 : ∀ v ∈ zs, v < 2 ^ 64) (u0 : Us w a0 zs) (k0 : zs.length ≤ c0) (e0 : c0 ≤ 9223372036854775807) (f0 : a0 = none → c0 = 0)
    (u1 : Rw rc 4 w aL l) (b1 : ∀ r ∈ l, r.ok w) (_ : l.length ≤ cL) (_ : cL ≤ 9223372036854775807) (_ : aL = none → cL = 0)
    (g0 : -9223372036854775808 ≤ which) (g1 : which ≤ 9223372036854775807) (hx : x < 2 ^ 64)
    (u4 : Rw sc 2 w aS shs) (_ : ∀ r ∈ shs, R4 r) (k4 : shs.length ≤ cS) (e4 : cS ≤ 9223372036854775807) (f4 : aS = none → cS = 0)
    (u5 : Rw oc 5 w aO ods) (_ : ∀ r ∈ ods, R5 r) (k5 : ods.length ≤ cO) (e5 : cO ≤ 9223372036854775807) (f5 : aO = none → cO = 0)
    (s0 : -9223372036854775808 ≤ S0) (s1 : S0 ≤ 9223372036854775807) (p0 : -9223372036854775808 ≤ P0) (p1 : P0 ≤ 9223372036854775807)
    (b7 : ∀ v ∈ qs, v < 2 ^ 64) (u7 : Us w aQ qs) (k7 : qs.length ≤ cQ) (e7 : cQ ≤ 9223372036854775807) (f7 : aQ = none → cQ = 0) :
    Calls Try.prog 3 #[.slice a0 zs.length c0, .slice aL l.length cL, .int .i64 which, .int .u64 x, .slice aS shs.length cS, .slice aO ods.length cO, .agg #[.int .i64 S0, .int .i64 P0], .slice aQ qs.length cQ] w fun e w' => e = .returned (.bool true) ∧ Below w.heap.size w w' :=
  objectsTells_try objC a0 aL aS aO aQ c0 cL cS cO cQ _ _ _ _ _ zs l which x shs ods S0 P0 qs w rfl b0 u0 k0 e0 f0 rfl b1 u1 g0 g1 hx rfl u4 k4 e4 f4 rfl u5 k5 e5 f5 s0 s1 p0 p1 rfl b7 u7 k7 e7 f7
end Go.Proofs.Ytjefajpipgicdaa.V
