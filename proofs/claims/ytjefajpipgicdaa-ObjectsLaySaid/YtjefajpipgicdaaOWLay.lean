/-
  ObjectsLay, walked with the program's own functions.
-/
import Derived.Test.YtjefajpipgicdaaOProg
import Derived.Test.YtjefajpipgicdaaOLawLay
set_option linter.unusedVariables false
namespace Go.Proofs.Ytjefajpipgicdaa.V
open Go.RowKit

theorem objectsLay_walk (r : RawV) (c : Int) (x : Nat) (w : World) (b : r.ok w) (b0 : -9223372036854775808 ≤ c) (b1 : c ≤ 9223372036854775807) (hx : x < 2 ^ 64) :
    Calls Try.prog 8 #[.agg #[.int .i64 r.size, .int .i64 r.ptrs, .slice r.ao r.zs.length r.cap, .bool r.gone], .int .i64 c, .int .u64 x] w fun e w' => e = .returned (.bool true) ∧ Below w.heap.size w w' :=
  objectsLay_try objC r c x w b b0 b1 hx
end Go.Proofs.Ytjefajpipgicdaa.V
