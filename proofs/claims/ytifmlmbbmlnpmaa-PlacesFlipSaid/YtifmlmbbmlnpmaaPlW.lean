/-
  The six laws of places, walked with the program's own functions.
-/
import Derived.Test.YtifmlmbbmlnpmaaPlProg
import Derived.Test.YtifmlmbbmlnpmaaPlTells
import Derived.Test.YtifmlmbbmlnpmaaPlBack
import Derived.Test.YtifmlmbbmlnpmaaPlFlip
import Derived.Test.YtifmlmbbmlnpmaaPlOrder
import Derived.Test.YtifmlmbbmlnpmaaPlMoved
import Derived.Test.YtifmlmbbmlnpmaaPlTwo
set_option linter.unusedVariables false
namespace Go.Proofs.Ytifmlmbbmlnpmaa.V
open Go.RowKit

theorem placesTells_walk (l : Lo) (b : Nat) (n0 n1 n2 n3 n4 n5 : Int) (wh : Int) (x : Int) (pa pb : Int) (ad : Nat) (w : World) (lb : l.bd) (bu : b < 2 ^ 64) (s0 : i64 n0) (s1 : i64 n1) (s2 : i64 n2) (s3 : i64 n3) (s4 : i64 n4) (s5 : i64 n5) (wh0 : -9223372036854775808 ≤ wh) (wh1 : wh ≤ 9223372036854775807) (x0 : -9223372036854775808 ≤ x) (x1 : x ≤ 9223372036854775807) (p0 : i64 pa) (p1 : i64 pb) (adu : ad < 2 ^ 64) :
    Calls Try.prog 3 #[.agg #[.int .u64 (l.base : Int), .int .i64 l.cap, .int .i64 l.to, .int .i64 l.low, .int .i64 l.high, .int .i64 l.old, .int .i64 l.far], .int .u64 (b : Int), .agg #[.int .i64 n0, .int .i64 n1, .int .i64 n2, .int .i64 n3, .int .i64 n4, .int .i64 n5], .int .i64 wh, .int .i64 x, .agg #[.int .i64 pa, .int .i64 pb], .int .u64 (ad : Int)] w fun e w' => e = .returned (.bool true) ∧ Below w.heap.size w w' :=
  placesTells_try plC l b n0 n1 n2 n3 n4 n5 wh x pa pb ad w lb bu s0 s1 s2 s3 s4 s5 ⟨wh0, wh1⟩ ⟨x0, x1⟩ p0 p1 adu
theorem placesBack_walk (b : Nat) (n0 n1 n2 n3 n4 n5 : Int) (w : World) (bu : b < 2 ^ 64) (s0 : i64 n0) (s1 : i64 n1) (s2 : i64 n2) (s3 : i64 n3) (s4 : i64 n4) (s5 : i64 n5) :
    Calls Try.prog 4 #[.int .u64 (b : Int), .agg #[.int .i64 n0, .int .i64 n1, .int .i64 n2, .int .i64 n3, .int .i64 n4, .int .i64 n5]] w fun e w' => e = .returned (.bool true) ∧ Below w.heap.size w w' :=
  placesBack_try plC b n0 n1 n2 n3 n4 n5 w bu s0 s1 s2 s3 s4 s5
theorem placesFlip_walk (b : Nat) (n0 n1 n2 n3 n4 n5 : Int) (k : Int) (w : World) (bu : b < 2 ^ 64) (s0 : i64 n0) (s1 : i64 n1) (s2 : i64 n2) (s3 : i64 n3) (s4 : i64 n4) (s5 : i64 n5) (k0 : -9223372036854775808 ≤ k) (k1 : k ≤ 9223372036854775807) :
    Calls Try.prog 5 #[.int .u64 (b : Int), .agg #[.int .i64 n0, .int .i64 n1, .int .i64 n2, .int .i64 n3, .int .i64 n4, .int .i64 n5], .int .i64 k] w fun e w' => e = .returned (.bool true) ∧ Below w.heap.size w w' :=
  placesFlip_try plC b n0 n1 n2 n3 n4 n5 k w bu s0 s1 s2 s3 s4 s5 ⟨k0, k1⟩
theorem placesOrder_walk (b : Nat) (n0 n1 n2 n3 n4 n5 : Int) (w : World) (bu : b < 2 ^ 64) (s0 : i64 n0) (s1 : i64 n1) (s2 : i64 n2) (s3 : i64 n3) (s4 : i64 n4) (s5 : i64 n5) :
    Calls Try.prog 6 #[.int .u64 (b : Int), .agg #[.int .i64 n0, .int .i64 n1, .int .i64 n2, .int .i64 n3, .int .i64 n4, .int .i64 n5]] w fun e w' => e = .returned (.bool true) ∧ Below w.heap.size w w' :=
  placesOrder_try plC b n0 n1 n2 n3 n4 n5 w bu s0 s1 s2 s3 s4 s5
theorem placesMoved_walk (b : Nat) (n0 n1 n2 n3 n4 n5 : Int) (ot : Nat) (mo : Int) (pt : Int) (k : Int) (w : World) (bu : b < 2 ^ 64) (s0 : i64 n0) (s1 : i64 n1) (s2 : i64 n2) (s3 : i64 n3) (s4 : i64 n4) (s5 : i64 n5) (otu : ot < 2 ^ 64) (mo0 : -9223372036854775808 ≤ mo) (mo1 : mo ≤ 9223372036854775807) (pt0 : -9223372036854775808 ≤ pt) (pt1 : pt ≤ 9223372036854775807) (k0 : -9223372036854775808 ≤ k) (k1 : k ≤ 9223372036854775807) :
    Calls Try.prog 7 #[.int .u64 (b : Int), .agg #[.int .i64 n0, .int .i64 n1, .int .i64 n2, .int .i64 n3, .int .i64 n4, .int .i64 n5], .int .u64 (ot : Int), .int .i64 mo, .int .i64 pt, .int .i64 k] w fun e w' => e = .returned (.bool true) ∧ Below w.heap.size w w' :=
  placesMoved_try plC b n0 n1 n2 n3 n4 n5 ot mo pt k w bu s0 s1 s2 s3 s4 s5 otu ⟨mo0, mo1⟩ ⟨pt0, pt1⟩ ⟨k0, k1⟩
theorem placesTwo_walk (b : Nat) (n0 n1 n2 n3 n4 n5 : Int) (pa pb : Int) (qa qb : Int) (w : World) (bu : b < 2 ^ 64) (s0 : i64 n0) (s1 : i64 n1) (s2 : i64 n2) (s3 : i64 n3) (s4 : i64 n4) (s5 : i64 n5) (p0 : i64 pa) (p1 : i64 pb) (q0 : i64 qa) (q1 : i64 qb) :
    Calls Try.prog 8 #[.int .u64 (b : Int), .agg #[.int .i64 n0, .int .i64 n1, .int .i64 n2, .int .i64 n3, .int .i64 n4, .int .i64 n5], .agg #[.int .i64 pa, .int .i64 pb], .agg #[.int .i64 qa, .int .i64 qb]] w fun e w' => e = .returned (.bool true) ∧ Below w.heap.size w w' :=
  placesTwo_try plC b n0 n1 n2 n3 n4 n5 pa pb qa qb w bu s0 s1 s2 s3 s4 s5 p0 p1 q0 q1
end Go.Proofs.Ytifmlmbbmlnpmaa.V
