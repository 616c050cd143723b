/-
  HeaderBack: for all shapes and addresses the statement's function returns true, and writes nothing that was there.
-/
import Derived.Test.YtjefajpipgicdaaHNext
set_option linter.unusedVariables false
namespace Go.Proofs.Ytjefajpipgicdaa.V
open Go.RowKit


theorem or_low (x : Nat) (h : x < 2 ^ 64) : ∃ p : Nat, bits .or .u64 ((x : Int) / 2) 1 = (p : Int) ∧ 1 ≤ p ∧ p ≤ 9223372036854775807 := by
  have h1 := u64_or_nat (x / 2) 1 (by omega) (by omega)
  have h2 : x / 2 ||| 1 < 2 ^ 63 := Nat.or_lt_two_pow (by omega) (by omega)
  have h3 : 1 ≤ x / 2 ||| 1 := Nat.right_le_or
  exact ⟨x / 2 ||| 1, by simpa using h1, h3, by omega⟩
end Go.Proofs.Ytjefajpipgicdaa.V
