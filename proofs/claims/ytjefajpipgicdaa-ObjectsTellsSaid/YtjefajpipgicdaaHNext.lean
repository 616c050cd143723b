/-
  HeaderNext: for every address and shape the statement's function returns true, and writes nothing that was there.
-/
import Derived.Test.YtjefajpipgicdaaHAwake
set_option linter.unusedVariables false
namespace Go.Proofs.Ytjefajpipgicdaa.V
open Go.RowKit

theorem href_ok (a : Nat) (h1 : 1 ≤ a) (h2 : a ≤ 9223372036854775807) : href a = (2 * a + 1, 0) := by unfold href; rw [if_pos ⟨h1, h2⟩]
theorem href_no (a : Nat) (h : ¬ (1 ≤ a ∧ a ≤ 9223372036854775807)) : href a = (0, 1) := by unfold href; rw [if_neg h]
theorem hAddressYes (A : Int) (a v : Nat) (w : World) (hA : A = (a : Int)) (h1 : 1 ≤ v) (hv : 2 * v + 1 = a) (ha : a < 2 ^ 64) : Calls Try.prog 26 #[.int .u64 A] w fun e w' => e = .returned (.tuple #[.int .u64 v, .int .i64 0]) ∧ w = w' :=
  hAddressI A a v 0 w hA ha (by rw [← hv, haddr_ref v h1]) (by rw [← hv, haddr_ref v h1]; rfl)


theorem or_top (p : Nat) (h : p ≤ 9223372036854775806) : bits .or .u64 (p : Int) 9223372036854775808 = ((9223372036854775808 + p : Nat) : Int) := by
  have h1 := u64_or_nat p 9223372036854775808 (by omega) (by omega)
  have h2 : p ||| 9223372036854775808 = 9223372036854775808 + p := by
    have := Nat.two_pow_add_eq_or_of_lt (i := 63) (b := p) (by omega) 1
    rw [Nat.or_comm]
    simpa using this.symm
  rw [h2] at h1
  exact h1
theorem hpack_parts (s t : Nat) (h0 : s ≤ 255) (h00 : t ≤ s) : hpack s t % 131072 = 2 * s ∧ hpack s t / 131072 = t := by unfold hpack; omega
end Go.Proofs.Ytjefajpipgicdaa.V
