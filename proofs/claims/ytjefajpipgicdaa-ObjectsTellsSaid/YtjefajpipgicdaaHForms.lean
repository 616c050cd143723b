/-
  HeaderForms: for every word the statement's function returns true, and writes nothing that was there.
-/
import Derived.Test.YtjefajpipgicdaaHBack
import Derived.Test.YtjefajpipgicdaaHSlots
set_option linter.unusedVariables false
namespace Go.Proofs.Ytjefajpipgicdaa.V
open Go.RowKit

/-- What becomes of a word: a header other than 0, 0, a pointer, or neither. -/
theorem word_cases (x : Nat) (hx : x < 2 ^ 64) : (x = 0) ∨ (∃ s p : Nat, x ≠ 0 ∧ s ≤ 255 ∧ p ≤ s ∧ hpack s p = x ∧ hunpack x = (s, p, 0) ∧ haddr x = (0, 3)) ∨
    (∃ a : Nat, x ≠ 0 ∧ 1 ≤ a ∧ a ≤ 9223372036854775807 ∧ 2 * a + 1 = x ∧ hunpack x = (0, 0, 3) ∧ haddr x = (a, 0)) ∨ (x ≠ 0 ∧ hunpack x = (0, 0, 3) ∧ haddr x = (0, 3)) := by
  by_cases h0 : x = 0
  · exact Or.inl h0
  refine Or.inr ?_
  by_cases hu : (hunpack x).2.2 = 0
  · obtain ⟨h1, h2, h3⟩ := hunpack_ok x hu
    refine Or.inl ⟨(hunpack x).1, (hunpack x).2.1, h0, h1, h2, h3, ?_, ?_⟩
    · rw [← hu]
    · unfold haddr
      rw [if_neg h0, if_pos (Or.inl (by unfold hpack at h3; omega))]
  · refine Or.inr ?_
    have hu' := hunpack_err x hu
    by_cases h1 : x % 2 = 0 ∨ x = 1
    · exact Or.inr ⟨h0, hu', by unfold haddr; rw [if_neg h0, if_pos h1]⟩
    · exact Or.inl ⟨x / 2, h0, by omega, by omega, by omega, hu', by unfold haddr; rw [if_neg h0, if_neg h1]⟩


end Go.Proofs.Ytjefajpipgicdaa.V
