/-
  The program's functions of package header, walked: Right, Pack, part, Unpack, Ref, Address answer as the functions on plain numbers.
-/
import Derived.Test.YtjoacfjbdpmgpaaHRef
set_option linter.unusedVariables false
namespace Go.Proofs.Ytjoacfjbdpmgpaa.V
open Go.RowKit

theorem hRightNo (s p : Int) (w : World) (h : ¬ hright s p) : Calls Try.prog 48 #[.agg #[.int .i64 s, .int .i64 p]] w fun e w' => e = .returned (.bool false) ∧ Below w.heap.size w w' := by
  by_cases h1 : p < 0
  · have d1 : decide (0 ≤ p) = false := by simp; omega
    go_enter Try.func48, Try.ntmps48
    go_wp2_with fail
    go_ret
    exact ⟨rfl, ba0 _ _⟩
  · have d1 : decide (0 ≤ p) = true := by simp; omega
    by_cases h2 : s < p
    · have d2 : decide (p ≤ s) = false := by simp; omega
      go_enter Try.func48, Try.ntmps48
      go_wp2_with fail
      go_ret
      exact ⟨rfl, ba0 _ _⟩
    · have d2 : decide (p ≤ s) = true := by simp; omega
      have d3 : decide (s ≤ 255) = false := by simp; omega
      go_enter Try.func48, Try.ntmps48
      go_wp2_with fail
      go_ret
      exact ⟨rfl, ba0 _ _⟩
theorem hRightYes (s p : Int) (w : World) (h : hright s p) : Calls Try.prog 48 #[.agg #[.int .i64 s, .int .i64 p]] w fun e w' => e = .returned (.bool true) ∧ Below w.heap.size w w' := by
  obtain ⟨h1, h2, h3, h4⟩ := h
  go_enter Try.func48, Try.ntmps48
  go_wp2_with fail
  go_ret
  exact ⟨rfl, ba0 _ _⟩
theorem hRight (s p : Int) (w : World) : Calls Try.prog 48 #[.agg #[.int .i64 s, .int .i64 p]] w fun e w' => e = .returned (.bool (decide (hright s p))) ∧ Below w.heap.size w w' := by
  by_cases h : hright s p
  · simpa [h] using hRightYes s p w h
  · simpa [h] using hRightNo s p w h






end Go.Proofs.Ytjoacfjbdpmgpaa.V
