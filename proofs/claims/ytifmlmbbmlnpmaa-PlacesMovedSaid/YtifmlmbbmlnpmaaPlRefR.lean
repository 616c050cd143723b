/-
  The document's own Right of a layout, walked.
-/
import Derived.Test.YtifmlmbbmlnpmaaPlPure
set_option linter.unusedVariables false
namespace Go.Proofs.Ytifmlmbbmlnpmaa.V
open Go.RowKit

set_option maxRecDepth 100000 in
theorem refRight7_0 (B : Nat) (c t lo hi ol fa : Int) (w : World) (bd : Lo.bd ⟨B, c, t, lo, hi, ol, fa⟩)  (k0 : B < 1) : Calls Try.prog 15 #[.agg #[.int .u64 (B : Int), .int .i64 c, .int .i64 t, .int .i64 lo, .int .i64 hi, .int .i64 ol, .int .i64 fa]] w fun e w' => e = .returned (.bool false) ∧ Below w.heap.size w w' := by
  obtain ⟨b1, ⟨b2, b3⟩, ⟨b4, b5⟩, ⟨b6, b7⟩, ⟨b8, b9⟩, ⟨b10, b11⟩, ⟨b12, b13⟩⟩ := bd
  simp only at b1 b2 b3 b4 b5 b6 b7 b8 b9 b10 b11 b12 b13
  have d0 : decide ((B : Int) < 1) = true := by simp; omega
  go_enter Try.func15, Try.ntmps15
  go_wp2_with fail
  go_ret
  exact ⟨rfl, ba0 _ _⟩
set_option maxRecDepth 100000 in
theorem refRight7_1 (B : Nat) (c t lo hi ol fa : Int) (w : World) (bd : Lo.bd ⟨B, c, t, lo, hi, ol, fa⟩) (k0 : ¬ (B < 1)) (k1 : c < 0) : Calls Try.prog 15 #[.agg #[.int .u64 (B : Int), .int .i64 c, .int .i64 t, .int .i64 lo, .int .i64 hi, .int .i64 ol, .int .i64 fa]] w fun e w' => e = .returned (.bool false) ∧ Below w.heap.size w w' := by
  obtain ⟨b1, ⟨b2, b3⟩, ⟨b4, b5⟩, ⟨b6, b7⟩, ⟨b8, b9⟩, ⟨b10, b11⟩, ⟨b12, b13⟩⟩ := bd
  simp only at b1 b2 b3 b4 b5 b6 b7 b8 b9 b10 b11 b12 b13
  have d0 : decide ((B : Int) < 1) = false := by simp; omega
  have d1 : decide (c < 0) = true := by simp; omega
  go_enter Try.func15, Try.ntmps15
  go_wp2_with fail
  go_ret
  exact ⟨rfl, ba0 _ _⟩
set_option maxRecDepth 100000 in
theorem refRight7_2 (B : Nat) (c t lo hi ol fa : Int) (w : World) (bd : Lo.bd ⟨B, c, t, lo, hi, ol, fa⟩) (k0 : ¬ (B < 1)) (k1 : ¬ (c < 0)) (k2 : 4096 < c) : Calls Try.prog 15 #[.agg #[.int .u64 (B : Int), .int .i64 c, .int .i64 t, .int .i64 lo, .int .i64 hi, .int .i64 ol, .int .i64 fa]] w fun e w' => e = .returned (.bool false) ∧ Below w.heap.size w w' := by
  obtain ⟨b1, ⟨b2, b3⟩, ⟨b4, b5⟩, ⟨b6, b7⟩, ⟨b8, b9⟩, ⟨b10, b11⟩, ⟨b12, b13⟩⟩ := bd
  simp only at b1 b2 b3 b4 b5 b6 b7 b8 b9 b10 b11 b12 b13
  obtain ⟨C, rfl⟩ := Int.eq_ofNat_of_zero_le (show 0 ≤ c by omega)
  have d0 : decide ((B : Int) < 1) = false := by simp; omega
  have d2 : decide (4096 < (C : Int)) = true := by simp; omega
  go_enter Try.func15, Try.ntmps15
  go_wp2_with fail
  go_ret
  exact ⟨rfl, ba0 _ _⟩
set_option maxRecDepth 100000 in
theorem refRight7_3 (B : Nat) (c t lo hi ol fa : Int) (w : World) (bd : Lo.bd ⟨B, c, t, lo, hi, ol, fa⟩) (k0 : ¬ (B < 1)) (k1 : ¬ (c < 0)) (k2 : ¬ (4096 < c)) (k3 : 9223372036854775808 < (B : Int) + 2 * c) : Calls Try.prog 15 #[.agg #[.int .u64 (B : Int), .int .i64 c, .int .i64 t, .int .i64 lo, .int .i64 hi, .int .i64 ol, .int .i64 fa]] w fun e w' => e = .returned (.bool false) ∧ Below w.heap.size w w' := by
  obtain ⟨b1, ⟨b2, b3⟩, ⟨b4, b5⟩, ⟨b6, b7⟩, ⟨b8, b9⟩, ⟨b10, b11⟩, ⟨b12, b13⟩⟩ := bd
  simp only at b1 b2 b3 b4 b5 b6 b7 b8 b9 b10 b11 b12 b13
  obtain ⟨C, rfl⟩ := Int.eq_ofNat_of_zero_le (show 0 ≤ c by omega)
  have d0 : decide ((B : Int) < 1) = false := by simp; omega
  have d2 : decide (4096 < (C : Int)) = false := by simp; omega
  have d3 : decide (9223372036854775808 - 2 * (C : Int) < (B : Int)) = true := by simp; omega
  go_enter Try.func15, Try.ntmps15
  go_wp2_with fail
  go_ret
  exact ⟨rfl, ba0 _ _⟩
set_option maxRecDepth 100000 in
theorem refRight7_4 (B : Nat) (c t lo hi ol fa : Int) (w : World) (bd : Lo.bd ⟨B, c, t, lo, hi, ol, fa⟩) (k0 : ¬ (B < 1)) (k1 : ¬ (c < 0)) (k2 : ¬ (4096 < c)) (k3 : ¬ (9223372036854775808 < (B : Int) + 2 * c)) (k4 : t < 0) : Calls Try.prog 15 #[.agg #[.int .u64 (B : Int), .int .i64 c, .int .i64 t, .int .i64 lo, .int .i64 hi, .int .i64 ol, .int .i64 fa]] w fun e w' => e = .returned (.bool false) ∧ Below w.heap.size w w' := by
  obtain ⟨b1, ⟨b2, b3⟩, ⟨b4, b5⟩, ⟨b6, b7⟩, ⟨b8, b9⟩, ⟨b10, b11⟩, ⟨b12, b13⟩⟩ := bd
  simp only at b1 b2 b3 b4 b5 b6 b7 b8 b9 b10 b11 b12 b13
  obtain ⟨C, rfl⟩ := Int.eq_ofNat_of_zero_le (show 0 ≤ c by omega)
  have d0 : decide ((B : Int) < 1) = false := by simp; omega
  have d2 : decide (4096 < (C : Int)) = false := by simp; omega
  have d3 : decide (9223372036854775808 - 2 * (C : Int) < (B : Int)) = false := by simp; omega
  have d4 : decide (t < 0) = true := by simp; omega
  go_enter Try.func15, Try.ntmps15
  go_wp2_with fail
  go_ret
  exact ⟨rfl, ba0 _ _⟩
set_option maxRecDepth 100000 in
theorem refRight7_5 (B : Nat) (c t lo hi ol fa : Int) (w : World) (bd : Lo.bd ⟨B, c, t, lo, hi, ol, fa⟩) (k0 : ¬ (B < 1)) (k1 : ¬ (c < 0)) (k2 : ¬ (4096 < c)) (k3 : ¬ (9223372036854775808 < (B : Int) + 2 * c)) (k4 : ¬ (t < 0)) (k5 : 1 < t) : Calls Try.prog 15 #[.agg #[.int .u64 (B : Int), .int .i64 c, .int .i64 t, .int .i64 lo, .int .i64 hi, .int .i64 ol, .int .i64 fa]] w fun e w' => e = .returned (.bool false) ∧ Below w.heap.size w w' := by
  obtain ⟨b1, ⟨b2, b3⟩, ⟨b4, b5⟩, ⟨b6, b7⟩, ⟨b8, b9⟩, ⟨b10, b11⟩, ⟨b12, b13⟩⟩ := bd
  simp only at b1 b2 b3 b4 b5 b6 b7 b8 b9 b10 b11 b12 b13
  obtain ⟨C, rfl⟩ := Int.eq_ofNat_of_zero_le (show 0 ≤ c by omega)
  have d0 : decide ((B : Int) < 1) = false := by simp; omega
  have d2 : decide (4096 < (C : Int)) = false := by simp; omega
  have d3 : decide (9223372036854775808 - 2 * (C : Int) < (B : Int)) = false := by simp; omega
  have d4 : decide (t < 0) = false := by simp; omega
  have d5 : decide (1 < t) = true := by simp; omega
  go_enter Try.func15, Try.ntmps15
  go_wp2_with fail
  go_ret
  exact ⟨rfl, ba0 _ _⟩
set_option maxRecDepth 100000 in
theorem refRight7_6 (B : Nat) (c t lo hi ol fa : Int) (w : World) (bd : Lo.bd ⟨B, c, t, lo, hi, ol, fa⟩) (k0 : ¬ (B < 1)) (k1 : ¬ (c < 0)) (k2 : ¬ (4096 < c)) (k3 : ¬ (9223372036854775808 < (B : Int) + 2 * c)) (k4 : ¬ (t < 0)) (k5 : ¬ (1 < t)) (k6 : lo < 0) : Calls Try.prog 15 #[.agg #[.int .u64 (B : Int), .int .i64 c, .int .i64 t, .int .i64 lo, .int .i64 hi, .int .i64 ol, .int .i64 fa]] w fun e w' => e = .returned (.bool false) ∧ Below w.heap.size w w' := by
  obtain ⟨b1, ⟨b2, b3⟩, ⟨b4, b5⟩, ⟨b6, b7⟩, ⟨b8, b9⟩, ⟨b10, b11⟩, ⟨b12, b13⟩⟩ := bd
  simp only at b1 b2 b3 b4 b5 b6 b7 b8 b9 b10 b11 b12 b13
  obtain ⟨C, rfl⟩ := Int.eq_ofNat_of_zero_le (show 0 ≤ c by omega)
  have d0 : decide ((B : Int) < 1) = false := by simp; omega
  have d2 : decide (4096 < (C : Int)) = false := by simp; omega
  have d3 : decide (9223372036854775808 - 2 * (C : Int) < (B : Int)) = false := by simp; omega
  have d4 : decide (t < 0) = false := by simp; omega
  have d5 : decide (1 < t) = false := by simp; omega
  have d6 : decide (lo < 0) = true := by simp; omega
  go_enter Try.func15, Try.ntmps15
  go_wp2_with fail
  go_ret
  exact ⟨rfl, ba0 _ _⟩
set_option maxRecDepth 100000 in
theorem refRight7_7 (B : Nat) (c t lo hi ol fa : Int) (w : World) (bd : Lo.bd ⟨B, c, t, lo, hi, ol, fa⟩) (k0 : ¬ (B < 1)) (k1 : ¬ (c < 0)) (k2 : ¬ (4096 < c)) (k3 : ¬ (9223372036854775808 < (B : Int) + 2 * c)) (k4 : ¬ (t < 0)) (k5 : ¬ (1 < t)) (k6 : ¬ (lo < 0)) (k7 : hi < 0) : Calls Try.prog 15 #[.agg #[.int .u64 (B : Int), .int .i64 c, .int .i64 t, .int .i64 lo, .int .i64 hi, .int .i64 ol, .int .i64 fa]] w fun e w' => e = .returned (.bool false) ∧ Below w.heap.size w w' := by
  obtain ⟨b1, ⟨b2, b3⟩, ⟨b4, b5⟩, ⟨b6, b7⟩, ⟨b8, b9⟩, ⟨b10, b11⟩, ⟨b12, b13⟩⟩ := bd
  simp only at b1 b2 b3 b4 b5 b6 b7 b8 b9 b10 b11 b12 b13
  obtain ⟨C, rfl⟩ := Int.eq_ofNat_of_zero_le (show 0 ≤ c by omega)
  have d0 : decide ((B : Int) < 1) = false := by simp; omega
  have d2 : decide (4096 < (C : Int)) = false := by simp; omega
  have d3 : decide (9223372036854775808 - 2 * (C : Int) < (B : Int)) = false := by simp; omega
  have d4 : decide (t < 0) = false := by simp; omega
  have d5 : decide (1 < t) = false := by simp; omega
  have d6 : decide (lo < 0) = false := by simp; omega
  have d7 : decide (hi < 0) = true := by simp; omega
  go_enter Try.func15, Try.ntmps15
  go_wp2_with fail
  go_ret
  exact ⟨rfl, ba0 _ _⟩
set_option maxRecDepth 100000 in
theorem refRight7_8 (B : Nat) (c t lo hi ol fa : Int) (w : World) (bd : Lo.bd ⟨B, c, t, lo, hi, ol, fa⟩) (k0 : ¬ (B < 1)) (k1 : ¬ (c < 0)) (k2 : ¬ (4096 < c)) (k3 : ¬ (9223372036854775808 < (B : Int) + 2 * c)) (k4 : ¬ (t < 0)) (k5 : ¬ (1 < t)) (k6 : ¬ (lo < 0)) (k7 : ¬ (hi < 0)) (k8 : ol < 0) : Calls Try.prog 15 #[.agg #[.int .u64 (B : Int), .int .i64 c, .int .i64 t, .int .i64 lo, .int .i64 hi, .int .i64 ol, .int .i64 fa]] w fun e w' => e = .returned (.bool false) ∧ Below w.heap.size w w' := by
  obtain ⟨b1, ⟨b2, b3⟩, ⟨b4, b5⟩, ⟨b6, b7⟩, ⟨b8, b9⟩, ⟨b10, b11⟩, ⟨b12, b13⟩⟩ := bd
  simp only at b1 b2 b3 b4 b5 b6 b7 b8 b9 b10 b11 b12 b13
  obtain ⟨C, rfl⟩ := Int.eq_ofNat_of_zero_le (show 0 ≤ c by omega)
  have d0 : decide ((B : Int) < 1) = false := by simp; omega
  have d2 : decide (4096 < (C : Int)) = false := by simp; omega
  have d3 : decide (9223372036854775808 - 2 * (C : Int) < (B : Int)) = false := by simp; omega
  have d4 : decide (t < 0) = false := by simp; omega
  have d5 : decide (1 < t) = false := by simp; omega
  have d6 : decide (lo < 0) = false := by simp; omega
  have d7 : decide (hi < 0) = false := by simp; omega
  have d8 : decide (ol < 0) = true := by simp; omega
  go_enter Try.func15, Try.ntmps15
  go_wp2_with fail
  go_ret
  exact ⟨rfl, ba0 _ _⟩
set_option maxRecDepth 100000 in
theorem refRight7_9 (B : Nat) (c t lo hi ol fa : Int) (w : World) (bd : Lo.bd ⟨B, c, t, lo, hi, ol, fa⟩) (k0 : ¬ (B < 1)) (k1 : ¬ (c < 0)) (k2 : ¬ (4096 < c)) (k3 : ¬ (9223372036854775808 < (B : Int) + 2 * c)) (k4 : ¬ (t < 0)) (k5 : ¬ (1 < t)) (k6 : ¬ (lo < 0)) (k7 : ¬ (hi < 0)) (k8 : ¬ (ol < 0)) (k9 : fa < 0) : Calls Try.prog 15 #[.agg #[.int .u64 (B : Int), .int .i64 c, .int .i64 t, .int .i64 lo, .int .i64 hi, .int .i64 ol, .int .i64 fa]] w fun e w' => e = .returned (.bool false) ∧ Below w.heap.size w w' := by
  obtain ⟨b1, ⟨b2, b3⟩, ⟨b4, b5⟩, ⟨b6, b7⟩, ⟨b8, b9⟩, ⟨b10, b11⟩, ⟨b12, b13⟩⟩ := bd
  simp only at b1 b2 b3 b4 b5 b6 b7 b8 b9 b10 b11 b12 b13
  obtain ⟨C, rfl⟩ := Int.eq_ofNat_of_zero_le (show 0 ≤ c by omega)
  have d0 : decide ((B : Int) < 1) = false := by simp; omega
  have d2 : decide (4096 < (C : Int)) = false := by simp; omega
  have d3 : decide (9223372036854775808 - 2 * (C : Int) < (B : Int)) = false := by simp; omega
  have d4 : decide (t < 0) = false := by simp; omega
  have d5 : decide (1 < t) = false := by simp; omega
  have d6 : decide (lo < 0) = false := by simp; omega
  have d7 : decide (hi < 0) = false := by simp; omega
  have d8 : decide (ol < 0) = false := by simp; omega
  have d9 : decide (fa < 0) = true := by simp; omega
  go_enter Try.func15, Try.ntmps15
  go_wp2_with fail
  go_ret
  exact ⟨rfl, ba0 _ _⟩
set_option maxRecDepth 100000 in
theorem refRight7_10 (B : Nat) (c t lo hi ol fa : Int) (w : World) (bd : Lo.bd ⟨B, c, t, lo, hi, ol, fa⟩) (k0 : ¬ (B < 1)) (k1 : ¬ (c < 0)) (k2 : ¬ (4096 < c)) (k3 : ¬ (9223372036854775808 < (B : Int) + 2 * c)) (k4 : ¬ (t < 0)) (k5 : ¬ (1 < t)) (k6 : ¬ (lo < 0)) (k7 : ¬ (hi < 0)) (k8 : ¬ (ol < 0)) (k9 : ¬ (fa < 0)) (k10 : c < lo) : Calls Try.prog 15 #[.agg #[.int .u64 (B : Int), .int .i64 c, .int .i64 t, .int .i64 lo, .int .i64 hi, .int .i64 ol, .int .i64 fa]] w fun e w' => e = .returned (.bool false) ∧ Below w.heap.size w w' := by
  obtain ⟨b1, ⟨b2, b3⟩, ⟨b4, b5⟩, ⟨b6, b7⟩, ⟨b8, b9⟩, ⟨b10, b11⟩, ⟨b12, b13⟩⟩ := bd
  simp only at b1 b2 b3 b4 b5 b6 b7 b8 b9 b10 b11 b12 b13
  obtain ⟨C, rfl⟩ := Int.eq_ofNat_of_zero_le (show 0 ≤ c by omega)
  have d0 : decide ((B : Int) < 1) = false := by simp; omega
  have d2 : decide (4096 < (C : Int)) = false := by simp; omega
  have d3 : decide (9223372036854775808 - 2 * (C : Int) < (B : Int)) = false := by simp; omega
  have d4 : decide (t < 0) = false := by simp; omega
  have d5 : decide (1 < t) = false := by simp; omega
  have d6 : decide (lo < 0) = false := by simp; omega
  have d7 : decide (hi < 0) = false := by simp; omega
  have d8 : decide (ol < 0) = false := by simp; omega
  have d9 : decide (fa < 0) = false := by simp; omega
  have d10 : decide (lo ≤ (C : Int)) = false := by simp; omega
  go_enter Try.func15, Try.ntmps15
  go_wp2_with fail
  go_ret
  exact ⟨rfl, ba0 _ _⟩
set_option maxRecDepth 100000 in
theorem refRight7_11 (B : Nat) (c t lo hi ol fa : Int) (w : World) (bd : Lo.bd ⟨B, c, t, lo, hi, ol, fa⟩) (k0 : ¬ (B < 1)) (k1 : ¬ (c < 0)) (k2 : ¬ (4096 < c)) (k3 : ¬ (9223372036854775808 < (B : Int) + 2 * c)) (k4 : ¬ (t < 0)) (k5 : ¬ (1 < t)) (k6 : ¬ (lo < 0)) (k7 : ¬ (hi < 0)) (k8 : ¬ (ol < 0)) (k9 : ¬ (fa < 0)) (k10 : ¬ (c < lo)) (k11 : c < lo + hi) : Calls Try.prog 15 #[.agg #[.int .u64 (B : Int), .int .i64 c, .int .i64 t, .int .i64 lo, .int .i64 hi, .int .i64 ol, .int .i64 fa]] w fun e w' => e = .returned (.bool false) ∧ Below w.heap.size w w' := by
  obtain ⟨b1, ⟨b2, b3⟩, ⟨b4, b5⟩, ⟨b6, b7⟩, ⟨b8, b9⟩, ⟨b10, b11⟩, ⟨b12, b13⟩⟩ := bd
  simp only at b1 b2 b3 b4 b5 b6 b7 b8 b9 b10 b11 b12 b13
  obtain ⟨C, rfl⟩ := Int.eq_ofNat_of_zero_le (show 0 ≤ c by omega)
  have d0 : decide ((B : Int) < 1) = false := by simp; omega
  have d2 : decide (4096 < (C : Int)) = false := by simp; omega
  have d3 : decide (9223372036854775808 - 2 * (C : Int) < (B : Int)) = false := by simp; omega
  have d4 : decide (t < 0) = false := by simp; omega
  have d5 : decide (1 < t) = false := by simp; omega
  have d6 : decide (lo < 0) = false := by simp; omega
  have d7 : decide (hi < 0) = false := by simp; omega
  have d8 : decide (ol < 0) = false := by simp; omega
  have d9 : decide (fa < 0) = false := by simp; omega
  have d10 : decide (lo ≤ (C : Int)) = true := by simp; omega
  have d11 : decide (hi ≤ (C : Int) - lo) = false := by simp; omega
  go_enter Try.func15, Try.ntmps15
  go_wp2_with fail
  go_ret
  exact ⟨rfl, ba0 _ _⟩
set_option maxRecDepth 100000 in
theorem refRight7_12 (B : Nat) (c t lo hi ol fa : Int) (w : World) (bd : Lo.bd ⟨B, c, t, lo, hi, ol, fa⟩) (k0 : ¬ (B < 1)) (k1 : ¬ (c < 0)) (k2 : ¬ (4096 < c)) (k3 : ¬ (9223372036854775808 < (B : Int) + 2 * c)) (k4 : ¬ (t < 0)) (k5 : ¬ (1 < t)) (k6 : ¬ (lo < 0)) (k7 : ¬ (hi < 0)) (k8 : ¬ (ol < 0)) (k9 : ¬ (fa < 0)) (k10 : ¬ (c < lo)) (k11 : ¬ (c < lo + hi)) (k12 : c < ol) : Calls Try.prog 15 #[.agg #[.int .u64 (B : Int), .int .i64 c, .int .i64 t, .int .i64 lo, .int .i64 hi, .int .i64 ol, .int .i64 fa]] w fun e w' => e = .returned (.bool false) ∧ Below w.heap.size w w' := by
  obtain ⟨b1, ⟨b2, b3⟩, ⟨b4, b5⟩, ⟨b6, b7⟩, ⟨b8, b9⟩, ⟨b10, b11⟩, ⟨b12, b13⟩⟩ := bd
  simp only at b1 b2 b3 b4 b5 b6 b7 b8 b9 b10 b11 b12 b13
  obtain ⟨C, rfl⟩ := Int.eq_ofNat_of_zero_le (show 0 ≤ c by omega)
  have d0 : decide ((B : Int) < 1) = false := by simp; omega
  have d2 : decide (4096 < (C : Int)) = false := by simp; omega
  have d3 : decide (9223372036854775808 - 2 * (C : Int) < (B : Int)) = false := by simp; omega
  have d4 : decide (t < 0) = false := by simp; omega
  have d5 : decide (1 < t) = false := by simp; omega
  have d6 : decide (lo < 0) = false := by simp; omega
  have d7 : decide (hi < 0) = false := by simp; omega
  have d8 : decide (ol < 0) = false := by simp; omega
  have d9 : decide (fa < 0) = false := by simp; omega
  have d10 : decide (lo ≤ (C : Int)) = true := by simp; omega
  have d11 : decide (hi ≤ (C : Int) - lo) = true := by simp; omega
  have d12 : decide (ol ≤ (C : Int)) = false := by simp; omega
  go_enter Try.func15, Try.ntmps15
  go_wp2_with fail
  go_ret
  exact ⟨rfl, ba0 _ _⟩
set_option maxRecDepth 100000 in
theorem refRight7_13 (B : Nat) (c t lo hi ol fa : Int) (w : World) (bd : Lo.bd ⟨B, c, t, lo, hi, ol, fa⟩) (k0 : ¬ (B < 1)) (k1 : ¬ (c < 0)) (k2 : ¬ (4096 < c)) (k3 : ¬ (9223372036854775808 < (B : Int) + 2 * c)) (k4 : ¬ (t < 0)) (k5 : ¬ (1 < t)) (k6 : ¬ (lo < 0)) (k7 : ¬ (hi < 0)) (k8 : ¬ (ol < 0)) (k9 : ¬ (fa < 0)) (k10 : ¬ (c < lo)) (k11 : ¬ (c < lo + hi)) (k12 : ¬ (c < ol)) (k13 : c < ol + fa) : Calls Try.prog 15 #[.agg #[.int .u64 (B : Int), .int .i64 c, .int .i64 t, .int .i64 lo, .int .i64 hi, .int .i64 ol, .int .i64 fa]] w fun e w' => e = .returned (.bool false) ∧ Below w.heap.size w w' := by
  obtain ⟨b1, ⟨b2, b3⟩, ⟨b4, b5⟩, ⟨b6, b7⟩, ⟨b8, b9⟩, ⟨b10, b11⟩, ⟨b12, b13⟩⟩ := bd
  simp only at b1 b2 b3 b4 b5 b6 b7 b8 b9 b10 b11 b12 b13
  obtain ⟨C, rfl⟩ := Int.eq_ofNat_of_zero_le (show 0 ≤ c by omega)
  have d0 : decide ((B : Int) < 1) = false := by simp; omega
  have d2 : decide (4096 < (C : Int)) = false := by simp; omega
  have d3 : decide (9223372036854775808 - 2 * (C : Int) < (B : Int)) = false := by simp; omega
  have d4 : decide (t < 0) = false := by simp; omega
  have d5 : decide (1 < t) = false := by simp; omega
  have d6 : decide (lo < 0) = false := by simp; omega
  have d7 : decide (hi < 0) = false := by simp; omega
  have d8 : decide (ol < 0) = false := by simp; omega
  have d9 : decide (fa < 0) = false := by simp; omega
  have d10 : decide (lo ≤ (C : Int)) = true := by simp; omega
  have d11 : decide (hi ≤ (C : Int) - lo) = true := by simp; omega
  have d12 : decide (ol ≤ (C : Int)) = true := by simp; omega
  have d13 : decide (fa ≤ (C : Int) - ol) = false := by simp; omega
  go_enter Try.func15, Try.ntmps15
  go_wp2_with fail
  go_ret
  exact ⟨rfl, ba0 _ _⟩
set_option maxRecDepth 100000 in
theorem refRight7Yes (B : Nat) (c t lo hi ol fa : Int) (w : World) (bd : Lo.bd ⟨B, c, t, lo, hi, ol, fa⟩) (k0 : ¬ (B < 1)) (k1 : ¬ (c < 0)) (k2 : ¬ (4096 < c)) (k3 : ¬ (9223372036854775808 < (B : Int) + 2 * c)) (k4 : ¬ (t < 0)) (k5 : ¬ (1 < t)) (k6 : ¬ (lo < 0)) (k7 : ¬ (hi < 0)) (k8 : ¬ (ol < 0)) (k9 : ¬ (fa < 0)) (k10 : ¬ (c < lo)) (k11 : ¬ (c < lo + hi)) (k12 : ¬ (c < ol)) (k13 : ¬ (c < ol + fa)) : Calls Try.prog 15 #[.agg #[.int .u64 (B : Int), .int .i64 c, .int .i64 t, .int .i64 lo, .int .i64 hi, .int .i64 ol, .int .i64 fa]] w fun e w' => e = .returned (.bool true) ∧ Below w.heap.size w w' := by
  obtain ⟨b1, ⟨b2, b3⟩, ⟨b4, b5⟩, ⟨b6, b7⟩, ⟨b8, b9⟩, ⟨b10, b11⟩, ⟨b12, b13⟩⟩ := bd
  simp only at b1 b2 b3 b4 b5 b6 b7 b8 b9 b10 b11 b12 b13
  obtain ⟨C, rfl⟩ := Int.eq_ofNat_of_zero_le (show 0 ≤ c by omega)
  have d0 : decide ((B : Int) < 1) = false := by simp; omega
  have d2 : decide (4096 < (C : Int)) = false := by simp; omega
  have d3 : decide (9223372036854775808 - 2 * (C : Int) < (B : Int)) = false := by simp; omega
  have d4 : decide (t < 0) = false := by simp; omega
  have d5 : decide (1 < t) = false := by simp; omega
  have d6 : decide (lo < 0) = false := by simp; omega
  have d7 : decide (hi < 0) = false := by simp; omega
  have d8 : decide (ol < 0) = false := by simp; omega
  have d9 : decide (fa < 0) = false := by simp; omega
  have d10 : decide (lo ≤ (C : Int)) = true := by simp; omega
  have d11 : decide (hi ≤ (C : Int) - lo) = true := by simp; omega
  have d12 : decide (ol ≤ (C : Int)) = true := by simp; omega
  have d13 : decide (fa ≤ (C : Int) - ol) = true := by simp; omega
  go_enter Try.func15, Try.ntmps15
  go_wp2_with fail
  go_ret
  exact ⟨rfl, ba0 _ _⟩
theorem refRight7No (B : Nat) (c t lo hi ol fa : Int) (w : World) (bd : Lo.bd ⟨B, c, t, lo, hi, ol, fa⟩) (h : ¬ lright ⟨B, c, t, lo, hi, ol, fa⟩) : Calls Try.prog 15 #[.agg #[.int .u64 (B : Int), .int .i64 c, .int .i64 t, .int .i64 lo, .int .i64 hi, .int .i64 ol, .int .i64 fa]] w fun e w' => e = .returned (.bool false) ∧ Below w.heap.size w w' := by
  by_cases k0 : B < 1
  · exact refRight7_0 B c t lo hi ol fa w bd k0
  by_cases k1 : c < 0
  · exact refRight7_1 B c t lo hi ol fa w bd k0 k1
  by_cases k2 : 4096 < c
  · exact refRight7_2 B c t lo hi ol fa w bd k0 k1 k2
  by_cases k3 : 9223372036854775808 < (B : Int) + 2 * c
  · exact refRight7_3 B c t lo hi ol fa w bd k0 k1 k2 k3
  by_cases k4 : t < 0
  · exact refRight7_4 B c t lo hi ol fa w bd k0 k1 k2 k3 k4
  by_cases k5 : 1 < t
  · exact refRight7_5 B c t lo hi ol fa w bd k0 k1 k2 k3 k4 k5
  by_cases k6 : lo < 0
  · exact refRight7_6 B c t lo hi ol fa w bd k0 k1 k2 k3 k4 k5 k6
  by_cases k7 : hi < 0
  · exact refRight7_7 B c t lo hi ol fa w bd k0 k1 k2 k3 k4 k5 k6 k7
  by_cases k8 : ol < 0
  · exact refRight7_8 B c t lo hi ol fa w bd k0 k1 k2 k3 k4 k5 k6 k7 k8
  by_cases k9 : fa < 0
  · exact refRight7_9 B c t lo hi ol fa w bd k0 k1 k2 k3 k4 k5 k6 k7 k8 k9
  by_cases k10 : c < lo
  · exact refRight7_10 B c t lo hi ol fa w bd k0 k1 k2 k3 k4 k5 k6 k7 k8 k9 k10
  by_cases k11 : c < lo + hi
  · exact refRight7_11 B c t lo hi ol fa w bd k0 k1 k2 k3 k4 k5 k6 k7 k8 k9 k10 k11
  by_cases k12 : c < ol
  · exact refRight7_12 B c t lo hi ol fa w bd k0 k1 k2 k3 k4 k5 k6 k7 k8 k9 k10 k11 k12
  by_cases k13 : c < ol + fa
  · exact refRight7_13 B c t lo hi ol fa w bd k0 k1 k2 k3 k4 k5 k6 k7 k8 k9 k10 k11 k12 k13
  exact absurd ⟨by dsimp only; omega, ⟨by dsimp only; omega, by dsimp only; omega⟩, by dsimp only; omega, ⟨by dsimp only; omega, by dsimp only; omega⟩, ⟨by dsimp only; omega, by dsimp only; omega, by dsimp only; omega, by dsimp only; omega⟩, by dsimp only; omega, by dsimp only; omega⟩ h
theorem refRight7 (l : Lo) (R : Bool) (w : World) (bd : l.bd) (hR : decide (lright l) = R) : Calls Try.prog 15 #[.agg #[.int .u64 (l.base : Int), .int .i64 l.cap, .int .i64 l.to, .int .i64 l.low, .int .i64 l.high, .int .i64 l.old, .int .i64 l.far]] w fun e w' => e = .returned (.bool R) ∧ Below w.heap.size w w' := by
  subst hR
  by_cases h : lright l
  · have h' := h
    obtain ⟨h1, ⟨h2, h3⟩, h4, ⟨h5, h6⟩, ⟨h7, h8, h9, h10⟩, h11, h12⟩ := h
    rw [decide_eq_true h']
    exact refRight7Yes l.base l.cap l.to l.low l.high l.old l.far w bd (by omega) (by omega) (by omega) (by omega) (by omega) (by omega) (by omega) (by omega) (by omega) (by omega) (by omega) (by omega) (by omega) (by omega)
  · rw [decide_eq_false h]
    exact refRight7No l.base l.cap l.to l.low l.high l.old l.far w bd h
end Go.Proofs.Ytifmlmbbmlnpmaa.V
