/-
  The program's functions of package places, walked: fit, Right, Room, first.
-/
import Derived.Test.YtifmlmbbmlnpmaaPlCnt
set_option linter.unusedVariables false
namespace Go.Proofs.Ytifmlmbbmlnpmaa.V
open Go.RowKit

def lfit (c a b : Int) : Prop := 0 ≤ a ∧ 0 ≤ b ∧ a + b ≤ c
instance (c a b : Int) : Decidable (lfit c a b) := by unfold lfit; infer_instance
set_option maxRecDepth 100000 in
theorem plFitNo (c a b : Int) (w : World) (c0 : 0 ≤ c) (c1 : c ≤ 4096) (a0 : -9223372036854775808 ≤ a) (a1 : a ≤ 9223372036854775807) (b0 : -9223372036854775808 ≤ b) (b1 : b ≤ 9223372036854775807) (h : ¬ lfit c a b) : Calls Try.prog 22 #[.int .i64 c, .int .i64 a, .int .i64 b] w fun e w' => e = .returned (.bool false) ∧ w = w' := by
  by_cases h1 : a < 0
  · have d1 : decide (0 ≤ a) = false := by simp; omega
    clear h
    go_enter Try.func22, Try.ntmps22
    go_wp2_with fail
    go_ret
    exact ⟨rfl, rfl⟩
  · have d1 : decide (0 ≤ a) = true := by simp; omega
    by_cases h2 : b < 0
    · have d2 : decide (0 ≤ b) = false := by simp; omega
      clear h
      go_enter Try.func22, Try.ntmps22
      go_wp2_with fail
      go_ret
      exact ⟨rfl, rfl⟩
    · have d2 : decide (0 ≤ b) = true := by simp; omega
      have d3 : decide (b ≤ c - a) = false := by unfold lfit at h; simp; omega
      clear h
      go_enter Try.func22, Try.ntmps22
      go_wp2_with fail
      go_ret
      exact ⟨rfl, rfl⟩
set_option maxRecDepth 100000 in
theorem plFitYes (c a b : Int) (w : World) (c0 : 0 ≤ c) (c1 : c ≤ 4096) (a0 : -9223372036854775808 ≤ a) (a1 : a ≤ 9223372036854775807) (b0 : -9223372036854775808 ≤ b) (b1 : b ≤ 9223372036854775807) (h : lfit c a b) : Calls Try.prog 22 #[.int .i64 c, .int .i64 a, .int .i64 b] w fun e w' => e = .returned (.bool true) ∧ w = w' := by
  obtain ⟨h1, h2, h3⟩ := h
  have d1 : decide (0 ≤ a) = true := by simp; omega
  have d2 : decide (0 ≤ b) = true := by simp; omega
  have d3 : decide (b ≤ c - a) = true := by simp; omega
  go_enter Try.func22, Try.ntmps22
  go_wp2_with fail
  go_ret
  exact ⟨rfl, rfl⟩
set_option maxRecDepth 100000 in
theorem plRight_0 (B : Nat) (c t lo hi ol fa : Int) (w : World) (bd : Lo.bd ⟨B, c, t, lo, hi, ol, fa⟩) (k0 : B < 1) : Calls Try.prog 14 #[.agg #[.int .u64 (B : Int), .int .i64 c, .int .i64 t, .int .i64 lo, .int .i64 hi, .int .i64 ol, .int .i64 fa]] w fun e w' => e = .returned (.bool false) ∧ Below w.heap.size w w' := by
  obtain ⟨b1, ⟨b2, b3⟩, ⟨b4, b5⟩, ⟨b6, b7⟩, ⟨b8, b9⟩, ⟨b10, b11⟩, ⟨b12, b13⟩⟩ := bd
  simp only at b1 b2 b3 b4 b5 b6 b7 b8 b9 b10 b11 b12 b13
  have d0 : decide (1 ≤ (B : Int)) = false := by simp; omega
  go_enter Try.func14, Try.ntmps14
  go_wp2_with fail
  go_ret
  exact ⟨rfl, ba0 _ _⟩
set_option maxRecDepth 100000 in
theorem plRight_1 (B : Nat) (c t lo hi ol fa : Int) (w : World) (bd : Lo.bd ⟨B, c, t, lo, hi, ol, fa⟩) (k0 : ¬ (B < 1)) (k1 : c < 0) : Calls Try.prog 14 #[.agg #[.int .u64 (B : Int), .int .i64 c, .int .i64 t, .int .i64 lo, .int .i64 hi, .int .i64 ol, .int .i64 fa]] w fun e w' => e = .returned (.bool false) ∧ Below w.heap.size w w' := by
  obtain ⟨b1, ⟨b2, b3⟩, ⟨b4, b5⟩, ⟨b6, b7⟩, ⟨b8, b9⟩, ⟨b10, b11⟩, ⟨b12, b13⟩⟩ := bd
  simp only at b1 b2 b3 b4 b5 b6 b7 b8 b9 b10 b11 b12 b13
  have d0 : decide (1 ≤ (B : Int)) = true := by simp; omega
  have d1 : decide (0 ≤ c) = false := by simp; omega
  go_enter Try.func14, Try.ntmps14
  go_wp2_with fail
  go_ret
  exact ⟨rfl, ba0 _ _⟩
set_option maxRecDepth 100000 in
theorem plRight_2 (B : Nat) (c t lo hi ol fa : Int) (w : World) (bd : Lo.bd ⟨B, c, t, lo, hi, ol, fa⟩) (k0 : ¬ (B < 1)) (k1 : ¬ (c < 0)) (k2 : 4096 < c) : Calls Try.prog 14 #[.agg #[.int .u64 (B : Int), .int .i64 c, .int .i64 t, .int .i64 lo, .int .i64 hi, .int .i64 ol, .int .i64 fa]] w fun e w' => e = .returned (.bool false) ∧ Below w.heap.size w w' := by
  obtain ⟨b1, ⟨b2, b3⟩, ⟨b4, b5⟩, ⟨b6, b7⟩, ⟨b8, b9⟩, ⟨b10, b11⟩, ⟨b12, b13⟩⟩ := bd
  simp only at b1 b2 b3 b4 b5 b6 b7 b8 b9 b10 b11 b12 b13
  obtain ⟨C, rfl⟩ := Int.eq_ofNat_of_zero_le (show 0 ≤ c by omega)
  have d0 : decide (1 ≤ (B : Int)) = true := by simp; omega
  have d2 : decide ((C : Int) ≤ 4096) = false := by simp; omega
  go_enter Try.func14, Try.ntmps14
  go_wp2_with fail
  go_ret
  exact ⟨rfl, ba0 _ _⟩
set_option maxRecDepth 100000 in
theorem plRight_3 (B : Nat) (c t lo hi ol fa : Int) (w : World) (bd : Lo.bd ⟨B, c, t, lo, hi, ol, fa⟩) (k0 : ¬ (B < 1)) (k1 : ¬ (c < 0)) (k2 : ¬ (4096 < c)) (k3 : 9223372036854775808 < (B : Int) + 2 * c) : Calls Try.prog 14 #[.agg #[.int .u64 (B : Int), .int .i64 c, .int .i64 t, .int .i64 lo, .int .i64 hi, .int .i64 ol, .int .i64 fa]] w fun e w' => e = .returned (.bool false) ∧ Below w.heap.size w w' := by
  obtain ⟨b1, ⟨b2, b3⟩, ⟨b4, b5⟩, ⟨b6, b7⟩, ⟨b8, b9⟩, ⟨b10, b11⟩, ⟨b12, b13⟩⟩ := bd
  simp only at b1 b2 b3 b4 b5 b6 b7 b8 b9 b10 b11 b12 b13
  obtain ⟨C, rfl⟩ := Int.eq_ofNat_of_zero_le (show 0 ≤ c by omega)
  have d0 : decide (1 ≤ (B : Int)) = true := by simp; omega
  have d2 : decide ((C : Int) ≤ 4096) = true := by simp; omega
  have d3 : decide ((B : Int) ≤ 9223372036854775808 - 2 * (C : Int)) = false := by simp; omega
  go_enter Try.func14, Try.ntmps14
  go_wp2_with fail
  go_ret
  exact ⟨rfl, ba0 _ _⟩
set_option maxRecDepth 100000 in
theorem plRight_4 (B : Nat) (c t lo hi ol fa : Int) (w : World) (bd : Lo.bd ⟨B, c, t, lo, hi, ol, fa⟩) (k0 : ¬ (B < 1)) (k1 : ¬ (c < 0)) (k2 : ¬ (4096 < c)) (k3 : ¬ (9223372036854775808 < (B : Int) + 2 * c)) (k4 : t ≠ 0) (k5 : t ≠ 1) : Calls Try.prog 14 #[.agg #[.int .u64 (B : Int), .int .i64 c, .int .i64 t, .int .i64 lo, .int .i64 hi, .int .i64 ol, .int .i64 fa]] w fun e w' => e = .returned (.bool false) ∧ Below w.heap.size w w' := by
  obtain ⟨b1, ⟨b2, b3⟩, ⟨b4, b5⟩, ⟨b6, b7⟩, ⟨b8, b9⟩, ⟨b10, b11⟩, ⟨b12, b13⟩⟩ := bd
  simp only at b1 b2 b3 b4 b5 b6 b7 b8 b9 b10 b11 b12 b13
  obtain ⟨C, rfl⟩ := Int.eq_ofNat_of_zero_le (show 0 ≤ c by omega)
  have d0 : decide (1 ≤ (B : Int)) = true := by simp; omega
  have d2 : decide ((C : Int) ≤ 4096) = true := by simp; omega
  have d3 : decide ((B : Int) ≤ 9223372036854775808 - 2 * (C : Int)) = true := by simp; omega
  have d4 : (t == 0) = false := by simpa using k4
  have d5 : (t == 1) = false := by simpa using k5
  go_enter Try.func14, Try.ntmps14
  go_wp2_with fail
  go_ret
  exact ⟨rfl, ba0 _ _⟩
set_option maxRecDepth 100000 in
theorem plRight_5_0 (B : Nat) (c lo hi ol fa : Int) (w : World) (bd : Lo.bd ⟨B, c, 0, lo, hi, ol, fa⟩) (k0 : ¬ (B < 1)) (k1 : ¬ (c < 0)) (k2 : ¬ (4096 < c)) (k3 : ¬ (9223372036854775808 < (B : Int) + 2 * c)) (k6 : Hid (¬ lfit c lo hi)) : Calls Try.prog 14 #[.agg #[.int .u64 (B : Int), .int .i64 c, .int .i64 0, .int .i64 lo, .int .i64 hi, .int .i64 ol, .int .i64 fa]] w fun e w' => e = .returned (.bool false) ∧ Below w.heap.size w w' := by
  obtain ⟨b1, ⟨b2, b3⟩, ⟨b4, b5⟩, ⟨b6, b7⟩, ⟨b8, b9⟩, ⟨b10, b11⟩, ⟨b12, b13⟩⟩ := bd
  simp only at b1 b2 b3 b4 b5 b6 b7 b8 b9 b10 b11 b12 b13
  obtain ⟨C, rfl⟩ := Int.eq_ofNat_of_zero_le (show 0 ≤ c by omega)
  have d0 : decide (1 ≤ (B : Int)) = true := by simp; omega
  have d2 : decide ((C : Int) ≤ 4096) = true := by simp; omega
  have d3 : decide ((B : Int) ≤ 9223372036854775808 - 2 * (C : Int)) = true := by simp; omega
  go_enter Try.func14, Try.ntmps14
  go_wp2_with fail
  refine (plFitNo _ lo hi _ (by omega) (by omega) b6 b7 b8 b9 k6.out).mono ?_
  rintro e w1 ⟨rfl, rfl⟩
  go_wp2_with fail
  go_ret
  exact ⟨rfl, ba0 _ _⟩
set_option maxRecDepth 100000 in
theorem plRight_6_0 (B : Nat) (c lo hi ol fa : Int) (w : World) (bd : Lo.bd ⟨B, c, 0, lo, hi, ol, fa⟩) (k0 : ¬ (B < 1)) (k1 : ¬ (c < 0)) (k2 : ¬ (4096 < c)) (k3 : ¬ (9223372036854775808 < (B : Int) + 2 * c)) (k6 : Hid (lfit c lo hi)) (k7 : Hid (¬ lfit c ol fa)) : Calls Try.prog 14 #[.agg #[.int .u64 (B : Int), .int .i64 c, .int .i64 0, .int .i64 lo, .int .i64 hi, .int .i64 ol, .int .i64 fa]] w fun e w' => e = .returned (.bool false) ∧ Below w.heap.size w w' := by
  obtain ⟨b1, ⟨b2, b3⟩, ⟨b4, b5⟩, ⟨b6, b7⟩, ⟨b8, b9⟩, ⟨b10, b11⟩, ⟨b12, b13⟩⟩ := bd
  simp only at b1 b2 b3 b4 b5 b6 b7 b8 b9 b10 b11 b12 b13
  obtain ⟨C, rfl⟩ := Int.eq_ofNat_of_zero_le (show 0 ≤ c by omega)
  have d0 : decide (1 ≤ (B : Int)) = true := by simp; omega
  have d2 : decide ((C : Int) ≤ 4096) = true := by simp; omega
  have d3 : decide ((B : Int) ≤ 9223372036854775808 - 2 * (C : Int)) = true := by simp; omega
  go_enter Try.func14, Try.ntmps14
  go_wp2_with fail
  refine (plFitYes _ lo hi _ (by omega) (by omega) b6 b7 b8 b9 k6.out).mono ?_
  rintro e w1 ⟨rfl, rfl⟩
  go_wp2_with fail
  refine (plFitNo _ ol fa _ (by omega) (by omega) b10 b11 b12 b13 k7.out).mono ?_
  rintro e w1 ⟨rfl, rfl⟩
  go_wp2_with fail
  go_ret
  exact ⟨rfl, ba0 _ _⟩
set_option maxRecDepth 100000 in
theorem plRight_7_0 (B : Nat) (c lo hi ol fa : Int) (w : World) (bd : Lo.bd ⟨B, c, 0, lo, hi, ol, fa⟩) (k0 : ¬ (B < 1)) (k1 : ¬ (c < 0)) (k2 : ¬ (4096 < c)) (k3 : ¬ (9223372036854775808 < (B : Int) + 2 * c)) (k6 : Hid (lfit c lo hi)) (k7 : Hid (lfit c ol fa)) : Calls Try.prog 14 #[.agg #[.int .u64 (B : Int), .int .i64 c, .int .i64 0, .int .i64 lo, .int .i64 hi, .int .i64 ol, .int .i64 fa]] w fun e w' => e = .returned (.bool true) ∧ Below w.heap.size w w' := by
  obtain ⟨b1, ⟨b2, b3⟩, ⟨b4, b5⟩, ⟨b6, b7⟩, ⟨b8, b9⟩, ⟨b10, b11⟩, ⟨b12, b13⟩⟩ := bd
  simp only at b1 b2 b3 b4 b5 b6 b7 b8 b9 b10 b11 b12 b13
  obtain ⟨C, rfl⟩ := Int.eq_ofNat_of_zero_le (show 0 ≤ c by omega)
  have d0 : decide (1 ≤ (B : Int)) = true := by simp; omega
  have d2 : decide ((C : Int) ≤ 4096) = true := by simp; omega
  have d3 : decide ((B : Int) ≤ 9223372036854775808 - 2 * (C : Int)) = true := by simp; omega
  go_enter Try.func14, Try.ntmps14
  go_wp2_with fail
  refine (plFitYes _ lo hi _ (by omega) (by omega) b6 b7 b8 b9 k6.out).mono ?_
  rintro e w1 ⟨rfl, rfl⟩
  go_wp2_with fail
  refine (plFitYes _ ol fa _ (by omega) (by omega) b10 b11 b12 b13 k7.out).mono ?_
  rintro e w1 ⟨rfl, rfl⟩
  go_wp2_with fail
  go_ret
  exact ⟨rfl, ba0 _ _⟩
set_option maxRecDepth 100000 in
theorem plRight_5_1 (B : Nat) (c lo hi ol fa : Int) (w : World) (bd : Lo.bd ⟨B, c, 1, lo, hi, ol, fa⟩) (k0 : ¬ (B < 1)) (k1 : ¬ (c < 0)) (k2 : ¬ (4096 < c)) (k3 : ¬ (9223372036854775808 < (B : Int) + 2 * c)) (k6 : Hid (¬ lfit c lo hi)) : Calls Try.prog 14 #[.agg #[.int .u64 (B : Int), .int .i64 c, .int .i64 1, .int .i64 lo, .int .i64 hi, .int .i64 ol, .int .i64 fa]] w fun e w' => e = .returned (.bool false) ∧ Below w.heap.size w w' := by
  obtain ⟨b1, ⟨b2, b3⟩, ⟨b4, b5⟩, ⟨b6, b7⟩, ⟨b8, b9⟩, ⟨b10, b11⟩, ⟨b12, b13⟩⟩ := bd
  simp only at b1 b2 b3 b4 b5 b6 b7 b8 b9 b10 b11 b12 b13
  obtain ⟨C, rfl⟩ := Int.eq_ofNat_of_zero_le (show 0 ≤ c by omega)
  have d0 : decide (1 ≤ (B : Int)) = true := by simp; omega
  have d2 : decide ((C : Int) ≤ 4096) = true := by simp; omega
  have d3 : decide ((B : Int) ≤ 9223372036854775808 - 2 * (C : Int)) = true := by simp; omega
  go_enter Try.func14, Try.ntmps14
  go_wp2_with fail
  refine (plFitNo _ lo hi _ (by omega) (by omega) b6 b7 b8 b9 k6.out).mono ?_
  rintro e w1 ⟨rfl, rfl⟩
  go_wp2_with fail
  go_ret
  exact ⟨rfl, ba0 _ _⟩
set_option maxRecDepth 100000 in
theorem plRight_6_1 (B : Nat) (c lo hi ol fa : Int) (w : World) (bd : Lo.bd ⟨B, c, 1, lo, hi, ol, fa⟩) (k0 : ¬ (B < 1)) (k1 : ¬ (c < 0)) (k2 : ¬ (4096 < c)) (k3 : ¬ (9223372036854775808 < (B : Int) + 2 * c)) (k6 : Hid (lfit c lo hi)) (k7 : Hid (¬ lfit c ol fa)) : Calls Try.prog 14 #[.agg #[.int .u64 (B : Int), .int .i64 c, .int .i64 1, .int .i64 lo, .int .i64 hi, .int .i64 ol, .int .i64 fa]] w fun e w' => e = .returned (.bool false) ∧ Below w.heap.size w w' := by
  obtain ⟨b1, ⟨b2, b3⟩, ⟨b4, b5⟩, ⟨b6, b7⟩, ⟨b8, b9⟩, ⟨b10, b11⟩, ⟨b12, b13⟩⟩ := bd
  simp only at b1 b2 b3 b4 b5 b6 b7 b8 b9 b10 b11 b12 b13
  obtain ⟨C, rfl⟩ := Int.eq_ofNat_of_zero_le (show 0 ≤ c by omega)
  have d0 : decide (1 ≤ (B : Int)) = true := by simp; omega
  have d2 : decide ((C : Int) ≤ 4096) = true := by simp; omega
  have d3 : decide ((B : Int) ≤ 9223372036854775808 - 2 * (C : Int)) = true := by simp; omega
  go_enter Try.func14, Try.ntmps14
  go_wp2_with fail
  refine (plFitYes _ lo hi _ (by omega) (by omega) b6 b7 b8 b9 k6.out).mono ?_
  rintro e w1 ⟨rfl, rfl⟩
  go_wp2_with fail
  refine (plFitNo _ ol fa _ (by omega) (by omega) b10 b11 b12 b13 k7.out).mono ?_
  rintro e w1 ⟨rfl, rfl⟩
  go_wp2_with fail
  go_ret
  exact ⟨rfl, ba0 _ _⟩
set_option maxRecDepth 100000 in
theorem plRight_7_1 (B : Nat) (c lo hi ol fa : Int) (w : World) (bd : Lo.bd ⟨B, c, 1, lo, hi, ol, fa⟩) (k0 : ¬ (B < 1)) (k1 : ¬ (c < 0)) (k2 : ¬ (4096 < c)) (k3 : ¬ (9223372036854775808 < (B : Int) + 2 * c)) (k6 : Hid (lfit c lo hi)) (k7 : Hid (lfit c ol fa)) : Calls Try.prog 14 #[.agg #[.int .u64 (B : Int), .int .i64 c, .int .i64 1, .int .i64 lo, .int .i64 hi, .int .i64 ol, .int .i64 fa]] w fun e w' => e = .returned (.bool true) ∧ Below w.heap.size w w' := by
  obtain ⟨b1, ⟨b2, b3⟩, ⟨b4, b5⟩, ⟨b6, b7⟩, ⟨b8, b9⟩, ⟨b10, b11⟩, ⟨b12, b13⟩⟩ := bd
  simp only at b1 b2 b3 b4 b5 b6 b7 b8 b9 b10 b11 b12 b13
  obtain ⟨C, rfl⟩ := Int.eq_ofNat_of_zero_le (show 0 ≤ c by omega)
  have d0 : decide (1 ≤ (B : Int)) = true := by simp; omega
  have d2 : decide ((C : Int) ≤ 4096) = true := by simp; omega
  have d3 : decide ((B : Int) ≤ 9223372036854775808 - 2 * (C : Int)) = true := by simp; omega
  go_enter Try.func14, Try.ntmps14
  go_wp2_with fail
  refine (plFitYes _ lo hi _ (by omega) (by omega) b6 b7 b8 b9 k6.out).mono ?_
  rintro e w1 ⟨rfl, rfl⟩
  go_wp2_with fail
  refine (plFitYes _ ol fa _ (by omega) (by omega) b10 b11 b12 b13 k7.out).mono ?_
  rintro e w1 ⟨rfl, rfl⟩
  go_wp2_with fail
  go_ret
  exact ⟨rfl, ba0 _ _⟩
end Go.Proofs.Ytifmlmbbmlnpmaa.V
