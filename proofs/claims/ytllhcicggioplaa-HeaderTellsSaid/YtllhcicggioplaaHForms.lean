/-
  HeaderForms: for every word the statement's function returns true, and writes nothing that was there.
-/
import Derived.Test.YtllhcicggioplaaHBack
import Derived.Test.YtllhcicggioplaaHSlots
set_option linter.unusedVariables false
namespace Go.Proofs.Ytllhcicggioplaa.V
open Go.RowKit

/-- What becomes of a word: a header other than 0, 0, a pointer, or neither. -/
theorem word_cases (x : Nat) (hx : x < 2 ^ 64) : (x = 0) ∨ (∃ s p : Nat, x ≠ 0 ∧ s ≤ 255 ∧ p ≤ s ∧ hpack s p = x ∧ hunpack x = (s, p, 0) ∧ haddr x = (0, 3)) ∨
    (∃ a : Nat, x ≠ 0 ∧ 1 ≤ a ∧ a ≤ 9223372036854775807 ∧ 2 * a + 1 = x ∧ hunpack x = (0, 0, 3) ∧ haddr x = (a, 0)) ∨ (x ≠ 0 ∧ hunpack x = (0, 0, 3) ∧ haddr x = (0, 3)) := by
  by_cases h0 : x = 0
  · exact Or.inl h0
  refine Or.inr ?_
  by_cases hu : (hunpack x).2.2 = 0
  · obtain ⟨h1, h2, h3⟩ := hunpack_ok x hu
    refine Or.inl ⟨(hunpack x).1, (hunpack x).2.1, h0, h1, h2, h3, ?_, ?_⟩
    · rw [← hu]
    · unfold haddr
      rw [if_neg h0, if_pos (Or.inl (by unfold hpack at h3; omega))]
  · refine Or.inr ?_
    have hu' := hunpack_err x hu
    by_cases h1 : x % 2 = 0 ∨ x = 1
    · exact Or.inr ⟨h0, hu', by unfold haddr; rw [if_neg h0, if_pos h1]⟩
    · exact Or.inl ⟨x / 2, h0, by omega, by omega, by omega, hu', by unfold haddr; rw [if_neg h0, if_neg h1]⟩

set_option maxRecDepth 100000 in
set_option maxHeartbeats 1000000 in
theorem forms_try (x x1 x2 x3 : Nat) (w : World) (hx : x < 2 ^ 64) (hx1 : (x : Int) % 33554432 = (x1 : Int)) (hx2 : (x : Int) % 512 = (x2 : Int)) (hx3 : bits .or .u64 (x : Int) 1 = (x3 : Int)) (hl3 : x3 < 2 ^ 64) :
    Calls Try.prog 5 #[.int .u64 x] w fun e w' => e = .returned (.bool true) ∧ Below w.heap.size w w' := by
  go_enter Try.func5, Try.ntmps5
  go_wp2_with fail
  refine (awake05 _).mono ?_
  rintro e w1 ⟨rfl, hb1⟩
  have c0 : ∀ j, j < 6 → ∃ X : Nat, X < 2 ^ 64 ∧ (w1.alloc (.cells #[.int .u64 x, .int .u64 x1, .int .u64 x2, .int .u64 0, .int .u64 1, .int .u64 x3] 24)).cell? ⟨w1.heap.size, j, none⟩ = some (.int .u64 X) := by
    intro j hj
    match j, hj with
    | 0, _ => exact ⟨x, hx, by simp⟩
    | 1, _ => exact ⟨x1, by omega, by simp⟩
    | 2, _ => exact ⟨x2, by omega, by simp⟩
    | 3, _ => exact ⟨0, by omega, by simp⟩
    | 4, _ => exact ⟨1, by omega, by simp⟩
    | 5, _ => exact ⟨x3, hl3, by simp⟩
  have gl : w1.heap.size < (w1.alloc (.cells #[.int .u64 x, .int .u64 x1, .int .u64 x2, .int .u64 0, .int .u64 1, .int .u64 x3] 24)).heap.size := by simp
  have HBW := Lib.hid (ba hb1 (.cells #[.int .u64 x, .int .u64 x1, .int .u64 x2, .int .u64 0, .int .u64 1, .int .u64 x3] 24))
  clear hb1
  go_wp2_with fail
  generalize w1.alloc (.cells #[.int .u64 x, .int .u64 x1, .int .u64 x2, .int .u64 0, .int .u64 1, .int .u64 x3] 24) = W at c0 gl HBW ⊢
  generalize w1.heap.size = g at c0 gl ⊢
  have C0 := Lib.hid c0
  clear c0 hx1 hx2 hx3
  go_loopw [24] (fun i wr => ∃ k : Nat, k ≤ 6 ∧ i = .int .i64 k ∧ Below W.heap.size W wr) (fun i _ => 6 - (intOf i).toNat)
  case atStart => exact ⟨0, by omega, rfl, Below.refl _ _⟩
  case round =>
    obtain ⟨k, hk, rfl, hbel⟩ := hrel
    by_cases hk6 : k < 6
    · obtain ⟨X, hX, hc⟩ := C0.out k hk6
      have hc' := cell_step hbel gl hc
      clear hc
      rcases word_cases X hX with rfl | ⟨s, p, n0, h1, h2, h3, h4, h5⟩ | ⟨a, n0, h1, h2, h3, h4, h5⟩ | ⟨n0, h4, h5⟩
      · have hc' : wr.cell? ⟨g, k, none⟩ = some (.int .u64 0) := hc'
        go_wp2_with fail
        refine (hUnpackI 0 0 0 0 0 _ rfl (by decide) (by decide +kernel) (by decide +kernel) (by decide +kernel)).mono ?_
        rintro e w2 ⟨rfl, hb2⟩
        go_wp2_with fail
        refine (hAddressI 0 0 0 6 _ rfl (by decide) (by decide +kernel) (by decide +kernel)).mono ?_
        rintro e w3 ⟨rfl, rfl⟩
        go_wp2_with fail
        refine (hPackI 0 0 0 0 _ (by decide +kernel) (by decide +kernel)).mono ?_
        rintro e w3 ⟨rfl, hb3⟩
        have m0 : w3.cell? ⟨w2.heap.size, 0, none⟩ = some (.int .i64 0) := cell_step hb3 (by simp) (by simp)
        have m1 : w3.cell? ⟨w2.heap.size, 1, none⟩ = some (.int .i64 0) := cell_step hb3 (by simp) (by simp)
        have HB3 := Lib.hid (hbel.trans ((bt (ba hb2 _) hb3).mono hbel.size))
        clear hb2 hb3 hbel hc'
        go_wp2_with fail
        refine (hRefI 0 0 0 1 _ rfl (by decide) (by decide +kernel) (by decide +kernel)).mono ?_
        rintro e w4 ⟨rfl, rfl⟩
        go_wp2_with fail
        refine (hRightYes 0 0 _ (by decide)).mono ?_
        rintro e w5 ⟨rfl, hb5⟩
        have HB5 := Lib.hid (bt HB3.out hb5)
        clear hb5 m0 m1
        go_wp2_with fail
        go_roundw
        case rel => exact ⟨k + 1, by omega, by go_num, HB5.out⟩
        case measure => simp [intOf]; omega
      · have H3 := Lib.hid h3
        have H4 := Lib.hid h4
        have H5 := Lib.hid h5
        clear h3 h4 h5
        have nx : ((X : Int) == 0) = false := by simp; omega
        go_wp2_with fail
        refine (hUnpackI X X s p 0 _ rfl hX (by rw [H4.out]) (by rw [H4.out]) (by rw [H4.out]; rfl)).mono ?_
        rintro e w2 ⟨rfl, hb2⟩
        go_wp2_with fail
        refine (hAddressI X X 0 3 _ rfl hX (by rw [H5.out]; rfl) (by rw [H5.out]; rfl)).mono ?_
        rintro e w3 ⟨rfl, rfl⟩
        go_wp2_with fail
        refine (hPackYes s p X _ h1 h2 H3.out).mono ?_
        rintro e w3 ⟨rfl, hb3⟩
        have m0 : w3.cell? ⟨w2.heap.size, 0, none⟩ = some (.int .i64 s) := cell_step hb3 (by simp) (by simp)
        have m1 : w3.cell? ⟨w2.heap.size, 1, none⟩ = some (.int .i64 p) := cell_step hb3 (by simp) (by simp)
        have HB3 := Lib.hid (hbel.trans ((bt (ba hb2 _) hb3).mono hbel.size))
        clear hb2 hb3 hbel hc'
        go_wp2_with fail
        refine (hRefI 0 0 0 1 _ rfl (by decide) (by decide +kernel) (by decide +kernel)).mono ?_
        rintro e w4 ⟨rfl, rfl⟩
        go_wp2_with fail
        refine (hRightYes s p _ (by omega)).mono ?_
        rintro e w5 ⟨rfl, hb5⟩
        have HB5 := Lib.hid (bt HB3.out hb5)
        clear hb5 m0 m1
        go_wp2_with fail
        go_roundw
        case rel => exact ⟨k + 1, by omega, by go_num, HB5.out⟩
        case measure => simp [intOf]; omega
      · have H3 := Lib.hid h3
        have H4 := Lib.hid h4
        have H5 := Lib.hid h5
        clear h3 h4 h5
        have nx : ((X : Int) == 0) = false := by simp; omega
        go_wp2_with fail
        refine (hUnpackI X X 0 0 3 _ rfl hX (by rw [H4.out]; rfl) (by rw [H4.out]; rfl) (by rw [H4.out]; rfl)).mono ?_
        rintro e w2 ⟨rfl, hb2⟩
        go_wp2_with fail
        refine (hAddressI X X a 0 _ rfl hX (by rw [H5.out]) (by rw [H5.out]; rfl)).mono ?_
        rintro e w3 ⟨rfl, rfl⟩
        go_wp2_with fail
        refine (hPackI 0 0 0 0 _ (by decide +kernel) (by decide +kernel)).mono ?_
        rintro e w3 ⟨rfl, hb3⟩
        have m0 : w3.cell? ⟨w2.heap.size, 0, none⟩ = some (.int .i64 0) := cell_step hb3 (by simp) (by simp)
        have m1 : w3.cell? ⟨w2.heap.size, 1, none⟩ = some (.int .i64 0) := cell_step hb3 (by simp) (by simp)
        have HB3 := Lib.hid (hbel.trans ((bt (ba hb2 _) hb3).mono hbel.size))
        clear hb2 hb3 hbel hc'
        go_wp2_with fail
        refine (hRefYes a a X _ rfl h1 h2 H3.out).mono ?_
        rintro e w4 ⟨rfl, rfl⟩
        go_wp2_with fail
        go_roundw
        case rel => exact ⟨k + 1, by omega, by go_num, HB3.out⟩
        case measure => simp [intOf]; omega
      · have H4 := Lib.hid h4
        have H5 := Lib.hid h5
        clear h4 h5
        have nx : ((X : Int) == 0) = false := by simp; omega
        go_wp2_with fail
        refine (hUnpackI X X 0 0 3 _ rfl hX (by rw [H4.out]; rfl) (by rw [H4.out]; rfl) (by rw [H4.out]; rfl)).mono ?_
        rintro e w2 ⟨rfl, hb2⟩
        go_wp2_with fail
        refine (hAddressI X X 0 3 _ rfl hX (by rw [H5.out]; rfl) (by rw [H5.out]; rfl)).mono ?_
        rintro e w3 ⟨rfl, rfl⟩
        go_wp2_with fail
        refine (hPackI 0 0 0 0 _ (by decide +kernel) (by decide +kernel)).mono ?_
        rintro e w3 ⟨rfl, hb3⟩
        have m0 : w3.cell? ⟨w2.heap.size, 0, none⟩ = some (.int .i64 0) := cell_step hb3 (by simp) (by simp)
        have m1 : w3.cell? ⟨w2.heap.size, 1, none⟩ = some (.int .i64 0) := cell_step hb3 (by simp) (by simp)
        have HB3 := Lib.hid (hbel.trans ((bt (ba hb2 _) hb3).mono hbel.size))
        clear hb2 hb3 hbel hc'
        go_wp2_with fail
        refine (hRefI 0 0 0 1 _ rfl (by decide) (by decide +kernel) (by decide +kernel)).mono ?_
        rintro e w4 ⟨rfl, rfl⟩
        go_wp2_with fail
        go_roundw
        case rel => exact ⟨k + 1, by omega, by go_num, HB3.out⟩
        case measure => simp [intOf]; omega
    · go_wp2_with fail
      go_ret
      exact ⟨rfl, (HBW.out).trans (hbel.mono HBW.out.size)⟩

theorem headerForms_walk (x : Nat) (w : World) (hx : x < 2 ^ 64) : Calls Try.prog 5 #[.int .u64 x] w fun e w' => e = .returned (.bool true) ∧ Below w.heap.size w w' :=
  forms_try x (x % 33554432) (x % 512) (x ||| 1) w hx (by simp) (by simp) (by simpa using u64_or_nat x 1 (by omega) (by omega)) (Nat.or_lt_two_pow hx (by omega))
end Go.Proofs.Ytllhcicggioplaa.V
