/-
  Stage 5: contracts with results as variables, and the statements' fixed calls (awake), walked: they answer as they must: true.
-/
import Derived.Test.YtllhcicggioplaaHProg
import Derived.Test.YtllhcicggioplaaPick
set_option linter.unusedVariables false
namespace Go.Proofs.Ytllhcicggioplaa.V
open Go.RowKit

theorem cell_step {w w' : World} {g j : Nat} {v : Value} (hb : Below w.heap.size w w') (hg : g < w.heap.size) (h : w.cell? ⟨g, j, none⟩ = some v) : w'.cell? ⟨g, j, none⟩ = some v :=
  (hb.cell (p := ⟨g, j, none⟩) hg).trans h
theorem pk_nat (c n : Int) (hn : 1 ≤ n) : ∃ k : Nat, pk c n = (k : Int) ∧ (k : Int) < n := ⟨(pk c n).toNat, by have := pk_bd c n hn; omega, by have := pk_bd c n hn; omega⟩
theorem hPackI (s p V E : Int) (w : World) (hv : ((hpackI s p).1 : Int) = V) (he : ((hpackI s p).2 : Int) = E) : Calls Try.prog 11 #[.agg #[.int .i64 s, .int .i64 p]] w fun e w' => e = .returned (.tuple #[.int .u64 V, .int .i64 E]) ∧ Below w.heap.size w w' := by
  subst hv; subst he; exact hPack s p w
theorem hRefI (A : Int) (a : Nat) (V E : Int) (w : World) (hA : A = (a : Int)) (ha : a < 2 ^ 64) (hv : ((href a).1 : Int) = V) (he : ((href a).2 : Int) = E) : Calls Try.prog 17 #[.int .u64 A] w fun e w' => e = .returned (.tuple #[.int .u64 V, .int .i64 E]) ∧ w = w' := by
  subst hA; subst hv; subst he; exact hRef a w ha
theorem hAddressI (A : Int) (a : Nat) (V E : Int) (w : World) (hA : A = (a : Int)) (ha : a < 2 ^ 64) (hv : ((haddr a).1 : Int) = V) (he : ((haddr a).2 : Int) = E) : Calls Try.prog 19 #[.int .u64 A] w fun e w' => e = .returned (.tuple #[.int .u64 V, .int .i64 E]) ∧ w = w' := by
  subst hA; subst hv; subst he; exact hAddress a w ha
theorem hUnpackI (A : Int) (a : Nat) (S P E : Int) (w : World) (hA : A = (a : Int)) (ha : a < 2 ^ 64) (hs : ((hunpack a).1 : Int) = S) (hp : ((hunpack a).2.1 : Int) = P) (he : ((hunpack a).2.2 : Int) = E) : Calls Try.prog 15 #[.int .u64 A] w fun e w' => e = .returned (.tuple #[.agg #[.int .i64 S, .int .i64 P], .int .i64 E]) ∧ Below w.heap.size w w' := by
  subst hA; subst hs; subst hp; subst he; exact hUnpack a w ha

set_option maxRecDepth 100000 in
set_option maxHeartbeats 2000000 in
theorem awake05 (w : World) : Calls Try.prog 9 #[] w fun e w' => e = .returned (.bool true) ∧ Below w.heap.size w w' := by
  go_enter Try.func9, Try.ntmps9
  go_wp2_with fail
  refine (hPackI 3 1 131078 0 _ (by decide +kernel) (by decide +kernel)).mono ?_
  rintro e w1 ⟨rfl, hb1⟩
  go_wp2_with fail
  refine (hUnpackI 131078 131078 3 1 0 _ rfl (by decide) (by decide +kernel) (by decide +kernel) (by decide +kernel)).mono ?_
  rintro e w2 ⟨rfl, hb2⟩
  go_wp2_with fail
  refine (hRefI 5 5 11 0 _ rfl (by decide) (by decide +kernel) (by decide +kernel)).mono ?_
  rintro e w3 ⟨rfl, rfl⟩
  go_wp2_with fail
  refine (hAddressI 11 11 5 0 _ rfl (by decide) (by decide +kernel) (by decide +kernel)).mono ?_
  rintro e w4 ⟨rfl, rfl⟩
  go_wp2_with fail
  refine (hRefI 0 0 0 1 _ rfl (by decide) (by decide +kernel) (by decide +kernel)).mono ?_
  rintro e w5 ⟨rfl, rfl⟩
  go_wp2_with fail
  refine (hAddressI 0 0 0 6 _ rfl (by decide) (by decide +kernel) (by decide +kernel)).mono ?_
  rintro e w6 ⟨rfl, rfl⟩
  go_wp2_with fail
  refine (hAddressI 4 4 0 3 _ rfl (by decide) (by decide +kernel) (by decide +kernel)).mono ?_
  rintro e w7 ⟨rfl, rfl⟩
  go_wp2_with fail
  refine (hUnpackI 1 1 0 0 3 _ rfl (by decide) (by decide +kernel) (by decide +kernel) (by decide +kernel)).mono ?_
  rintro e w8 ⟨rfl, hb8⟩
  go_wp2_with fail
  refine (hPackI 0 1 0 1 _ (by decide +kernel) (by decide +kernel)).mono ?_
  rintro e w9 ⟨rfl, hb9⟩
  have hl8 : w2.heap.size < w8.heap.size := by have := hb8.size; simp at this; omega
  have hl9 : w8.heap.size < w9.heap.size := by have := hb9.size; simp at this; omega
  have hc0 : w9.cell? ⟨w2.heap.size, 0, none⟩ = some (.int .i64 3) := cell_step hb9 (by simp; omega) (cell_step (ba0 w8 _) hl8 (cell_step hb8 (by simp) (by simp)))
  have hc1 : w9.cell? ⟨w2.heap.size, 1, none⟩ = some (.int .i64 1) := cell_step hb9 (by simp; omega) (cell_step (ba0 w8 _) hl8 (cell_step hb8 (by simp) (by simp)))
  go_wp2_with fail
  refine (hRightYes 3 1 _ (by decide)).mono ?_
  rintro e w10 ⟨rfl, hb10⟩
  go_wp2_with fail
  go_ret
  exact ⟨rfl, bt (bt (ba (bt (ba (bt hb1 hb2) _) hb8) _) hb9) hb10⟩
end Go.Proofs.Ytllhcicggioplaa.V
