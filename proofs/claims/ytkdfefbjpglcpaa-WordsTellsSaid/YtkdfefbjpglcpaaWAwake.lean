/-
  The statements' fixed calls of stage 2 (awake), walked: they answer as they must: true.
-/
import Derived.Test.YtkdfefbjpglcpaaWTop
import Derived.Test.YtkdfefbjpglcpaaNums
import Derived.Lib.MinMax
set_option linter.unusedVariables false
namespace Go.Proofs.Ytkdfefbjpglcpaa.V
open Go.RowKit

theorem us_lit1 (w : World) (a : Nat) : Us (w.alloc (.cells #[.int .u64 a] 40)) (some ⟨w.heap.size, 0, none⟩) [a] := by
  intro j hj
  refine ⟨_, _, rfl, by simp, ?_⟩
  match j, hj with
  | 0, _ => simp
theorem us_lit2 (w : World) (a b : Nat) : Us (w.alloc (.cells #[.int .u64 a, .int .u64 b] 40)) (some ⟨w.heap.size, 0, none⟩) [a, b] := by
  intro j hj
  refine ⟨_, _, rfl, by simp, ?_⟩
  match j, hj with
  | 0, _ => simp
  | 1, _ => simp
theorem wput_lit (ao : Option Addr) (cap : Nat) (zs : List Nat) (s : ByteArray) (w : World) (hz : zs.length ≤ 1000) (hv : ∀ v ∈ zs, v < 2 ^ 64) (hu : Us w ao zs) (h : str (wrds 8 zs) = s) :
    Calls Try.prog 10 #[.slice ao zs.length cap] w fun e w' => e = .returned (.string s) ∧ Below w.heap.size w w' := by subst h; exact wput_any ao cap zs w hz hv hu
theorem puthalf_lit (v : Nat) (s : ByteArray) (w : World) (hv : v < 2 ^ 32) (h : str (octs 4 v) = s) :
    Calls Try.prog 12 #[.int .u32 v] w fun e w' => e = .returned (.string s) ∧ Below w.heap.size w w' := by subst h; exact puthalf_any v w hv

set_option maxRecDepth 100000 in
set_option maxHeartbeats 2000000 in
theorem awake_any (w : World) : Calls Try.prog 9 #[] w fun e w' => e = .returned (.bool true) ∧ Below w.heap.size w w' := by
  go_enter Try.func9, Try.ntmps9
  go_wp2_with fail
  refine (wTake _ _ _ _ [1] 8 0 8 0 (by decide) (by decide +kernel) rfl rfl).mono ?_
  rintro e w1 ⟨ao, ca, rfl, hu1, hb1⟩
  have HU1 := Lib.hid hu1
  clear hu1
  go_wp2_with fail
  refine (wTake _ _ _ _ [] 0 2 0 2 (by decide) (by decide +kernel) rfl rfl).mono ?_
  rintro e w2 ⟨ao2, ca2, rfl, _, hb2⟩
  go_wp2_with fail
  refine (wTake _ _ _ _ [] 0 1 0 1 (by decide) (by decide +kernel) rfl rfl).mono ?_
  rintro e w3 ⟨ao3, ca3, rfl, _, hb3⟩
  go_wp2_with fail
  refine (wHalf _ _ _ 258 4 0 258 4 0 (by decide) (by decide +kernel) rfl rfl rfl).mono ?_
  rintro e w4 ⟨rfl, hb4⟩
  go_wp2_with fail
  refine (wHalf _ _ _ 0 0 2 0 0 2 (by decide) (by decide +kernel) rfl rfl rfl).mono ?_
  rintro e w5 ⟨rfl, hb5⟩
  go_wp2_with fail
  refine (wput_lit _ _ [1, 256] ⟨#[1, 0, 0, 0, 0, 0, 0, 0, 0, 1, 0, 0, 0, 0, 0, 0]⟩ _ (by decide) (by decide) (us_lit2 _ 1 256) (by decide +kernel)).mono ?_
  rintro e w6 ⟨rfl, hb6⟩
  go_wp2_with fail
  refine (puthalf_lit 258 ⟨#[2, 1, 0, 0]⟩ _ (by decide) (by decide +kernel)).mono ?_
  rintro e w7 ⟨rfl, hb7⟩
  go_wp2_with fail
  have hu2 : Us (w7.alloc (.cells #[.int .u64 (1 : Nat)] 40)) ao [1] := by
    have h2 := HU1.out.below (Nat.le_refl _) hb2
    have h3 := h2.below (Nat.le_refl _) hb3
    have h4 := h3.below (Nat.le_refl _) hb4
    have h5 := h4.below (Nat.le_refl _) hb5
    have h6 := h5.below (Nat.le_refl _) ((Below.refl _ w5).alloc (Nat.le_refl _) (.cells #[.int .u64 (1 : Nat), .int .u64 (256 : Nat)] 40))
    have h7 := h6.below (Nat.le_refl _) hb6
    have h8 := h7.below (Nat.le_refl _) hb7
    exact h8.below (Nat.le_refl _) ((Below.refl _ w7).alloc (Nat.le_refl _) _)
  refine (nums_any ao _ ca _ [1] [1] _ (by decide) (by decide) hu2 (us_lit1 _ 1)).mono ?_
  rintro e w8 ⟨rfl, hb8⟩
  clear hu2
  go_wp2_with fail
  go_ret
  exact ⟨rfl, bt (ba (bt (bt (ba (bt (bt (bt (bt hb1 hb2) hb3) hb4) hb5) _) hb6) hb7) _) hb8⟩
end Go.Proofs.Ytkdfefbjpglcpaa.V
