/-
  The statements' fixed calls of stage 1 (awake), walked: they answer as they must: true.
-/
import Derived.Test.YtlljfgaaefofbaaVarNums
namespace Go.Proofs.Ytlljfgaaefofbaa.V
open Go.RowKit

theorem put_lit (v : Nat) (s : ByteArray) (w : World) (hv : v < 2 ^ 64) (h : str (put v) = s) :
    Calls Try.prog 10 #[.int .u64 v] w fun e w' => e = .returned (.string s) ∧ Below w.heap.size w w' := by subst h; exact put_any v w hv
theorem row_lit (ao : Option Addr) (cap : Nat) (zs : List Nat) (s : ByteArray) (w : World) (hz : zs.length ≤ 1000) (hv : ∀ v ∈ zs, v < 2 ^ 64) (hu : Us w ao zs) (h : str (row zs) = s) :
    Calls Try.prog 14 #[.slice ao zs.length cap] w fun e w' => e = .returned (.string s) ∧ Below w.heap.size w w' := by subst h; exact row_any ao cap zs w hz hv hu
theorem takeRow_lit (s : ByteArray) (a n : Int) (w : World) (l : List Nat) (p er : Nat) (hs : s.size ≤ 1000000000) (ha1 : a ≤ 9223372036854775807) (hn1 : n ≤ 9223372036854775807) (h : takeRowI s.data.toList a n = (l, p, er)) :
    Calls Try.prog 19 #[.string s, .int .i64 a, .int .i64 n] w fun e w' => ∃ ao cap, e = .returned (.tuple #[.slice ao l.length cap, .int .i64 p, .int .i64 er]) ∧ Us w' ao l ∧ Below w.heap.size w w' := by
  refine (takeRow_any s a n w hs ha1 hn1).mono ?_
  rintro e w' ⟨v, rfl, ho, hb⟩
  rw [h] at ho ⊢
  obtain ⟨ao, cap, rfl, hu⟩ := OwnU.us ho
  exact ⟨ao, cap, rfl, hu, hb⟩
theorem take_lit (s : ByteArray) (a : Int) (x p er : Nat) (w : World) (hs : s.size ≤ 1000000000) (ha1 : a ≤ 9223372036854775807) (h : takeI s.data.toList a = (x, p, er)) :
    Calls Try.prog 17 #[.string s, .int .i64 a] w fun e w' => e = .returned (.tuple #[.int .u64 x, .int .i64 p, .int .i64 er]) ∧ w = w' := by
  refine (take_any s a w hs ha1).mono ?_
  rintro e w' ⟨rfl, rfl⟩
  rw [h]
  exact ⟨rfl, rfl⟩
theorem us_lit2 (w : World) (a b : Nat) : Us (w.alloc (.cells #[.int .u64 a, .int .u64 b] 22)) (some ⟨w.heap.size, 0, none⟩) [a, b] := by
  intro j hj
  refine ⟨_, _, rfl, by simp, ?_⟩
  match j, hj with
  | 0, _ => simp
  | 1, _ => simp

set_option maxRecDepth 100000 in
set_option maxHeartbeats 2000000 in
theorem awake_any (w : World) : Calls Try.prog 9 #[] w fun e w' => e = .returned (.bool true) ∧ Below w.heap.size w w' := by
  go_enter Try.func9, Try.ntmps9
  go_wp2_with fail
  refine (take_lit _ _ 128 2 0 _ (by decide) (by decide) (by decide +kernel)).mono ?_
  rintro e w' ⟨rfl, rfl⟩
  go_wp2_with fail
  refine (take_lit _ _ 0 0 3 _ (by decide) (by decide) (by decide +kernel)).mono ?_
  rintro e w' ⟨rfl, rfl⟩
  go_wp2_with fail
  refine (take_lit _ _ 0 0 2 _ (by decide) (by decide) (by decide +kernel)).mono ?_
  rintro e w' ⟨rfl, rfl⟩
  go_wp2_with fail
  refine (take_lit _ _ 0 0 1 _ (by decide) (by decide) (by decide +kernel)).mono ?_
  rintro e w' ⟨rfl, rfl⟩
  go_wp2_with fail
  refine (takeRow_lit _ _ _ _ [5, 128] 3 0 (by decide) (by decide) (by decide) (by decide +kernel)).mono ?_
  rintro e w1 ⟨ao, ca, rfl, hu1, hb1⟩
  have HU1 := Lib.hid hu1
  clear hu1
  go_wp2_with fail
  refine (takeRow_lit _ _ _ _ [] 0 2 (by decide) (by decide) (by decide) (by decide +kernel)).mono ?_
  rintro e w2 ⟨ao2, ca2, rfl, _, hb2⟩
  go_wp2_with fail
  refine (put_lit 5 ⟨#[5]⟩ _ (by decide) (by decide +kernel)).mono ?_
  rintro e w3 ⟨rfl, hb3⟩
  go_wp2_with fail
  refine (put_lit 128 ⟨#[128, 1]⟩ _ (by decide) (by decide +kernel)).mono ?_
  rintro e w4 ⟨rfl, hb4⟩
  go_wp2_with fail
  refine (len_any 18446744073709551615 _ (by decide)).mono ?_
  rintro e w' ⟨rfl, rfl⟩
  rw [show (put 18446744073709551615).length = 10 by decide +kernel]
  go_wp2_with fail
  refine (row_lit _ _ [5, 128] ⟨#[5, 128, 1]⟩ _ (by decide) (by decide) (us_lit2 _ 5 128) (by decide +kernel)).mono ?_
  rintro e w5 ⟨rfl, hb5⟩
  go_wp2_with fail
  have hu2 : Us (w5.alloc (.cells #[.int .u64 (5 : Nat), .int .u64 (128 : Nat)] 22)) ao [5, 128] := by
    have h2 := HU1.out.below (Nat.le_refl _) hb2
    have h3 := h2.below (Nat.le_refl _) hb3
    have h4 := h3.below (Nat.le_refl _) hb4
    have h5 := h4.below (Nat.le_refl _) ((Below.refl _ w4).alloc (Nat.le_refl _) (.cells #[.int .u64 (5 : Nat), .int .u64 (128 : Nat)] 22))
    have h6 := h5.below (Nat.le_refl _) hb5
    exact h6.below (Nat.le_refl _) ((Below.refl _ w5).alloc (Nat.le_refl _) _)
  refine (nums_any ao _ ca _ [5, 128] [5, 128] _ (by decide) (by decide) hu2 (us_lit2 _ 5 128)).mono ?_
  rintro e w6 ⟨rfl, hb6⟩
  clear hu2
  go_wp2_with fail
  go_ret
  exact ⟨rfl, bt (ba (bt (ba (bt (bt (bt hb1 hb2) hb3) hb4) _) hb5) _) hb6⟩
end Go.Proofs.Ytlljfgaaefofbaa.V
