/-
  words.Take and words.TakeHalf, walked.
-/
import Derived.Test.YtkdfefbjpglcpaaWTake
import Derived.Test.YtkdfefbjpglcpaaWLay
set_option linter.unusedVariables false
namespace Go.Proofs.Ytkdfefbjpglcpaa.V
open Go.RowKit

theorem wTake (s : ByteArray) (a n : Int) (w : World) (l : List Nat) (p er : Nat) (P E : Int) (hs : s.size ≤ 1000000000) (h : takeW 8 s.data.toList a n = (l, p, er)) (hP : (p : Int) = P) (hE : (er : Int) = E) :
    Calls Try.prog 17 #[.string s, .int .i64 a, .int .i64 n] w fun e w' => ∃ ao cap, e = .returned (.tuple #[.slice ao l.length cap, .int .i64 P, .int .i64 E]) ∧ Us w' ao l ∧ Below w.heap.size w w' := by
  subst hP hE
  go_enter Try.func17, Try.ntmps17
  go_wp2_with fail
  refine (wtake8 s a n _ l p er hs h).mono ?_
  rintro e w' ⟨ao, cap, rfl, hu, hb⟩
  go_wp2_with fail
  go_ret3
  exact ⟨ao, cap, rfl, hu, hb⟩

theorem wTake_ok (s : ByteArray) (i m : Nat) (J : Int) (w : World) (hs : s.size ≤ 1000000000) (h : i + 8 * m ≤ s.size) (hJ : J = (i : Int) + m * 8) :
    Calls Try.prog 17 #[.string s, .int .i64 i, .int .i64 m] w fun e w' => ∃ ao cap, e = .returned (.tuple #[.slice ao m cap, .int .i64 J, .int .i64 0]) ∧ Us w' ao (nums 8 m (s.data.toList.drop i)) ∧ Below w.heap.size w w' := by
  refine (wTake s i m w _ _ _ J 0 hs (takeW_ok 8 s.data.toList i m (by decide) h) (by omega) rfl).mono ?_
  rintro e w' ⟨ao, cap, rfl, hu, hb⟩
  rw [nums_len]
  exact ⟨ao, cap, rfl, hu, hb⟩
theorem wTake_no (s : ByteArray) (i m : Nat) (w : World) (hs : s.size ≤ 1000000000) (h : s.size < i + 8 * m) :
    Calls Try.prog 17 #[.string s, .int .i64 i, .int .i64 m] w fun e w' => ∃ ao cap, e = .returned (.tuple #[.slice ao 0 cap, .int .i64 0, .int .i64 2]) ∧ Us w' ao [] ∧ Below w.heap.size w w' :=
  wTake s i m w _ _ _ 0 2 hs (takeW_no 8 s.data.toList i m (by decide) (by simpa using h)) rfl rfl

/-- The document's TakeHalf: the number, the place behind, the error. -/
def halfW (s : List UInt8) (a : Int) : Nat × Nat × Nat :=
  if a < 0 then (0, 0, 1) else if (s.length : Int) < a + 4 then (0, 0, 2) else (val ((s.drop a.toNat).take 4), a.toNat + 4, 0)

theorem wHalf_no (s : ByteArray) (a : Int) (w : World) (p : Nat) (l : List Nat) (er : Nat) (E : Int) (hs : s.size ≤ 1000000000) (h : takeW 4 s.data.toList a 1 = (l, p, er)) (hE : (er : Int) = E) (h0 : 0 < E) :
    Calls Try.prog 15 #[.string s, .int .i64 a] w fun e w' => e = .returned (.tuple #[.int .u32 0, .int .i64 0, .int .i64 E]) ∧ Below w.heap.size w w' := by
  subst hE
  have hne : ((er : Int) != 0) = true := by simp; omega
  go_enter Try.func15, Try.ntmps15
  go_wp2_with fail
  refine (wtake4 s a 1 _ l p er hs h).mono ?_
  rintro e w' ⟨ao, cap, rfl, hu, hb⟩
  go_wp2_with fail
  go_ret3
  exact ⟨rfl, hb⟩
theorem wHalf_ok (s : ByteArray) (i : Nat) (x : Nat) (J : Int) (w : World) (hs : s.size ≤ 1000000000) (h : i + 4 ≤ s.size) (hJ : J = (i : Int) + 4) (hx : val ((s.data.toList.drop i).take 4) = x) :
    Calls Try.prog 15 #[.string s, .int .i64 i] w fun e w' => e = .returned (.tuple #[.int .u32 x, .int .i64 J, .int .i64 0]) ∧ Below w.heap.size w w' := by
  have ht : takeW 4 s.data.toList (i : Int) 1 = ([x], i + 4, 0) := by
    have := takeW_ok 4 s.data.toList i 1 (by decide) (by simpa using h)
    simp [nums, hx] at this
    exact this
  have hJ2 : ((i + 4 : Nat) : Int) = J := by omega
  have HT := Lib.hid ht
  clear ht hx hJ
  go_enter Try.func15, Try.ntmps15
  go_wp2_with fail
  refine (wtake4 s i 1 _ [x] (i + 4) 0 hs HT.out).mono ?_
  rintro e w' ⟨ao, cap, rfl, hu, hb⟩
  obtain ⟨b, off, rfl, hlt, hc⟩ := hu 0 (by simp)
  rw [hJ2]
  have hc2 : w'.cell? ⟨b, off, none⟩ = some (.int .u32 (x : Int)) := by simpa using hc
  rw [show ([x] : List Nat).length = 1 from rfl, show ((0 : Nat) : Int) = 0 from rfl]
  clear hJ2 hc
  go_wp2_with fail
  go_ret3
  exact ⟨rfl, hb⟩
/-- TakeHalf, all its answers. -/
theorem wHalf (s : ByteArray) (a : Int) (w : World) (x p er : Nat) (X P E : Int) (hs : s.size ≤ 1000000000) (h : halfW s.data.toList a = (x, p, er)) (hX : (x : Int) = X) (hP : (p : Int) = P) (hE : (er : Int) = E) :
    Calls Try.prog 15 #[.string s, .int .i64 a] w fun e w' => e = .returned (.tuple #[.int .u32 X, .int .i64 P, .int .i64 E]) ∧ Below w.heap.size w w' := by
  subst hX hP hE
  unfold halfW at h
  by_cases h1 : a < 0
  · rw [if_pos h1] at h
    cases h
    exact wHalf_no s a w _ _ _ 1 hs (takeW_neg 4 _ a 1 (Or.inl h1)) rfl (by decide)
  · rw [if_neg h1] at h
    obtain ⟨i, rfl⟩ := Int.eq_ofNat_of_zero_le (show 0 ≤ a by omega)
    by_cases h2 : s.size < i + 4
    · rw [if_pos (by simp; omega)] at h
      cases h
      have := takeW_no 4 s.data.toList i 1 (by decide) (by simpa using h2)
      exact wHalf_no s i w _ _ _ 2 hs this rfl (by decide)
    · rw [if_neg (by simp; omega)] at h
      cases h
      exact wHalf_ok s i _ _ w hs (by omega) (by simp) rfl
end Go.Proofs.Ytkdfefbjpglcpaa.V
