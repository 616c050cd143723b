/-
  The document's own Take and TakeHalf of layer 2, walked.
-/
import Derived.Test.YtkdfefbjpglcpaaWRef
import Derived.Test.YtkdfefbjpglcpaaWTop
set_option linter.unusedVariables false
namespace Go.Proofs.Ytkdfefbjpglcpaa.V
open Go.RowKit

set_option maxRecDepth 100000 in
set_option maxHeartbeats 1000000 in
theorem refTake_in (s : ByteArray) (i m : Nat) (P : Int) (w : World) (hs : s.size ≤ 1000000000) (hi : i + 8 * m ≤ s.size) (hP : (i : Int) + 8 * (m : Int) = P) :
    Calls Try.prog 18 #[.string s, .int .i64 i, .int .i64 m] w fun e w' => ∃ ao cap, e = .returned (.tuple #[.slice ao m cap, .int .i64 P, .int .i64 0]) ∧ Us w' ao (nums 8 m (s.data.toList.drop i)) ∧ Below w.heap.size w w' := by
  have hd1 : decide ((i : Int) < 0) = false := by simp
  have hd2 : decide ((m : Int) < 0) = false := by simp
  have hd3 : decide ((s.size : Int) < i) = false := by simp; omega
  have hd4 : decide (((s.size : Int) - i) / 8 < m) = false := by simp; omega
  have hd5 : decide (s.size < i) = false := by simp; omega
  go_enter Try.func18, Try.ntmps18
  go_wp2_with fail
  clear hd1 hd2 hd3 hd4 hd5
  go_loopw [9, 10] (fun u f wr => ∃ (k : Nat) (acc : List Nat), k ≤ m ∧ f = .int .i64 k ∧ acc.length ≤ k ∧ Hid (acc = nums 8 k (s.data.toList.drop i)) ∧ OwnU wr w.heap.size u acc ∧ Below w.heap.size w wr) (fun _ f _ => m - (intOf f).toNat)
  case atStart => exact ⟨0, [], by omega, rfl, by simp, Lib.hid rfl, World.ownsRow_nil _ _ _ _, Below.refl _ _⟩
  case round =>
    obtain ⟨k, acc, hk, rfl, hacc, HA, hown, hbel⟩ := hrel
    have hsz := hbel.size
    by_cases hlt : k < m
    · obtain ⟨q, hq⟩ : ∃ q : Nat, (i : Int) + 8 * (k : Int) = (q : Int) := ⟨i + 8 * k, by omega⟩
      obtain ⟨q8, hq8⟩ : ∃ q8 : Nat, (q : Int) + 8 = (q8 : Int) := ⟨q + 8, by omega⟩
      have hqq : q ≤ q8 := by omega
      have hqs : q8 ≤ s.size := by omega
      obtain ⟨T, hT⟩ : ∃ T, s.extract q q8 = T := ⟨_, rfl⟩
      have hTs : T.size ≤ 8 := by rw [← hT]; simp [ByteArray.size_extract]; omega
      obtain ⟨x, hx⟩ : ∃ x, val T.data.toList = x := ⟨_, rfl⟩
      have HA2 : Hid (acc ++ [x] = nums 8 (k + 1) (s.data.toList.drop i)) := by
        rw [nums_snoc, ← HA.out, List.drop_drop, show i + 8 * k = q by omega, ← hx, ← hT]
        have h5 : (s.extract q q8).data.toList = (s.data.toList.drop q).take 8 := by
          simp [ByteArray.data_extract]
          rw [show q8 - q = 8 by omega]
        rw [h5]; exact Lib.hid rfl
      have HX := Lib.hid hx
      clear hx HA
      go_wp2_with fail
      refine (refValue T x _ hTs HX.out).mono ?_
      rintro e w5 ⟨rfl, rfl⟩
      go_wp2_with (at_builtin; refine wp_append_u64 _ rfl (.tmp 35) (.tmp 48) rfl w.heap.size _ acc rfl (hown.alloc _) _ x rfl ?_ ?_ ?_ ?_)
      · simp [U]
      · omega
      · simp; omega
      · intro v' w3 hown' hgrow
        have hb' := hown.below hbel (Nat.le_refl _) hgrow
        clear hgrow hown hbel hq hq8 hT
        go_wp2
        go_roundw
        case rel => exact ⟨k + 1, acc ++ [x], by omega, by go_num, by simp; omega, HA2, hown', hb'⟩
        case measure => simp [intOf]; omega
    · have HA2 : Hid (acc = nums 8 m (s.data.toList.drop i)) := by rw [HA.out, show k = m by omega]; exact Lib.hid rfl
      have hl : Hid (acc.length = m) := by rw [HA2.out, nums_len]; exact Lib.hid rfl
      have hd : decide (k < m) = false := by simp; omega
      obtain ⟨ao, ca, rfl, hu⟩ := OwnU.us hown
      have hu2 := hu
      rw [HA2.out] at hu2
      rw [hl.out]
      clear HA hown hu
      go_wp2_with fail
      go_ret3
      exact ⟨ao, ca, rfl, hu2, hbel⟩

theorem refTake (s : ByteArray) (a n : Int) (w : World) (l : List Nat) (len p er : Nat) (P E : Int) (hs : s.size ≤ 1000000000) (h : takeW 8 s.data.toList a n = (l, p, er)) (hlen : l.length = len) (hP : (p : Int) = P) (hE : (er : Int) = E) :
    Calls Try.prog 18 #[.string s, .int .i64 a, .int .i64 n] w fun e w' => ∃ ao cap, e = .returned (.tuple #[.slice ao len cap, .int .i64 P, .int .i64 E]) ∧ Us w' ao l ∧ Below w.heap.size w w' := by
  subst hlen hP hE
  by_cases h1 : a < 0
  · rw [takeW_neg _ _ _ _ (Or.inl h1)] at h
    cases h
    go_enter Try.func18, Try.ntmps18
    go_wp2_with fail
    go_ret3
    first | exact ⟨none, 0, rfl, fun j hj => by simp at hj, Below.refl _ _⟩ | exact ⟨none, ⟨0, rfl⟩, fun j hj => by simp at hj, Below.refl _ _⟩
  have hd1 : decide (a < 0) = false := by simp; omega
  by_cases h2 : n < 0
  · rw [takeW_neg _ _ _ _ (Or.inr h2)] at h
    cases h
    go_enter Try.func18, Try.ntmps18
    go_wp2_with fail
    go_ret3
    first | exact ⟨none, 0, rfl, fun j hj => by simp at hj, Below.refl _ _⟩ | exact ⟨none, ⟨0, rfl⟩, fun j hj => by simp at hj, Below.refl _ _⟩
  have hd2 : decide (n < 0) = false := by simp; omega
  by_cases h3 : (s.size : Int) < a
  · rw [takeW_short _ _ _ _ (by omega) (by omega) (Or.inl h3)] at h
    cases h
    go_enter Try.func18, Try.ntmps18
    go_wp2_with fail
    go_ret3
    first | exact ⟨none, 0, rfl, fun j hj => by simp at hj, Below.refl _ _⟩ | exact ⟨none, ⟨0, rfl⟩, fun j hj => by simp at hj, Below.refl _ _⟩
  obtain ⟨i, rfl⟩ := Int.eq_ofNat_of_zero_le (show 0 ≤ a by omega)
  obtain ⟨m, rfl⟩ := Int.eq_ofNat_of_zero_le (show 0 ≤ n by omega)
  by_cases h4 : i + 8 * m ≤ s.size
  · rw [takeW_ok _ _ _ _ (by decide) h4] at h
    cases h
    rw [nums_len]
    exact refTake_in s i m _ w hs h4 (by omega)
  · rw [takeW_no _ _ _ _ (by decide) (by simpa using h4)] at h
    cases h
    have hd3 : decide ((s.size : Int) < i) = false := by simp; omega
    have hd4 : decide (((s.size : Int) - i) / 8 < m) = true := by simp; omega
    go_enter Try.func18, Try.ntmps18
    go_wp2_with fail
    go_ret3
    first | exact ⟨none, 0, rfl, fun j hj => by simp at hj, Below.refl _ _⟩ | exact ⟨none, ⟨0, rfl⟩, fun j hj => by simp at hj, Below.refl _ _⟩

theorem refHalf (s : ByteArray) (a : Int) (w : World) (x p er : Nat) (X P E : Int) (hs : s.size ≤ 1000000000) (ha1 : a ≤ 9223372036854775807) (h : halfW s.data.toList a = (x, p, er)) (hX : (x : Int) = X) (hP : (p : Int) = P) (hE : (er : Int) = E) :
    Calls Try.prog 16 #[.string s, .int .i64 a] w fun e w' => e = .returned (.tuple #[.int .u32 X, .int .i64 P, .int .i64 E]) ∧ Below w.heap.size w w' := by
  subst hX hP hE
  unfold halfW at h
  by_cases h1 : a < 0
  · rw [if_pos h1] at h
    cases h
    go_enter Try.func16, Try.ntmps16
    go_wp2_with fail
    go_ret3
    exact ⟨rfl, Below.refl _ _⟩
  · rw [if_neg h1] at h
    have hd1 : decide (a < 0) = false := by simp; omega
    by_cases h2 : (s.size : Int) < a + 4
    · rw [if_pos (by simp; omega)] at h
      cases h
      have hd2 : decide ((s.size : Int) - 4 < a) = true := by simp; omega
      go_enter Try.func16, Try.ntmps16
      go_wp2_with fail
      go_ret3
      exact ⟨rfl, Below.refl _ _⟩
    · rw [if_neg (by simp; omega)] at h
      obtain ⟨i, rfl⟩ := Int.eq_ofNat_of_zero_le (show 0 ≤ a by omega)
      cases h
      have hd2 : decide ((s.size : Int) - 4 < i) = false := by simp; omega
      obtain ⟨q, hq⟩ : ∃ q : Nat, (i : Int) + 4 = (q : Int) := ⟨i + 4, by omega⟩
      have hqi : i ≤ q := by omega
      have hqs : q ≤ s.size := by omega
      obtain ⟨T, hT⟩ : ∃ T, s.extract i q = T := ⟨_, rfl⟩
      have hTs : T.size ≤ 8 := by rw [← hT]; simp [ByteArray.size_extract]; omega
      have hx : val T.data.toList = val ((s.data.toList.drop i).take 4) := by
        rw [← hT]; simp [ByteArray.data_extract]; rw [show q - i = 4 by omega]
      have hxl : val ((s.data.toList.drop i).take 4) < 4294967296 := val_lt_of (w := 4) (by simp; omega)
      rw [show (((i : Int).toNat + 4 : Nat) : Int) = (q : Int) by omega, Int.toNat_natCast]
      generalize val ((s.data.toList.drop i).take 4) = x at hx hxl ⊢
      have HX := Lib.hid hx
      clear hx
      go_enter Try.func16, Try.ntmps16
      go_wp2_with fail
      refine (refValue T x _ hTs HX.out).mono ?_
      rintro e w5 ⟨rfl, rfl⟩
      go_wp2_with fail
      go_ret3
      exact ⟨rfl, Below.refl _ _⟩
end Go.Proofs.Ytkdfefbjpglcpaa.V
