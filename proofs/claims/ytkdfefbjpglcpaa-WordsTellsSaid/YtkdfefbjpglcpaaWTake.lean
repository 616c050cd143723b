/-
  words.take at both widths, walked: for every string of at most a thousand million bytes, and every place and count.
-/
import Derived.Test.YtkdfefbjpglcpaaWJoin
import Derived.Laws.IdiomStrings
set_option linter.unusedVariables false
namespace Go.Proofs.Ytkdfefbjpglcpaa.V
open Go.RowKit

theorem nums_take (w n k : Nat) (s : List UInt8) (h : w * n ≤ k) : nums w n (s.take k) = nums w n s := by
  induction n generalizing s k with
  | zero => rfl
  | succ n ih =>
    have e : w * (n + 1) = w + w * n := by rw [Nat.mul_add, Nat.mul_one, Nat.add_comm]
    rw [e] at h
    simp only [nums]
    rw [List.take_take, Nat.min_eq_left (by omega), List.drop_take, ih (k - w) _ (by omega)]
theorem bytes_now (w : World) (T : ByteArray) : ∃ cap w1, (convert 9 43 (.string T)).run Try.prog w = .ok (.slice (some ⟨w.heap.size, 0, none⟩) T.size cap) w1 ∧ T.size ≤ cap ∧ Below w.heap.size w w1 ∧ w.heap.size < w1.heap.size ∧
    ∀ j, j < T.size → w1.cell? ⟨w.heap.size, j, none⟩ = some (B (T.data.toList.getD j 0)) := by
  refine ⟨_, _, run_bytes_of_string w 9 43 5 T Try.underlying9 Try.underlying43 Try.underlying5, grownCap_ge _ _ _ _, ba (Below.drewN (Below.refl _ w) 1) _, by simp, ?_⟩
  intro j hj
  have hj2 : j < T.data.size := hj
  rw [show w.heap.size = (w.drewN 1).heap.size from rfl]
  refine (World.cell?_alloc_mark (w.drewN 1) _ _ _ j).trans ?_
  simp [bytesRow, B, hj, Array.getElem?_append, List.getD]

set_option maxRecDepth 100000 in
set_option maxHeartbeats 1000000 in
theorem take8_in (s T : ByteArray) (i m j0 : Nat) (w : World) (hs : s.size ≤ 1000000000) (hi : i + 8 * m ≤ s.size) (hij : i ≤ j0) (hjs : j0 ≤ s.size) (hj0 : (i : Int) + (m : Int) * 8 = (j0 : Int)) (hx : s.extract i j0 = T) (hl : T.size = m * 8) :
    Calls Try.prog 25 #[.string s, .int .i64 i, .int .i64 m] w fun e w' => ∃ ao cap, e = .returned (.tuple #[.slice ao m cap, .int .i64 j0, .int .i64 0]) ∧ Us w' ao (nums 8 m T.data.toList) ∧ Below w.heap.size w w' := by
  have hd1 : decide ((i : Int) < 0) = false := by simp
  have hd2 : decide ((m : Int) < 0) = false := by simp
  have hd3 : decide ((s.size : Int) < i) = false := by simp; omega
  have hd4 : decide (((s.size : Int) - i) / 8 < m) = false := by simp; omega
  obtain ⟨cap, w1, hcv, hcap, hb1, hs1, hcell⟩ := bytes_now w T
  have HC := Lib.hid hcell
  have HS := Lib.hid hl
  clear hcell hl
  go_enter Try.func25, Try.ntmps25
  go_wp2_with fail
  refine (width8 _).mono ?_
  rintro e w' ⟨rfl, rfl⟩
  go_wp2_with (at_make; refine wp_make_u64 _ rfl _ _ rfl _ m rfl rfl rfl (by omega) ?_)
  intro v1 w2 hown1 hgrow1
  have hb2 : Below w1.heap.size w1 w2 := (Below.refl _ _).grown hgrow1 (Nat.le_refl _) (by intro k h; cases h)
  clear hgrow1 hx hcv hd1 hd2 hd3 hd4 hj0
  go_wp2_with fail
  go_loopw [6, 11] (fun v f wr => ∃ (k q : Nat) (acc : List Nat), k ≤ m ∧ f = .int .i64 q ∧ k * 8 ≤ q ∧ q ≤ k * 8 ∧ acc.length ≤ k ∧ Hid (acc = nums 8 k T.data.toList) ∧ OwnU wr w1.heap.size v acc ∧ Below w1.heap.size w1 wr) (fun _ f _ => m * 8 - (intOf f).toNat)
  case atStart => exact ⟨0, 0, [], by omega, rfl, by omega, by omega, by simp, Lib.hid (by simp [nums]), hown1, hb2⟩
  case round =>
    obtain ⟨k, q, acc, hk, rfl, hq1, hq2, hacc, HA, hown, hbel⟩ := hrel
    clear hown1 hb2
    have hsz := hbel.size
    have hTs := HS.out
    generalize hn : T.size = n at hTs hcap ⊢
    by_cases hlt : k < m
    · have hj : Hid (∀ (g : World), Below w1.heap.size w1 g → Calls Try.prog 29 #[.slice (some ⟨w.heap.size, q, none⟩) 8 8] g fun e w' => e = .returned (.int .u64 (val ((T.data.toList.drop (8 * k)).take 8))) ∧ g = w') := by
        refine Lib.hid fun g hg => join8 w.heap.size q _ g (by simp [hn]; omega) ?_
        intro j hj
        simp [hn] at hj
        have := HC.out (q + j) (by rw [hn]; omega)
        rw [(hg.cell (p := ⟨w.heap.size, q + j, none⟩) hs1).trans this]
        congr 2
        have e : q + j = 8 * k + j := by omega
        simp [List.getD, e, show j < 8 by omega]
      generalize hx : val ((T.data.toList.drop (8 * k)).take 8) = x at hj
      have HA2 : Hid (acc ++ [x] = nums 8 (k + 1) T.data.toList) := by rw [nums_snoc, ← HA.out, hx]; exact Lib.hid rfl
      clear hx HA hn
      have hn1 : m * 8 ≤ n := by omega
      have hn2 : n ≤ m * 8 := by omega
      clear hTs
      go_wp2_with fail
      refine (hj.out wr hbel).mono ?_
      rintro e w' ⟨rfl, rfl⟩
      go_wp2_with (at_builtin; refine wp_append_u64 _ rfl (.tmp 52) (.tmp 63) rfl w1.heap.size _ acc rfl (hown.alloc _) _ x rfl ?_ ?_ ?_ ?_)
      · simp [U]
      · omega
      · simp; omega
      · intro v' w3 hown' hgrow
        have hb' := hown.below hbel (Nat.le_refl _) hgrow
        clear hgrow hown hbel hj
        go_wp2
        go_roundw
        case rel => exact ⟨k + 1, q + 8, acc ++ [x], by omega, by go_num, by omega, by omega, by simp; omega, HA2, hown', hb'⟩
        case measure => simp [intOf]; omega
    · have HA2 : Hid (acc = nums 8 m T.data.toList) := by rw [HA.out, show k = m by omega]; exact Lib.hid rfl
      have hl : Hid (acc.length = m) := by rw [HA2.out, nums_len]; exact Lib.hid rfl
      have hd : decide (q < n) = false := by simp; omega
      obtain ⟨ao, ca, rfl, hu⟩ := OwnU.us hown
      have hu2 := hu
      rw [HA2.out] at hu2
      rw [hl.out]
      clear HA hn hTs hown hu
      go_wp2_with fail
      go_ret3
      exact ⟨ao, ca, rfl, hu2, bt hb1 hbel⟩

theorem wtake8 (s : ByteArray) (a n : Int) (w : World) (l : List Nat) (p er : Nat) (hs : s.size ≤ 1000000000) (h : takeW 8 s.data.toList a n = (l, p, er)) :
    Calls Try.prog 25 #[.string s, .int .i64 a, .int .i64 n] w fun e w' => ∃ ao cap, e = .returned (.tuple #[.slice ao l.length cap, .int .i64 p, .int .i64 er]) ∧ Us w' ao l ∧ Below w.heap.size w w' := by
  by_cases h1 : a < 0
  · rw [takeW_neg _ _ _ _ (Or.inl h1)] at h
    cases h
    go_enter Try.func25, Try.ntmps25
    go_wp2_with fail
    go_ret3
    exact ⟨_, _, rfl, fun j hj => by simp at hj, Below.refl _ _⟩
  have hd1 : decide (a < 0) = false := by simp; omega
  by_cases h2 : n < 0
  · rw [takeW_neg _ _ _ _ (Or.inr h2)] at h
    cases h
    go_enter Try.func25, Try.ntmps25
    go_wp2_with fail
    go_ret3
    exact ⟨none, ⟨0, rfl⟩, fun j hj => by simp at hj, Below.refl _ _⟩
  by_cases h3 : (s.size : Int) < a
  · rw [takeW_short _ _ _ _ (by omega) (by omega) (Or.inl h3)] at h
    cases h
    have hd2 : decide (n < 0) = false := by simp; omega
    go_enter Try.func25, Try.ntmps25
    go_wp2_with fail
    refine (width8 _).mono ?_
    rintro e w' ⟨rfl, rfl⟩
    go_wp2_with fail
    go_ret3
    exact ⟨_, _, rfl, fun j hj => by simp at hj, Below.refl _ _⟩
  obtain ⟨i, rfl⟩ := Int.eq_ofNat_of_zero_le (show 0 ≤ a by omega)
  obtain ⟨m, rfl⟩ := Int.eq_ofNat_of_zero_le (show 0 ≤ n by omega)
  by_cases h4 : i + 8 * m ≤ s.size
  · rw [takeW_ok _ _ _ _ (by decide) h4] at h
    cases h
    have hT : (s.extract i (i + m * 8)).size = m * 8 := by simp [ByteArray.size_extract]; omega
    refine (take8_in s _ i m (i + m * 8) w hs h4 (by omega) (by omega) (by omega) rfl hT).mono ?_
    rintro e w' ⟨ao, cap, rfl, hu, hb⟩
    have e2 : nums 8 m (s.extract i (i + m * 8)).data.toList = nums 8 m (s.data.toList.drop i) := by
      have h5 : (s.extract i (i + m * 8)).data.toList = (s.data.toList.drop i).take (m * 8) := by
        simp [ByteArray.data_extract, Array.toList_extract]
      rw [h5]
      exact nums_take 8 m _ _ (by omega)
    rw [e2] at hu
    exact ⟨ao, cap, by rw [nums_len]; rfl, hu, hb⟩
  · rw [takeW_no _ _ _ _ (by decide) (by simpa using h4)] at h
    cases h
    have hd2 : decide ((m : Int) < 0) = false := by simp
    have hd3 : decide ((s.size : Int) < i) = false := by simp; omega
    have hd4 : decide (((s.size : Int) - i) / 8 < m) = true := by simp; omega
    go_enter Try.func25, Try.ntmps25
    go_wp2_with fail
    refine (width8 _).mono ?_
    rintro e w' ⟨rfl, rfl⟩
    go_wp2_with fail
    go_ret3
    exact ⟨_, _, rfl, fun j hj => by simp at hj, Below.refl _ _⟩

set_option maxRecDepth 100000 in
set_option maxHeartbeats 1000000 in
theorem take4_in (s T : ByteArray) (i m j0 : Nat) (w : World) (hs : s.size ≤ 1000000000) (hi : i + 4 * m ≤ s.size) (hij : i ≤ j0) (hjs : j0 ≤ s.size) (hj0 : (i : Int) + (m : Int) * 4 = (j0 : Int)) (hx : s.extract i j0 = T) (hl : T.size = m * 4) :
    Calls Try.prog 23 #[.string s, .int .i64 i, .int .i64 m] w fun e w' => ∃ ao cap, e = .returned (.tuple #[.slice ao m cap, .int .i64 j0, .int .i64 0]) ∧ Us4 w' ao (nums 4 m T.data.toList) ∧ Below w.heap.size w w' := by
  have hd1 : decide ((i : Int) < 0) = false := by simp
  have hd2 : decide ((m : Int) < 0) = false := by simp
  have hd3 : decide ((s.size : Int) < i) = false := by simp; omega
  have hd4 : decide (((s.size : Int) - i) / 4 < m) = false := by simp; omega
  obtain ⟨cap, w1, hcv, hcap, hb1, hs1, hcell⟩ := bytes_now w T
  have HC := Lib.hid hcell
  have HS := Lib.hid hl
  clear hcell hl
  go_enter Try.func23, Try.ntmps23
  go_wp2_with fail
  refine (width4 _).mono ?_
  rintro e w' ⟨rfl, rfl⟩
  go_wp2_with (at_make; refine wp_make_u32 _ rfl _ _ rfl _ m rfl rfl rfl (by omega) ?_)
  intro v1 w2 hown1 hgrow1
  have hb2 : Below w1.heap.size w1 w2 := (Below.refl _ _).grown hgrow1 (Nat.le_refl _) (by intro k h; cases h)
  clear hgrow1 hx hcv hd1 hd2 hd3 hd4 hj0
  go_wp2_with fail
  go_loopw [6, 11] (fun v f wr => ∃ (k q : Nat) (acc : List Nat), k ≤ m ∧ f = .int .i64 q ∧ k * 4 ≤ q ∧ q ≤ k * 4 ∧ acc.length ≤ k ∧ Hid (acc = nums 4 k T.data.toList) ∧ OwnH wr w1.heap.size v acc ∧ Below w1.heap.size w1 wr) (fun _ f _ => m * 4 - (intOf f).toNat)
  case atStart => exact ⟨0, 0, [], by omega, rfl, by omega, by omega, by simp, Lib.hid (by simp [nums]), hown1, hb2⟩
  case round =>
    obtain ⟨k, q, acc, hk, rfl, hq1, hq2, hacc, HA, hown, hbel⟩ := hrel
    clear hown1 hb2
    have hsz := hbel.size
    have hTs := HS.out
    generalize hn : T.size = n at hTs hcap ⊢
    by_cases hlt : k < m
    · have hj : Hid (∀ (g : World), Below w1.heap.size w1 g → Calls Try.prog 28 #[.slice (some ⟨w.heap.size, q, none⟩) 4 4] g fun e w' => e = .returned (.int .u32 (val ((T.data.toList.drop (4 * k)).take 4))) ∧ g = w') := by
        refine Lib.hid fun g hg => join4 w.heap.size q _ g (by simp [hn]; omega) ?_
        intro j hj
        simp [hn] at hj
        have := HC.out (q + j) (by rw [hn]; omega)
        rw [(hg.cell (p := ⟨w.heap.size, q + j, none⟩) hs1).trans this]
        congr 2
        have e : q + j = 4 * k + j := by omega
        simp [List.getD, e, show j < 4 by omega]
      generalize hx : val ((T.data.toList.drop (4 * k)).take 4) = x at hj
      have HA2 : Hid (acc ++ [x] = nums 4 (k + 1) T.data.toList) := by rw [nums_snoc, ← HA.out, hx]; exact Lib.hid rfl
      clear hx HA hn
      have hn1 : m * 4 ≤ n := by omega
      have hn2 : n ≤ m * 4 := by omega
      clear hTs
      go_wp2_with fail
      refine (hj.out wr hbel).mono ?_
      rintro e w' ⟨rfl, rfl⟩
      go_wp2_with (at_builtin; refine wp_append_u32 _ rfl (.tmp 52) (.tmp 63) rfl w1.heap.size _ acc rfl (hown.alloc _) _ x rfl ?_ ?_ ?_ ?_)
      · simp [H]
      · omega
      · simp; omega
      · intro v' w3 hown' hgrow
        have hb' := hown.below hbel (Nat.le_refl _) hgrow
        clear hgrow hown hbel hj
        go_wp2
        go_roundw
        case rel => exact ⟨k + 1, q + 4, acc ++ [x], by omega, by go_num, by omega, by omega, by simp; omega, HA2, hown', hb'⟩
        case measure => simp [intOf]; omega
    · have HA2 : Hid (acc = nums 4 m T.data.toList) := by rw [HA.out, show k = m by omega]; exact Lib.hid rfl
      have hl : Hid (acc.length = m) := by rw [HA2.out, nums_len]; exact Lib.hid rfl
      have hd : decide (q < n) = false := by simp; omega
      obtain ⟨ao, ca, rfl, hu⟩ := OwnH.us4 hown
      have hu2 := hu
      rw [HA2.out] at hu2
      rw [hl.out]
      clear HA hn hTs hown hu
      go_wp2_with fail
      go_ret3
      exact ⟨ao, ca, rfl, hu2, bt hb1 hbel⟩

theorem wtake4 (s : ByteArray) (a n : Int) (w : World) (l : List Nat) (p er : Nat) (hs : s.size ≤ 1000000000) (h : takeW 4 s.data.toList a n = (l, p, er)) :
    Calls Try.prog 23 #[.string s, .int .i64 a, .int .i64 n] w fun e w' => ∃ ao cap, e = .returned (.tuple #[.slice ao l.length cap, .int .i64 p, .int .i64 er]) ∧ Us4 w' ao l ∧ Below w.heap.size w w' := by
  by_cases h1 : a < 0
  · rw [takeW_neg _ _ _ _ (Or.inl h1)] at h
    cases h
    go_enter Try.func23, Try.ntmps23
    go_wp2_with fail
    go_ret3
    exact ⟨_, _, rfl, fun j hj => by simp at hj, Below.refl _ _⟩
  have hd1 : decide (a < 0) = false := by simp; omega
  by_cases h2 : n < 0
  · rw [takeW_neg _ _ _ _ (Or.inr h2)] at h
    cases h
    go_enter Try.func23, Try.ntmps23
    go_wp2_with fail
    go_ret3
    exact ⟨none, ⟨0, rfl⟩, fun j hj => by simp at hj, Below.refl _ _⟩
  by_cases h3 : (s.size : Int) < a
  · rw [takeW_short _ _ _ _ (by omega) (by omega) (Or.inl h3)] at h
    cases h
    have hd2 : decide (n < 0) = false := by simp; omega
    go_enter Try.func23, Try.ntmps23
    go_wp2_with fail
    refine (width4 _).mono ?_
    rintro e w' ⟨rfl, rfl⟩
    go_wp2_with fail
    go_ret3
    exact ⟨_, _, rfl, fun j hj => by simp at hj, Below.refl _ _⟩
  obtain ⟨i, rfl⟩ := Int.eq_ofNat_of_zero_le (show 0 ≤ a by omega)
  obtain ⟨m, rfl⟩ := Int.eq_ofNat_of_zero_le (show 0 ≤ n by omega)
  by_cases h4 : i + 4 * m ≤ s.size
  · rw [takeW_ok _ _ _ _ (by decide) h4] at h
    cases h
    have hT : (s.extract i (i + m * 4)).size = m * 4 := by simp [ByteArray.size_extract]; omega
    refine (take4_in s _ i m (i + m * 4) w hs h4 (by omega) (by omega) (by omega) rfl hT).mono ?_
    rintro e w' ⟨ao, cap, rfl, hu, hb⟩
    have e2 : nums 4 m (s.extract i (i + m * 4)).data.toList = nums 4 m (s.data.toList.drop i) := by
      have h5 : (s.extract i (i + m * 4)).data.toList = (s.data.toList.drop i).take (m * 4) := by
        simp [ByteArray.data_extract, Array.toList_extract]
      rw [h5]
      exact nums_take 4 m _ _ (by omega)
    rw [e2] at hu
    exact ⟨ao, cap, by rw [nums_len]; rfl, hu, hb⟩
  · rw [takeW_no _ _ _ _ (by decide) (by simpa using h4)] at h
    cases h
    have hd2 : decide ((m : Int) < 0) = false := by simp
    have hd3 : decide ((s.size : Int) < i) = false := by simp; omega
    have hd4 : decide (((s.size : Int) - i) / 4 < m) = true := by simp; omega
    go_enter Try.func23, Try.ntmps23
    go_wp2_with fail
    refine (width4 _).mono ?_
    rintro e w' ⟨rfl, rfl⟩
    go_wp2_with fail
    go_ret3
    exact ⟨_, _, rfl, fun j hj => by simp at hj, Below.refl _ _⟩
end Go.Proofs.Ytkdfefbjpglcpaa.V
