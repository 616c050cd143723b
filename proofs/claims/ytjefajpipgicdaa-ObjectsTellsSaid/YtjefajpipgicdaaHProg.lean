/-
  The program's functions of package header, walked: Right, Pack, part, Unpack, Ref, Address answer as the functions on plain numbers.
-/
import Derived.Test.YtjefajpipgicdaaHRef
set_option linter.unusedVariables false
namespace Go.Proofs.Ytjefajpipgicdaa.V
open Go.RowKit

theorem hRightNo (s p : Int) (w : World) (h : ¬ hright s p) : Calls Try.prog 31 #[.agg #[.int .i64 s, .int .i64 p]] w fun e w' => e = .returned (.bool false) ∧ Below w.heap.size w w' := by
  by_cases h1 : p < 0
  · have d1 : decide (0 ≤ p) = false := by simp; omega
    go_enter Try.func31, Try.ntmps31
    go_wp2_with fail
    go_ret
    exact ⟨rfl, ba0 _ _⟩
  · have d1 : decide (0 ≤ p) = true := by simp; omega
    by_cases h2 : s < p
    · have d2 : decide (p ≤ s) = false := by simp; omega
      go_enter Try.func31, Try.ntmps31
      go_wp2_with fail
      go_ret
      exact ⟨rfl, ba0 _ _⟩
    · have d2 : decide (p ≤ s) = true := by simp; omega
      have d3 : decide (s ≤ 255) = false := by simp; omega
      go_enter Try.func31, Try.ntmps31
      go_wp2_with fail
      go_ret
      exact ⟨rfl, ba0 _ _⟩
theorem hRightYes (s p : Int) (w : World) (h : hright s p) : Calls Try.prog 31 #[.agg #[.int .i64 s, .int .i64 p]] w fun e w' => e = .returned (.bool true) ∧ Below w.heap.size w w' := by
  obtain ⟨h1, h2, h3, h4⟩ := h
  go_enter Try.func31, Try.ntmps31
  go_wp2_with fail
  go_ret
  exact ⟨rfl, ba0 _ _⟩
theorem hRight (s p : Int) (w : World) : Calls Try.prog 31 #[.agg #[.int .i64 s, .int .i64 p]] w fun e w' => e = .returned (.bool (decide (hright s p))) ∧ Below w.heap.size w w' := by
  by_cases h : hright s p
  · simpa [h] using hRightYes s p w h
  · simpa [h] using hRightNo s p w h

set_option maxRecDepth 100000 in
theorem hPackNo (s p : Int) (w : World) (h : ¬ hright s p) : Calls Try.prog 25 #[.agg #[.int .i64 s, .int .i64 p]] w fun e w' => e = .returned (.tuple #[.int .u64 0, .int .i64 1]) ∧ Below w.heap.size w w' := by
  go_enter Try.func25, Try.ntmps25
  go_wp2_with fail
  refine (hRightNo s p _ h).mono ?_
  rintro e w1 ⟨rfl, hb⟩
  go_wp2_with fail
  go_ret2
  exact ⟨rfl, bt (ba0 _ _) hb⟩
set_option maxRecDepth 100000 in
theorem hPackYes (s p : Nat) (v : Nat) (w : World) (h1 : s ≤ 255) (h2 : p ≤ s) (hv : hpack s p = v) : Calls Try.prog 25 #[.agg #[.int .i64 s, .int .i64 p]] w fun e w' => e = .returned (.tuple #[.int .u64 v, .int .i64 0]) ∧ Below w.heap.size w w' := by
  have hV := Lib.hid hv
  clear hv
  go_enter Try.func25, Try.ntmps25
  go_wp2_with fail
  refine (hRightYes s p _ ⟨by omega, by omega, by omega, by omega⟩).mono ?_
  rintro e w1 ⟨rfl, hb⟩
  have hc0 : w1.cell? ⟨w.heap.size, 0, none⟩ = some (.int .i64 s) := (hb.cell (p := ⟨w.heap.size, 0, none⟩) (by simp)).trans (by simp)
  have hc1 : w1.cell? ⟨w.heap.size, 1, none⟩ = some (.int .i64 p) := (hb.cell (p := ⟨w.heap.size, 1, none⟩) (by simp)).trans (by simp)
  have hb2 := Lib.hid (bt (ba0 _ _) hb)
  clear hb
  have hval : ((s : Int) * 2 + (p : Int) * 131072) = (v : Int) := by have h9 := hV.out; unfold hpack at h9; omega
  have HVal := Lib.hid hval
  clear hval
  go_wp2_with fail
  go_ret2
  refine ⟨?_, hb2.out⟩
  show Ending.returned (.tuple #[.int .u64 ((s : Int) * 2 + (p : Int) * 131072), .int .i64 0]) = _
  rw [HVal.out]
theorem hPack (s p : Int) (w : World) : Calls Try.prog 25 #[.agg #[.int .i64 s, .int .i64 p]] w fun e w' => e = .returned (.tuple #[.int .u64 (hpackI s p).1, .int .i64 (hpackI s p).2]) ∧ Below w.heap.size w w' := by
  unfold hpackI
  by_cases h : hright s p
  · rw [if_pos h]
    obtain ⟨a, rfl⟩ := Int.eq_ofNat_of_zero_le h.1
    obtain ⟨b, rfl⟩ := Int.eq_ofNat_of_zero_le h.2.2.1
    exact hPackYes a b _ w (by have := h.2.1; omega) (by have := h.2.2.2; omega) rfl
  · rw [if_neg h]
    exact hPackNo s p w h

theorem hPart1 (v r : Nat) (w : World) (hv : v < 2 ^ 64) (hr : v / 2 % 65536 = r) : Calls Try.prog 51 #[.int .u64 v, .int .i64 1] w fun e w' => e = .returned (.int .i64 r) ∧ w = w' := by
  have HR := Lib.hid hr
  clear hr
  go_enter Try.func51, Try.ntmps51
  go_wp2_with fail
  go_ret
  exact ⟨by rw [← HR.out]; simp, rfl⟩
theorem hPart17 (v r : Nat) (w : World) (hv : v < 2 ^ 64) (hr : v / 131072 % 65536 = r) : Calls Try.prog 51 #[.int .u64 v, .int .i64 17] w fun e w' => e = .returned (.int .i64 r) ∧ w = w' := by
  have HR := Lib.hid hr
  clear hr
  go_enter Try.func51, Try.ntmps51
  go_wp2_with fail
  go_ret
  exact ⟨by rw [← HR.out]; simp, rfl⟩

theorem hAddress (a : Nat) (w : World) (ha : a < 2 ^ 64) : Calls Try.prog 26 #[.int .u64 a] w fun e w' => e = .returned (.tuple #[.int .u64 (haddr a).1, .int .i64 (haddr a).2]) ∧ w = w' := by
  by_cases h1 : a = 0
  · subst h1
    go_enter Try.func26, Try.ntmps26
    go_wp2_with fail
    go_ret2
    exact ⟨rfl, rfl⟩
  · have d0 : ((a : Int) == 0) = false := by simp; omega
    by_cases h2 : a % 2 = 0
    · have e : haddr a = (0, 3) := by unfold haddr; rw [if_neg h1, if_pos (Or.inl h2)]
      have hm : (a : Int) % 2 = 0 := by omega
      have E := Lib.hid e
      clear e
      go_enter Try.func26, Try.ntmps26
      go_wp2_with fail
      go_ret2
      exact ⟨by rw [E.out]; rfl, rfl⟩
    · have hm : (a : Int) % 2 = 1 := by omega
      by_cases h3 : a = 1
      · subst h3
        go_enter Try.func26, Try.ntmps26
        go_wp2_with fail
        go_ret2
        exact ⟨rfl, rfl⟩
      · have e : haddr a = (a / 2, 0) := by unfold haddr; rw [if_neg h1, if_neg (by omega)]
        have d3 : ((a : Int) == 1) = false := by simp; omega
        have hv : Hid ((a : Int) / 2 = ((a / 2 : Nat) : Int)) := Lib.hid (by simp)
        have E := Lib.hid e
        clear e
        go_enter Try.func26, Try.ntmps26
        go_wp2_with fail
        go_ret2
        exact ⟨by rw [E.out]; rfl, rfl⟩
set_option maxRecDepth 100000 in
theorem hUnpackOk (v s p : Nat) (w : World) (hv : v < 2 ^ 64) (hsp : v / 2 % 65536 = s ∧ v / 131072 % 65536 = p) (h1 : s ≤ 255) (h2 : p ≤ s) (hx : hpack s p = v) : Calls Try.prog 46 #[.int .u64 v] w fun e w' => e = .returned (.tuple #[.agg #[.int .i64 s, .int .i64 p], .int .i64 0]) ∧ Below w.heap.size w w' := by
  have HX := Lib.hid hx
  clear hx
  have E1 := Lib.hid hsp.1
  have E2 := Lib.hid hsp.2
  clear hsp
  go_enter Try.func46, Try.ntmps46
  go_wp2_with fail
  refine (hPart1 v s _ hv E1.out).mono ?_
  rintro e w0 ⟨rfl, rfl⟩
  go_wp2_with fail
  refine (hPart17 v p _ hv E2.out).mono ?_
  rintro e w0 ⟨rfl, rfl⟩
  go_wp2_with fail
  refine (hPackYes s p v _ h1 h2 HX.out).mono ?_
  rintro e w1 ⟨rfl, hb⟩
  have ha0 : ∀ j, j < 2 → (w1.cell? ⟨w.heap.size, j, none⟩).isSome = true := by
    intro j hj
    rw [hb.cell (p := ⟨w.heap.size, j, none⟩) (by simp; omega)]
    match j, hj with
    | 0, _ => simp
    | 1, _ => simp
  have hf0 : ∀ j, j < 2 → w1.frozen? ⟨w.heap.size, j, none⟩ = false := by
    intro j hj
    rw [hb.frozen (p := ⟨w.heap.size, j, none⟩) (by simp; omega)]
    simp
  have hc0 : w1.cell? ⟨w.heap.size + 1, 0, none⟩ = some (.int .i64 s) := (hb.cell (p := ⟨w.heap.size + 1, 0, none⟩) (by simp)).trans (by simp)
  have hc1 : w1.cell? ⟨w.heap.size + 1, 1, none⟩ = some (.int .i64 p) := (hb.cell (p := ⟨w.heap.size + 1, 1, none⟩) (by simp)).trans (by simp)
  have hb2 := Lib.hid (bt (ba (ba0 w _) _) hb)
  have HA0 := Lib.hid ha0
  have HF0 := Lib.hid hf0
  clear hb ha0 hf0
  go_wp2_with (refine wp_store_sh rfl (.tmp 2) (.tmp 25) rfl w.heap.size (s : Int) (p : Int) rfl rfl HA0.out HF0.out ?_; intro w5 q1 q2 q3; have hb5 := Lib.hid (q3 _ _ (Nat.le_refl _) hb2.out); clear q3; have HQ1 := Lib.hid q1; have HQ2 := Lib.hid q2; clear q1 q2)
  refine bodyPost_ret (results_cell2 rfl _ _ _ w.heap.size (.agg #[.int .i64 (s : Int), .int .i64 (p : Int)]) rfl (loadVar_sh HQ1.out HQ2.out)) rfl ?_
  exact ⟨rfl, hb5.out⟩

set_option maxRecDepth 100000 in
theorem hUnpackNo (v s p : Nat) (w : World) (hv : v < 2 ^ 64) (hsp : v / 2 % 65536 = s ∧ v / 131072 % 65536 = p) (h : ¬ hright s p) : Calls Try.prog 46 #[.int .u64 v] w fun e w' => e = .returned (.tuple #[.agg #[.int .i64 0, .int .i64 0], .int .i64 3]) ∧ Below w.heap.size w w' := by
  have HX := Lib.hid h
  clear h
  have E1 := Lib.hid hsp.1
  have E2 := Lib.hid hsp.2
  clear hsp
  go_enter Try.func46, Try.ntmps46
  go_wp2_with fail
  refine (hPart1 v s _ hv E1.out).mono ?_
  rintro e w0 ⟨rfl, rfl⟩
  go_wp2_with fail
  refine (hPart17 v p _ hv E2.out).mono ?_
  rintro e w0 ⟨rfl, rfl⟩
  go_wp2_with fail
  refine (hPackNo s p _ HX.out).mono ?_
  rintro e w1 ⟨rfl, hb⟩
  have ha0 : ∀ j, j < 2 → (w1.cell? ⟨w.heap.size, j, none⟩).isSome = true := by
    intro j hj
    rw [hb.cell (p := ⟨w.heap.size, j, none⟩) (by simp; omega)]
    match j, hj with
    | 0, _ => simp
    | 1, _ => simp
  have hf0 : ∀ j, j < 2 → w1.frozen? ⟨w.heap.size, j, none⟩ = false := by
    intro j hj
    rw [hb.frozen (p := ⟨w.heap.size, j, none⟩) (by simp; omega)]
    simp
  have hc0 : w1.cell? ⟨w.heap.size + 1, 0, none⟩ = some (.int .i64 s) := (hb.cell (p := ⟨w.heap.size + 1, 0, none⟩) (by simp)).trans (by simp)
  have hc1 : w1.cell? ⟨w.heap.size + 1, 1, none⟩ = some (.int .i64 p) := (hb.cell (p := ⟨w.heap.size + 1, 1, none⟩) (by simp)).trans (by simp)
  have hb2 := Lib.hid (bt (ba (ba0 w _) _) hb)
  have HA0 := Lib.hid ha0
  have HF0 := Lib.hid hf0
  clear hb ha0 hf0
  go_wp2_with (refine wp_store_sh rfl (.tmp 2) (.tmp 24) rfl w.heap.size (0 : Int) (0 : Int) rfl rfl HA0.out HF0.out ?_; intro w5 q1 q2 q3; have hb5 := Lib.hid (q3 _ _ (Nat.le_refl _) hb2.out); clear q3; have HQ1 := Lib.hid q1; have HQ2 := Lib.hid q2; clear q1 q2)
  refine bodyPost_ret (results_cell2 rfl _ _ _ w.heap.size (.agg #[.int .i64 (0 : Int), .int .i64 (0 : Int)]) rfl (loadVar_sh HQ1.out HQ2.out)) rfl ?_
  exact ⟨rfl, hb5.out⟩

set_option maxRecDepth 100000 in
theorem hUnpackNot (v s p x : Nat) (w : World) (hv : v < 2 ^ 64) (hsp : v / 2 % 65536 = s ∧ v / 131072 % 65536 = p) (h1 : s ≤ 255) (h2 : p ≤ s) (hx : hpack s p = x) (hne : x ≠ v) : Calls Try.prog 46 #[.int .u64 v] w fun e w' => e = .returned (.tuple #[.agg #[.int .i64 0, .int .i64 0], .int .i64 3]) ∧ Below w.heap.size w w' := by
  have HX := Lib.hid hx
  have hn1 : ((x : Int) != v) = true := by simp; omega
  clear hx hne
  have E1 := Lib.hid hsp.1
  have E2 := Lib.hid hsp.2
  clear hsp
  go_enter Try.func46, Try.ntmps46
  go_wp2_with fail
  refine (hPart1 v s _ hv E1.out).mono ?_
  rintro e w0 ⟨rfl, rfl⟩
  go_wp2_with fail
  refine (hPart17 v p _ hv E2.out).mono ?_
  rintro e w0 ⟨rfl, rfl⟩
  go_wp2_with fail
  refine (hPackYes s p x _ h1 h2 HX.out).mono ?_
  rintro e w1 ⟨rfl, hb⟩
  have ha0 : ∀ j, j < 2 → (w1.cell? ⟨w.heap.size, j, none⟩).isSome = true := by
    intro j hj
    rw [hb.cell (p := ⟨w.heap.size, j, none⟩) (by simp; omega)]
    match j, hj with
    | 0, _ => simp
    | 1, _ => simp
  have hf0 : ∀ j, j < 2 → w1.frozen? ⟨w.heap.size, j, none⟩ = false := by
    intro j hj
    rw [hb.frozen (p := ⟨w.heap.size, j, none⟩) (by simp; omega)]
    simp
  have hc0 : w1.cell? ⟨w.heap.size + 1, 0, none⟩ = some (.int .i64 s) := (hb.cell (p := ⟨w.heap.size + 1, 0, none⟩) (by simp)).trans (by simp)
  have hc1 : w1.cell? ⟨w.heap.size + 1, 1, none⟩ = some (.int .i64 p) := (hb.cell (p := ⟨w.heap.size + 1, 1, none⟩) (by simp)).trans (by simp)
  have hb2 := Lib.hid (bt (ba (ba0 w _) _) hb)
  have HA0 := Lib.hid ha0
  have HF0 := Lib.hid hf0
  clear hb ha0 hf0
  go_wp2_with (refine wp_store_sh rfl (.tmp 2) (.tmp 24) rfl w.heap.size (0 : Int) (0 : Int) rfl rfl HA0.out HF0.out ?_; intro w5 q1 q2 q3; have hb5 := Lib.hid (q3 _ _ (Nat.le_refl _) hb2.out); clear q3; have HQ1 := Lib.hid q1; have HQ2 := Lib.hid q2; clear q1 q2)
  refine bodyPost_ret (results_cell2 rfl _ _ _ w.heap.size (.agg #[.int .i64 (0 : Int), .int .i64 (0 : Int)]) rfl (loadVar_sh HQ1.out HQ2.out)) rfl ?_
  exact ⟨rfl, hb5.out⟩

theorem hUnpack (v : Nat) (w : World) (hv : v < 2 ^ 64) : Calls Try.prog 46 #[.int .u64 v] w fun e w' => e = .returned (.tuple #[.agg #[.int .i64 (hunpack v).1, .int .i64 (hunpack v).2.1], .int .i64 (hunpack v).2.2]) ∧ Below w.heap.size w w' := by
  have hsp : v / 2 % 65536 = v / 2 % 65536 ∧ v / 131072 % 65536 = v / 131072 % 65536 := ⟨rfl, rfl⟩
  unfold hunpack
  by_cases h1 : v / 2 % 65536 ≤ 255 ∧ v / 131072 % 65536 ≤ v / 2 % 65536
  · by_cases h2 : hpack (v / 2 % 65536) (v / 131072 % 65536) = v
    · rw [if_pos ⟨h1.1, h1.2, h2⟩]
      exact hUnpackOk v _ _ w hv hsp h1.1 h1.2 h2
    · rw [if_neg (fun h => h2 h.2.2)]
      exact hUnpackNot v _ _ _ w hv hsp h1.1 h1.2 rfl h2
  · rw [if_neg (fun h => h1 ⟨h.1, h.2.1⟩)]
    exact hUnpackNo v _ _ w hv hsp (fun h => h1 ⟨by have := h.2.1; omega, by have := h.2.2.2; omega⟩)
end Go.Proofs.Ytjefajpipgicdaa.V
