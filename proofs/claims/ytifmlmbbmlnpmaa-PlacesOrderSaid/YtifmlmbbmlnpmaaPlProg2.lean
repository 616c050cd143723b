/-
  The program's functions of package places, walked: Right, Room, Flip, first.
-/
import Derived.Test.YtifmlmbbmlnpmaaPlProg1
set_option linter.unusedVariables false
namespace Go.Proofs.Ytifmlmbbmlnpmaa.V
open Go.RowKit

theorem plRight (l : Lo) (R : Bool) (w : World) (bd : l.bd) (hR : decide (lright l) = R) : Calls Try.prog 14 #[.agg #[.int .u64 (l.base : Int), .int .i64 l.cap, .int .i64 l.to, .int .i64 l.low, .int .i64 l.high, .int .i64 l.old, .int .i64 l.far]] w fun e w' => e = .returned (.bool R) ∧ Below w.heap.size w w' := by
  subst hR
  obtain ⟨B, c, t, lo, hi, ol, fa⟩ := l
  have no : (¬ lright ⟨B, c, t, lo, hi, ol, fa⟩) → decide (lright ⟨B, c, t, lo, hi, ol, fa⟩) = false := fun h => decide_eq_false h
  have bd' := bd
  obtain ⟨b1, ⟨b2, b3⟩, ⟨b4, b5⟩, ⟨b6, b7⟩, ⟨b8, b9⟩, ⟨b10, b11⟩, ⟨b12, b13⟩⟩ := bd'
  simp only at b1 b2 b3 b4 b5 b6 b7 b8 b9 b10 b11 b12 b13
  by_cases k0 : B < 1
  · rw [no (by unfold lright; dsimp only; omega)]; exact plRight_0 B c t lo hi ol fa w bd k0
  by_cases k1 : c < 0
  · rw [no (by unfold lright; dsimp only; omega)]; exact plRight_1 B c t lo hi ol fa w bd k0 k1
  by_cases k2 : 4096 < c
  · rw [no (by unfold lright; dsimp only; omega)]; exact plRight_2 B c t lo hi ol fa w bd k0 k1 k2
  by_cases k3 : 9223372036854775808 < (B : Int) + 2 * c
  · rw [no (by unfold lright; dsimp only; omega)]; exact plRight_3 B c t lo hi ol fa w bd k0 k1 k2 k3
  by_cases k4 : t = 0
  · subst k4
    by_cases k6 : lfit c lo hi
    · by_cases k7 : lfit c ol fa
      · rw [decide_eq_true (show lright ⟨B, c, 0, lo, hi, ol, fa⟩ by unfold lfit at k6 k7; unfold lright; dsimp only; omega)]
        exact plRight_7_0 B c lo hi ol fa w bd k0 k1 k2 k3 (Lib.hid k6) (Lib.hid k7)
      · rw [no (by unfold lfit at k7; unfold lright; dsimp only; omega)]
        exact plRight_6_0 B c lo hi ol fa w bd k0 k1 k2 k3 (Lib.hid k6) (Lib.hid k7)
    · rw [no (by unfold lfit at k6; unfold lright; dsimp only; omega)]
      exact plRight_5_0 B c lo hi ol fa w bd k0 k1 k2 k3 (Lib.hid k6)
  by_cases k5 : t = 1
  · subst k5
    by_cases k6 : lfit c lo hi
    · by_cases k7 : lfit c ol fa
      · rw [decide_eq_true (show lright ⟨B, c, 1, lo, hi, ol, fa⟩ by unfold lfit at k6 k7; unfold lright; dsimp only; omega)]
        exact plRight_7_1 B c lo hi ol fa w bd k0 k1 k2 k3 (Lib.hid k6) (Lib.hid k7)
      · rw [no (by unfold lfit at k7; unfold lright; dsimp only; omega)]
        exact plRight_6_1 B c lo hi ol fa w bd k0 k1 k2 k3 (Lib.hid k6) (Lib.hid k7)
    · rw [no (by unfold lfit at k6; unfold lright; dsimp only; omega)]
      exact plRight_5_1 B c lo hi ol fa w bd k0 k1 k2 k3 (Lib.hid k6)
  rw [no (by unfold lright; dsimp only; omega)]
  exact plRight_4 B c t lo hi ol fa w bd k0 k1 k2 k3 k4 k5
set_option maxRecDepth 100000 in
theorem plRoom (l : Lo) (R : Int) (w : World) (bd : l.bd) (hR : lroom l = R) : Calls Try.prog 16 #[.agg #[.int .u64 (l.base : Int), .int .i64 l.cap, .int .i64 l.to, .int .i64 l.low, .int .i64 l.high, .int .i64 l.old, .int .i64 l.far]] w fun e w' => e = .returned (.int .i64 R) ∧ Below w.heap.size w w' := by
  by_cases h : lright l
  · have hr : decide (lright l) = true := decide_eq_true h
    have HR := Lib.hid hr
    unfold lroom at hR
    rw [if_pos h] at hR
    have HV := Lib.hid hR
    obtain ⟨_, ⟨h2, h3⟩, _, _, ⟨h7, h8, _, _⟩, h11, _⟩ := h
    clear hr hR
    go_enter Try.func16, Try.ntmps16
    go_wp2_with fail
    refine (plRight l true _ bd HR.out).mono ?_
    rintro e w1 ⟨rfl, hb⟩
    obtain ⟨c0, c1, c2, c3, c4, c5, c6⟩ := ((LoAt.new w l).below hb).cells
    have HB := Lib.hid (bt (ba0 w _) hb)
    clear hb c0 c2 c5 c6
    go_wp2_with fail
    go_ret
    exact ⟨by rw [← HV.out]; rfl, HB.out⟩
  · have hr : decide (lright l) = false := decide_eq_false h
    have HR := Lib.hid hr
    unfold lroom at hR
    rw [if_neg h] at hR
    have HV := Lib.hid hR
    clear hr hR h
    go_enter Try.func16, Try.ntmps16
    go_wp2_with fail
    refine (plRight l false _ bd HR.out).mono ?_
    rintro e w1 ⟨rfl, hb⟩
    have HB := Lib.hid (bt (ba0 w _) hb)
    clear hb
    go_wp2_with fail
    go_ret
    exact ⟨by rw [← HV.out]; rfl, HB.out⟩
set_option maxRecDepth 100000 in
theorem plFlip (l m : Lo) (E : Int) (w : World) (bd : l.bd) (hF : lflip l = (m, E)) : Calls Try.prog 12 #[.agg #[.int .u64 (l.base : Int), .int .i64 l.cap, .int .i64 l.to, .int .i64 l.low, .int .i64 l.high, .int .i64 l.old, .int .i64 l.far]] w fun e w' => e = .returned (.tuple #[lov m, .int .i64 E]) ∧ Below w.heap.size w w' := by
  have hz : LoAt ((w.alloc (.cells #[.int .u64 (l.base : Int), .int .i64 l.cap, .int .i64 l.to, .int .i64 l.low, .int .i64 l.high, .int .i64 l.old, .int .i64 l.far] 24)).alloc (.cells #[.int .u64 0, .int .i64 0, .int .i64 0, .int .i64 0, .int .i64 0, .int .i64 0, .int .i64 0] 24)) (w.heap.size + 1) ⟨0, 0, 0, 0, 0, 0, 0⟩ := by
    have := LoAt.new (w.alloc (.cells #[.int .u64 (l.base : Int), .int .i64 l.cap, .int .i64 l.to, .int .i64 l.low, .int .i64 l.high, .int .i64 l.old, .int .i64 l.far] 24)) ⟨0, 0, 0, 0, 0, 0, 0⟩
    rwa [World.size_alloc] at this
  have HZ := Lib.hid hz
  clear hz
  by_cases h : lright l
  · have HR := Lib.hid (show decide (lright l) = true from decide_eq_true h)
    have HV := Lib.hid (show m = ⟨l.base, l.cap, 1 - l.to, 0, 0, l.low, l.high⟩ ∧ E = 0 by
      unfold lflip at hF
      rw [if_pos h] at hF
      simp only [Prod.mk.injEq] at hF
      exact ⟨hF.1.symm, hF.2.symm⟩)
    obtain ⟨_, ⟨h2, h3⟩, _, ⟨h5, h6⟩, _⟩ := h
    clear hF
    go_enter Try.func12, Try.ntmps12
    go_wp2_with fail
    refine (plRight l true _ bd HR.out).mono ?_
    rintro e w1 ⟨rfl, hb⟩
    obtain ⟨c0, c1, c2, c3, c4, c5, c6⟩ := (((LoAt.new w l).below (ba0 _ _)).below hb).cells
    have HZ1 := Lib.hid (HZ.out.below hb)
    have HB := Lib.hid (bt (ba (ba0 w _) _) hb)
    clear hb HZ
    go_wp2_with (refine wp_store_lo rfl (.tmp 2) (.tmp 19) rfl (w.heap.size + 1) ⟨l.base, l.cap, 1 - l.to, 0, 0, l.low, l.high⟩ _ rfl rfl HZ1.out ?_; intro w2 hz2 hb2; have HZ2 := Lib.hid hz2; have HB2 := Lib.hid (hb2 _ _ (by omega) HB.out); clear hz2 hb2)
    refine bodyPost_ret (res_cell2 rfl _ _ _ (w.heap.size + 1) _ rfl (loadVar_lo HZ2.out)) rfl ?_
    exact ⟨by rw [HV.out.1, HV.out.2]; rfl, HB2.out⟩
  · have HR := Lib.hid (show decide (lright l) = false from decide_eq_false h)
    have HV := Lib.hid (show m = ⟨0, 0, 0, 0, 0, 0, 0⟩ ∧ E = 1 by
      unfold lflip at hF
      rw [if_neg h] at hF
      simp only [Prod.mk.injEq] at hF
      exact ⟨hF.1.symm, hF.2.symm⟩)
    clear h hF
    go_enter Try.func12, Try.ntmps12
    go_wp2_with fail
    refine (plRight l false _ bd HR.out).mono ?_
    rintro e w1 ⟨rfl, hb⟩
    have HZ1 := Lib.hid (HZ.out.below hb)
    have HB := Lib.hid (bt (ba (ba0 w _) _) hb)
    clear hb HZ
    go_wp2_with (refine wp_store_lo rfl (.tmp 2) (.tmp 7) rfl (w.heap.size + 1) ⟨0, 0, 0, 0, 0, 0, 0⟩ _ rfl rfl HZ1.out ?_; intro w2 hz2 hb2; have HZ2 := Lib.hid hz2; have HB2 := Lib.hid (hb2 _ _ (by omega) HB.out); clear hz2 hb2)
    refine bodyPost_ret (res_cell2 rfl _ _ _ (w.heap.size + 1) _ rfl (loadVar_lo HZ2.out)) rfl ?_
    exact ⟨by rw [HV.out.1, HV.out.2]; rfl, HB2.out⟩
set_option maxRecDepth 100000 in
theorem plFirst_01 (B : Nat) (c lo hi ol fa : Int) (w : World) (h : lright ⟨B, c, 0, lo, hi, ol, fa⟩) : Calls Try.prog 25 #[.agg #[.int .u64 (B : Int), .int .i64 c, .int .i64 0, .int .i64 lo, .int .i64 hi, .int .i64 ol, .int .i64 fa], .int .i64 1] w fun e w' => e = .returned (.int .u64 ((B : Int))) ∧ Below w.heap.size w w' := by
  obtain ⟨h1, ⟨h2, h3⟩, h4, ⟨h5, h6⟩, ⟨h7, h8, h9, h10⟩, h11, h12⟩ := h
  simp only at h1 h2 h3 h4 h7 h8 h9 h10 h11 h12
  clear h5 h6
  obtain ⟨C, rfl⟩ := Int.eq_ofNat_of_zero_le h2
  go_enter Try.func25, Try.ntmps25
  go_wp2_with fail
  go_ret
  exact ⟨by first | rfl | exact ret_int (by omega), ba0 _ _⟩
set_option maxRecDepth 100000 in
theorem plFirst_02 (B : Nat) (c lo hi ol fa : Int) (w : World) (h : lright ⟨B, c, 0, lo, hi, ol, fa⟩) : Calls Try.prog 25 #[.agg #[.int .u64 (B : Int), .int .i64 c, .int .i64 0, .int .i64 lo, .int .i64 hi, .int .i64 ol, .int .i64 fa], .int .i64 2] w fun e w' => e = .returned (.int .u64 ((B : Int) + (c - hi))) ∧ Below w.heap.size w w' := by
  obtain ⟨h1, ⟨h2, h3⟩, h4, ⟨h5, h6⟩, ⟨h7, h8, h9, h10⟩, h11, h12⟩ := h
  simp only at h1 h2 h3 h4 h7 h8 h9 h10 h11 h12
  clear h5 h6
  obtain ⟨C, rfl⟩ := Int.eq_ofNat_of_zero_le h2
  go_enter Try.func25, Try.ntmps25
  go_wp2_with fail
  go_ret
  exact ⟨by first | rfl | exact ret_int (by omega), ba0 _ _⟩
set_option maxRecDepth 100000 in
theorem plFirst_03 (B : Nat) (c lo hi ol fa : Int) (w : World) (h : lright ⟨B, c, 0, lo, hi, ol, fa⟩) : Calls Try.prog 25 #[.agg #[.int .u64 (B : Int), .int .i64 c, .int .i64 0, .int .i64 lo, .int .i64 hi, .int .i64 ol, .int .i64 fa], .int .i64 3] w fun e w' => e = .returned (.int .u64 ((B : Int) + c)) ∧ Below w.heap.size w w' := by
  obtain ⟨h1, ⟨h2, h3⟩, h4, ⟨h5, h6⟩, ⟨h7, h8, h9, h10⟩, h11, h12⟩ := h
  simp only at h1 h2 h3 h4 h7 h8 h9 h10 h11 h12
  clear h5 h6
  obtain ⟨C, rfl⟩ := Int.eq_ofNat_of_zero_le h2
  go_enter Try.func25, Try.ntmps25
  go_wp2_with fail
  go_ret
  exact ⟨by first | rfl | exact ret_int (by omega), ba0 _ _⟩
set_option maxRecDepth 100000 in
theorem plFirst_04 (B : Nat) (c lo hi ol fa : Int) (w : World) (h : lright ⟨B, c, 0, lo, hi, ol, fa⟩) : Calls Try.prog 25 #[.agg #[.int .u64 (B : Int), .int .i64 c, .int .i64 0, .int .i64 lo, .int .i64 hi, .int .i64 ol, .int .i64 fa], .int .i64 4] w fun e w' => e = .returned (.int .u64 ((B : Int) + c + (c - fa))) ∧ Below w.heap.size w w' := by
  obtain ⟨h1, ⟨h2, h3⟩, h4, ⟨h5, h6⟩, ⟨h7, h8, h9, h10⟩, h11, h12⟩ := h
  simp only at h1 h2 h3 h4 h7 h8 h9 h10 h11 h12
  clear h5 h6
  obtain ⟨C, rfl⟩ := Int.eq_ofNat_of_zero_le h2
  go_enter Try.func25, Try.ntmps25
  go_wp2_with fail
  go_ret
  exact ⟨by first | rfl | exact ret_int (by omega), ba0 _ _⟩
set_option maxRecDepth 100000 in
theorem plFirst_11 (B : Nat) (c lo hi ol fa : Int) (w : World) (h : lright ⟨B, c, 1, lo, hi, ol, fa⟩) : Calls Try.prog 25 #[.agg #[.int .u64 (B : Int), .int .i64 c, .int .i64 1, .int .i64 lo, .int .i64 hi, .int .i64 ol, .int .i64 fa], .int .i64 1] w fun e w' => e = .returned (.int .u64 ((B : Int) + c)) ∧ Below w.heap.size w w' := by
  obtain ⟨h1, ⟨h2, h3⟩, h4, ⟨h5, h6⟩, ⟨h7, h8, h9, h10⟩, h11, h12⟩ := h
  simp only at h1 h2 h3 h4 h7 h8 h9 h10 h11 h12
  clear h5 h6
  obtain ⟨C, rfl⟩ := Int.eq_ofNat_of_zero_le h2
  go_enter Try.func25, Try.ntmps25
  go_wp2_with fail
  go_ret
  exact ⟨by first | rfl | exact ret_int (by omega), ba0 _ _⟩
set_option maxRecDepth 100000 in
theorem plFirst_12 (B : Nat) (c lo hi ol fa : Int) (w : World) (h : lright ⟨B, c, 1, lo, hi, ol, fa⟩) : Calls Try.prog 25 #[.agg #[.int .u64 (B : Int), .int .i64 c, .int .i64 1, .int .i64 lo, .int .i64 hi, .int .i64 ol, .int .i64 fa], .int .i64 2] w fun e w' => e = .returned (.int .u64 ((B : Int) + c + (c - hi))) ∧ Below w.heap.size w w' := by
  obtain ⟨h1, ⟨h2, h3⟩, h4, ⟨h5, h6⟩, ⟨h7, h8, h9, h10⟩, h11, h12⟩ := h
  simp only at h1 h2 h3 h4 h7 h8 h9 h10 h11 h12
  clear h5 h6
  obtain ⟨C, rfl⟩ := Int.eq_ofNat_of_zero_le h2
  go_enter Try.func25, Try.ntmps25
  go_wp2_with fail
  go_ret
  exact ⟨by first | rfl | exact ret_int (by omega), ba0 _ _⟩
set_option maxRecDepth 100000 in
theorem plFirst_13 (B : Nat) (c lo hi ol fa : Int) (w : World) (h : lright ⟨B, c, 1, lo, hi, ol, fa⟩) : Calls Try.prog 25 #[.agg #[.int .u64 (B : Int), .int .i64 c, .int .i64 1, .int .i64 lo, .int .i64 hi, .int .i64 ol, .int .i64 fa], .int .i64 3] w fun e w' => e = .returned (.int .u64 ((B : Int))) ∧ Below w.heap.size w w' := by
  obtain ⟨h1, ⟨h2, h3⟩, h4, ⟨h5, h6⟩, ⟨h7, h8, h9, h10⟩, h11, h12⟩ := h
  simp only at h1 h2 h3 h4 h7 h8 h9 h10 h11 h12
  clear h5 h6
  obtain ⟨C, rfl⟩ := Int.eq_ofNat_of_zero_le h2
  go_enter Try.func25, Try.ntmps25
  go_wp2_with fail
  go_ret
  exact ⟨by first | rfl | exact ret_int (by omega), ba0 _ _⟩
set_option maxRecDepth 100000 in
theorem plFirst_14 (B : Nat) (c lo hi ol fa : Int) (w : World) (h : lright ⟨B, c, 1, lo, hi, ol, fa⟩) : Calls Try.prog 25 #[.agg #[.int .u64 (B : Int), .int .i64 c, .int .i64 1, .int .i64 lo, .int .i64 hi, .int .i64 ol, .int .i64 fa], .int .i64 4] w fun e w' => e = .returned (.int .u64 ((B : Int) + (c - fa))) ∧ Below w.heap.size w w' := by
  obtain ⟨h1, ⟨h2, h3⟩, h4, ⟨h5, h6⟩, ⟨h7, h8, h9, h10⟩, h11, h12⟩ := h
  simp only at h1 h2 h3 h4 h7 h8 h9 h10 h11 h12
  clear h5 h6
  obtain ⟨C, rfl⟩ := Int.eq_ofNat_of_zero_le h2
  go_enter Try.func25, Try.ntmps25
  go_wp2_with fail
  go_ret
  exact ⟨by first | rfl | exact ret_int (by omega), ba0 _ _⟩
theorem plFirst (l : Lo) (p F n : Int) (w : World) (h : lright l) (hp : lpart l p = (F, n)) (h4 : p = 1 ∨ p = 2 ∨ p = 3 ∨ p = 4) : Calls Try.prog 25 #[.agg #[.int .u64 (l.base : Int), .int .i64 l.cap, .int .i64 l.to, .int .i64 l.low, .int .i64 l.high, .int .i64 l.old, .int .i64 l.far], .int .i64 p] w fun e w' => e = .returned (.int .u64 F) ∧ Below w.heap.size w w' := by
  obtain ⟨B, c, t, lo, hi, ol, fa⟩ := l
  have ht : t = 0 ∨ t = 1 := by have h1 := h.2.2.2.1.1; have h2 := h.2.2.2.1.2; simp only at h1 h2; omega
  rcases ht with rfl | rfl <;> rcases h4 with rfl | rfl | rfl | rfl <;> simp [lpart, lto, lfrom] at hp <;> obtain ⟨rfl, rfl⟩ := hp
  · exact plFirst_01 B c lo hi ol fa w h
  · exact plFirst_02 B c lo hi ol fa w h
  · exact plFirst_03 B c lo hi ol fa w h
  · exact plFirst_04 B c lo hi ol fa w h
  · exact plFirst_11 B c lo hi ol fa w h
  · exact plFirst_12 B c lo hi ol fa w h
  · exact plFirst_13 B c lo hi ol fa w h
  · exact plFirst_14 B c lo hi ol fa w h
end Go.Proofs.Ytifmlmbbmlnpmaa.V
