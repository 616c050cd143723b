/-
  The document's own first addresses of parts, walked.
-/
import Derived.Test.YtifmlmbbmlnpmaaPlRefR
set_option linter.unusedVariables false
namespace Go.Proofs.Ytifmlmbbmlnpmaa.V
open Go.RowKit

set_option maxRecDepth 100000 in
theorem refParts7_01 (B : Nat) (c lo hi ol fa p : Int) (w : World) (h : lright ⟨B, c, 0, lo, hi, ol, fa⟩) (hp : p = 1) : Calls Try.prog 24 #[.agg #[.int .u64 (B : Int), .int .i64 c, .int .i64 0, .int .i64 lo, .int .i64 hi, .int .i64 ol, .int .i64 fa], .int .i64 p] w fun e w' => e = .returned (.tuple #[.int .u64 ((B : Int)), .int .i64 (lo)]) ∧ Below w.heap.size w w' := by
  obtain ⟨h1, ⟨h2, h3⟩, h4, ⟨h5, h6⟩, ⟨h7, h8, h9, h10⟩, h11, h12⟩ := h
  simp only at h1 h2 h3 h4 h7 h8 h9 h10 h11 h12
  clear h5 h6
  obtain ⟨C, rfl⟩ := Int.eq_ofNat_of_zero_le h2
  subst hp
  go_enter Try.func24, Try.ntmps24
  go_wp2_with fail
  go_region
  go_wp2_with fail
  go_ret2
  exact ⟨rfl, (ba0 _ _).drew⟩
set_option maxRecDepth 100000 in
theorem refParts7_02 (B : Nat) (c lo hi ol fa p : Int) (w : World) (h : lright ⟨B, c, 0, lo, hi, ol, fa⟩) (hp : p = 2) : Calls Try.prog 24 #[.agg #[.int .u64 (B : Int), .int .i64 c, .int .i64 0, .int .i64 lo, .int .i64 hi, .int .i64 ol, .int .i64 fa], .int .i64 p] w fun e w' => e = .returned (.tuple #[.int .u64 ((B : Int) + (c - hi)), .int .i64 (hi)]) ∧ Below w.heap.size w w' := by
  obtain ⟨h1, ⟨h2, h3⟩, h4, ⟨h5, h6⟩, ⟨h7, h8, h9, h10⟩, h11, h12⟩ := h
  simp only at h1 h2 h3 h4 h7 h8 h9 h10 h11 h12
  clear h5 h6
  obtain ⟨C, rfl⟩ := Int.eq_ofNat_of_zero_le h2
  subst hp
  go_enter Try.func24, Try.ntmps24
  go_wp2_with fail
  go_region
  go_wp2_with fail
  go_ret2
  exact ⟨rfl, (ba0 _ _).drew⟩
set_option maxRecDepth 100000 in
theorem refParts7_03 (B : Nat) (c lo hi ol fa p : Int) (w : World) (h : lright ⟨B, c, 0, lo, hi, ol, fa⟩) (hp : p = 3) : Calls Try.prog 24 #[.agg #[.int .u64 (B : Int), .int .i64 c, .int .i64 0, .int .i64 lo, .int .i64 hi, .int .i64 ol, .int .i64 fa], .int .i64 p] w fun e w' => e = .returned (.tuple #[.int .u64 ((B : Int) + c), .int .i64 (ol)]) ∧ Below w.heap.size w w' := by
  obtain ⟨h1, ⟨h2, h3⟩, h4, ⟨h5, h6⟩, ⟨h7, h8, h9, h10⟩, h11, h12⟩ := h
  simp only at h1 h2 h3 h4 h7 h8 h9 h10 h11 h12
  clear h5 h6
  obtain ⟨C, rfl⟩ := Int.eq_ofNat_of_zero_le h2
  subst hp
  go_enter Try.func24, Try.ntmps24
  go_wp2_with fail
  go_region
  go_wp2_with fail
  go_ret2
  exact ⟨rfl, (ba0 _ _).drew⟩
set_option maxRecDepth 100000 in
theorem refParts7_04 (B : Nat) (c lo hi ol fa p : Int) (w : World) (h : lright ⟨B, c, 0, lo, hi, ol, fa⟩) (hp : p = 4) : Calls Try.prog 24 #[.agg #[.int .u64 (B : Int), .int .i64 c, .int .i64 0, .int .i64 lo, .int .i64 hi, .int .i64 ol, .int .i64 fa], .int .i64 p] w fun e w' => e = .returned (.tuple #[.int .u64 ((B : Int) + c + (c - fa)), .int .i64 (fa)]) ∧ Below w.heap.size w w' := by
  obtain ⟨h1, ⟨h2, h3⟩, h4, ⟨h5, h6⟩, ⟨h7, h8, h9, h10⟩, h11, h12⟩ := h
  simp only at h1 h2 h3 h4 h7 h8 h9 h10 h11 h12
  clear h5 h6
  obtain ⟨C, rfl⟩ := Int.eq_ofNat_of_zero_le h2
  subst hp
  go_enter Try.func24, Try.ntmps24
  go_wp2_with fail
  go_region
  go_wp2_with fail
  go_ret2
  exact ⟨rfl, (ba0 _ _).drew⟩
set_option maxRecDepth 100000 in
theorem refParts7_00 (B : Nat) (c lo hi ol fa p : Int) (w : World) (h : lright ⟨B, c, 0, lo, hi, ol, fa⟩) (hp1 : p ≠ 1) (hp2 : p ≠ 2) (hp3 : p ≠ 3) (hp4 : p ≠ 4) : Calls Try.prog 24 #[.agg #[.int .u64 (B : Int), .int .i64 c, .int .i64 0, .int .i64 lo, .int .i64 hi, .int .i64 ol, .int .i64 fa], .int .i64 p] w fun e w' => e = .returned (.tuple #[.int .u64 (0), .int .i64 (0)]) ∧ Below w.heap.size w w' := by
  obtain ⟨h1, ⟨h2, h3⟩, h4, ⟨h5, h6⟩, ⟨h7, h8, h9, h10⟩, h11, h12⟩ := h
  simp only at h1 h2 h3 h4 h7 h8 h9 h10 h11 h12
  clear h5 h6
  obtain ⟨C, rfl⟩ := Int.eq_ofNat_of_zero_le h2
  have q1 : (p == 1) = false := by simpa using hp1
  have q2 : (p == 2) = false := by simpa using hp2
  have q3 : (p == 3) = false := by simpa using hp3
  have q4 : (p == 4) = false := by simpa using hp4
  go_enter Try.func24, Try.ntmps24
  go_wp2_with fail
  go_ret2
  exact ⟨rfl, ba0 _ _⟩
set_option maxRecDepth 100000 in
theorem refParts7_11 (B : Nat) (c lo hi ol fa p : Int) (w : World) (h : lright ⟨B, c, 1, lo, hi, ol, fa⟩) (hp : p = 1) : Calls Try.prog 24 #[.agg #[.int .u64 (B : Int), .int .i64 c, .int .i64 1, .int .i64 lo, .int .i64 hi, .int .i64 ol, .int .i64 fa], .int .i64 p] w fun e w' => e = .returned (.tuple #[.int .u64 ((B : Int) + c), .int .i64 (lo)]) ∧ Below w.heap.size w w' := by
  obtain ⟨h1, ⟨h2, h3⟩, h4, ⟨h5, h6⟩, ⟨h7, h8, h9, h10⟩, h11, h12⟩ := h
  simp only at h1 h2 h3 h4 h7 h8 h9 h10 h11 h12
  clear h5 h6
  obtain ⟨C, rfl⟩ := Int.eq_ofNat_of_zero_le h2
  subst hp
  go_enter Try.func24, Try.ntmps24
  go_wp2_with fail
  go_region
  go_wp2_with fail
  go_ret2
  exact ⟨rfl, (ba0 _ _).drew⟩
set_option maxRecDepth 100000 in
theorem refParts7_12 (B : Nat) (c lo hi ol fa p : Int) (w : World) (h : lright ⟨B, c, 1, lo, hi, ol, fa⟩) (hp : p = 2) : Calls Try.prog 24 #[.agg #[.int .u64 (B : Int), .int .i64 c, .int .i64 1, .int .i64 lo, .int .i64 hi, .int .i64 ol, .int .i64 fa], .int .i64 p] w fun e w' => e = .returned (.tuple #[.int .u64 ((B : Int) + c + (c - hi)), .int .i64 (hi)]) ∧ Below w.heap.size w w' := by
  obtain ⟨h1, ⟨h2, h3⟩, h4, ⟨h5, h6⟩, ⟨h7, h8, h9, h10⟩, h11, h12⟩ := h
  simp only at h1 h2 h3 h4 h7 h8 h9 h10 h11 h12
  clear h5 h6
  obtain ⟨C, rfl⟩ := Int.eq_ofNat_of_zero_le h2
  subst hp
  go_enter Try.func24, Try.ntmps24
  go_wp2_with fail
  go_region
  go_wp2_with fail
  go_ret2
  exact ⟨rfl, (ba0 _ _).drew⟩
set_option maxRecDepth 100000 in
theorem refParts7_13 (B : Nat) (c lo hi ol fa p : Int) (w : World) (h : lright ⟨B, c, 1, lo, hi, ol, fa⟩) (hp : p = 3) : Calls Try.prog 24 #[.agg #[.int .u64 (B : Int), .int .i64 c, .int .i64 1, .int .i64 lo, .int .i64 hi, .int .i64 ol, .int .i64 fa], .int .i64 p] w fun e w' => e = .returned (.tuple #[.int .u64 ((B : Int)), .int .i64 (ol)]) ∧ Below w.heap.size w w' := by
  obtain ⟨h1, ⟨h2, h3⟩, h4, ⟨h5, h6⟩, ⟨h7, h8, h9, h10⟩, h11, h12⟩ := h
  simp only at h1 h2 h3 h4 h7 h8 h9 h10 h11 h12
  clear h5 h6
  obtain ⟨C, rfl⟩ := Int.eq_ofNat_of_zero_le h2
  subst hp
  go_enter Try.func24, Try.ntmps24
  go_wp2_with fail
  go_region
  go_wp2_with fail
  go_ret2
  exact ⟨rfl, (ba0 _ _).drew⟩
set_option maxRecDepth 100000 in
theorem refParts7_14 (B : Nat) (c lo hi ol fa p : Int) (w : World) (h : lright ⟨B, c, 1, lo, hi, ol, fa⟩) (hp : p = 4) : Calls Try.prog 24 #[.agg #[.int .u64 (B : Int), .int .i64 c, .int .i64 1, .int .i64 lo, .int .i64 hi, .int .i64 ol, .int .i64 fa], .int .i64 p] w fun e w' => e = .returned (.tuple #[.int .u64 ((B : Int) + (c - fa)), .int .i64 (fa)]) ∧ Below w.heap.size w w' := by
  obtain ⟨h1, ⟨h2, h3⟩, h4, ⟨h5, h6⟩, ⟨h7, h8, h9, h10⟩, h11, h12⟩ := h
  simp only at h1 h2 h3 h4 h7 h8 h9 h10 h11 h12
  clear h5 h6
  obtain ⟨C, rfl⟩ := Int.eq_ofNat_of_zero_le h2
  subst hp
  go_enter Try.func24, Try.ntmps24
  go_wp2_with fail
  go_region
  go_wp2_with fail
  go_ret2
  exact ⟨rfl, (ba0 _ _).drew⟩
set_option maxRecDepth 100000 in
theorem refParts7_10 (B : Nat) (c lo hi ol fa p : Int) (w : World) (h : lright ⟨B, c, 1, lo, hi, ol, fa⟩) (hp1 : p ≠ 1) (hp2 : p ≠ 2) (hp3 : p ≠ 3) (hp4 : p ≠ 4) : Calls Try.prog 24 #[.agg #[.int .u64 (B : Int), .int .i64 c, .int .i64 1, .int .i64 lo, .int .i64 hi, .int .i64 ol, .int .i64 fa], .int .i64 p] w fun e w' => e = .returned (.tuple #[.int .u64 (0), .int .i64 (0)]) ∧ Below w.heap.size w w' := by
  obtain ⟨h1, ⟨h2, h3⟩, h4, ⟨h5, h6⟩, ⟨h7, h8, h9, h10⟩, h11, h12⟩ := h
  simp only at h1 h2 h3 h4 h7 h8 h9 h10 h11 h12
  clear h5 h6
  obtain ⟨C, rfl⟩ := Int.eq_ofNat_of_zero_le h2
  have q1 : (p == 1) = false := by simpa using hp1
  have q2 : (p == 2) = false := by simpa using hp2
  have q3 : (p == 3) = false := by simpa using hp3
  have q4 : (p == 4) = false := by simpa using hp4
  go_enter Try.func24, Try.ntmps24
  go_wp2_with fail
  go_ret2
  exact ⟨rfl, ba0 _ _⟩
theorem refParts7 (l : Lo) (p A n : Int) (w : World) (h : lright l) (hp : lpart l p = (A, n)) : Calls Try.prog 24 #[.agg #[.int .u64 (l.base : Int), .int .i64 l.cap, .int .i64 l.to, .int .i64 l.low, .int .i64 l.high, .int .i64 l.old, .int .i64 l.far], .int .i64 p] w fun e w' => e = .returned (.tuple #[.int .u64 A, .int .i64 n]) ∧ Below w.heap.size w w' := by
  obtain ⟨B, c, t, lo, hi, ol, fa⟩ := l
  have ht : t = 0 ∨ t = 1 := by have h1 := h.2.2.2.1.1; have h2 := h.2.2.2.1.2; simp only at h1 h2; omega
  unfold lpart lto lfrom at hp
  simp only at hp ⊢
  rcases ht with rfl | rfl
  · by_cases p1 : p = 1
    · rw [if_pos p1] at hp
      simp only [Prod.mk.injEq] at hp
      obtain ⟨rfl, rfl⟩ := hp
      exact refParts7_01 B c _ hi ol fa p w h p1
    · rw [if_neg p1] at hp
      by_cases p2 : p = 2
      · rw [if_pos p2] at hp
        simp only [Prod.mk.injEq] at hp
        obtain ⟨rfl, rfl⟩ := hp
        exact refParts7_02 B c lo _ ol fa p w h p2
      · rw [if_neg p2] at hp
        by_cases p3 : p = 3
        · rw [if_pos p3] at hp
          simp only [Prod.mk.injEq] at hp
          obtain ⟨rfl, rfl⟩ := hp
          exact refParts7_03 B c lo hi _ fa p w h p3
        · rw [if_neg p3] at hp
          by_cases p4 : p = 4
          · rw [if_pos p4] at hp
            simp only [Prod.mk.injEq] at hp
            obtain ⟨rfl, rfl⟩ := hp
            exact refParts7_04 B c lo hi ol _ p w h p4
          · rw [if_neg p4] at hp
            simp only [Prod.mk.injEq] at hp
            obtain ⟨rfl, rfl⟩ := hp
            exact refParts7_00 B c lo hi ol fa p w h p1 p2 p3 p4
  · by_cases p1 : p = 1
    · rw [if_pos p1] at hp
      simp only [Prod.mk.injEq] at hp
      obtain ⟨rfl, rfl⟩ := hp
      exact refParts7_11 B c _ hi ol fa p w h p1
    · rw [if_neg p1] at hp
      by_cases p2 : p = 2
      · rw [if_pos p2] at hp
        simp only [Prod.mk.injEq] at hp
        obtain ⟨rfl, rfl⟩ := hp
        exact refParts7_12 B c lo _ ol fa p w h p2
      · rw [if_neg p2] at hp
        by_cases p3 : p = 3
        · rw [if_pos p3] at hp
          simp only [Prod.mk.injEq] at hp
          obtain ⟨rfl, rfl⟩ := hp
          exact refParts7_13 B c lo hi _ fa p w h p3
        · rw [if_neg p3] at hp
          by_cases p4 : p = 4
          · rw [if_pos p4] at hp
            simp only [Prod.mk.injEq] at hp
            obtain ⟨rfl, rfl⟩ := hp
            exact refParts7_14 B c lo hi ol _ p w h p4
          · rw [if_neg p4] at hp
            simp only [Prod.mk.injEq] at hp
            obtain ⟨rfl, rfl⟩ := hp
            exact refParts7_10 B c lo hi ol fa p w h p1 p2 p3 p4
end Go.Proofs.Ytifmlmbbmlnpmaa.V
