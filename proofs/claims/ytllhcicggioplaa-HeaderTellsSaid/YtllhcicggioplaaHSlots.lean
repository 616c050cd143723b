/-
  HeaderSlots: for every shape the statement's function returns true, and writes nothing that was there.
-/
import Derived.Test.YtllhcicggioplaaHAwake
set_option linter.unusedVariables false
namespace Go.Proofs.Ytllhcicggioplaa.V
open Go.RowKit

theorem hPackYesI (S P : Int) (s p v : Nat) (w : World) (hS : S = (s : Int)) (hP : P = (p : Int)) (h1 : s ≤ 255) (h2 : p ≤ s) (hv : hpack s p = v) : Calls Try.prog 11 #[.agg #[.int .i64 S, .int .i64 P]] w fun e w' => e = .returned (.tuple #[.int .u64 v, .int .i64 0]) ∧ Below w.heap.size w w' := by
  subst hS; subst hP; exact hPackYes s p v w h1 h2 hv
set_option maxRecDepth 100000 in
set_option maxHeartbeats 1000000 in
theorem slots_yy (S0 P0 : Int) (s p v : Nat) (w : World) (b0 : -9223372036854775808 ≤ S0) (b1 : S0 ≤ 9223372036854775807) (b2 : -9223372036854775808 ≤ P0) (b3 : P0 ≤ 9223372036854775807)
    (hs : Hid (pk S0 256 = (s : Int))) (hp : Hid (pk P0 ((s : Int) + 1) = (p : Int))) (hv : Hid (hpack s p = v)) (h0 : s ≤ 255) (h00 : p ≤ s) (h1 : s < 255) (h2 : p < s) :
    Calls Try.prog 7 #[.agg #[.int .i64 S0, .int .i64 P0]] w fun e w' => e = .returned (.bool true) ∧ Below w.heap.size w w' := by
  go_enter Try.func7, Try.ntmps7
  go_wp2_with fail
  refine (awake05 _).mono ?_
  rintro e w1 ⟨rfl, hb1⟩
  have hc0 : w1.cell? ⟨w.heap.size, 0, none⟩ = some (.int .i64 S0) := cell_step hb1 (by simp) (by simp)
  have hc1 : w1.cell? ⟨w.heap.size, 1, none⟩ = some (.int .i64 P0) := cell_step hb1 (by simp) (by simp)
  have HB := Lib.hid (bt (ba0 _ _) hb1)
  have hl1 : w.heap.size < w1.heap.size := by have := hb1.size; simp at this; omega
  clear hb1
  go_wp2_with fail
  refine (pick05_int S0 256 s _ b0 b1 (by decide) (by decide) hs.out).mono ?_
  rintro e w2 ⟨rfl, rfl⟩
  have hd1 : (w1.alloc (.cells #[.int .i64 s, .int .i64 0] 23)).cell? ⟨w.heap.size, 1, none⟩ = some (.int .i64 P0) := cell_step (ba0 w1 _) hl1 hc1
  go_wp2_with fail
  refine (pick05_int P0 ((s : Int) + 1) p _ b2 b3 (by omega) (by omega) hp.out).mono ?_
  rintro e w2 ⟨rfl, rfl⟩
  go_wp2_with fail
  refine (hPackYes s p v _ h0 h00 hv.out).mono ?_
  rintro e w2 ⟨rfl, hb2⟩
  have g0 : w2.cell? ⟨w1.heap.size, 0, none⟩ = some (.int .i64 s) := cell_step hb2 (by simp) (by simp)
  have g1 : w2.cell? ⟨w1.heap.size, 1, none⟩ = some (.int .i64 p) := cell_step hb2 (by simp) (by simp)
  have hl2 : w1.heap.size < w2.heap.size := by have := hb2.size; simp at this; omega
  have HB2 := Lib.hid (bt (ba HB.out _) hb2)
  clear hb2 hc0 hc1 hd1 HB
  go_wp2_with fail
  obtain ⟨x, hx⟩ : ∃ x : Nat, (v : Int) + 2 = (x : Int) := ⟨v + 2, by omega⟩
  refine (hPackYesI ((s : Int) + 1) (p : Int) (s + 1) p x _ (by omega) rfl (by omega) (by omega) (by have := hv.out; unfold hpack at this ⊢; omega)).mono ?_
  rintro e w3 ⟨rfl, hb3⟩
  have m0 : w3.cell? ⟨w2.heap.size, 0, none⟩ = some (.int .i64 ((s : Int) + 1)) := cell_step hb3 (by simp) (by simp)
  have m1 : w3.cell? ⟨w2.heap.size, 1, none⟩ = some (.int .i64 p) := cell_step hb3 (by simp) (by simp)
  have k0 : w3.cell? ⟨w1.heap.size, 0, none⟩ = some (.int .i64 s) := cell_step hb3 (by simp; omega) (cell_step (ba0 w2 _) hl2 g0)
  have k1 : w3.cell? ⟨w1.heap.size, 1, none⟩ = some (.int .i64 p) := cell_step hb3 (by simp; omega) (cell_step (ba0 w2 _) hl2 g1)
  have hl3 : w2.heap.size < w3.heap.size := by have := hb3.size; simp at this; omega
  have HB3 := Lib.hid (bt (ba HB2.out _) hb3)
  clear hb3 g0 g1 HB2
  go_wp2_with fail
  obtain ⟨y, hy⟩ : ∃ y : Nat, (v : Int) + 131072 = (y : Int) := ⟨v + 131072, by omega⟩
  refine (hPackYesI (s : Int) ((p : Int) + 1) s (p + 1) y _ rfl (by omega) (by omega) (by omega) (by have := hv.out; unfold hpack at this ⊢; omega)).mono ?_
  rintro e w4 ⟨rfl, hb4⟩
  have n0 : w4.cell? ⟨w3.heap.size, 0, none⟩ = some (.int .i64 s) := cell_step hb4 (by simp) (by simp)
  have n1 : w4.cell? ⟨w3.heap.size, 1, none⟩ = some (.int .i64 ((p : Int) + 1)) := cell_step hb4 (by simp) (by simp)
  have i0 : w4.cell? ⟨w2.heap.size, 0, none⟩ = some (.int .i64 ((s : Int) + 1)) := cell_step hb4 (by simp; omega) (cell_step (ba0 w3 _) hl3 m0)
  have i1 : w4.cell? ⟨w2.heap.size, 1, none⟩ = some (.int .i64 p) := cell_step hb4 (by simp; omega) (cell_step (ba0 w3 _) hl3 m1)
  have j0 : w4.cell? ⟨w1.heap.size, 0, none⟩ = some (.int .i64 s) := cell_step hb4 (by simp; omega) (cell_step (ba0 w3 _) (by omega) k0)
  have j1 : w4.cell? ⟨w1.heap.size, 1, none⟩ = some (.int .i64 p) := cell_step hb4 (by simp; omega) (cell_step (ba0 w3 _) (by omega) k1)
  have hl4 : w3.heap.size < w4.heap.size := by have := hb4.size; simp at this; omega
  have HB4 := Lib.hid (bt (ba HB3.out _) hb4)
  clear hb4 m0 m1 k0 k1 HB3
  have d1 : decide ((s : Int) < 255) = true := by simp; omega
  have d2 : decide (p < s) = true := by simp; omega
  have vm : v < 33554432 := by have := hv.out; unfold hpack at this; omega
  go_wp2_with fail
  refine (hRightYes ((s : Int) + 1) (p : Int) _ (by omega)).mono ?_
  rintro e w5 ⟨rfl, hb5⟩
  have q0 : w5.cell? ⟨w3.heap.size, 0, none⟩ = some (.int .i64 s) := cell_step hb5 hl4 n0
  have q1 : w5.cell? ⟨w3.heap.size, 1, none⟩ = some (.int .i64 ((p : Int) + 1)) := cell_step hb5 hl4 n1
  have HB5 := Lib.hid (bt HB4.out hb5)
  clear hb5 HB4 n0 n1 i0 i1 j0 j1
  go_wp2_with fail
  refine (hRightYes (s : Int) ((p : Int) + 1) _ (by omega)).mono ?_
  rintro e w6 ⟨rfl, hb6⟩
  go_wp2_with fail
  go_ret
  exact ⟨rfl, bt HB5.out hb6⟩
set_option maxRecDepth 100000 in
set_option maxHeartbeats 1000000 in
theorem slots_yn (S0 P0 : Int) (s p v : Nat) (w : World) (b0 : -9223372036854775808 ≤ S0) (b1 : S0 ≤ 9223372036854775807) (b2 : -9223372036854775808 ≤ P0) (b3 : P0 ≤ 9223372036854775807)
    (hs : Hid (pk S0 256 = (s : Int))) (hp : Hid (pk P0 ((s : Int) + 1) = (p : Int))) (hv : Hid (hpack s p = v)) (h0 : s ≤ 255) (h00 : p ≤ s) (h1 : s < 255) (h2 : ¬ p < s) :
    Calls Try.prog 7 #[.agg #[.int .i64 S0, .int .i64 P0]] w fun e w' => e = .returned (.bool true) ∧ Below w.heap.size w w' := by
  go_enter Try.func7, Try.ntmps7
  go_wp2_with fail
  refine (awake05 _).mono ?_
  rintro e w1 ⟨rfl, hb1⟩
  have hc0 : w1.cell? ⟨w.heap.size, 0, none⟩ = some (.int .i64 S0) := cell_step hb1 (by simp) (by simp)
  have hc1 : w1.cell? ⟨w.heap.size, 1, none⟩ = some (.int .i64 P0) := cell_step hb1 (by simp) (by simp)
  have HB := Lib.hid (bt (ba0 _ _) hb1)
  have hl1 : w.heap.size < w1.heap.size := by have := hb1.size; simp at this; omega
  clear hb1
  go_wp2_with fail
  refine (pick05_int S0 256 s _ b0 b1 (by decide) (by decide) hs.out).mono ?_
  rintro e w2 ⟨rfl, rfl⟩
  have hd1 : (w1.alloc (.cells #[.int .i64 s, .int .i64 0] 23)).cell? ⟨w.heap.size, 1, none⟩ = some (.int .i64 P0) := cell_step (ba0 w1 _) hl1 hc1
  go_wp2_with fail
  refine (pick05_int P0 ((s : Int) + 1) p _ b2 b3 (by omega) (by omega) hp.out).mono ?_
  rintro e w2 ⟨rfl, rfl⟩
  go_wp2_with fail
  refine (hPackYes s p v _ h0 h00 hv.out).mono ?_
  rintro e w2 ⟨rfl, hb2⟩
  have g0 : w2.cell? ⟨w1.heap.size, 0, none⟩ = some (.int .i64 s) := cell_step hb2 (by simp) (by simp)
  have g1 : w2.cell? ⟨w1.heap.size, 1, none⟩ = some (.int .i64 p) := cell_step hb2 (by simp) (by simp)
  have hl2 : w1.heap.size < w2.heap.size := by have := hb2.size; simp at this; omega
  have HB2 := Lib.hid (bt (ba HB.out _) hb2)
  clear hb2 hc0 hc1 hd1 HB
  go_wp2_with fail
  obtain ⟨x, hx⟩ : ∃ x : Nat, (v : Int) + 2 = (x : Int) := ⟨v + 2, by omega⟩
  refine (hPackYesI ((s : Int) + 1) (p : Int) (s + 1) p x _ (by omega) rfl (by omega) (by omega) (by have := hv.out; unfold hpack at this ⊢; omega)).mono ?_
  rintro e w3 ⟨rfl, hb3⟩
  have m0 : w3.cell? ⟨w2.heap.size, 0, none⟩ = some (.int .i64 ((s : Int) + 1)) := cell_step hb3 (by simp) (by simp)
  have m1 : w3.cell? ⟨w2.heap.size, 1, none⟩ = some (.int .i64 p) := cell_step hb3 (by simp) (by simp)
  have k0 : w3.cell? ⟨w1.heap.size, 0, none⟩ = some (.int .i64 s) := cell_step hb3 (by simp; omega) (cell_step (ba0 w2 _) hl2 g0)
  have k1 : w3.cell? ⟨w1.heap.size, 1, none⟩ = some (.int .i64 p) := cell_step hb3 (by simp; omega) (cell_step (ba0 w2 _) hl2 g1)
  have hl3 : w2.heap.size < w3.heap.size := by have := hb3.size; simp at this; omega
  have HB3 := Lib.hid (bt (ba HB2.out _) hb3)
  clear hb3 g0 g1 HB2
  go_wp2_with fail
  refine (hPackNo (s : Int) ((p : Int) + 1) _ (by omega)).mono ?_
  rintro e w4 ⟨rfl, hb4⟩
  have n0 : w4.cell? ⟨w3.heap.size, 0, none⟩ = some (.int .i64 s) := cell_step hb4 (by simp) (by simp)
  have n1 : w4.cell? ⟨w3.heap.size, 1, none⟩ = some (.int .i64 ((p : Int) + 1)) := cell_step hb4 (by simp) (by simp)
  have i0 : w4.cell? ⟨w2.heap.size, 0, none⟩ = some (.int .i64 ((s : Int) + 1)) := cell_step hb4 (by simp; omega) (cell_step (ba0 w3 _) hl3 m0)
  have i1 : w4.cell? ⟨w2.heap.size, 1, none⟩ = some (.int .i64 p) := cell_step hb4 (by simp; omega) (cell_step (ba0 w3 _) hl3 m1)
  have j0 : w4.cell? ⟨w1.heap.size, 0, none⟩ = some (.int .i64 s) := cell_step hb4 (by simp; omega) (cell_step (ba0 w3 _) (by omega) k0)
  have j1 : w4.cell? ⟨w1.heap.size, 1, none⟩ = some (.int .i64 p) := cell_step hb4 (by simp; omega) (cell_step (ba0 w3 _) (by omega) k1)
  have hl4 : w3.heap.size < w4.heap.size := by have := hb4.size; simp at this; omega
  have HB4 := Lib.hid (bt (ba HB3.out _) hb4)
  clear hb4 m0 m1 k0 k1 HB3
  have d1 : decide ((s : Int) < 255) = true := by simp; omega
  have d2 : decide (p < s) = false := by simp; omega
  have vm : v < 33554432 := by have := hv.out; unfold hpack at this; omega
  go_wp2_with fail
  refine (hRightYes ((s : Int) + 1) (p : Int) _ (by omega)).mono ?_
  rintro e w5 ⟨rfl, hb5⟩
  have q0 : w5.cell? ⟨w3.heap.size, 0, none⟩ = some (.int .i64 s) := cell_step hb5 hl4 n0
  have q1 : w5.cell? ⟨w3.heap.size, 1, none⟩ = some (.int .i64 ((p : Int) + 1)) := cell_step hb5 hl4 n1
  have HB5 := Lib.hid (bt HB4.out hb5)
  clear hb5 HB4 n0 n1 i0 i1 j0 j1
  go_wp2_with fail
  refine (hRightNo (s : Int) ((p : Int) + 1) _ (by omega)).mono ?_
  rintro e w6 ⟨rfl, hb6⟩
  go_wp2_with fail
  go_ret
  exact ⟨rfl, bt HB5.out hb6⟩
set_option maxRecDepth 100000 in
set_option maxHeartbeats 1000000 in
theorem slots_ny (S0 P0 : Int) (s p v : Nat) (w : World) (b0 : -9223372036854775808 ≤ S0) (b1 : S0 ≤ 9223372036854775807) (b2 : -9223372036854775808 ≤ P0) (b3 : P0 ≤ 9223372036854775807)
    (hs : Hid (pk S0 256 = (s : Int))) (hp : Hid (pk P0 ((s : Int) + 1) = (p : Int))) (hv : Hid (hpack s p = v)) (h0 : s ≤ 255) (h00 : p ≤ s) (h1 : ¬ s < 255) (h2 : p < s) :
    Calls Try.prog 7 #[.agg #[.int .i64 S0, .int .i64 P0]] w fun e w' => e = .returned (.bool true) ∧ Below w.heap.size w w' := by
  go_enter Try.func7, Try.ntmps7
  go_wp2_with fail
  refine (awake05 _).mono ?_
  rintro e w1 ⟨rfl, hb1⟩
  have hc0 : w1.cell? ⟨w.heap.size, 0, none⟩ = some (.int .i64 S0) := cell_step hb1 (by simp) (by simp)
  have hc1 : w1.cell? ⟨w.heap.size, 1, none⟩ = some (.int .i64 P0) := cell_step hb1 (by simp) (by simp)
  have HB := Lib.hid (bt (ba0 _ _) hb1)
  have hl1 : w.heap.size < w1.heap.size := by have := hb1.size; simp at this; omega
  clear hb1
  go_wp2_with fail
  refine (pick05_int S0 256 s _ b0 b1 (by decide) (by decide) hs.out).mono ?_
  rintro e w2 ⟨rfl, rfl⟩
  have hd1 : (w1.alloc (.cells #[.int .i64 s, .int .i64 0] 23)).cell? ⟨w.heap.size, 1, none⟩ = some (.int .i64 P0) := cell_step (ba0 w1 _) hl1 hc1
  go_wp2_with fail
  refine (pick05_int P0 ((s : Int) + 1) p _ b2 b3 (by omega) (by omega) hp.out).mono ?_
  rintro e w2 ⟨rfl, rfl⟩
  go_wp2_with fail
  refine (hPackYes s p v _ h0 h00 hv.out).mono ?_
  rintro e w2 ⟨rfl, hb2⟩
  have g0 : w2.cell? ⟨w1.heap.size, 0, none⟩ = some (.int .i64 s) := cell_step hb2 (by simp) (by simp)
  have g1 : w2.cell? ⟨w1.heap.size, 1, none⟩ = some (.int .i64 p) := cell_step hb2 (by simp) (by simp)
  have hl2 : w1.heap.size < w2.heap.size := by have := hb2.size; simp at this; omega
  have HB2 := Lib.hid (bt (ba HB.out _) hb2)
  clear hb2 hc0 hc1 hd1 HB
  go_wp2_with fail
  refine (hPackNo ((s : Int) + 1) (p : Int) _ (by omega)).mono ?_
  rintro e w3 ⟨rfl, hb3⟩
  have m0 : w3.cell? ⟨w2.heap.size, 0, none⟩ = some (.int .i64 ((s : Int) + 1)) := cell_step hb3 (by simp) (by simp)
  have m1 : w3.cell? ⟨w2.heap.size, 1, none⟩ = some (.int .i64 p) := cell_step hb3 (by simp) (by simp)
  have k0 : w3.cell? ⟨w1.heap.size, 0, none⟩ = some (.int .i64 s) := cell_step hb3 (by simp; omega) (cell_step (ba0 w2 _) hl2 g0)
  have k1 : w3.cell? ⟨w1.heap.size, 1, none⟩ = some (.int .i64 p) := cell_step hb3 (by simp; omega) (cell_step (ba0 w2 _) hl2 g1)
  have hl3 : w2.heap.size < w3.heap.size := by have := hb3.size; simp at this; omega
  have HB3 := Lib.hid (bt (ba HB2.out _) hb3)
  clear hb3 g0 g1 HB2
  go_wp2_with fail
  obtain ⟨y, hy⟩ : ∃ y : Nat, (v : Int) + 131072 = (y : Int) := ⟨v + 131072, by omega⟩
  refine (hPackYesI (s : Int) ((p : Int) + 1) s (p + 1) y _ rfl (by omega) (by omega) (by omega) (by have := hv.out; unfold hpack at this ⊢; omega)).mono ?_
  rintro e w4 ⟨rfl, hb4⟩
  have n0 : w4.cell? ⟨w3.heap.size, 0, none⟩ = some (.int .i64 s) := cell_step hb4 (by simp) (by simp)
  have n1 : w4.cell? ⟨w3.heap.size, 1, none⟩ = some (.int .i64 ((p : Int) + 1)) := cell_step hb4 (by simp) (by simp)
  have i0 : w4.cell? ⟨w2.heap.size, 0, none⟩ = some (.int .i64 ((s : Int) + 1)) := cell_step hb4 (by simp; omega) (cell_step (ba0 w3 _) hl3 m0)
  have i1 : w4.cell? ⟨w2.heap.size, 1, none⟩ = some (.int .i64 p) := cell_step hb4 (by simp; omega) (cell_step (ba0 w3 _) hl3 m1)
  have j0 : w4.cell? ⟨w1.heap.size, 0, none⟩ = some (.int .i64 s) := cell_step hb4 (by simp; omega) (cell_step (ba0 w3 _) (by omega) k0)
  have j1 : w4.cell? ⟨w1.heap.size, 1, none⟩ = some (.int .i64 p) := cell_step hb4 (by simp; omega) (cell_step (ba0 w3 _) (by omega) k1)
  have hl4 : w3.heap.size < w4.heap.size := by have := hb4.size; simp at this; omega
  have HB4 := Lib.hid (bt (ba HB3.out _) hb4)
  clear hb4 m0 m1 k0 k1 HB3
  have d1 : decide ((s : Int) < 255) = false := by simp; omega
  have d2 : decide (p < s) = true := by simp; omega
  have vm : v < 33554432 := by have := hv.out; unfold hpack at this; omega
  go_wp2_with fail
  refine (hRightNo ((s : Int) + 1) (p : Int) _ (by omega)).mono ?_
  rintro e w5 ⟨rfl, hb5⟩
  have q0 : w5.cell? ⟨w3.heap.size, 0, none⟩ = some (.int .i64 s) := cell_step hb5 hl4 n0
  have q1 : w5.cell? ⟨w3.heap.size, 1, none⟩ = some (.int .i64 ((p : Int) + 1)) := cell_step hb5 hl4 n1
  have HB5 := Lib.hid (bt HB4.out hb5)
  clear hb5 HB4 n0 n1 i0 i1 j0 j1
  go_wp2_with fail
  refine (hRightYes (s : Int) ((p : Int) + 1) _ (by omega)).mono ?_
  rintro e w6 ⟨rfl, hb6⟩
  go_wp2_with fail
  go_ret
  exact ⟨rfl, bt HB5.out hb6⟩
set_option maxRecDepth 100000 in
set_option maxHeartbeats 1000000 in
theorem slots_nn (S0 P0 : Int) (s p v : Nat) (w : World) (b0 : -9223372036854775808 ≤ S0) (b1 : S0 ≤ 9223372036854775807) (b2 : -9223372036854775808 ≤ P0) (b3 : P0 ≤ 9223372036854775807)
    (hs : Hid (pk S0 256 = (s : Int))) (hp : Hid (pk P0 ((s : Int) + 1) = (p : Int))) (hv : Hid (hpack s p = v)) (h0 : s ≤ 255) (h00 : p ≤ s) (h1 : ¬ s < 255) (h2 : ¬ p < s) :
    Calls Try.prog 7 #[.agg #[.int .i64 S0, .int .i64 P0]] w fun e w' => e = .returned (.bool true) ∧ Below w.heap.size w w' := by
  go_enter Try.func7, Try.ntmps7
  go_wp2_with fail
  refine (awake05 _).mono ?_
  rintro e w1 ⟨rfl, hb1⟩
  have hc0 : w1.cell? ⟨w.heap.size, 0, none⟩ = some (.int .i64 S0) := cell_step hb1 (by simp) (by simp)
  have hc1 : w1.cell? ⟨w.heap.size, 1, none⟩ = some (.int .i64 P0) := cell_step hb1 (by simp) (by simp)
  have HB := Lib.hid (bt (ba0 _ _) hb1)
  have hl1 : w.heap.size < w1.heap.size := by have := hb1.size; simp at this; omega
  clear hb1
  go_wp2_with fail
  refine (pick05_int S0 256 s _ b0 b1 (by decide) (by decide) hs.out).mono ?_
  rintro e w2 ⟨rfl, rfl⟩
  have hd1 : (w1.alloc (.cells #[.int .i64 s, .int .i64 0] 23)).cell? ⟨w.heap.size, 1, none⟩ = some (.int .i64 P0) := cell_step (ba0 w1 _) hl1 hc1
  go_wp2_with fail
  refine (pick05_int P0 ((s : Int) + 1) p _ b2 b3 (by omega) (by omega) hp.out).mono ?_
  rintro e w2 ⟨rfl, rfl⟩
  go_wp2_with fail
  refine (hPackYes s p v _ h0 h00 hv.out).mono ?_
  rintro e w2 ⟨rfl, hb2⟩
  have g0 : w2.cell? ⟨w1.heap.size, 0, none⟩ = some (.int .i64 s) := cell_step hb2 (by simp) (by simp)
  have g1 : w2.cell? ⟨w1.heap.size, 1, none⟩ = some (.int .i64 p) := cell_step hb2 (by simp) (by simp)
  have hl2 : w1.heap.size < w2.heap.size := by have := hb2.size; simp at this; omega
  have HB2 := Lib.hid (bt (ba HB.out _) hb2)
  clear hb2 hc0 hc1 hd1 HB
  go_wp2_with fail
  refine (hPackNo ((s : Int) + 1) (p : Int) _ (by omega)).mono ?_
  rintro e w3 ⟨rfl, hb3⟩
  have m0 : w3.cell? ⟨w2.heap.size, 0, none⟩ = some (.int .i64 ((s : Int) + 1)) := cell_step hb3 (by simp) (by simp)
  have m1 : w3.cell? ⟨w2.heap.size, 1, none⟩ = some (.int .i64 p) := cell_step hb3 (by simp) (by simp)
  have k0 : w3.cell? ⟨w1.heap.size, 0, none⟩ = some (.int .i64 s) := cell_step hb3 (by simp; omega) (cell_step (ba0 w2 _) hl2 g0)
  have k1 : w3.cell? ⟨w1.heap.size, 1, none⟩ = some (.int .i64 p) := cell_step hb3 (by simp; omega) (cell_step (ba0 w2 _) hl2 g1)
  have hl3 : w2.heap.size < w3.heap.size := by have := hb3.size; simp at this; omega
  have HB3 := Lib.hid (bt (ba HB2.out _) hb3)
  clear hb3 g0 g1 HB2
  go_wp2_with fail
  refine (hPackNo (s : Int) ((p : Int) + 1) _ (by omega)).mono ?_
  rintro e w4 ⟨rfl, hb4⟩
  have n0 : w4.cell? ⟨w3.heap.size, 0, none⟩ = some (.int .i64 s) := cell_step hb4 (by simp) (by simp)
  have n1 : w4.cell? ⟨w3.heap.size, 1, none⟩ = some (.int .i64 ((p : Int) + 1)) := cell_step hb4 (by simp) (by simp)
  have i0 : w4.cell? ⟨w2.heap.size, 0, none⟩ = some (.int .i64 ((s : Int) + 1)) := cell_step hb4 (by simp; omega) (cell_step (ba0 w3 _) hl3 m0)
  have i1 : w4.cell? ⟨w2.heap.size, 1, none⟩ = some (.int .i64 p) := cell_step hb4 (by simp; omega) (cell_step (ba0 w3 _) hl3 m1)
  have j0 : w4.cell? ⟨w1.heap.size, 0, none⟩ = some (.int .i64 s) := cell_step hb4 (by simp; omega) (cell_step (ba0 w3 _) (by omega) k0)
  have j1 : w4.cell? ⟨w1.heap.size, 1, none⟩ = some (.int .i64 p) := cell_step hb4 (by simp; omega) (cell_step (ba0 w3 _) (by omega) k1)
  have hl4 : w3.heap.size < w4.heap.size := by have := hb4.size; simp at this; omega
  have HB4 := Lib.hid (bt (ba HB3.out _) hb4)
  clear hb4 m0 m1 k0 k1 HB3
  have d1 : decide ((s : Int) < 255) = false := by simp; omega
  have d2 : decide (p < s) = false := by simp; omega
  go_wp2_with fail
  refine (hRightNo ((s : Int) + 1) (p : Int) _ (by omega)).mono ?_
  rintro e w5 ⟨rfl, hb5⟩
  have q0 : w5.cell? ⟨w3.heap.size, 0, none⟩ = some (.int .i64 s) := cell_step hb5 hl4 n0
  have q1 : w5.cell? ⟨w3.heap.size, 1, none⟩ = some (.int .i64 ((p : Int) + 1)) := cell_step hb5 hl4 n1
  have HB5 := Lib.hid (bt HB4.out hb5)
  clear hb5 HB4 n0 n1 i0 i1 j0 j1
  go_wp2_with fail
  refine (hRightNo (s : Int) ((p : Int) + 1) _ (by omega)).mono ?_
  rintro e w6 ⟨rfl, hb6⟩
  go_wp2_with fail
  go_ret
  exact ⟨rfl, bt HB5.out hb6⟩
theorem headerSlots_walk (S0 P0 : Int) (w : World) (b0 : -9223372036854775808 ≤ S0) (b1 : S0 ≤ 9223372036854775807) (b2 : -9223372036854775808 ≤ P0) (b3 : P0 ≤ 9223372036854775807) :
    Calls Try.prog 7 #[.agg #[.int .i64 S0, .int .i64 P0]] w fun e w' => e = .returned (.bool true) ∧ Below w.heap.size w w' := by
  obtain ⟨s, hs, hs2⟩ := pk_nat S0 256 (by decide)
  obtain ⟨p, hp, hp2⟩ := pk_nat P0 ((s : Int) + 1) (by omega)
  by_cases h1 : s < 255
  · by_cases h2 : p < s
    · exact slots_yy S0 P0 s p _ w b0 b1 b2 b3 (Lib.hid hs) (Lib.hid hp) (Lib.hid rfl) (by omega) (by omega) h1 h2
    · exact slots_yn S0 P0 s p _ w b0 b1 b2 b3 (Lib.hid hs) (Lib.hid hp) (Lib.hid rfl) (by omega) (by omega) h1 h2
  · by_cases h2 : p < s
    · exact slots_ny S0 P0 s p _ w b0 b1 b2 b3 (Lib.hid hs) (Lib.hid hp) (Lib.hid rfl) (by omega) (by omega) h1 h2
    · exact slots_nn S0 P0 s p _ w b0 b1 b2 b3 (Lib.hid hs) (Lib.hid hp) (Lib.hid rfl) (by omega) (by omega) h1 h2
end Go.Proofs.Ytllhcicggioplaa.V
