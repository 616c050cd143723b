/-
  HeaderBack: for all shapes and addresses the statement's function returns true, and writes nothing that was there.
-/
import Derived.Test.YtllhcicggioplaaHNext
set_option linter.unusedVariables false
namespace Go.Proofs.Ytllhcicggioplaa.V
open Go.RowKit

set_option maxRecDepth 100000 in
set_option maxHeartbeats 1000000 in
theorem back_try (S0 P0 S1 P1 : Int) (x y p q m n s t v s' t' v' : Nat) (w : World) (b0 : -9223372036854775808 ≤ S0) (b1 : S0 ≤ 9223372036854775807) (b2 : -9223372036854775808 ≤ P0) (b3 : P0 ≤ 9223372036854775807)
    (c0 : -9223372036854775808 ≤ S1) (c1 : S1 ≤ 9223372036854775807) (c2 : -9223372036854775808 ≤ P1) (c3 : P1 ≤ 9223372036854775807) (hx : x < 2 ^ 64) (hy : y < 2 ^ 64)
    (hs : Hid (pk S0 256 = (s : Int))) (ht : Hid (pk P0 ((s : Int) + 1) = (t : Int))) (hv : Hid (hpack s t = v)) (h0 : s ≤ 255) (h00 : t ≤ s)
    (hs' : Hid (pk S1 256 = (s' : Int))) (ht' : Hid (pk P1 ((s' : Int) + 1) = (t' : Int))) (hv' : Hid (hpack s' t' = v')) (h1 : s' ≤ 255) (h11 : t' ≤ s') (hvm : v < 2 ^ 64)
    (hp : bits .or .u64 ((x : Int) / 2) 1 = (p : Int)) (hq : bits .or .u64 ((y : Int) / 2) 1 = (q : Int)) (p1 : 1 ≤ p) (p2 : p ≤ 9223372036854775807) (q1 : 1 ≤ q) (q2 : q ≤ 9223372036854775807)
    (hm : Hid (2 * p + 1 = m)) (hn : Hid (2 * q + 1 = n)) :
    Calls Try.prog 4 #[.agg #[.int .i64 S0, .int .i64 P0], .agg #[.int .i64 S1, .int .i64 P1], .int .u64 x, .int .u64 y] w fun e w' => e = .returned (.bool true) ∧ Below w.heap.size w w' := by
  go_enter Try.func4, Try.ntmps4
  go_wp2_with fail
  refine (awake05 _).mono ?_
  rintro e w1 ⟨rfl, hb1⟩
  have hc0 : w1.cell? ⟨w.heap.size, 0, none⟩ = some (.int .i64 S0) := cell_step hb1 (by simp; omega) (by simp)
  have hc1 : w1.cell? ⟨w.heap.size, 1, none⟩ = some (.int .i64 P0) := cell_step hb1 (by simp; omega) (by simp)
  have hc2 : w1.cell? ⟨w.heap.size + 1, 0, none⟩ = some (.int .i64 S1) := cell_step hb1 (by simp) (by simp)
  have hc3 : w1.cell? ⟨w.heap.size + 1, 1, none⟩ = some (.int .i64 P1) := cell_step hb1 (by simp) (by simp)
  have HB := Lib.hid (bt (ba (ba0 _ _) _) hb1)
  have hl1 : w.heap.size + 1 < w1.heap.size := by have := hb1.size; simp at this; omega
  clear hb1
  go_wp2_with fail
  refine (pick05_int S0 256 s _ b0 b1 (by decide) (by decide) hs.out).mono ?_
  rintro e w2 ⟨rfl, rfl⟩
  have hd1 : (w1.alloc (.cells #[.int .i64 s, .int .i64 0] 23)).cell? ⟨w.heap.size, 1, none⟩ = some (.int .i64 P0) := cell_step (ba0 w1 _) (by omega) hc1
  have hd2 : (w1.alloc (.cells #[.int .i64 s, .int .i64 t] 23)).cell? ⟨w.heap.size + 1, 0, none⟩ = some (.int .i64 S1) := cell_step (ba0 w1 _) (by omega) hc2
  have hd3 : (w1.alloc (.cells #[.int .i64 s, .int .i64 t] 23)).cell? ⟨w.heap.size + 1, 1, none⟩ = some (.int .i64 P1) := cell_step (ba0 w1 _) (by omega) hc3
  have hd4 : ((w1.alloc (.cells #[.int .i64 s, .int .i64 t] 23)).alloc (.cells #[.int .i64 s', .int .i64 0] 23)).cell? ⟨w.heap.size + 1, 1, none⟩ = some (.int .i64 P1) := cell_step (ba0 _ _) (by simp; omega) hd3
  go_wp2_with fail
  refine (pick05_int P0 ((s : Int) + 1) t _ b2 b3 (by omega) (by omega) ht.out).mono ?_
  rintro e w2 ⟨rfl, rfl⟩
  go_wp2_with fail
  refine (pick05_int S1 256 s' _ c0 c1 (by decide) (by decide) hs'.out).mono ?_
  rintro e w2 ⟨rfl, rfl⟩
  go_wp2_with fail
  refine (pick05_int P1 ((s' : Int) + 1) t' _ c2 c3 (by omega) (by omega) ht'.out).mono ?_
  rintro e w2 ⟨rfl, rfl⟩
  go_wp2_with fail
  refine (hPackYes s t v _ h0 h00 hv.out).mono ?_
  rintro e w2 ⟨rfl, hb2⟩
  have g0 : w2.cell? ⟨w1.heap.size, 0, none⟩ = some (.int .i64 s) := cell_step hb2 (by simp; omega) (cell_step (ba0 _ _) (by simp) (by simp))
  have g1 : w2.cell? ⟨w1.heap.size, 1, none⟩ = some (.int .i64 t) := cell_step hb2 (by simp; omega) (cell_step (ba0 _ _) (by simp) (by simp))
  have g2 : w2.cell? ⟨w1.heap.size + 1, 0, none⟩ = some (.int .i64 s') := cell_step hb2 (by simp) (by simp)
  have g3 : w2.cell? ⟨w1.heap.size + 1, 1, none⟩ = some (.int .i64 t') := cell_step hb2 (by simp) (by simp)
  have hl2 : w1.heap.size + 1 < w2.heap.size := by have := hb2.size; simp at this; omega
  have HB2 := Lib.hid (bt (ba (ba HB.out _) _) hb2)
  clear hb2 hc0 hc1 hc2 hc3 hd1 hd2 hd3 hd4 HB
  go_wp2_with fail
  refine (hPackYes s' t' v' _ h1 h11 hv'.out).mono ?_
  rintro e w3 ⟨rfl, hb3⟩
  have k0 : w3.cell? ⟨w1.heap.size, 0, none⟩ = some (.int .i64 s) := cell_step hb3 (by omega) g0
  have k1 : w3.cell? ⟨w1.heap.size, 1, none⟩ = some (.int .i64 t) := cell_step hb3 (by omega) g1
  have k2 : w3.cell? ⟨w1.heap.size + 1, 0, none⟩ = some (.int .i64 s') := cell_step hb3 (by omega) g2
  have k3 : w3.cell? ⟨w1.heap.size + 1, 1, none⟩ = some (.int .i64 t') := cell_step hb3 (by omega) g3
  have hl3 : w1.heap.size + 1 < w3.heap.size := by have := hb3.size; omega
  have HB3 := Lib.hid (bt HB2.out hb3)
  clear hb3 g0 g1 g2 g3 HB2
  go_wp2_with fail
  refine (hUnpackI _ v s t 0 _ rfl hvm (by rw [← hv.out, hunpack_pack s t h0 h00]) (by rw [← hv.out, hunpack_pack s t h0 h00]) (by rw [← hv.out, hunpack_pack s t h0 h00]; rfl)).mono ?_
  rintro e w4 ⟨rfl, hb4⟩
  have i0 : (w4.alloc (.cells #[.int .i64 s, .int .i64 t] 23)).cell? ⟨w1.heap.size, 0, none⟩ = some (.int .i64 s) := cell_step (ba0 w4 _) (by have := hb4.size; omega) (cell_step hb4 (by omega) k0)
  have i1 : (w4.alloc (.cells #[.int .i64 s, .int .i64 t] 23)).cell? ⟨w1.heap.size, 1, none⟩ = some (.int .i64 t) := cell_step (ba0 w4 _) (by have := hb4.size; omega) (cell_step hb4 (by omega) k1)
  have i2 : (w4.alloc (.cells #[.int .i64 s, .int .i64 t] 23)).cell? ⟨w1.heap.size + 1, 0, none⟩ = some (.int .i64 s') := cell_step (ba0 w4 _) (by have := hb4.size; omega) (cell_step hb4 (by omega) k2)
  have i3 : (w4.alloc (.cells #[.int .i64 s, .int .i64 t] 23)).cell? ⟨w1.heap.size + 1, 1, none⟩ = some (.int .i64 t') := cell_step (ba0 w4 _) (by have := hb4.size; omega) (cell_step hb4 (by omega) k3)
  have HB4 := Lib.hid (ba (bt HB3.out hb4) (.cells #[.int .i64 s, .int .i64 t] 23))
  clear hb4 k0 k1 k2 k3 HB3
  go_wp2_with fail
  refine (hRefYes _ p m _ rfl p1 p2 hm.out).mono ?_
  rintro e w5 ⟨rfl, rfl⟩
  go_wp2_with fail
  refine (hRefYes _ q n _ rfl q1 q2 hn.out).mono ?_
  rintro e w5 ⟨rfl, rfl⟩
  go_wp2_with fail
  refine (hAddressYes _ m p _ rfl p1 hm.out (by have := hm.out; omega)).mono ?_
  rintro e w5 ⟨rfl, rfl⟩
  by_cases hE : s = s' ∧ t = t'
  · obtain ⟨rfl, rfl⟩ := hE
    obtain rfl : v = v' := by have := hv.out; have := hv'.out; omega
    by_cases hpq : p = q
    · subst hpq
      obtain rfl : m = n := by have := hm.out; have := hn.out; omega
      go_wp2_with fail
      go_ret
      exact ⟨rfl, HB4.out⟩
    · have e1 : ((p : Int) == (q : Int)) = false := by simp; omega
      have e2 : ((m : Int) == (n : Int)) = false := by have := hm.out; have := hn.out; simp; omega
      go_wp2_with fail
      go_ret
      exact ⟨rfl, HB4.out⟩
  · have e3 : ((v : Int) == (v' : Int)) = false := by have h1 := hv.out; have h2 := hv'.out; unfold hpack at h1 h2; simp; omega
    by_cases hS : s = s'
    · subst hS
      have e4 : ¬ (t : Int) = (t' : Int) := by omega
      clear hE
      by_cases hpq : p = q
      · subst hpq
        obtain rfl : m = n := by have := hm.out; have := hn.out; omega
        go_wp2_with fail
        go_ret
        exact ⟨rfl, HB4.out⟩
      · have e1 : ((p : Int) == (q : Int)) = false := by simp; omega
        have e2 : ((m : Int) == (n : Int)) = false := by have := hm.out; have := hn.out; simp; omega
        go_wp2_with fail
        go_ret
        exact ⟨rfl, HB4.out⟩
    · have e4 : ¬ (s : Int) = (s' : Int) := by omega
      clear hE hS
      by_cases hpq : p = q
      · subst hpq
        obtain rfl : m = n := by have := hm.out; have := hn.out; omega
        go_wp2_with fail
        go_ret
        exact ⟨rfl, HB4.out⟩
      · have e1 : ((p : Int) == (q : Int)) = false := by simp; omega
        have e2 : ((m : Int) == (n : Int)) = false := by have := hm.out; have := hn.out; simp; omega
        go_wp2_with fail
        go_ret
        exact ⟨rfl, HB4.out⟩

theorem or_low (x : Nat) (h : x < 2 ^ 64) : ∃ p : Nat, bits .or .u64 ((x : Int) / 2) 1 = (p : Int) ∧ 1 ≤ p ∧ p ≤ 9223372036854775807 := by
  have h1 := u64_or_nat (x / 2) 1 (by omega) (by omega)
  have h2 : x / 2 ||| 1 < 2 ^ 63 := Nat.or_lt_two_pow (by omega) (by omega)
  have h3 : 1 ≤ x / 2 ||| 1 := Nat.right_le_or
  exact ⟨x / 2 ||| 1, by simpa using h1, h3, by omega⟩
theorem headerBack_walk (S0 P0 S1 P1 : Int) (x y : Nat) (w : World) (b0 : -9223372036854775808 ≤ S0) (b1 : S0 ≤ 9223372036854775807) (b2 : -9223372036854775808 ≤ P0) (b3 : P0 ≤ 9223372036854775807)
    (c0 : -9223372036854775808 ≤ S1) (c1 : S1 ≤ 9223372036854775807) (c2 : -9223372036854775808 ≤ P1) (c3 : P1 ≤ 9223372036854775807) (hx : x < 2 ^ 64) (hy : y < 2 ^ 64) :
    Calls Try.prog 4 #[.agg #[.int .i64 S0, .int .i64 P0], .agg #[.int .i64 S1, .int .i64 P1], .int .u64 x, .int .u64 y] w fun e w' => e = .returned (.bool true) ∧ Below w.heap.size w w' := by
  obtain ⟨s, hs, hs2⟩ := pk_nat S0 256 (by decide)
  obtain ⟨t, ht, ht2⟩ := pk_nat P0 ((s : Int) + 1) (by omega)
  obtain ⟨s', hs', hs2'⟩ := pk_nat S1 256 (by decide)
  obtain ⟨t', ht', ht2'⟩ := pk_nat P1 ((s' : Int) + 1) (by omega)
  obtain ⟨p, hp, p1, p2⟩ := or_low x hx
  obtain ⟨q, hq, q1, q2⟩ := or_low y hy
  exact back_try S0 P0 S1 P1 x y p q _ _ s t _ s' t' _ w b0 b1 b2 b3 c0 c1 c2 c3 hx hy (Lib.hid hs) (Lib.hid ht) (Lib.hid rfl) (by omega) (by omega) (Lib.hid hs') (Lib.hid ht') (Lib.hid rfl) (by omega) (by omega)
    (by have := hpack_lt s t (by omega) (by omega); omega) hp hq p1 p2 q1 q2 (Lib.hid rfl) (Lib.hid rfl)
end Go.Proofs.Ytllhcicggioplaa.V
