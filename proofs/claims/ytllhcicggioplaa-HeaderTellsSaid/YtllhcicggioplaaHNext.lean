/-
  HeaderNext: for every address and shape the statement's function returns true, and writes nothing that was there.
-/
import Derived.Test.YtllhcicggioplaaHAwake
set_option linter.unusedVariables false
namespace Go.Proofs.Ytllhcicggioplaa.V
open Go.RowKit

theorem href_ok (a : Nat) (h1 : 1 ≤ a) (h2 : a ≤ 9223372036854775807) : href a = (2 * a + 1, 0) := by unfold href; rw [if_pos ⟨h1, h2⟩]
theorem href_no (a : Nat) (h : ¬ (1 ≤ a ∧ a ≤ 9223372036854775807)) : href a = (0, 1) := by unfold href; rw [if_neg h]
theorem hRefYes (A : Int) (a v : Nat) (w : World) (hA : A = (a : Int)) (h1 : 1 ≤ a) (h2 : a ≤ 9223372036854775807) (hv : 2 * a + 1 = v) : Calls Try.prog 17 #[.int .u64 A] w fun e w' => e = .returned (.tuple #[.int .u64 v, .int .i64 0]) ∧ w = w' :=
  hRefI A a v 0 w hA (by omega) (by rw [href_ok a h1 h2, ← hv]) (by rw [href_ok a h1 h2]; rfl)
theorem hRefNo (A : Int) (a : Nat) (w : World) (hA : A = (a : Int)) (ha : a < 2 ^ 64) (h : ¬ (1 ≤ a ∧ a ≤ 9223372036854775807)) : Calls Try.prog 17 #[.int .u64 A] w fun e w' => e = .returned (.tuple #[.int .u64 0, .int .i64 1]) ∧ w = w' :=
  hRefI A a 0 1 w hA ha (by rw [href_no a h]; rfl) (by rw [href_no a h]; rfl)
theorem hAddressYes (A : Int) (a v : Nat) (w : World) (hA : A = (a : Int)) (h1 : 1 ≤ v) (hv : 2 * v + 1 = a) (ha : a < 2 ^ 64) : Calls Try.prog 19 #[.int .u64 A] w fun e w' => e = .returned (.tuple #[.int .u64 v, .int .i64 0]) ∧ w = w' :=
  hAddressI A a v 0 w hA ha (by rw [← hv, haddr_ref v h1]) (by rw [← hv, haddr_ref v h1]; rfl)

set_option maxRecDepth 100000 in
set_option maxHeartbeats 1000000 in
theorem next_in (S0 P0 : Int) (x p q m n s t u r z : Nat) (w : World) (b0 : -9223372036854775808 ≤ S0) (b1 : S0 ≤ 9223372036854775807) (b2 : -9223372036854775808 ≤ P0) (b3 : P0 ≤ 9223372036854775807) (hx : x < 2 ^ 64)
    (hp : (1 : Int) + (x : Int) % 9223372036854775806 = (p : Int)) (hq : (p : Int) + 1 = (q : Int)) (hm : 2 * p + 1 = m) (hn : (m : Int) + 2 = (n : Int)) (p1 : 1 ≤ p) (p2 : p ≤ 9223372036854775806)
    (hz : bits .or .u64 (p : Int) 9223372036854775808 = (z : Int)) (hz1 : 9223372036854775807 < z) (hz2 : z < 2 ^ 64)
    (hs : Hid (pk S0 256 = (s : Int))) (ht : Hid (pk P0 ((s : Int) + 1) = (t : Int))) (hu : Hid (hpack s t = u)) (h0 : s ≤ 255) (h00 : t ≤ s) (hr : (u : Int) % 131072 = (r : Int)) (hr2 : (r : Int) / 2 = (s : Int)) (ht2 : (u : Int) / 131072 = (t : Int)) :
    Calls Try.prog 8 #[.int .u64 x, .agg #[.int .i64 S0, .int .i64 P0]] w fun e w' => e = .returned (.bool true) ∧ Below w.heap.size w w' := by
  go_enter Try.func8, Try.ntmps8
  go_wp2_with fail
  refine (awake05 _).mono ?_
  rintro e w1 ⟨rfl, hb1⟩
  have hc0 : w1.cell? ⟨w.heap.size, 0, none⟩ = some (.int .i64 S0) := cell_step hb1 (by simp) (by simp)
  have hc1 : w1.cell? ⟨w.heap.size, 1, none⟩ = some (.int .i64 P0) := cell_step hb1 (by simp) (by simp)
  have HB := Lib.hid (bt (ba0 _ _) hb1)
  have hl1 : w.heap.size < w1.heap.size := by have := hb1.size; simp at this; omega
  clear hb1
  go_wp2_with fail
  refine (hRefYes _ p m _ rfl p1 (by omega) hm).mono ?_
  rintro e w2 ⟨rfl, rfl⟩
  go_wp2_with fail
  refine (hRefYes _ q n _ rfl (by omega) (by omega) (by omega)).mono ?_
  rintro e w2 ⟨rfl, rfl⟩
  go_wp2_with fail
  refine (hRefI 9223372036854775807 9223372036854775807 18446744073709551615 0 _ rfl (by decide) (by decide +kernel) (by decide +kernel)).mono ?_
  rintro e w2 ⟨rfl, rfl⟩
  go_wp2_with fail
  refine (hRefNo _ z _ rfl hz2 (by omega)).mono ?_
  rintro e w2 ⟨rfl, rfl⟩
  go_wp2_with fail
  refine (pick05_int S0 256 s _ b0 b1 (by decide) (by decide) hs.out).mono ?_
  rintro e w2 ⟨rfl, rfl⟩
  have hd1 : (w1.alloc (.cells #[.int .i64 s, .int .i64 0] 23)).cell? ⟨w.heap.size, 1, none⟩ = some (.int .i64 P0) := cell_step (ba0 w1 _) hl1 hc1
  go_wp2_with fail
  refine (pick05_int P0 ((s : Int) + 1) t _ b2 b3 (by omega) (by omega) ht.out).mono ?_
  rintro e w2 ⟨rfl, rfl⟩
  go_wp2_with fail
  refine (hPackYes s t u _ h0 h00 hu.out).mono ?_
  rintro e w2 ⟨rfl, hb2⟩
  have g0 : w2.cell? ⟨w1.heap.size, 0, none⟩ = some (.int .i64 s) := cell_step hb2 (by simp) (by simp)
  have g1 : w2.cell? ⟨w1.heap.size, 1, none⟩ = some (.int .i64 t) := cell_step hb2 (by simp) (by simp)
  have HB2 := Lib.hid (bt (ba HB.out _) hb2)
  clear hb2 hc0 hc1 hd1 HB
  go_wp2_with fail
  go_ret
  exact ⟨rfl, HB2.out⟩

theorem or_top (p : Nat) (h : p ≤ 9223372036854775806) : bits .or .u64 (p : Int) 9223372036854775808 = ((9223372036854775808 + p : Nat) : Int) := by
  have h1 := u64_or_nat p 9223372036854775808 (by omega) (by omega)
  have h2 : p ||| 9223372036854775808 = 9223372036854775808 + p := by
    have := Nat.two_pow_add_eq_or_of_lt (i := 63) (b := p) (by omega) 1
    rw [Nat.or_comm]
    simpa using this.symm
  rw [h2] at h1
  exact h1
theorem hpack_parts (s t : Nat) (h0 : s ≤ 255) (h00 : t ≤ s) : hpack s t % 131072 = 2 * s ∧ hpack s t / 131072 = t := by unfold hpack; omega
theorem headerNext_walk (x : Nat) (S0 P0 : Int) (w : World) (hx : x < 2 ^ 64) (b0 : -9223372036854775808 ≤ S0) (b1 : S0 ≤ 9223372036854775807) (b2 : -9223372036854775808 ≤ P0) (b3 : P0 ≤ 9223372036854775807) :
    Calls Try.prog 8 #[.int .u64 x, .agg #[.int .i64 S0, .int .i64 P0]] w fun e w' => e = .returned (.bool true) ∧ Below w.heap.size w w' := by
  obtain ⟨s, hs, hs2⟩ := pk_nat S0 256 (by decide)
  obtain ⟨t, ht, ht2⟩ := pk_nat P0 ((s : Int) + 1) (by omega)
  obtain ⟨p, hp⟩ : ∃ p : Nat, p = 1 + x % 9223372036854775806 := ⟨_, rfl⟩
  have hk := hpack_parts s t (by omega) (by omega)
  exact next_in S0 P0 x p (p + 1) (2 * p + 1) (2 * p + 3) s t (hpack s t) (2 * s) (9223372036854775808 + p) w b0 b1 b2 b3 hx (by rw [hp]; omega) (by omega) rfl (by omega) (by omega) (by omega) (or_top p (by omega)) (by omega) (by omega)
    (Lib.hid hs) (Lib.hid ht) (Lib.hid rfl) (by omega) (by omega) (by omega) (by omega) (by omega)
end Go.Proofs.Ytllhcicggioplaa.V
