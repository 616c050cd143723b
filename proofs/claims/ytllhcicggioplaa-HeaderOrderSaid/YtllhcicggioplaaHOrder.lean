/-
  HeaderOrder: for every shape and all addresses the statement's function returns true, and writes nothing that was there.
-/
import Derived.Test.YtllhcicggioplaaHBack
import Derived.Test.YtllhcicggioplaaHSlots
import Derived.Deep.RegionHeld3
set_option linter.unusedVariables false
namespace Go.Proofs.Ytllhcicggioplaa.V
open Go.RowKit

set_option maxRecDepth 100000 in
set_option maxHeartbeats 1000000 in
theorem order_try (S0 P0 M : Int) (x y p q m n s t v r s' v' : Nat) (w : World) (b0 : -9223372036854775808 ≤ S0) (b1 : S0 ≤ 9223372036854775807) (b2 : -9223372036854775808 ≤ P0) (b3 : P0 ≤ 9223372036854775807)
    (c0 : -9223372036854775808 ≤ M) (c1 : M ≤ 9223372036854775807) (hx : x < 2 ^ 64) (hy : y < 2 ^ 64)
    (hs : Hid (pk S0 200 = (s : Int))) (ht : Hid (pk P0 ((s : Int) + 1) = (t : Int))) (hv : Hid (hpack s t = v)) (h0 : s ≤ 199) (h00 : t ≤ s)
    (hr : Hid (pk M 55 = (r : Int))) (hr2 : r ≤ 54) (hs' : s' = s + 1 + r) (hv' : Hid (hpack s' t = v')) (hvm : v < 2 ^ 64) (hvv : v < v') (hve : (v : Int) % 2 = 0)
    (hp : bits .or .u64 ((x : Int) / 2) 1 = (p : Int)) (hq : bits .or .u64 ((y : Int) / 2) 1 = (q : Int)) (p1 : 1 ≤ p) (p2 : p ≤ 9223372036854775807) (q1 : 1 ≤ q) (q2 : q ≤ 9223372036854775807)
    (hm : Hid (2 * p + 1 = m)) (hn : Hid (2 * q + 1 = n)) (hmo : (m : Int) % 2 = 1) :
    Calls Try.prog 6 #[.agg #[.int .i64 S0, .int .i64 P0], .int .i64 M, .int .u64 x, .int .u64 y] w fun e w' => e = .returned (.bool true) ∧ Below w.heap.size w w' := by
  go_enter Try.func6, Try.ntmps6
  go_wp2_with fail
  refine (awake05 _).mono ?_
  rintro e w1 ⟨rfl, hb1⟩
  have hc0 : w1.cell? ⟨w.heap.size, 0, none⟩ = some (.int .i64 S0) := cell_step hb1 (by simp) (by simp)
  have hc1 : w1.cell? ⟨w.heap.size, 1, none⟩ = some (.int .i64 P0) := cell_step hb1 (by simp) (by simp)
  have HB := Lib.hid (bt (ba0 _ _) hb1)
  have hl1 : w.heap.size < w1.heap.size := by have := hb1.size; simp at this; omega
  clear hb1
  go_wp2_with fail
  refine (pick05_int S0 200 s _ b0 b1 (by decide) (by decide) hs.out).mono ?_
  rintro e w2 ⟨rfl, rfl⟩
  have hd1 : (w1.alloc (.cells #[.int .i64 s, .int .i64 0] 23)).cell? ⟨w.heap.size, 1, none⟩ = some (.int .i64 P0) := cell_step (ba0 w1 _) (by omega) hc1
  go_wp2_with fail
  refine (pick05_int P0 ((s : Int) + 1) t _ b2 b3 (by omega) (by omega) ht.out).mono ?_
  rintro e w2 ⟨rfl, rfl⟩
  go_wp2_with fail
  have g0 : (w1.alloc (.cells #[.int .i64 s, .int .i64 t] 23)).cell? ⟨w1.heap.size, 0, none⟩ = some (.int .i64 s) := by simp
  have g1 : (w1.alloc (.cells #[.int .i64 s, .int .i64 t] 23)).cell? ⟨w1.heap.size, 1, none⟩ = some (.int .i64 t) := by simp
  have gl : w1.heap.size < (w1.alloc (.cells #[.int .i64 s, .int .i64 t] 23)).heap.size := by simp
  have HBW := Lib.hid (ba HB.out (.cells #[.int .i64 s, .int .i64 t] 23))
  clear hc0 hc1 hd1 HB hl1
  generalize w1.alloc (.cells #[.int .i64 s, .int .i64 t] 23) = W at g0 g1 gl HBW ⊢
  generalize w1.heap.size = g at g0 g1 gl ⊢
  have hw2 : IntKind.i64.wrap ((s : Int) + 1 + (r : Int)) = (s : Int) + 1 + (r : Int) := IntWalk.i64_in _ ⟨by omega, by omega⟩
  have IHp : Hid (∀ w, Calls Try.prog 10 #[.int .i64 M, .int .i64 55] w fun e w' => e = .returned (.int .i64 r) ∧ w = w') := Lib.hid fun w => pick05_int M 55 r w c0 c1 (by omega) (by omega) hr.out
  have hkeep : Hid (∀ w' : World, Below W.heap.size W w' → w'.cell? ⟨g, 0, none⟩ = some (.int .i64 s) ∧ w'.cell? ⟨g, 1, none⟩ = some (.int .i64 t)) := Lib.hid fun w' h => ⟨cell_step h gl g0, cell_step h gl g1⟩
  go_region_held3 (fun w' => w'.cell? ⟨g, 0, none⟩ = some (.int .i64 s) ∧ w'.cell? ⟨g, 1, none⟩ = some (.int .i64 t)) (exact hkeep.out _ (by first | exact (Below.refl _ W).drew | exact Below.refl _ W | exact ba (Below.refl _ W).drew _ | exact ba0 W _)) ((first
    | (go_at_call 10; refine (IHp.out _).mono ?_; rintro e w2 ⟨rfl, rfl⟩)))
  all_goals
    have k0 : ((W.alloc (.cells #[.int .i64 ((s : Int) + 1 + (r : Int)), .int .i64 t] 23)).drew).cell? ⟨g, 0, none⟩ = some (.int .i64 s) := cell_step (ba0 W _).drew gl g0
    have k1 : ((W.alloc (.cells #[.int .i64 ((s : Int) + 1 + (r : Int)), .int .i64 t] 23)).drew).cell? ⟨g, 1, none⟩ = some (.int .i64 t) := cell_step (ba0 W _).drew gl g1
    have k2 : ((W.alloc (.cells #[.int .i64 ((s : Int) + 1 + (r : Int)), .int .i64 t] 23)).drew).cell? ⟨W.heap.size, 0, none⟩ = some (.int .i64 ((s : Int) + 1 + (r : Int))) := by simp
    have k3 : ((W.alloc (.cells #[.int .i64 ((s : Int) + 1 + (r : Int)), .int .i64 t] 23)).drew).cell? ⟨W.heap.size, 1, none⟩ = some (.int .i64 t) := by simp
    have kl : W.heap.size < ((W.alloc (.cells #[.int .i64 ((s : Int) + 1 + (r : Int)), .int .i64 t] 23)).drew).heap.size := by simp
    have HBV := Lib.hid ((ba HBW.out (.cells #[.int .i64 ((s : Int) + 1 + (r : Int)), .int .i64 t] 23)).drew)
    clear IHp hkeep
    go_wp2_with fail
    refine (hPackYes s t v _ (by omega) h00 hv.out).mono ?_
    rintro e w3 ⟨rfl, hb3⟩
    have i0 : w3.cell? ⟨W.heap.size, 0, none⟩ = some (.int .i64 ((s : Int) + 1 + (r : Int))) := cell_step hb3 kl k2
    have i1 : w3.cell? ⟨W.heap.size, 1, none⟩ = some (.int .i64 t) := cell_step hb3 kl k3
    have HB3 := Lib.hid (bt HBV.out hb3)
    clear hb3 g0 g1 k0 k1 k2 k3 kl HBV hw2
    go_wp2_with fail
    refine (hPackYesI ((s : Int) + 1 + (r : Int)) (t : Int) s' t v' _ (by omega) rfl (by omega) (by omega) hv'.out).mono ?_
    rintro e w4 ⟨rfl, hb4⟩
    have HB4 := Lib.hid (bt HB3.out hb4)
    clear hb4 i0 i1 HB3
    go_wp2_with fail
    refine (hRefYes _ p m _ rfl p1 p2 hm.out).mono ?_
    rintro e w5 ⟨rfl, rfl⟩
    go_wp2_with fail
    refine (hRefYes _ q n _ rfl q1 q2 hn.out).mono ?_
    rintro e w5 ⟨rfl, rfl⟩
    have dv : decide (v < v') = true := by simp; omega
    by_cases hpq : p < q
    · have d1 : decide (p < q) = true := by simp; omega
      have d2 : decide (m < n) = true := by have := hm.out; have := hn.out; simp; omega
      go_wp2_with fail
      go_ret
      exact ⟨rfl, HB4.out⟩
    · have d1 : decide (p < q) = false := by simp; omega
      have d2 : decide (m < n) = false := by have := hm.out; have := hn.out; simp; omega
      go_wp2_with fail
      go_ret
      exact ⟨rfl, HB4.out⟩

theorem headerOrder_walk (S0 P0 M : Int) (x y : Nat) (w : World) (b0 : -9223372036854775808 ≤ S0) (b1 : S0 ≤ 9223372036854775807) (b2 : -9223372036854775808 ≤ P0) (b3 : P0 ≤ 9223372036854775807)
    (c0 : -9223372036854775808 ≤ M) (c1 : M ≤ 9223372036854775807) (hx : x < 2 ^ 64) (hy : y < 2 ^ 64) :
    Calls Try.prog 6 #[.agg #[.int .i64 S0, .int .i64 P0], .int .i64 M, .int .u64 x, .int .u64 y] w fun e w' => e = .returned (.bool true) ∧ Below w.heap.size w w' := by
  obtain ⟨s, hs, hs2⟩ := pk_nat S0 200 (by decide)
  obtain ⟨t, ht, ht2⟩ := pk_nat P0 ((s : Int) + 1) (by omega)
  obtain ⟨r, hr, hr2⟩ := pk_nat M 55 (by decide)
  obtain ⟨p, hp, p1, p2⟩ := or_low x hx
  obtain ⟨q, hq, q1, q2⟩ := or_low y hy
  exact order_try S0 P0 M x y p q _ _ s t _ r _ _ w b0 b1 b2 b3 c0 c1 hx hy (Lib.hid hs) (Lib.hid ht) (Lib.hid rfl) (by omega) (by omega) (Lib.hid hr) (by omega) rfl (Lib.hid rfl)
    (by have := hpack_lt s t (by omega) (by omega); omega) (by unfold hpack; omega) (by unfold hpack; omega) hp hq p1 p2 q1 q2 (Lib.hid rfl) (Lib.hid rfl) (by omega)
end Go.Proofs.Ytllhcicggioplaa.V
