/-
  varint.Row, walked: for every row of at most a thousand numbers below 2^64.
-/
import Derived.Test.YtlljfgaaefofbaaVarTake
namespace Go.Proofs.Ytlljfgaaefofbaa.V
open Go.RowKit

/-- The cells of a slice of 64-bit numbers that came in. -/
def Us (w : World) (ao : Option Addr) (zs : List Nat) : Prop := ∀ j, j < zs.length → ∃ b off, ao = some ⟨b, off, none⟩ ∧ b < w.heap.size ∧ w.cell? ⟨b, off + j, none⟩ = some (.int .u64 (zs.getD j 0 : Nat))

def sumLen (l : List Nat) : Nat := (row l).length
theorem row_take (zs : List Nat) (k : Nat) (h : k < zs.length) : row (zs.take (k + 1)) = row (zs.take k) ++ put (zs.getD k 0) := by
  rw [List.take_add_one, List.getElem?_eq_getElem h, row_append]
  simp [row, List.getD, h]
theorem row_le (l : List Nat) : (row l).length ≤ 10 * l.length := by
  induction l with
  | nil => simp [row]
  | cons v r ih => simp [row]; have := put_le v; omega
theorem row_take_le (zs : List Nat) (k : Nat) : (row (zs.take k)).length ≤ 10 * zs.length := by
  have := row_le (zs.take k); simp at this; omega

theorem putF_big (f y : Nat) (h : 128 ≤ y) : putF (f + 1) y = UInt8.ofNat (y % 128 + 128) :: putF f (y / 128) := by simp [putF]; omega
theorem putF_small (f y : Nat) (h : y < 128) : putF f y = [UInt8.ofNat y] := by cases f <;> simp [putF, h]
theorem putF_fuel (f y : Nat) (h : 128 ≤ y) (hy : y < 2 ^ (7 * f + 1)) : ∃ g, f = g + 1 ∧ y / 128 < 2 ^ (7 * g + 1) := by
  cases f with
  | zero => simp at hy; omega
  | succ g =>
    have hp : 2 ^ (7 * (g + 1) + 1) = 128 * 2 ^ (7 * g + 1) := by rw [show 7 * (g + 1) + 1 = (7 * g + 1) + 7 by omega, Nat.pow_add, Nat.mul_comm]
    exact ⟨g, rfl, by omega⟩
theorem row_state {l : List UInt8} {y f k : Nat} {zs : List Nat} (h : l ++ putF f y = row (zs.take (k + 1))) : l.length + 1 ≤ 10 * zs.length := by
  have h1 := congrArg List.length h
  have h2 := row_take_le zs (k + 1)
  have h3 := putF_pos f y
  simp at h1; omega

set_option maxRecDepth 100000 in
set_option maxHeartbeats 1000000 in
theorem row_any (ao : Option Addr) (cap : Nat) (zs : List Nat) (w : World) (hz : zs.length ≤ 1000) (hv : ∀ v ∈ zs, v < 2 ^ 64) (hu : Us w ao zs) :
    Calls Try.prog 14 #[.slice ao zs.length cap] w fun e w' => e = .returned (.string (str (row zs))) ∧ Below w.heap.size w w' := by
  have HU := Lib.hid hu
  have HV := Lib.hid hv
  clear hu hv
  go_enter Try.func14, Try.ntmps14
  go_wp2_with fail
  go_loop [3, 11] (fun n i => ∃ k : Nat, k ≤ zs.length ∧ i = .int .i64 k ∧ n = .int .i64 ((row (zs.take k)).length : Nat)) (fun _ i => zs.length - (intOf i).toNat)
  case atStart => exact ⟨0, by omega, rfl, by simp [row]⟩
  case round =>
    obtain ⟨k, hk, rfl, rfl⟩ := hrel
    by_cases hlt : k < zs.length
    · obtain ⟨b, off, rfl, hb, hc⟩ := HU.out k hlt
      have hvk : zs.getD k 0 < 2 ^ 64 := HV.out _ (by simp [List.getD, hlt])
      generalize hx : zs.getD k 0 = x at hc hvk
      have HX := Lib.hid hx
      have hl := row_take_le zs k
      have hp := put_le x
      have hr : (row (zs.take (k + 1))).length = (row (zs.take k)).length + (put x).length := by rw [row_take zs k hlt, hx]; simp
      have HR := Lib.hid hr
      clear hx hr
      go_wp2_with (go_at_call 12; refine (len_any x _ hvk).mono ?_; rintro e w' ⟨rfl, rfl⟩)
      go_round
      case rel => exact ⟨k + 1, by omega, by go_num, by rw [HR.out]; go_num⟩
      case measure => simp [intOf]; omega
    · have hke : k = zs.length := by omega
      subst hke
      have hl := row_take_le zs zs.length
      go_wp2_with (at_make; refine wp_make_bytes _ rfl _ _ rfl _ (row (zs.take zs.length)).length rfl rfl rfl (by omega) ?_)
      intro v1 w1 hown1 hgrow1
      have hb1 : Below w.heap.size w w1 := (Below.refl _ _).grown hgrow1 (Nat.le_refl _) (by intro k h; cases h)
      clear hgrow1
      go_wp2_with fail
      go_loopw [6, 24] (fun v i wr => ∃ k : Nat, k ≤ zs.length ∧ i = .int .i64 k ∧ OwnB wr w.heap.size v (row (zs.take k)) ∧ Below w.heap.size w wr) (fun _ i _ => zs.length - (intOf i).toNat)
      case atStart => exact ⟨0, by omega, rfl, hown1, hb1⟩
      case round =>
        obtain ⟨k, hk, rfl, hown, hbel⟩ := hrel
        clear hown1 hb1 hl
        have hsz := hbel.size
        by_cases hlt : k < zs.length
        · obtain ⟨b, off, rfl, hb, hc⟩ := HU.out k hlt
          have hvk : zs.getD k 0 < 2 ^ 64 := HV.out _ (by simp [List.getD, hlt])
          have hc' := (hbel.cell (p := ⟨b, off + k, none⟩) hb).trans hc
          have hr := row_take zs k hlt
          clear hc
          generalize hx : zs.getD k 0 = x at hc' hvk hr
          have HR := Lib.hid hr
          clear hx hr
          go_wp2_with fail
          go_loopw [6, 8] (fun v y wr => ∃ (f n : Nat) (l : List UInt8), y = .int .u64 n ∧ n < 2 ^ 64 ∧ n < 2 ^ (7 * f + 1) ∧ Hid (l ++ putF f n = row (zs.take (k + 1))) ∧ OwnB wr w.heap.size v l ∧ Below w.heap.size w wr) (fun _ y _ => (intOf y).toNat)
          case atStart => exact ⟨9, x, _, rfl, hvk, by omega, HR.out.symm, hown, hbel⟩
          case round =>
            rename_i wi _ _ _ _
            obtain ⟨f, n, l, rfl, hn, hn2, HL, hown, hbel⟩ := hrel
            have hll := row_state HL.out
            have hsz := hbel.size
            by_cases h128 : 128 ≤ n
            · obtain ⟨g, rfl, hg⟩ := putF_fuel f n h128 hn2
              obtain ⟨c, hc⟩ : ∃ c, c = UInt8.ofNat (n % 128 + 128) := ⟨_, rfl⟩
              have hct : (c.toNat : Int) = (n : Int) % 128 + 128 := by rw [hc, ofNat_toNat _ (by omega)]; omega
              have HC := Lib.hid hct
              have HL2 : Hid ((l ++ [c]) ++ putF g (n / 128) = row (zs.take (k + 1))) := by rw [← HL.out, putF_big g n h128, hc]; simp [Hid]
              clear hc hct HL hn2
              go_wp2_with (at_builtin; refine wp_append_byte _ rfl (.tmp 30) (.tmp 35) rfl w.heap.size _ l rfl (hown.alloc _) _ c rfl ?_ ?_ ?_ ?_)
              · simp [B, HC.out]
              · omega
              · simp; omega
              · intro v' w1 hown' hgrow
                have hb' := hown.below hbel (Nat.le_refl _) hgrow
                clear hgrow hown hbel
                go_wp2
                go_roundw
                case rel => exact ⟨g, n / 128, _, by simp, by omega, hg, HL2, hown', hb'⟩
                case measure => simp [intOf]; omega
            · obtain ⟨c, hc⟩ : ∃ c, c = UInt8.ofNat n := ⟨_, rfl⟩
              have hct : (c.toNat : Int) = (n : Int) := by rw [hc, ofNat_toNat _ (by omega)]
              have HC := Lib.hid hct
              have HL2 : Hid (l ++ [c] = row (zs.take (k + 1))) := by rw [← HL.out, putF_small f n (by omega), hc]; simp [Hid]
              clear hc hct HL hn2
              go_wp2_with (at_builtin; refine wp_append_byte _ rfl (.tmp 39) (.tmp 42) rfl w.heap.size _ l rfl (hown.alloc _) _ c rfl ?_ ?_ ?_ ?_)
              · simp [B, HC.out]
              · omega
              · simp; omega
              · intro v' w1 hown' hgrow
                have hb' := hown.below hbel (Nat.le_refl _) hgrow
                rw [HL2.out] at hown'
                clear hgrow hown hbel
                go_wp2
                go_roundw
                case rel => exact ⟨k + 1, by omega, by go_num, hown', hb'⟩
                case measure => simp [intOf]; omega
        · have hke : k = zs.length := by omega
          subst hke
          rw [List.take_length] at hown
          have hcv := run_str_own hown
          go_wp2_with fail
          go_ret
          exact ⟨rfl, hbel⟩
end Go.Proofs.Ytlljfgaaefofbaa.V
