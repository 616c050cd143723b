/-
  words.lay at both widths, Put and PutHalf, walked: for at most a thousand numbers within their kinds.
-/
import Derived.Test.YtkdfefbjpglcpaaWW1
import Derived.Test.YtkdfefbjpglcpaaWBase
set_option linter.unusedVariables false
namespace Go.Proofs.Ytkdfefbjpglcpaa.V
open Go.RowKit

set_option maxRecDepth 100000 in
set_option maxHeartbeats 1000000 in
theorem lay8 (ao : Option Addr) (cap : Nat) (zs : List Nat) (w : World) (hz : zs.length ≤ 1000) (hv : ∀ v ∈ zs, v < 2 ^ 64) (hu : Us w ao zs) :
    Calls Try.prog 20 #[.slice ao zs.length cap] w fun e w' => e = .returned (.string (str (wrds 8 zs))) ∧ Below w.heap.size w w' := by
  have HU := Lib.hid hu
  have HV := Lib.hid hv
  clear hu hv
  go_enter Try.func20, Try.ntmps20
  go_wp2_with fail
  refine (width8 _).mono ?_
  rintro e w' ⟨rfl, rfl⟩
  go_wp2_with (at_make; refine wp_make_bytes _ rfl _ _ rfl _ (zs.length * 8) rfl rfl (by omega) (by omega) ?_)
  intro v1 w1 hown1 hgrow1
  have hb1 : Below w.heap.size w w1 := (Below.refl _ _).grown hgrow1 (Nat.le_refl _) (by intro k h; cases h)
  clear hgrow1
  go_wp2_with fail
  go_loopw [4, 15] (fun v i wr => ∃ k : Nat, k ≤ zs.length ∧ i = .int .i64 k ∧ OwnB wr w.heap.size v (wrds 8 (zs.take k)) ∧ Below w.heap.size w wr) (fun _ i _ => zs.length - (intOf i).toNat)
  case atStart => exact ⟨0, by omega, rfl, by simpa [wrds] using hown1, hb1⟩
  case round =>
    obtain ⟨k, hk, rfl, hown, hbel⟩ := hrel
    clear hown1 hb1
    have hsz := hbel.size
    by_cases hlt : k < zs.length
    · obtain ⟨b, off, rfl, hb, hc⟩ := HU.out k hlt
      have hvk : zs.getD k 0 < 2 ^ 64 := HV.out _ (by simp [List.getD, hlt])
      have hc' := (hbel.cell (p := ⟨b, off + k, none⟩) hb).trans hc
      have hr := wrds_take 8 zs k hlt
      have hlen : (wrds 8 (zs.take k)).length ≤ 8 * zs.length := by simp; omega
      clear hc
      generalize hx : zs.getD k 0 = x at hc' hvk hr
      generalize hl0 : wrds 8 (zs.take k) = l0 at hown hr hlen
      have HR := Lib.hid hr
      clear hx hr hl0
      go_wp2_with fail
      go_loopw [4, 6, 20] (fun v y i wr => ∃ (j n : Nat) (l : List UInt8), j ≤ 8 ∧ i = .int .i64 j ∧ y = .int .u64 n ∧ n < 2 ^ 64 ∧ Hid (n = x / 256 ^ j) ∧ Hid (l = l0 ++ octs j x) ∧ l.length = l0.length + j ∧ OwnB wr w.heap.size v l ∧ Below w.heap.size w wr) (fun _ _ i _ => 8 - (intOf i).toNat)
      case atStart => exact ⟨0, x, l0, by omega, rfl, rfl, hvk, Lib.hid (by simp), Lib.hid (by simp [octs]), by simp, hown, hbel⟩
      case round =>
        obtain ⟨j, n, l, hj, rfl, rfl, hn, HN, HL, hll, hown, hbel⟩ := hrel
        have hsz := hbel.size
        by_cases hjw : j < 8
        · obtain ⟨c, hc⟩ : ∃ c, c = UInt8.ofNat n := ⟨_, rfl⟩
          have hct : (c.toNat : Int) = (n : Int) % 256 := by rw [hc, UInt8.toNat_ofNat']; omega
          have HC := Lib.hid hct
          have HL2 : Hid (l ++ [c] = l0 ++ octs (j + 1) x) := by rw [HL.out, octs_snoc, hc, ← HN.out]; simp [Hid]
          have HN2 : Hid (n / 256 = x / 256 ^ (j + 1)) := by rw [HN.out, Nat.div_div_eq_div_mul, Nat.pow_succ]; exact Lib.hid rfl
          have hl2 : (l ++ [c]).length = l0.length + (j + 1) := by simp; omega
          clear hc hct HL HN
          go_wp2_with (at_builtin; refine wp_append_byte _ rfl (.tmp 22) (.tmp 25) rfl w.heap.size _ l rfl (hown.alloc _) _ c rfl ?_ ?_ ?_ ?_)
          · simp [B, HC.out]
          · omega
          · simp; omega
          · intro v' w1 hown' hgrow
            have hb' := hown.below hbel (Nat.le_refl _) hgrow
            clear hgrow hown hbel
            go_wp2
            go_roundw
            case rel => exact ⟨j + 1, n / 256, _, by omega, by go_num, by simp, by omega, HN2, HL2, hl2, hown', hb'⟩
            case measure => simp [intOf]; omega
        · obtain rfl : j = 8 := by omega
          have HL2 : Hid (l = wrds 8 (zs.take (k + 1))) := by rw [HL.out, HR.out]; exact Lib.hid rfl
          rw [HL2.out] at hown
          clear HL
          go_wp2_with fail
          go_roundw
          case rel => exact ⟨k + 1, by omega, by go_num, hown, hbel⟩
          case measure => simp [intOf]; omega
    · have hke : k = zs.length := by omega
      subst hke
      rw [List.take_length] at hown
      have hcv := run_str_own hown
      go_wp2_with fail
      go_ret
      exact ⟨rfl, hbel⟩

set_option maxRecDepth 100000 in
set_option maxHeartbeats 1000000 in
theorem lay4 (ao : Option Addr) (cap : Nat) (zs : List Nat) (w : World) (hz : zs.length ≤ 1000) (hv : ∀ v ∈ zs, v < 2 ^ 32) (hu : Us4 w ao zs) :
    Calls Try.prog 22 #[.slice ao zs.length cap] w fun e w' => e = .returned (.string (str (wrds 4 zs))) ∧ Below w.heap.size w w' := by
  have HU := Lib.hid hu
  have HV := Lib.hid hv
  clear hu hv
  go_enter Try.func22, Try.ntmps22
  go_wp2_with fail
  refine (width4 _).mono ?_
  rintro e w' ⟨rfl, rfl⟩
  go_wp2_with (at_make; refine wp_make_bytes _ rfl _ _ rfl _ (zs.length * 4) rfl rfl (by omega) (by omega) ?_)
  intro v1 w1 hown1 hgrow1
  have hb1 : Below w.heap.size w w1 := (Below.refl _ _).grown hgrow1 (Nat.le_refl _) (by intro k h; cases h)
  clear hgrow1
  go_wp2_with fail
  go_loopw [4, 15] (fun v i wr => ∃ k : Nat, k ≤ zs.length ∧ i = .int .i64 k ∧ OwnB wr w.heap.size v (wrds 4 (zs.take k)) ∧ Below w.heap.size w wr) (fun _ i _ => zs.length - (intOf i).toNat)
  case atStart => exact ⟨0, by omega, rfl, by simpa [wrds] using hown1, hb1⟩
  case round =>
    obtain ⟨k, hk, rfl, hown, hbel⟩ := hrel
    clear hown1 hb1
    have hsz := hbel.size
    by_cases hlt : k < zs.length
    · obtain ⟨b, off, rfl, hb, hc⟩ := HU.out k hlt
      have hvk : zs.getD k 0 < 2 ^ 32 := HV.out _ (by simp [List.getD, hlt])
      have hc' := (hbel.cell (p := ⟨b, off + k, none⟩) hb).trans hc
      have hr := wrds_take 4 zs k hlt
      have hlen : (wrds 4 (zs.take k)).length ≤ 4 * zs.length := by simp; omega
      clear hc
      generalize hx : zs.getD k 0 = x at hc' hvk hr
      generalize hl0 : wrds 4 (zs.take k) = l0 at hown hr hlen
      have HR := Lib.hid hr
      clear hx hr hl0
      go_wp2_with fail
      go_loopw [4, 6, 20] (fun v y i wr => ∃ (j n : Nat) (l : List UInt8), j ≤ 4 ∧ i = .int .i64 j ∧ y = .int .u32 n ∧ n < 2 ^ 32 ∧ Hid (n = x / 256 ^ j) ∧ Hid (l = l0 ++ octs j x) ∧ l.length = l0.length + j ∧ OwnB wr w.heap.size v l ∧ Below w.heap.size w wr) (fun _ _ i _ => 4 - (intOf i).toNat)
      case atStart => exact ⟨0, x, l0, by omega, rfl, rfl, hvk, Lib.hid (by simp), Lib.hid (by simp [octs]), by simp, hown, hbel⟩
      case round =>
        obtain ⟨j, n, l, hj, rfl, rfl, hn, HN, HL, hll, hown, hbel⟩ := hrel
        have hsz := hbel.size
        by_cases hjw : j < 4
        · obtain ⟨c, hc⟩ : ∃ c, c = UInt8.ofNat n := ⟨_, rfl⟩
          have hct : (c.toNat : Int) = (n : Int) % 256 := by rw [hc, UInt8.toNat_ofNat']; omega
          have HC := Lib.hid hct
          have HL2 : Hid (l ++ [c] = l0 ++ octs (j + 1) x) := by rw [HL.out, octs_snoc, hc, ← HN.out]; simp [Hid]
          have HN2 : Hid (n / 256 = x / 256 ^ (j + 1)) := by rw [HN.out, Nat.div_div_eq_div_mul, Nat.pow_succ]; exact Lib.hid rfl
          have hl2 : (l ++ [c]).length = l0.length + (j + 1) := by simp; omega
          clear hc hct HL HN
          go_wp2_with (at_builtin; refine wp_append_byte _ rfl (.tmp 22) (.tmp 25) rfl w.heap.size _ l rfl (hown.alloc _) _ c rfl ?_ ?_ ?_ ?_)
          · simp [B, HC.out]
          · omega
          · simp; omega
          · intro v' w1 hown' hgrow
            have hb' := hown.below hbel (Nat.le_refl _) hgrow
            clear hgrow hown hbel
            go_wp2
            go_roundw
            case rel => exact ⟨j + 1, n / 256, _, by omega, by go_num, by simp, by omega, HN2, HL2, hl2, hown', hb'⟩
            case measure => simp [intOf]; omega
        · obtain rfl : j = 4 := by omega
          have HL2 : Hid (l = wrds 4 (zs.take (k + 1))) := by rw [HL.out, HR.out]; exact Lib.hid rfl
          rw [HL2.out] at hown
          clear HL
          go_wp2_with fail
          go_roundw
          case rel => exact ⟨k + 1, by omega, by go_num, hown, hbel⟩
          case measure => simp [intOf]; omega
    · have hke : k = zs.length := by omega
      subst hke
      rw [List.take_length] at hown
      have hcv := run_str_own hown
      go_wp2_with fail
      go_ret
      exact ⟨rfl, hbel⟩

theorem wput_any (ao : Option Addr) (cap : Nat) (zs : List Nat) (w : World) (hz : zs.length ≤ 1000) (hv : ∀ v ∈ zs, v < 2 ^ 64) (hu : Us w ao zs) :
    Calls Try.prog 10 #[.slice ao zs.length cap] w fun e w' => e = .returned (.string (str (wrds 8 zs))) ∧ Below w.heap.size w w' := by
  have HU := Lib.hid hu
  have HV := Lib.hid hv
  clear hu hv
  go_enter Try.func10, Try.ntmps10
  go_wp2_with fail
  refine (lay8 _ _ _ _ hz HV.out HU.out).mono ?_
  rintro e w' ⟨rfl, hb⟩
  go_wp2_with fail
  go_ret
  exact ⟨rfl, hb⟩
theorem us4_lit1 (w : World) (a : Nat) : Us4 (w.alloc (.cells #[.int .u32 a] 23)) (some ⟨w.heap.size, 0, none⟩) [a] := by
  intro j hj
  refine ⟨_, _, rfl, by simp, ?_⟩
  match j, hj with
  | 0, _ => simp
theorem puthalf_any (v : Nat) (w : World) (hv : v < 2 ^ 32) :
    Calls Try.prog 12 #[.int .u32 v] w fun e w' => e = .returned (.string (str (octs 4 v))) ∧ Below w.heap.size w w' := by
  go_enter Try.func12, Try.ntmps12
  go_wp2_with fail
  refine (lay4 _ _ [v] _ (by simp) (by intro x hx; simp at hx; omega) (us4_lit1 _ v)).mono ?_
  rintro e w' ⟨rfl, hb⟩
  rw [show wrds 4 [v] = octs 4 v by simp [wrds]]
  go_wp2_with fail
  go_ret
  exact ⟨rfl, bt (ba0 _ _) hb⟩
end Go.Proofs.Ytkdfefbjpglcpaa.V
