/-
  words.join at both widths, walked: of as many bytes as the number has, it hands back their number.
-/
import Derived.Test.YtkdfefbjpglcpaaWW1
import Derived.Test.YtkdfefbjpglcpaaWBase
import Derived.Laws.BitsAllLaws
set_option linter.unusedVariables false
namespace Go.Proofs.Ytkdfefbjpglcpaa.V
open Go.RowKit


set_option maxRecDepth 100000 in
set_option maxHeartbeats 1000000 in
theorem join8 (b off : Nat) (l : List UInt8) (w : World) (hl : l.length = 8) (hc : ∀ j, j < l.length → w.cell? ⟨b, off + j, none⟩ = some (B (l.getD j 0))) :
    Calls Try.prog 29 #[.slice (some ⟨b, off, none⟩) 8 8] w fun e w' => e = .returned (.int .u64 (val l)) ∧ w = w' := by
  have HL := Lib.hid hl
  have HC := Lib.hid hc
  clear hl hc
  go_enter Try.func29, Try.ntmps29
  go_wp2_with fail
  go_loop [3, 8] (fun v i => ∃ k acc : Nat, k ≤ 8 ∧ i = .int .i64 k ∧ v = .int .u64 acc ∧ Hid (acc = val (l.take k))) (fun _ i => 8 - (intOf i).toNat)
  case atStart => exact ⟨0, 0, by omega, rfl, rfl, Lib.hid (by simp [val])⟩
  case round =>
    obtain ⟨k, acc, hk, rfl, rfl, HA⟩ := hrel
    by_cases hlt : k < 8
    · have hcell := HC.out k (by rw [HL.out]; omega)
      generalize hx : l.getD k 0 = c at hcell
      have hcell2 : w.cell? ⟨b, off + k, none⟩ = some (.int .u8 (c.toNat : Int)) := hcell
      have hor : bits .or .u64 (acc : Int) (IntKind.u64.wrap (IntKind.u64.wrap (c.toNat : Int) * 2 ^ (k * 8))) = ((acc + c.toNat * 256 ^ k : Nat) : Int) ∧ acc + c.toNat * 256 ^ k = val (l.take (k + 1)) := by
        have h1 : l.take (k + 1) = l.take k ++ [c] := by
          have : k < l.length := by rw [HL.out]; omega
          rw [List.take_add_one, List.getElem?_eq_getElem this]
          simp [List.getD, this] at hx
          simp [hx]
        have h2 : (l.take k).length = k := by simp [HL.out]; omega
        have h3 : acc < 256 ^ k := by have := val_lt (l.take k); rw [h2, ← HA.out] at this; exact this
        have h4 : c.toNat * 256 ^ k < 256 ^ (k + 1) := by
          have := c.toNat_lt
          rw [Nat.pow_succ, Nat.mul_comm]
          exact Nat.mul_lt_mul_of_pos_left (by omega) (Nat.pow_pos (by omega))
        have h5 : (256 : Nat) ^ (k + 1) ≤ 256 ^ 8 := Nat.pow_le_pow_right (by omega) (by omega)
        have h6 : (256 : Nat) ^ k ≤ 256 ^ 8 := Nat.pow_le_pow_right (by omega) (by omega)
        have e8 : ∀ n : Nat, (256 : Nat) ^ n = 2 ^ (n * 8) := fun n => by rw [Nat.mul_comm, Nat.pow_mul]
        have h7 : (256 : Nat) ^ 8 = 2 ^ 64 := by decide
        rw [h7] at h5 h6
        refine ⟨?_, ?_⟩
        · have e : ((c.toNat : Int) * 2 ^ (k * 8)) = ((c.toNat * 256 ^ k : Nat) : Int) := by rw [e8]; push_cast; rfl
          rw [IntWalk.u64_in (c.toNat : Int) ⟨by omega, by have := c.toNat_lt; omega⟩, e, IntWalk.u64_in _ ⟨by omega, by omega⟩, u64_or_nat _ _ (by omega) (by omega)]
          congr 1
          rw [e8] at h3 ⊢
          have := Nat.two_pow_add_eq_or_of_lt h3 c.toNat
          rw [Nat.or_comm, Nat.mul_comm c.toNat, Nat.add_comm, this]
        · rw [h1, val_app, h2, HA.out]; simp [val, Nat.mul_comm]
      obtain ⟨ho, hn⟩ := hor
      generalize hq : acc + c.toNat * 256 ^ k = acc2 at ho hn
      have HN := Lib.hid hn
      clear hx hn HA hcell hq
      go_wp2_with fail
      go_round
      case rel => exact ⟨k + 1, acc2, by omega, by go_num, rfl, HN⟩
      case measure => simp [intOf]; omega
    · have HE : Hid (acc = val l) := by rw [HA.out, List.take_of_length_le (by rw [HL.out]; omega)]; exact Lib.hid rfl
      have hd : decide ((k : Int) < 8) = false := by simp; omega
      clear HA
      go_wp2_with fail
      go_ret
      exact ⟨by rw [HE.out]; rfl, rfl⟩

set_option maxRecDepth 100000 in
set_option maxHeartbeats 1000000 in
theorem join4 (b off : Nat) (l : List UInt8) (w : World) (hl : l.length = 4) (hc : ∀ j, j < l.length → w.cell? ⟨b, off + j, none⟩ = some (B (l.getD j 0))) :
    Calls Try.prog 28 #[.slice (some ⟨b, off, none⟩) 4 4] w fun e w' => e = .returned (.int .u32 (val l)) ∧ w = w' := by
  have HL := Lib.hid hl
  have HC := Lib.hid hc
  clear hl hc
  go_enter Try.func28, Try.ntmps28
  go_wp2_with fail
  go_loop [3, 8] (fun v i => ∃ k acc : Nat, k ≤ 4 ∧ i = .int .i64 k ∧ v = .int .u32 acc ∧ Hid (acc = val (l.take k))) (fun _ i => 4 - (intOf i).toNat)
  case atStart => exact ⟨0, 0, by omega, rfl, rfl, Lib.hid (by simp [val])⟩
  case round =>
    obtain ⟨k, acc, hk, rfl, rfl, HA⟩ := hrel
    by_cases hlt : k < 4
    · have hcell := HC.out k (by rw [HL.out]; omega)
      generalize hx : l.getD k 0 = c at hcell
      have hcell2 : w.cell? ⟨b, off + k, none⟩ = some (.int .u8 (c.toNat : Int)) := hcell
      have hor : bits .or .u32 (acc : Int) ((c.toNat : Int) % 4294967296 * 2 ^ (k * 8) % 4294967296) = ((acc + c.toNat * 256 ^ k : Nat) : Int) ∧ acc + c.toNat * 256 ^ k = val (l.take (k + 1)) := by
        have h1 : l.take (k + 1) = l.take k ++ [c] := by
          have : k < l.length := by rw [HL.out]; omega
          rw [List.take_add_one, List.getElem?_eq_getElem this]
          simp [List.getD, this] at hx
          simp [hx]
        have h2 : (l.take k).length = k := by simp [HL.out]; omega
        have h3 : acc < 256 ^ k := by have := val_lt (l.take k); rw [h2, ← HA.out] at this; exact this
        have h4 : c.toNat * 256 ^ k < 256 ^ (k + 1) := by
          have := c.toNat_lt
          rw [Nat.pow_succ, Nat.mul_comm]
          exact Nat.mul_lt_mul_of_pos_left (by omega) (Nat.pow_pos (by omega))
        have h5 : (256 : Nat) ^ (k + 1) ≤ 256 ^ 4 := Nat.pow_le_pow_right (by omega) (by omega)
        have h6 : (256 : Nat) ^ k ≤ 256 ^ 4 := Nat.pow_le_pow_right (by omega) (by omega)
        have e8 : ∀ n : Nat, (256 : Nat) ^ n = 2 ^ (n * 8) := fun n => by rw [Nat.mul_comm, Nat.pow_mul]
        have h7 : (256 : Nat) ^ 4 = 2 ^ 32 := by decide
        rw [h7] at h5 h6
        refine ⟨?_, ?_⟩
        · have e : ((c.toNat : Int) * 2 ^ (k * 8)) = ((c.toNat * 256 ^ k : Nat) : Int) := by rw [e8]; push_cast; rfl
          rw [Int.emod_eq_of_lt (show (0 : Int) ≤ c.toNat by omega) (by have := c.toNat_lt; omega), e, Int.emod_eq_of_lt (by omega) (by omega), u32_or_nat _ _ (by omega) (by omega)]
          congr 1
          rw [e8] at h3 ⊢
          have := Nat.two_pow_add_eq_or_of_lt h3 c.toNat
          rw [Nat.or_comm, Nat.mul_comm c.toNat, Nat.add_comm, this]
        · rw [h1, val_app, h2, HA.out]; simp [val, Nat.mul_comm]
      obtain ⟨ho, hn⟩ := hor
      generalize hq : acc + c.toNat * 256 ^ k = acc2 at ho hn
      have HN := Lib.hid hn
      clear hx hn HA hcell hq
      go_wp2_with fail
      go_round
      case rel => exact ⟨k + 1, acc2, by omega, by go_num, rfl, HN⟩
      case measure => simp [intOf]; omega
    · have HE : Hid (acc = val l) := by rw [HA.out, List.take_of_length_le (by rw [HL.out]; omega)]; exact Lib.hid rfl
      have hd : decide ((k : Int) < 4) = false := by simp; omega
      clear HA
      go_wp2_with fail
      go_ret
      exact ⟨by rw [HE.out]; rfl, rfl⟩
end Go.Proofs.Ytkdfefbjpglcpaa.V
