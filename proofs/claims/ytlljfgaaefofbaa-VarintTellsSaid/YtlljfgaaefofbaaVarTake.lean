/-
  varint.Take, walked: for every string of at most a thousand million bytes, and every place.
-/
import Derived.Test.YtlljfgaaefofbaaVarW1
namespace Go.Proofs.Ytlljfgaaefofbaa.V
open Go.RowKit

def takeI (l : List UInt8) (a : Int) : Nat × Nat × Nat := if a < 0 then (0, 0, 1) else takeAt l a.toNat
def tup (r : Nat × Nat × Nat) : Value := .tuple #[.int .u64 r.1, .int .i64 r.2.1, .int .i64 r.2.2]

theorem drop_cons (t : ByteArray) (k : Nat) (h : k < t.size) : t.data.toList.drop k = t[k] :: t.data.toList.drop (k + 1) := by
  rw [List.drop_eq_getElem_cons (by simpa using h)]; rfl
theorem step_fin {s : List UInt8} {i k acc : Nat} {c : UInt8} {r : List UInt8} (h : takeF 0 0 (s.drop i) = takeF k acc (c :: r)) :
    takeAt s i = fin i (if k = 9 ∧ 1 < c.toNat then (0, 0, 3) else if 0 < k ∧ c.toNat = 0 then (0, 0, 3) else if c.toNat < 128 then (acc + c.toNat % 128 * 2 ^ (7 * k), k + 1, 0) else takeF (k + 1) (acc + c.toNat % 128 * 2 ^ (7 * k)) r) := by
  unfold takeAt; rw [h]; rfl
theorem or_add (acc c k : Nat) (h : acc < 2 ^ (7 * k)) (hc : k ≤ 8 ∨ (k = 9 ∧ c ≤ 1)) :
    bits .or .u64 (acc : Int) (IntKind.u64.wrap ((c : Int) % 128 * 2 ^ (k * 7))) = ((acc + c % 128 * 2 ^ (7 * k) : Nat) : Int) := by
  have hb : c % 128 * 2 ^ (7 * k) < 2 ^ 64 := by
    rcases hc with hk | ⟨rfl, h1⟩
    · have : 2 ^ (7 * k) ≤ 2 ^ 56 := Nat.pow_le_pow_right (by omega) (by omega)
      have : c % 128 * 2 ^ (7 * k) ≤ 127 * 2 ^ 56 := Nat.mul_le_mul (by omega) this
      omega
    · have : c % 128 ≤ 1 := by omega
      have : c % 128 * 2 ^ (7 * 9) ≤ 1 * 2 ^ (7 * 9) := Nat.mul_le_mul_right _ this
      omega
  have ha : acc < 2 ^ 64 := by
    have : 2 ^ (7 * k) ≤ 2 ^ 63 := Nat.pow_le_pow_right (by omega) (by omega)
    omega
  have e : ((c : Int) % 128 * 2 ^ (k * 7)) = ((c % 128 * 2 ^ (7 * k) : Nat) : Int) := by
    rw [Nat.mul_comm 7 k]; push_cast; rfl
  rw [e, IntWalk.u64_in _ ⟨by omega, by omega⟩, u64_or_nat _ _ ha hb]
  congr 1
  have := Nat.two_pow_add_eq_or_of_lt h (c % 128)
  rw [Nat.or_comm, Nat.mul_comm (c % 128), Nat.add_comm, this]
theorem acc_lt (acc c k : Nat) (h : acc < 2 ^ (7 * k)) : acc + c % 128 * 2 ^ (7 * k) < 2 ^ (7 * (k + 1)) := by
  rw [pow_step]
  have : c % 128 * 2 ^ (7 * k) ≤ 127 * 2 ^ (7 * k) := Nat.mul_le_mul_right _ (by omega)
  omega
theorem tup_mk {r : Nat × Nat × Nat} {a b c : Int} (h0 : a = r.1) (h1 : b = r.2.1) (h2 : c = r.2.2) : Ending.returned (.tuple #[.int .u64 a, .int .i64 b, .int .i64 c]) = .returned (tup r) := by
  subst h0 h1 h2; rfl

set_option maxRecDepth 100000 in
set_option maxHeartbeats 400000 in
theorem take_in (s t : ByteArray) (i j : Nat) (w : World) (hs : s.size ≤ 1000000000) (hi : i ≤ 9223372036854775807) (hm : min (i : Int) (s.size : Int) = (j : Int)) (hij : i ≤ s.size ∨ t.size = 0) (hx : s.extract j s.size = t) (_hts : t.size ≤ s.size)
    (ht : t.data.toList = s.data.toList.drop i) :
    Calls Try.prog 17 #[.string s, .int .i64 i] w fun e w' => e = .returned (tup (takeAt s.data.toList i)) ∧ w = w' := by
  have HT := Lib.hid ht
  clear ht
  have hd : decide ((i : Int) < 0) = false := by simp
  go_enter Try.func17, Try.ntmps17
  go_wp2
  go_step3
  go_wp2
  go_step3
  go_wp2
  clear hx hm hd
  go_loop [4, 8] (fun v n => ∃ (k acc : Nat), k ≤ 9 ∧ k ≤ t.size ∧ n = .int .i64 k ∧ v = .int .u64 acc ∧ acc < 2 ^ (7 * k) ∧ Hid (takeF 0 0 (s.data.toList.drop i) = takeF k acc ((s.data.toList.drop i).drop k))) (fun _ n => t.size - (intOf n).toNat)
  case atStart => exact ⟨0, 0, by omega, by omega, rfl, rfl, by simp, Lib.hid (by rw [List.drop_zero])⟩
  case round =>
    obtain ⟨k, acc, hk9, hkt, rfl, rfl, hacc, HR⟩ := hrel
    by_cases hlt : k < t.size
    · have hne : ((k : Int) == t.size) = false := by simp; omega
      have hR := HR.out
      rw [← HT.out, drop_cons t k hlt, HT.out] at hR
      have HS := Lib.hid (step_fin hR)
      have HO := fun (h : k ≤ 8 ∨ (k = 9 ∧ t[k].toNat ≤ 1)) => Lib.hid (or_add acc t[k].toNat k hacc h)
      have HA := Lib.hid (acc_lt acc t[k].toNat k hacc)
      have HR2 := Lib.hid hR
      clear hR hacc HR
      go_wp2
      · have h9 : (k : Int) + 1 = 10 := by assumption
        have hc : 1 < (t[k].toNat : Int) := by assumption
        go_ret3
        refine ⟨tup_mk ?_ ?_ ?_, rfl⟩ <;> (rw [HS.out, if_pos ⟨by omega, by omega⟩]; rfl)
      · have h9 : (k : Int) + 1 = 10 := by assumption
        have hc : ((t[k].toNat : Int) == 0) = true := by assumption
        have hc' : (t[k].toNat : Int) = 0 := by simpa using hc
        go_ret3
        refine ⟨tup_mk ?_ ?_ ?_, rfl⟩ <;> (rw [HS.out, if_neg (by omega), if_pos ⟨by omega, by omega⟩]; rfl)
      · have h9 : (k : Int) + 1 = 10 := by assumption
        have hc1 : (t[k].toNat : Int) ≤ 1 := by assumption
        have hc : ((t[k].toNat : Int) == 0) = false := by assumption
        have hc' : ¬ (t[k].toNat : Int) = 0 := by simpa using hc
        go_ret3
        refine ⟨tup_mk ?_ ?_ ?_, rfl⟩ <;> rw [HS.out, if_neg (by omega), if_neg (by omega), if_pos (by omega)]
        · rw [(HO (Or.inr ⟨by omega, by omega⟩)).out]; rfl
        · simp [fin]; omega
        · rfl
      · have h9 : ¬ (k : Int) + 1 = 10 := by assumption
        have hk1 : 1 < (k : Int) + 1 := by assumption
        have hc : ((t[k].toNat : Int) == 0) = true := by assumption
        have hc' : (t[k].toNat : Int) = 0 := by simpa using hc
        go_ret3
        refine ⟨tup_mk ?_ ?_ ?_, rfl⟩ <;> (rw [HS.out, if_neg (by omega), if_pos ⟨by omega, by omega⟩]; rfl)
      · have h9 : ¬ (k : Int) + 1 = 10 := by assumption
        have hk1 : 1 < (k : Int) + 1 := by assumption
        have hc : ((t[k].toNat : Int) == 0) = false := by assumption
        have hc' : ¬ (t[k].toNat : Int) = 0 := by simpa using hc
        have hc1 : (t[k].toNat : Int) < 128 := by assumption
        go_ret3
        refine ⟨tup_mk ?_ ?_ ?_, rfl⟩ <;> rw [HS.out, if_neg (by omega), if_neg (by omega), if_pos (by omega)]
        · rw [(HO (Or.inl (by omega))).out]; rfl
        · simp [fin]
        · rfl
      · have h9 : ¬ (k : Int) + 1 = 10 := by assumption
        have hc1 : 128 ≤ (t[k].toNat : Int) := by assumption
        go_round
        case rel => exact ⟨k + 1, _, by omega, by omega, by go_num, by rw [(HO (Or.inl (by omega))).out], HA.out, Lib.hid (by rw [HR2.out, takeF, if_neg (by omega), if_neg (by omega), if_neg (by omega), ← HT.out])⟩
        case measure => simp [intOf]; omega
      · have h9 : ¬ (k : Int) + 1 = 10 := by assumption
        have hk1 : (k : Int) + 1 ≤ 1 := by assumption
        have hc1 : (t[k].toNat : Int) < 128 := by assumption
        go_ret3
        refine ⟨tup_mk ?_ ?_ ?_, rfl⟩ <;> rw [HS.out, if_neg (by omega), if_neg (by omega), if_pos (by omega)]
        · rw [(HO (Or.inl (by omega))).out]; rfl
        · simp [fin]
        · rfl
      · have h9 : ¬ (k : Int) + 1 = 10 := by assumption
        have hk1 : ¬ 1 < (k : Int) + 1 := by assumption
        have hc1 : 128 ≤ (t[k].toNat : Int) := by assumption
        go_round
        case rel => exact ⟨k + 1, _, by omega, by omega, by go_num, by rw [(HO (Or.inl (by omega))).out], HA.out, Lib.hid (by rw [HR2.out, takeF, if_neg (by omega), if_neg (by omega), if_neg (by omega), ← HT.out])⟩
        case measure => simp [intOf]; omega
    · have hne : ((k : Int) == t.size) = true := by simp; omega
      have hR : takeAt s.data.toList i = (0, 0, 2) := by
        unfold takeAt; rw [HR.out, ← HT.out, List.drop_eq_nil_of_le (by simp; omega)]; rfl
      have HS := Lib.hid hR
      clear hR
      go_wp2
      go_ret3
      refine ⟨tup_mk ?_ ?_ ?_, rfl⟩ <;> (rw [HS.out]; rfl)

theorem take_any (s : ByteArray) (a : Int) (w : World) (hs : s.size ≤ 1000000000) (ha1 : a ≤ 9223372036854775807) :
    Calls Try.prog 17 #[.string s, .int .i64 a] w fun e w' => e = .returned (tup (takeI s.data.toList a)) ∧ w = w' := by
  by_cases ha : a < 0
  · go_enter Try.func17, Try.ntmps17
    go_wp2
    go_step3
    go_wp2
    rw [Exit.noGoto_ret]
    go_ret3
    refine ⟨tup_mk ?_ ?_ ?_, rfl⟩ <;> (unfold takeI; rw [if_pos ha]; rfl)
  · obtain ⟨i, rfl⟩ := Int.eq_ofNat_of_zero_le (show 0 ≤ a by omega)
    unfold takeI
    rw [if_neg ha, Int.toNat_natCast]
    by_cases hi : i ≤ s.size
    · exact take_in s (s.extract i s.size) i i w hs (by omega) (by omega) (.inl hi) rfl (by simp) (by simp [ByteArray.data_extract]; apply List.take_of_length_le; simp)
    · exact take_in s (s.extract s.size s.size) i s.size w hs (by omega) (by omega) (.inr (by simp)) rfl (by simp) (by simp; omega)
end Go.Proofs.Ytlljfgaaefofbaa.V
