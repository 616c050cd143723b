/-
  The document's own answers of layer 2, walked: bytes, value, Put, PutHalf, Take, TakeHalf.
-/
import Derived.Test.YtkdfefbjpglcpaaWBits
import Derived.Test.YtkdfefbjpglcpaaWTake
set_option linter.unusedVariables false
namespace Go.Proofs.Ytkdfefbjpglcpaa.V
open Go.RowKit

set_option maxRecDepth 100000 in
set_option maxHeartbeats 1000000 in
theorem refBytes (v N : Nat) (n : Int) (w : World) (hv : v < 2 ^ 64) (hN : N ≤ 8) (hn : n = (N : Int)) :
    Calls Try.prog 21 #[.int .u64 v, .int .i64 n] w fun e w' => e = .returned (.string (str (octs N v))) ∧ Below w.heap.size w w' := by
  subst hn
  go_enter Try.func21, Try.ntmps21
  go_wp2_with fail
  go_loopw [5, 6] (fun u i wr => ∃ (k : Nat) (l : List UInt8), k ≤ N ∧ i = .int .i64 k ∧ Hid (l = octs k v) ∧ l.length ≤ k ∧ OwnB wr w.heap.size u l ∧ Below w.heap.size w wr) (fun _ i _ => N - (intOf i).toNat)
  case atStart => exact ⟨0, [], by omega, rfl, Lib.hid rfl, by simp, World.ownsRow_nil _ _ _ _, Below.refl _ _⟩
  case round =>
    obtain ⟨k, l, hk, rfl, HLl, hll, hown, hbel⟩ := hrel
    have hsz := hbel.size
    by_cases hlt : k < N
    · obtain ⟨c, hc⟩ : ∃ c, c = UInt8.ofNat (v / 2 ^ (8 * k)) := ⟨_, rfl⟩
      have hct : Hid ((c.toNat : Int) = ((v : Int) / 2 ^ (8 * k)).tmod 256 % 256) := by
        rw [hc, UInt8.toNat_ofNat', show ((v : Int) / 2 ^ (8 * k)) = ((v / 2 ^ (8 * k) : Nat) : Int) by push_cast; rfl, Int.tmod_eq_emod_of_nonneg (Int.natCast_nonneg _), Int.emod_emod]
        exact Lib.hid rfl
      have HL2 : Hid (l ++ [c] = octs (k + 1) v) := by rw [octs_snoc, ← HLl.out, hc, Nat.pow_mul]; exact Lib.hid rfl
      clear hc HLl
      go_wp2_with (at_builtin; refine wp_append_byte _ rfl (.tmp 12) (.tmp 19) rfl w.heap.size _ l rfl (hown.alloc _) _ c rfl ?_ ?_ ?_ ?_)
      · simp [B]
        exact hct.out.symm
      · omega
      · simp; omega
      · intro v' w5 hown' hgrow
        have hb' := hown.below hbel (Nat.le_refl _) hgrow
        clear hgrow hown hbel
        go_wp2
        go_roundw
        case rel => exact ⟨k + 1, l ++ [c], by omega, by go_num, HL2, by simp; omega, hown', hb'⟩
        case measure => simp [intOf]; omega
    · have hkN : k = N := by omega
      rw [HLl.out, hkN] at hown
      have hcv := run_str_own hown
      have hd : decide (k < N) = false := by simp; omega
      go_wp2_with fail
      go_ret
      exact ⟨rfl, hbel⟩

set_option maxRecDepth 100000 in
set_option maxHeartbeats 1000000 in
theorem refValue (s : ByteArray) (x : Nat) (w : World) (hs : s.size ≤ 8) (hx : val s.data.toList = x) :
    Calls Try.prog 24 #[.string s] w fun e w' => e = .returned (.int .u64 x) ∧ w = w' := by
  have HX := Lib.hid hx
  clear hx
  go_enter Try.func24, Try.ntmps24
  go_wp2_with fail
  go_loop [3, 4] (fun u i => ∃ (j V : Nat) (I : Int), j ≤ s.size ∧ i = .int .i64 I ∧ (s.size : Int) - 1 - j ≤ I ∧ I ≤ (s.size : Int) - 1 - j ∧ u = .int .u64 V ∧ Hid (V = val (s.data.toList.drop (s.size - j)))) (fun _ i => (intOf i + 1).toNat)
  case atStart => exact ⟨0, 0, _, by omega, rfl, by omega, by omega, rfl, Lib.hid (by rw [Nat.sub_zero, List.drop_of_length_le (by simp)]; rfl)⟩
  case round =>
    obtain ⟨j, V, I, hj, rfl, hI1, hI2, rfl, HV⟩ := hrel
    by_cases hlt : j < s.size
    · obtain ⟨q, rfl⟩ : ∃ q : Nat, I = (q : Int) := ⟨I.toNat, by omega⟩
      have hq : q < s.size := by omega
      have hVlt : V < 72057594037927936 := by
        have h1 := val_lt_of (l := s.data.toList.drop (s.size - j)) (w := 7) (by simp; omega)
        rw [← HV.out] at h1; exact h1
      have HV2 : Hid (256 * V + s[q].toNat = val (s.data.toList.drop (s.size - (j + 1)))) := by
        have h1 : q < s.data.toList.length := by simpa using hq
        rw [show s.size - (j + 1) = q by omega, List.drop_eq_getElem_cons h1, val, show q + 1 = s.size - j by omega, ← HV.out, Nat.add_comm]
        exact Lib.hid rfl
      have hw : Hid (IntKind.u64.wrap (256 * (V : Int) + IntKind.u64.wrap (s[q].toNat : Int)) = ((256 * V + s[q].toNat : Nat) : Int)) := by
        have := s[q].toNat_lt
        rw [IntWalk.u64_in (s[q].toNat : Int) ⟨by omega, by omega⟩, IntWalk.u64_in _ ⟨by omega, by omega⟩]
        exact Lib.hid (by push_cast; rfl)
      clear HV
      go_wp2_with fail
      go_round
      case rel => exact ⟨j + 1, _, (q : Int) - 1, by omega, rfl, by omega, by omega, by rw [hw.out], HV2⟩
      case measure => simp [intOf]
    · have hI0 : I < 0 := by omega
      have hd : decide (0 ≤ I) = false := by simp; omega
      have hVx : Hid (V = x) := by rw [HV.out, show s.size - j = 0 by omega, List.drop_zero, HX.out]; exact Lib.hid rfl
      clear HV
      go_wp2_with fail
      go_ret
      exact ⟨by rw [hVx.out]; rfl, rfl⟩

set_option maxRecDepth 100000 in
set_option maxHeartbeats 1000000 in
theorem refPut (ao : Option Addr) (len cap : Nat) (zs : List Nat) (R : ByteArray) (w : World) (hlen : zs.length = len) (hz : len ≤ 1000) (hv : ∀ v ∈ zs, v < 2 ^ 64) (hu : Us w ao zs) (hR : str (wrds 8 zs) = R) :
    Calls Try.prog 11 #[.slice ao len cap] w fun e w' => e = .returned (.string R) ∧ Below w.heap.size w w' := by
  have HU := Lib.hid hu
  have HV := Lib.hid hv
  have HL := Lib.hid hlen
  have HR := Lib.hid hR
  clear hu hv hlen hR
  go_enter Try.func11, Try.ntmps11
  go_wp2_with fail
  go_loopw [3, 4] (fun u i wr => ∃ (k : Nat) (A : ByteArray), k ≤ len ∧ i = .int .i64 k ∧ u = .string A ∧ Hid (A = str (wrds 8 (zs.take k))) ∧ A.size ≤ 8 * k ∧ Below w.heap.size w wr) (fun _ i _ => len - (intOf i).toNat)
  case atStart => exact ⟨0, _, by omega, rfl, rfl, Lib.hid (by simp [wrds, str]), by decide, Below.refl _ _⟩
  case round =>
    obtain ⟨k, A, hk, rfl, rfl, HA, hAs, hbel⟩ := hrel
    by_cases hlt : k < len
    · have hkl : k < zs.length := by have := HL.out; omega
      obtain ⟨b, off, rfl, hb, hc⟩ := HU.out k hkl
      have hvk : zs.getD k 0 < 2 ^ 64 := HV.out _ (by simp [List.getD, hkl])
      have hc' := (hbel.cell (p := ⟨b, off + k, none⟩) hb).trans hc
      have hr := wrds_take 8 zs k hkl
      generalize hx : zs.getD k 0 = x at hc' hvk hr
      obtain ⟨P, hP⟩ : ∃ P, str (octs 8 x) = P := ⟨_, rfl⟩
      have hPs : P.size ≤ 8 := by rw [← hP, str_size]; simp
      obtain ⟨A2, hA2⟩ : ∃ A2, A ++ P = A2 := ⟨_, rfl⟩
      have HA2 : Hid (A2 = str (wrds 8 (zs.take (k + 1)))) := by
        rw [← hA2, HA.out, ← hP, hr]
        exact Lib.hid (by simp [str, ByteArray.ext_iff, ByteArray.data_append])
      have hA2s : A2.size ≤ 8 * (k + 1) := by rw [← hA2, ByteArray.size_append]; omega
      have hsum : ¬ 9223372036854775807 < A.size + P.size := by omega
      have HP := Lib.hid hP
      clear hc hx hr HA hP hkl
      go_wp2_with fail
      refine (refBytes x 8 8 _ hvk (by omega) rfl).mono ?_
      rintro e w5 ⟨rfl, hb5⟩
      rw [HP.out]
      go_wp2_with fail
      go_roundw
      case rel => exact ⟨k + 1, A2, by omega, by go_num, rfl, HA2, hA2s, bt hbel hb5⟩
      case measure => simp [intOf]; omega
    · have hd : decide (k < len) = false := by simp; omega
      have HE : Hid (A = R) := by rw [HA.out, show zs.take k = zs from List.take_of_length_le (by have := HL.out; omega), HR.out]; exact Lib.hid rfl
      clear HA
      go_wp2_with fail
      go_ret
      exact ⟨by rw [HE.out]; rfl, hbel⟩

theorem refPutHalf (v : Nat) (R : ByteArray) (w : World) (hv : v < 2 ^ 32) (hR : str (octs 4 v) = R) :
    Calls Try.prog 13 #[.int .u32 v] w fun e w' => e = .returned (.string R) ∧ Below w.heap.size w w' := by
  subst hR
  go_enter Try.func13, Try.ntmps13
  go_wp2_with fail
  refine (refBytes v 4 4 _ (by omega) (by omega) rfl).mono ?_
  rintro e w5 ⟨rfl, hb5⟩
  go_wp2_with fail
  go_ret
  exact ⟨rfl, hb5⟩
end Go.Proofs.Ytkdfefbjpglcpaa.V
