/-
  The document's own answers of layer 1, walked: Put, Len, Row, Take, TakeRow.
-/
import Derived.Test.YtlljfgaaefofbaaVarEach
set_option linter.unusedVariables false
namespace Go.Proofs.Ytlljfgaaefofbaa.V
open Go.RowKit

theorem conv_one {w : World} {g : Nat} {c : UInt8} (h : w.cell? ⟨g, 0, none⟩ = some (B c)) : (convert 30 9 (.slice (some ⟨g, 0, none⟩) 1 1)).run Try.prog w = .ok (.string (str [c])) w := by
  rw [run_convert_bytes_arg w 30 5 Try.underlying30 Try.underlying5 g 0 1 1 [(c.toNat : Int)] rfl ?_ 9 Try.underlying9]
  · simp [strOfNums, str]
  · intro i hi
    have : i = 0 := by omega
    subst this
    exact h
theorem conv_now (w : World) (c : UInt8) (z : Int) (hz : (c.toNat : Int) = z) : (convert 30 9 (.slice (some ⟨w.heap.size, 0, none⟩) 1 1)).run Try.prog (w.alloc (.cells #[.int .u8 z] 5)) = .ok (.string (str [c])) (w.alloc (.cells #[.int .u8 z] 5)) := by
  subst hz
  exact conv_one (by simp [B])
theorem conv_drew (w : World) (c : UInt8) (z : Int) (hz : (c.toNat : Int) = z) : (convert 30 9 (.slice (some ⟨w.heap.size, 0, none⟩) 1 1)).run Try.prog (w.alloc (.cells #[.int .u8 z] 5)).drew = .ok (.string (str [c])) (w.alloc (.cells #[.int .u8 z] 5)).drew := by
  subst hz
  exact conv_one (by simp [B])
theorem conv_later {w w' : World} {c : UInt8} (hb : Below (w.alloc (.cells #[.int .u8 (c.toNat : Int)] 5)).drew.heap.size (w.alloc (.cells #[.int .u8 (c.toNat : Int)] 5)).drew w') : (convert 30 9 (.slice (some ⟨w.heap.size, 0, none⟩) 1 1)).run Try.prog w' = .ok (.string (str [c])) w' := by
  refine conv_one ?_
  rw [hb.cell (p := ⟨w.heap.size, 0, none⟩) (by show w.heap.size < _; simp)]
  simp [B]

set_option maxRecDepth 100000 in
set_option maxHeartbeats 1000000 in
theorem refPut_small (f v : Nat) (w : World) (hv : v < 128) :
    Calls Try.prog 11 #[.int .u64 v] w fun e w' => e = .returned (.string (str (putF f v))) ∧ Below w.heap.size w w' := by
  have H := Lib.hid (putF_small f v hv)
  have hcv := conv_now w (UInt8.ofNat v) v (by rw [ofNat_toNat _ (by omega)])
  go_enter Try.func11, Try.ntmps11
  go_wp2_with fail
  go_ret
  rw [H.out]
  exact ⟨rfl, ba0 _ _⟩

set_option maxRecDepth 100000 in
set_option maxHeartbeats 2000000 in
theorem refPut_any (f : Nat) (hf : f ≤ 9) : ∀ (v : Nat) (w : World), v < 2 ^ (7 * f + 1) → v < 2 ^ 64 →
    Calls Try.prog 11 #[.int .u64 v] w fun e w' => e = .returned (.string (str (putF f v))) ∧ Below w.heap.size w w' := by
  induction f with
  | zero => intro v w hv _; exact refPut_small 0 v w (by omega)
  | succ f ih =>
    intro v w hv hv2
    have ih := ih (by omega)
    by_cases h : v < 128
    · exact refPut_small (f + 1) v w h
    · have hp : 2 ^ (7 * (f + 1) + 1) = 128 * 2 ^ (7 * f + 1) := by rw [show 7 * (f + 1) + 1 = (7 * f + 1) + 7 by omega, Nat.pow_add, Nat.mul_comm]
      have IH := Lib.hid (fun w => ih (v / 128) w (by omega) (by omega))
      have hq : ((v / 128 : Nat) : Int) = (v : Int) / 128 := by omega
      obtain ⟨q, hq⟩ : ∃ q : Nat, (v : Int) / 128 = (q : Int) ∧ q = v / 128 := ⟨v / 128, by omega, rfl⟩
      obtain ⟨c, hc⟩ : ∃ c : UInt8, c = UInt8.ofNat (v % 128 + 128) := ⟨_, rfl⟩
      have hcz : (c.toNat : Int) = (v : Int) % 128 + 128 := by rw [hc, ofNat_toNat _ (by omega)]; omega
      have HZ := Lib.hid hcz
      have HB := Lib.hid (putF_big f v (by omega))
      rw [← hc, ← hq.2] at HB
      obtain ⟨R, hR⟩ : ∃ R, str (putF f q) = R := ⟨_, rfl⟩
      have hRs : R.size ≤ f + 1 := by rw [← hR, str_size]; exact putF_le f q
      have IH2 : Hid (∀ w, Calls Try.prog 11 #[.int .u64 q] w fun e w' => e = .returned (.string R) ∧ Below w.heap.size w w') := by
        show ∀ w, Calls Try.prog 11 #[.int .u64 q] w fun e w' => e = .returned (.string R) ∧ Below w.heap.size w w'
        intro w; rw [← hR, hq.2]; exact IH.out w
      have hv128 : 128 ≤ v := by omega
      have hq1 := hq.1
      have hcv := fun w => conv_now w c _ rfl
      have hcd := fun w => conv_drew w c _ rfl
      obtain ⟨r, hr⟩ : ∃ r : Nat, (v : Int).tmod 128 = (r : Int) ∧ (r : Int) = (v : Int) % 128 := ⟨v % 128, by rw [Int.tmod_eq_emod_of_nonneg (by omega)]; omega, by omega⟩
      have e1 := hr.1
      have e2 : IntKind.u64.wrap ((r : Int) + 128) = (c.toNat : Int) := by rw [IntWalk.u64_in _ ⟨by omega, by omega⟩]; omega
      have e3 : IntKind.u8.wrap (c.toNat : Int) = (c.toNat : Int) := IntWalk.u8_in _ ⟨by omega, by omega⟩
      have e4 : IntKind.u64.wrap (q : Int) = (q : Int) := IntWalk.u64_in _ ⟨by omega, by omega⟩
      have hsum : ¬ 9223372036854775807 < (str [c]).size + R.size := by rw [str_size]; simp; omega
      have HR := Lib.hid hR
      clear ih hp IH hq hc hcz hR hr HZ
      go_enter Try.func11, Try.ntmps11
      go_wp2_with fail
      go_region_with (go_at_call 11; refine (IH2.out _).mono ?_; rintro e w1 ⟨rfl, hb1⟩; (try have hcl := conv_later hb1))
      all_goals
        first
          | have hb2 := Lib.hid (bt ((ba0 w _).drew) hb1)
          | have hb2 := Lib.hid (ba (bt ((Below.refl _ w).drew) hb1) (.cells #[.int .u8 (c.toNat : Int)] 5))
        go_wp2_with fail
        go_ret
        exact ⟨by rw [HB.out, ← HR.out]; simp [str]; rfl, hb2.out⟩

theorem refPut_str (v : Nat) (w : World) (hv : v < 2 ^ 64) (A : ByteArray) (hA : str (put v) = A) :
    Calls Try.prog 11 #[.int .u64 v] w fun e w' => e = .returned (.string A) ∧ Below w.heap.size w w' := by
  subst hA; exact refPut_any 9 (by omega) v w (by omega) hv

theorem refLen_any (v : Nat) (w : World) (hv : v < 2 ^ 64) :
    Calls Try.prog 13 #[.int .u64 v] w fun e w' => e = .returned (.int .i64 ((put v).length : Nat)) ∧ Below w.heap.size w w' := by
  obtain ⟨A, hA⟩ : ∃ A, str (put v) = A := ⟨_, rfl⟩
  have hs : A.size = (put v).length := by rw [← hA, str_size]
  have HS := Lib.hid hs
  have HA := Lib.hid hA
  clear hs hA
  go_enter Try.func13, Try.ntmps13
  go_wp2_with fail
  refine (refPut_str v _ hv A HA.out).mono ?_
  rintro e w1 ⟨rfl, hb⟩
  go_wp2_with fail
  go_ret
  exact ⟨by rw [← HS.out]; rfl, hb⟩

set_option maxRecDepth 100000 in
set_option maxHeartbeats 1000000 in
theorem refRow_any (ao : Option Addr) (cap len : Nat) (zs : List Nat) (w : World) (hlen : zs.length = len) (hz : len ≤ 1000) (hv : ∀ v ∈ zs, v < 2 ^ 64) (hu : Us w ao zs) :
    Calls Try.prog 15 #[.slice ao len cap] w fun e w' => e = .returned (.string (str (row zs))) ∧ Below w.heap.size w w' := by
  have HU := Lib.hid hu
  have HV := Lib.hid hv
  have HL := Lib.hid hlen
  clear hu hv hlen
  go_enter Try.func15, Try.ntmps15
  go_wp2_with fail
  go_loopw [3, 4] (fun o i wr => ∃ (k : Nat) (O : ByteArray), k ≤ len ∧ i = .int .i64 k ∧ o = .string O ∧ Hid (str (row (zs.take k)) = O) ∧ O.size ≤ 10 * len ∧ Below w.heap.size w wr) (fun _ i _ => len - (intOf i).toNat)
  case atStart => exact ⟨0, _, by omega, rfl, rfl, Lib.hid rfl, by simp [ByteArray.size], Below.refl _ _⟩
  case round =>
    obtain ⟨k, O, hk, rfl, rfl, HO, hOs, hbel⟩ := hrel
    by_cases hlt : k < len
    · have hkl : k < zs.length := by have := HL.out; omega
      obtain ⟨b, off, rfl, hb, hc⟩ := HU.out k hkl
      have hvk : zs.getD k 0 < 2 ^ 64 := HV.out _ (by simp [List.getD, hkl])
      have hc' := (hbel.cell (p := ⟨b, off + k, none⟩) hb).trans hc
      have hr := row_take zs k hkl
      have hrl := row_take_le zs (k + 1)
      generalize hx : zs.getD k 0 = x at hc' hvk hr
      obtain ⟨A, hA⟩ : ∃ A, str (put x) = A := ⟨_, rfl⟩
      have hAs : A.size ≤ 10 := by rw [← hA, str_size]; exact put_le x
      have HA := Lib.hid hA
      have HR : Hid (str (row (zs.take (k + 1))) = O ++ A) := by
        show str (row (zs.take (k + 1))) = O ++ A
        rw [hr, ← hA, ← HO.out]; simp [str]; rfl
      have hOA : (O ++ A).size ≤ 10 * len := by rw [← HR.out, str_size]; have := HL.out; omega
      have hOA2 : O.size + A.size ≤ 10 * len := by rw [ByteArray.size_append] at hOA; exact hOA
      clear hc hx hr hA hrl hkl hOA
      go_wp2_with fail
      refine (refPut_str x _ hvk A HA.out).mono ?_
      rintro e w1 ⟨rfl, hb1⟩
      have hb2 := hbel.trans (hb1.mono hbel.size)
      go_wp2_with fail
      go_roundw
      case rel => exact ⟨k + 1, _, by omega, by go_num, rfl, HR, by simp [ByteArray.size_append]; omega, hb2⟩
      case measure => simp [intOf]; omega
    · have hfin : str (row zs) = O := by
        rw [← HO.out, List.take_of_length_le (by have := HL.out; omega)]
      have HF := Lib.hid hfin
      clear hfin
      go_wp2_with fail
      go_ret
      exact ⟨by rw [HF.out]; rfl, hbel⟩
end Go.Proofs.Ytlljfgaaefofbaa.V
