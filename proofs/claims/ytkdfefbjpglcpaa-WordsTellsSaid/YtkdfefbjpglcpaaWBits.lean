/-
  WordsBits: for every row of numbers the statement's function returns true, and writes nothing that was there.
-/
import Derived.Test.YtkdfefbjpglcpaaWAwake
import Derived.Test.YtkdfefbjpglcpaaWPure2
set_option linter.unusedVariables false
namespace Go.Proofs.Ytkdfefbjpglcpaa.V
open Go.RowKit

theorem wput_len (ao : Option Addr) (k cap : Nat) (zs : List Nat) (s : ByteArray) (w : World) (hk : zs.length = k) (hz : k ≤ 1000) (hv : ∀ v ∈ zs, v < 2 ^ 64) (hu : Us w ao zs) (h : str (wrds 8 zs) = s) :
    Calls Try.prog 10 #[.slice ao k cap] w fun e w' => e = .returned (.string s) ∧ Below w.heap.size w w' := by subst h hk; exact wput_any ao cap zs w hz hv hu

theorem puthalf_int (V : Int) (v : Nat) (s : ByteArray) (w : World) (hV : V = (v : Int)) (hv : v < 2 ^ 32) (h : str (octs 4 v) = s) :
    Calls Try.prog 12 #[.int .u32 V] w fun e w' => e = .returned (.string s) ∧ Below w.heap.size w w' := by subst hV; exact puthalf_lit v s w hv h

set_option maxRecDepth 100000 in
set_option maxHeartbeats 600000 in
theorem bits_in (ao : Option Addr) (cap len m : Nat) (l : List Nat) (S : ByteArray) (w : World) (hm : min (len : Int) 20 = (m : Int)) (hml : m ≤ len) (hlen : l.length = m) (hm20 : m ≤ 20) (hlc : len ≤ cap) (hcap : cap ≤ 9223372036854775807)
    (HV : Hid (∀ v ∈ l, v < 2 ^ 64)) (HU : Hid (Us w ao l)) (HS : Hid (str (wrds 8 l) = S)) (hSz : (S.size : Int) = 8 * (m : Int)) :
    Calls Try.prog 8 #[.slice ao len cap] w fun e w' => e = .returned (.bool true) ∧ Below w.heap.size w w' := by
  have HL := Lib.hid hlen
  clear hlen
  go_enter Try.func8, Try.ntmps8
  go_wp2_with fail
  refine (awake_any _).mono ?_
  rintro e w1 ⟨rfl, hb1⟩
  go_wp2_with fail
  refine (wput_len ao m cap l S _ HL.out (by omega) HV.out (HU.out.below (Nat.le_refl _) hb1) HS.out).mono ?_
  rintro e w2 ⟨rfl, hb2⟩
  have hb := bt hb1 hb2
  clear hb1 hb2
  go_wp2_with fail
  go_loopw [6] (fun i wr => ∃ k : Nat, k ≤ m ∧ i = .int .i64 k ∧ Below w.heap.size w wr) (fun i _ => m - (intOf i).toNat)
  case atStart => exact ⟨0, by omega, rfl, hb⟩
  case round =>
    obtain ⟨k, hk, rfl, hbel⟩ := hrel
    clear hb
    by_cases hlt : k < m
    · have hkl : k < l.length := by have := HL.out; omega
      obtain ⟨b, off, rfl, hbb, hc⟩ := HU.out k hkl
      have hc' := (hbel.cell (p := ⟨b, off + k, none⟩) hbb).trans hc
      have hxk : l.getD k 0 < 2 ^ 64 := HV.out _ (by simp [List.getD, hkl])
      generalize hx : l.getD k 0 = x at hc' hxk
      have HX := Lib.hid hx
      clear hc hx hkl
      go_wp2_with fail
      go_loopw [7] (fun i wr => ∃ j : Nat, j ≤ 8 ∧ i = .int .i64 j ∧ Below w.heap.size w wr) (fun i _ => 8 - (intOf i).toNat)
      case atStart => exact ⟨0, by omega, rfl, hbel⟩
      case round =>
        obtain ⟨j, hj, rfl, hbel2⟩ := hrel
        have hc2 := (hbel2.cell (p := ⟨b, off + k, none⟩) hbb).trans (hbel.cell (p := ⟨b, off + k, none⟩) hbb |>.symm.trans hc')
        clear hbel hc'
        by_cases hj8 : j < 8
        · obtain ⟨p, hp⟩ : ∃ p : Nat, p = 8 * k := ⟨_, rfl⟩
          obtain ⟨q, hq⟩ : ∃ q : Nat, q = p + j := ⟨_, rfl⟩
          obtain ⟨r, hr⟩ : ∃ r : Nat, r = 8 * j := ⟨_, rfl⟩
          have hw1 : IntKind.i64.wrap (8 * (k : Int)) = (p : Int) := by rw [IntWalk.i64_in _ ⟨by omega, by omega⟩]; omega
          have hw2 : IntKind.i64.wrap ((p : Int) + (j : Int)) = (q : Int) := by rw [IntWalk.i64_in _ ⟨by omega, by omega⟩]; omega
          have hw3 : IntKind.i64.wrap (8 * (j : Int)) = (r : Int) := by rw [IntWalk.i64_in _ ⟨by omega, by omega⟩]; omega
          have hqS : q < S.size := by omega
          have hm0 : (k : Int) < (m : Int) := by omega
          have hcq : S[q] = UInt8.ofNat (x / 256 ^ j) := by
            have h1 := wrds_get 8 l k j (by have := HL.out; omega) hj8
            rw [HX.out] at h1
            exact byte_at HS.out q hqS _ (by rw [hq, hp]; exact h1)
          generalize hcc : UInt8.ofNat (x / 256 ^ j) = c at hcq
          have hne : ((c.toNat : Int) != (x : Int) / 2 ^ min r 64 % 256) = false := by
            have e1 : c.toNat = x / 256 ^ j % 256 := by rw [← hcc, UInt8.toNat_ofNat']
            have e2 : min r 64 = 8 * j := by omega
            have e3 : (256 : Nat) ^ j = 2 ^ (8 * j) := by rw [Nat.pow_mul]
            rw [e2, e1, e3]
            simp
          clear hp hq hr hcc
          go_wp2_with fail
          go_quiet (fail)
          go_wp2_with fail
          go_roundw
          case rel => exact ⟨j + 1, by omega, by go_num, Below.drewN hbel2 _⟩
          case measure => simp [intOf]; omega
        · obtain ⟨p, hp⟩ : ∃ p : Nat, 8 * (k : Int) = (p : Int) := ⟨8 * k, by omega⟩
          obtain ⟨p4, hp4⟩ : ∃ p4 : Nat, (p : Int) + 4 = (p4 : Int) := ⟨p + 4, by omega⟩
          obtain ⟨P, hP⟩ : ∃ P, str (octs 4 (x % 4294967296)) = P := ⟨_, rfl⟩
          have hPs : (P.size : Int) = 4 := by rw [← hP, str_size]; simp
          have i0 : p ≤ p4 := by omega
          have i1 : p4 ≤ S.size := by omega
          have hcut : S.extract p p4 = P := by
            rw [cut_list HS.out, show p = 8 * k by omega, wrds_drop 8 l k (by have := HL.out; omega), HX.out, List.take_append_of_le_length (by simp; omega), show p4 - 8 * k = 4 by omega, octs_half 4 4 x, ← hP, ← octs_mod 4 x]
          have HP := Lib.hid hP
          have hd : decide ((j : Int) < 8) = false := by simp; omega
          clear hP hSz
          go_wp2_with fail
          refine (puthalf_int _ (x % 4294967296) P _ (by simp) (by omega) HP.out).mono ?_
          rintro e w4 ⟨rfl, hb4⟩
          go_wp2_with fail
          go_roundw
          case rel => exact ⟨k + 1, by omega, by go_num, bt hbel2 hb4⟩
          case measure => simp [intOf]; omega
    · have hd : decide (k < m) = false := by simp; omega
      go_wp2_with fail
      go_ret
      exact ⟨rfl, hbel⟩

theorem wordsBits_walk (ao : Option Addr) (cap : Nat) (zs : List Nat) (w : World) (hv : ∀ v ∈ zs, v < 2 ^ 64) (hu : Us w ao zs) (hlc : zs.length ≤ cap) (hcap : cap ≤ 9223372036854775807) (hn0 : ao = none → cap = 0) :
    Calls Try.prog 8 #[.slice ao zs.length cap] w fun e w' => e = .returned (.bool true) ∧ Below w.heap.size w w' :=
  bits_in ao cap zs.length (min zs.length 20) (zs.take 20) _ w (by omega) (by omega) (by simp; omega) (by omega) hlc hcap (fun v h => hv v (List.mem_of_mem_take h)) (hu.take 20) (Lib.hid rfl) (by rw [str_size]; simp; omega)
end Go.Proofs.Ytkdfefbjpglcpaa.V
