/-
  WordsParts: for every row of numbers and every raw place the statement's function returns true, and writes nothing that was there.
-/
import Derived.Test.YtkdfefbjpglcpaaWForms
import Derived.Test.YtkdfefbjpglcpaaWPure2
set_option linter.unusedVariables false
namespace Go.Proofs.Ytkdfefbjpglcpaa.V
open Go.RowKit

theorem Us.dropIf {w : World} {ao : Option Addr} {l : List Nat} {cap kk : Nat} (h : Us w ao l) (hc : l.length ≤ cap) : Us w (if cap = kk then ao else Option.map (fun x => x.add kk) ao) (l.drop kk) := by
  intro j hj
  simp at hj
  rw [if_neg (by omega)]
  obtain ⟨b, off, rfl, hb, hcell⟩ := h (kk + j) (by omega)
  refine ⟨b, off + kk, by simp [Addr.add], hb, ?_⟩
  rw [Nat.add_assoc, hcell]
  simp [List.getD]

set_option maxRecDepth 100000 in
set_option maxHeartbeats 800000 in
theorem parts_in (ao : Option Addr) (cap len m kk : Nat) (l : List Nat) (S P1 P2 : ByteArray) (a : Int) (w : World) (ha0 : -9223372036854775808 ≤ a) (ha1 : a ≤ 9223372036854775807) (hm : min (len : Int) 20 = (m : Int)) (hml : m ≤ len) (hlen : l.length = m) (hm20 : m ≤ 20) (hlc : len ≤ cap) (hcap : cap ≤ 9223372036854775807)
    (HK : Hid (pk a ((m : Int) + 1) = (kk : Int))) (hkm : kk ≤ m)
    (HV : Hid (∀ v ∈ l, v < 2 ^ 64)) (HU : Hid (Us w ao l)) (HS : Hid (str (wrds 8 l) = S)) (hSz : (S.size : Int) = 8 * (m : Int))
    (H1 : Hid (str (wrds 8 (l.take kk)) = P1)) (H2 : Hid (str (wrds 8 (l.drop kk)) = P2)) (h12 : P1 ++ P2 = S) (hp12 : ¬ 9223372036854775807 < P1.size + P2.size) :
    Calls Try.prog 7 #[.slice ao len cap, .int .i64 a] w fun e w' => e = .returned (.bool true) ∧ Below w.heap.size w w' := by
  have HL := Lib.hid hlen
  clear hlen
  go_enter Try.func7, Try.ntmps7
  go_wp2_with fail
  refine (awake_any _).mono ?_
  rintro e w1 ⟨rfl, hb1⟩
  go_wp2_with fail
  refine (pick_int a ((m : Int) + 1) kk _ ha0 ha1 (by omega) (by omega) HK.out).mono ?_
  rintro e w' ⟨rfl, rfl⟩
  go_wp2_with fail
  refine (wput_len ao m cap l S _ HL.out (by omega) HV.out (HU.out.below (Nat.le_refl _) hb1) HS.out).mono ?_
  rintro e w2 ⟨rfl, hb2⟩
  have hb := bt hb1 hb2
  clear hb1 hb2
  go_wp2_with fail
  go_loopw [9] (fun i wr => ∃ k : Nat, k ≤ m ∧ i = .int .i64 k ∧ Below w.heap.size w wr) (fun i _ => m - (intOf i).toNat)
  case atStart => exact ⟨0, by omega, rfl, hb⟩
  case round =>
    obtain ⟨k, hk, rfl, hbel⟩ := hrel
    clear hb
    by_cases hlt : k < m
    · have hkl : k < l.length := by have := HL.out; omega
      obtain ⟨b, off, rfl, hbb, hc⟩ := HU.out k hkl
      have hat := nums_at l k hkl HV.out
      generalize hx : l.getD k 0 = x at hc hat
      obtain ⟨p, hp⟩ : ∃ p : Nat, 8 * (k : Int) = (p : Int) := ⟨8 * k, by omega⟩
      obtain ⟨p8, hp8⟩ : ∃ p8 : Nat, (p : Int) + 8 = (p8 : Int) := ⟨p + 8, by omega⟩
      have HT : Hid (takeW 8 S.data.toList (p : Int) 1 = ([x], p8, 0)) := by
        have h := takeW_ok 8 S.data.toList p 1 (by decide) (by simp; omega)
        rw [← HS.out, str_list, show p = 8 * k by omega, hat, show 8 * k + 1 * 8 = p8 by omega] at h
        rw [← HS.out, str_list, show p = 8 * k by omega]
        exact h
      have hw1 : IntKind.i64.wrap (8 * (k : Int)) = (p : Int) := by rw [IntWalk.i64_in _ ⟨by omega, by omega⟩]; omega
      have hw2 : IntKind.i64.wrap ((p : Int) + 8) = (p8 : Int) := by rw [IntWalk.i64_in _ ⟨by omega, by omega⟩]; omega
      have hm0 : (k : Int) < (m : Int) := by omega
      clear hx hkl hat
      have hk0 := hp
      go_wp2_with fail
      clear hk0
      refine (wTake S p 1 _ [x] p8 0 p8 0 (by omega) HT.out rfl rfl).mono ?_
      rintro e w3 ⟨ao3, cap3, rfl, hu3, hb3⟩
      obtain ⟨b3, off3, rfl, hbb3, hc3⟩ := hu3 0 (by simp)
      have hc4 : w3.cell? ⟨b3, off3, none⟩ = some (.int .u64 (x : Int)) := by simpa using hc3
      have hc5 : w3.cell? ⟨b, off + k, none⟩ = some (.int .u64 (x : Int)) := (((bt hbel hb3).cell (p := ⟨b, off + k, none⟩) hbb)).trans hc
      rw [show ([x] : List Nat).length = 1 from rfl]
      have hb4 := bt hbel hb3
      clear hp hp8 hc hc3 hu3 hb3 hbel
      go_wp2_with fail
      go_quiet (fail)
      go_wp2_with fail
      go_roundw
      case rel => exact ⟨k + 1, by omega, by go_num, Below.drewN hb4 _⟩
      case measure => simp [intOf]; omega
    · have hd : decide (k < m) = false := by simp; omega
      have hSs : S.data.toList.length = 8 * m := by rw [show S.data.toList.length = S.size by simp]; omega
      have HT1 : Hid (takeW 8 S.data.toList (8 * (m : Int)) 0 = ([], 8 * m, 0)) := by
        have h := takeW_ok 8 S.data.toList (8 * m) 0 (by decide) (by omega)
        simp [nums] at h
        exact h
      have HT2 : Hid (takeW 8 S.data.toList (8 * (m : Int) + 1) 0 = ([], 0, 2)) := takeW_short 8 S.data.toList _ _ (by omega) (by omega) (Or.inl (by omega))
      clear hSs
      go_wp2_with fail
      refine (wTake S _ 0 _ [] (8 * m) 0 (8 * (m : Int)) 0 (by omega) HT1.out (by omega) rfl).mono ?_
      rintro e w3 ⟨ao3, cap3, rfl, _, hb3⟩
      go_wp2_with fail
      refine (wTake S _ 0 _ [] 0 2 0 2 (by omega) HT2.out rfl rfl).mono ?_
      rintro e w4 ⟨ao4, cap4, rfl, _, hb4⟩
      have hb5 := bt (bt hbel hb3) hb4
      have HU5 := Lib.hid (HU.out.below (Nat.le_refl _) hb5)
      have HU6 := Lib.hid (HU5.out.dropIf (cap := cap) (kk := kk) (by have := HL.out; omega))
      have j1 : (kk : Int) ≤ (m : Int) := by omega
      have j2 : (kk : Int) ≤ (cap : Int) := by omega
      have j3 : kk ≤ cap := by omega
      clear hbel hb3 hb4 hd
      go_wp2_with fail
      refine wp_region_grow (by kernel_rfl) (by kernel_rfl) ?_
      repeat (go_big_quiet_step ((go_at_call 10; first | exact grow_call (wput_len ao kk cap (l.take kk) P1 _ (by have := HL.out; simp; omega) (by omega) (fun v h => HV.out v (List.mem_of_mem_take h)) ((HU5.out.take kk).below (Nat.le_refl _) (GW.h _)) H1.out) | exact grow_call (wput_len _ (m - kk) (cap - kk) (l.drop kk) P2 _ (by have := HL.out; simp; omega) (by omega) (fun v h => HV.out v (List.mem_of_mem_drop h)) (HU6.out.below (Nat.le_refl _) (GW.h _)) H2.out))))
      refine wpQuiet_nil ?_
      rintro _ ⟨w6, rfl⟩
      go_wp2_with fail
      all_goals
        go_ret
        exact ⟨rfl, bt hb5 w6.h⟩

theorem wordsParts_walk (ao : Option Addr) (cap : Nat) (zs : List Nat) (a : Int) (w : World) (hv : ∀ v ∈ zs, v < 2 ^ 64) (hu : Us w ao zs) (hlc : zs.length ≤ cap) (hcap : cap ≤ 9223372036854775807) (hn0 : ao = none → cap = 0) (ha0 : -9223372036854775808 ≤ a) (ha1 : a ≤ 9223372036854775807) :
    Calls Try.prog 7 #[.slice ao zs.length cap, .int .i64 a] w fun e w' => e = .returned (.bool true) ∧ Below w.heap.size w w' := by
  have hp1 := pk_bd a (((min zs.length 20 : Nat) : Int) + 1) (by omega)
  obtain ⟨kk, hk⟩ : ∃ kk : Nat, pk a (((min zs.length 20 : Nat) : Int) + 1) = (kk : Int) := ⟨(pk a (((min zs.length 20 : Nat) : Int) + 1)).toNat, by omega⟩
  have e : wrds 8 ((zs.take 20).take kk) ++ wrds 8 ((zs.take 20).drop kk) = wrds 8 (zs.take 20) := by rw [← wrds_app, List.take_append_drop]
  refine parts_in ao cap zs.length (min zs.length 20) kk (zs.take 20) _ _ _ a w ha0 ha1 (by omega) (by omega) (by simp; omega) (by omega) hlc hcap hk (by omega) (fun v h => hv v (List.mem_of_mem_take h)) (hu.take 20) (Lib.hid rfl) (by rw [str_size]; simp; omega) (Lib.hid rfl) (Lib.hid rfl) ?_ ?_
  · rw [← e]; simp [str, ByteArray.ext_iff, ByteArray.data_append]
  · rw [str_size, str_size]; simp; omega
end Go.Proofs.Ytkdfefbjpglcpaa.V
