/-
  WordsForms, walked: four cases, as the numbers and the half are there or not.
-/
import Derived.Test.YtkdfefbjpglcpaaWAwake
set_option linter.unusedVariables false
namespace Go.Proofs.Ytkdfefbjpglcpaa.V
open Go.RowKit

theorem pick_int (c n : Int) (k : Nat) (w : World) (h0 : -9223372036854775808 ≤ c) (h1 : c ≤ 9223372036854775807) (h2 : 1 ≤ n) (h3 : n ≤ 1000000000) (hk : pk c n = (k : Int)) :
    Calls Try.prog 14 #[.int .i64 c, .int .i64 n] w fun e w' => e = .returned (.int .i64 k) ∧ w = w' := by
  rw [← hk]; exact pick_any c n w h0 h1 h2 h3
theorem wput_len (ao : Option Addr) (k cap : Nat) (zs : List Nat) (s : ByteArray) (w : World) (hk : zs.length = k) (hz : k ≤ 1000) (hv : ∀ v ∈ zs, v < 2 ^ 64) (hu : Us w ao zs) (h : str (wrds 8 zs) = s) :
    Calls Try.prog 10 #[.slice ao k cap] w fun e w' => e = .returned (.string s) ∧ Below w.heap.size w w' := by subst h hk; exact wput_any ao cap zs w hz hv hu

set_option maxRecDepth 100000 in
set_option maxHeartbeats 600000 in
theorem forms_11 (s T : ByteArray) (a n : Int) (m i k j h : Nat)
    (l : List Nat) (R : ByteArray)
    (x : Nat) (P : ByteArray)
    (w : World) (ha0 : -9223372036854775808 ≤ a) (ha1 : a ≤ 9223372036854775807) (hn0 : -9223372036854775808 ≤ n) (hn1 : n ≤ 9223372036854775807)
    (hm : min (s.size : Int) 100 = (m : Int)) (hT : s.extract 0 m = T) (hTs : T.size ≤ 100) (hms : m ≤ s.size)
    (HI : Hid (pk a (T.size + 1) = (i : Int))) (HK : Hid (pk n 14 = (k : Int))) (hi : i ≤ T.size) (hk : k < 14)
    (hj : (i : Int) + 8 * (k : Int) = (j : Int)) (hh : (i : Int) + 4 = (h : Int))
    (hjT : j ≤ T.size) (HL : Hid (nums 8 k (T.data.toList.drop i) = l)) (H3 : Hid (l.length = k)) (HV : Hid (∀ v ∈ l, v < 2 ^ 64)) (HR : Hid (str (wrds 8 l) = R)) (hR : T.extract i j = R)
    (hhT : h ≤ T.size) (HX : Hid (val ((T.data.toList.drop i).take 4) = x)) (hx : x < 2 ^ 32) (HP : Hid (str (octs 4 x) = P)) (hP : T.extract i h = P) :
    Calls Try.prog 5 #[.string s, .int .i64 a, .int .i64 n] w fun e w' => e = .returned (.bool true) ∧ Below w.heap.size w w' := by
  have d1 : decide (j ≤ T.size) = true := by simp; omega
  have d2 : decide (h ≤ T.size) = true := by simp; omega
  go_enter Try.func5, Try.ntmps5
  go_wp2_with fail
  refine (awake_any _).mono ?_
  rintro e w1 ⟨rfl, hb1⟩
  go_wp2_with fail
  refine (pick_int a (T.size + 1) i _ ha0 ha1 (by omega) (by omega) HI.out).mono ?_
  rintro e w' ⟨rfl, rfl⟩
  go_wp2_with fail
  refine (pick_int n 14 k _ hn0 hn1 (by omega) (by omega) HK.out).mono ?_
  rintro e w' ⟨rfl, rfl⟩
  go_wp2_with fail
  refine (wTake_ok T i k j _ (by omega) (by omega) (by omega)).mono ?_
  rintro e w2 ⟨ao, cap, rfl, hu, hb2⟩
  rw [HL.out] at hu
  have HU := Lib.hid hu
  clear hu
  go_wp2_with fail
  refine (wHalf_ok T i x h _ (by omega) (by omega) (by omega) HX.out).mono ?_
  rintro e w3 ⟨rfl, hb3⟩
  go_wp2_with fail
  have i1 : (0 : Int) ≤ (i : Int) := Int.natCast_nonneg _
  have i2 : (i : Int) ≤ (j : Int) := by omega
  have i3 : (j : Int) ≤ (T.size : Int) := by omega
  have t1 : decide (j < i) = false := by simp; omega
  have t2 : decide (T.size < j) = false := by simp; omega
  have i4 : (i : Int) ≤ (h : Int) := by omega
  have i5 : (h : Int) ≤ (T.size : Int) := by omega
  have t3 : decide (h < i) = false := by simp; omega
  have t4 : decide (T.size < h) = false := by simp; omega
  refine wp_region_grow (by kernel_rfl) (by kernel_rfl) ?_
  repeat (go_big_quiet_step ((go_at_call 10; exact grow_call (wput_len ao k cap l R _ H3.out (by omega) HV.out ((HU.out.below (Nat.le_refl _) hb3).below (Nat.le_refl _) (GW.h _)) HR.out))))
  refine wpQuiet_nil ?_
  rintro _ ⟨w4, rfl⟩
  go_wp2_with fail
  refine wp_region_grow (by kernel_rfl) (by kernel_rfl) ?_
  repeat (go_big_quiet_step ((go_at_call 12; exact grow_call (puthalf_lit x P _ hx HP.out))))
  refine wpQuiet_nil ?_
  rintro _ ⟨w5, rfl⟩
  go_wp2_with fail
  go_ret
  exact ⟨rfl, bt (bt (bt (bt hb1 hb2) hb3) w4.h) w5.h⟩

set_option maxRecDepth 100000 in
set_option maxHeartbeats 600000 in
theorem forms_10 (s T : ByteArray) (a n : Int) (m i k j h : Nat)
    (l : List Nat) (R : ByteArray)
    (w : World) (ha0 : -9223372036854775808 ≤ a) (ha1 : a ≤ 9223372036854775807) (hn0 : -9223372036854775808 ≤ n) (hn1 : n ≤ 9223372036854775807)
    (hm : min (s.size : Int) 100 = (m : Int)) (hT : s.extract 0 m = T) (hTs : T.size ≤ 100) (hms : m ≤ s.size)
    (HI : Hid (pk a (T.size + 1) = (i : Int))) (HK : Hid (pk n 14 = (k : Int))) (hi : i ≤ T.size) (hk : k < 14)
    (hj : (i : Int) + 8 * (k : Int) = (j : Int)) (hh : (i : Int) + 4 = (h : Int))
    (hjT : j ≤ T.size) (HL : Hid (nums 8 k (T.data.toList.drop i) = l)) (H3 : Hid (l.length = k)) (HV : Hid (∀ v ∈ l, v < 2 ^ 64)) (HR : Hid (str (wrds 8 l) = R)) (hR : T.extract i j = R)
    (hhT : T.size < h) :
    Calls Try.prog 5 #[.string s, .int .i64 a, .int .i64 n] w fun e w' => e = .returned (.bool true) ∧ Below w.heap.size w w' := by
  have d1 : decide (j ≤ T.size) = true := by simp; omega
  have d2 : decide (h ≤ T.size) = false := by simp; omega
  go_enter Try.func5, Try.ntmps5
  go_wp2_with fail
  refine (awake_any _).mono ?_
  rintro e w1 ⟨rfl, hb1⟩
  go_wp2_with fail
  refine (pick_int a (T.size + 1) i _ ha0 ha1 (by omega) (by omega) HI.out).mono ?_
  rintro e w' ⟨rfl, rfl⟩
  go_wp2_with fail
  refine (pick_int n 14 k _ hn0 hn1 (by omega) (by omega) HK.out).mono ?_
  rintro e w' ⟨rfl, rfl⟩
  go_wp2_with fail
  refine (wTake_ok T i k j _ (by omega) (by omega) (by omega)).mono ?_
  rintro e w2 ⟨ao, cap, rfl, hu, hb2⟩
  rw [HL.out] at hu
  have HU := Lib.hid hu
  clear hu
  go_wp2_with fail
  refine (wHalf_no T i _ 0 [] 2 2 (by omega) (takeW_no 4 T.data.toList i 1 (by decide) (by simp; omega)) rfl (by decide)).mono ?_
  rintro e w3 ⟨rfl, hb3⟩
  go_wp2_with fail
  have i1 : (0 : Int) ≤ (i : Int) := Int.natCast_nonneg _
  have i2 : (i : Int) ≤ (j : Int) := by omega
  have i3 : (j : Int) ≤ (T.size : Int) := by omega
  have t1 : decide (j < i) = false := by simp; omega
  have t2 : decide (T.size < j) = false := by simp; omega
  refine wp_region_grow (by kernel_rfl) (by kernel_rfl) ?_
  repeat (go_big_quiet_step ((go_at_call 10; exact grow_call (wput_len ao k cap l R _ H3.out (by omega) HV.out ((HU.out.below (Nat.le_refl _) hb3).below (Nat.le_refl _) (GW.h _)) HR.out))))
  refine wpQuiet_nil ?_
  rintro _ ⟨w4, rfl⟩
  go_wp2_with fail
  refine wp_region_grow (by kernel_rfl) (by kernel_rfl) ?_
  repeat (go_big_quiet_step (fail))
  refine wpQuiet_nil ?_
  rintro _ ⟨w5, rfl⟩
  go_wp2_with fail
  go_ret
  exact ⟨rfl, bt (bt (bt (bt hb1 hb2) hb3) w4.h) w5.h⟩

set_option maxRecDepth 100000 in
set_option maxHeartbeats 600000 in
theorem forms_01 (s T : ByteArray) (a n : Int) (m i k j h : Nat)
    (x : Nat) (P : ByteArray)
    (w : World) (ha0 : -9223372036854775808 ≤ a) (ha1 : a ≤ 9223372036854775807) (hn0 : -9223372036854775808 ≤ n) (hn1 : n ≤ 9223372036854775807)
    (hm : min (s.size : Int) 100 = (m : Int)) (hT : s.extract 0 m = T) (hTs : T.size ≤ 100) (hms : m ≤ s.size)
    (HI : Hid (pk a (T.size + 1) = (i : Int))) (HK : Hid (pk n 14 = (k : Int))) (hi : i ≤ T.size) (hk : k < 14)
    (hj : (i : Int) + 8 * (k : Int) = (j : Int)) (hh : (i : Int) + 4 = (h : Int))
    (hjT : T.size < j)
    (hhT : h ≤ T.size) (HX : Hid (val ((T.data.toList.drop i).take 4) = x)) (hx : x < 2 ^ 32) (HP : Hid (str (octs 4 x) = P)) (hP : T.extract i h = P) :
    Calls Try.prog 5 #[.string s, .int .i64 a, .int .i64 n] w fun e w' => e = .returned (.bool true) ∧ Below w.heap.size w w' := by
  have d1 : decide (j ≤ T.size) = false := by simp; omega
  have d2 : decide (h ≤ T.size) = true := by simp; omega
  go_enter Try.func5, Try.ntmps5
  go_wp2_with fail
  refine (awake_any _).mono ?_
  rintro e w1 ⟨rfl, hb1⟩
  go_wp2_with fail
  refine (pick_int a (T.size + 1) i _ ha0 ha1 (by omega) (by omega) HI.out).mono ?_
  rintro e w' ⟨rfl, rfl⟩
  go_wp2_with fail
  refine (pick_int n 14 k _ hn0 hn1 (by omega) (by omega) HK.out).mono ?_
  rintro e w' ⟨rfl, rfl⟩
  go_wp2_with fail
  refine (wTake_no T i k _ (by omega) (by omega)).mono ?_
  rintro e w2 ⟨ao, cap, rfl, hu, hb2⟩
  have HU := Lib.hid hu
  clear hu
  go_wp2_with fail
  refine (wHalf_ok T i x h _ (by omega) (by omega) (by omega) HX.out).mono ?_
  rintro e w3 ⟨rfl, hb3⟩
  go_wp2_with fail
  have i1 : (0 : Int) ≤ (i : Int) := Int.natCast_nonneg _
  have i4 : (i : Int) ≤ (h : Int) := by omega
  have i5 : (h : Int) ≤ (T.size : Int) := by omega
  have t3 : decide (h < i) = false := by simp; omega
  have t4 : decide (T.size < h) = false := by simp; omega
  refine wp_region_grow (by kernel_rfl) (by kernel_rfl) ?_
  repeat (go_big_quiet_step (fail))
  refine wpQuiet_nil ?_
  rintro _ ⟨w4, rfl⟩
  go_wp2_with fail
  refine wp_region_grow (by kernel_rfl) (by kernel_rfl) ?_
  repeat (go_big_quiet_step ((go_at_call 12; exact grow_call (puthalf_lit x P _ hx HP.out))))
  refine wpQuiet_nil ?_
  rintro _ ⟨w5, rfl⟩
  go_wp2_with fail
  go_ret
  exact ⟨rfl, bt (bt (bt (bt hb1 hb2) hb3) w4.h) w5.h⟩

set_option maxRecDepth 100000 in
set_option maxHeartbeats 600000 in
theorem forms_00 (s T : ByteArray) (a n : Int) (m i k j h : Nat)
    (w : World) (ha0 : -9223372036854775808 ≤ a) (ha1 : a ≤ 9223372036854775807) (hn0 : -9223372036854775808 ≤ n) (hn1 : n ≤ 9223372036854775807)
    (hm : min (s.size : Int) 100 = (m : Int)) (hT : s.extract 0 m = T) (hTs : T.size ≤ 100) (hms : m ≤ s.size)
    (HI : Hid (pk a (T.size + 1) = (i : Int))) (HK : Hid (pk n 14 = (k : Int))) (hi : i ≤ T.size) (hk : k < 14)
    (hj : (i : Int) + 8 * (k : Int) = (j : Int)) (hh : (i : Int) + 4 = (h : Int))
    (hjT : T.size < j)
    (hhT : T.size < h) :
    Calls Try.prog 5 #[.string s, .int .i64 a, .int .i64 n] w fun e w' => e = .returned (.bool true) ∧ Below w.heap.size w w' := by
  have d1 : decide (j ≤ T.size) = false := by simp; omega
  have d2 : decide (h ≤ T.size) = false := by simp; omega
  go_enter Try.func5, Try.ntmps5
  go_wp2_with fail
  refine (awake_any _).mono ?_
  rintro e w1 ⟨rfl, hb1⟩
  go_wp2_with fail
  refine (pick_int a (T.size + 1) i _ ha0 ha1 (by omega) (by omega) HI.out).mono ?_
  rintro e w' ⟨rfl, rfl⟩
  go_wp2_with fail
  refine (pick_int n 14 k _ hn0 hn1 (by omega) (by omega) HK.out).mono ?_
  rintro e w' ⟨rfl, rfl⟩
  go_wp2_with fail
  refine (wTake_no T i k _ (by omega) (by omega)).mono ?_
  rintro e w2 ⟨ao, cap, rfl, hu, hb2⟩
  have HU := Lib.hid hu
  clear hu
  go_wp2_with fail
  refine (wHalf_no T i _ 0 [] 2 2 (by omega) (takeW_no 4 T.data.toList i 1 (by decide) (by simp; omega)) rfl (by decide)).mono ?_
  rintro e w3 ⟨rfl, hb3⟩
  go_wp2_with fail
  have i1 : (0 : Int) ≤ (i : Int) := Int.natCast_nonneg _
  refine wp_region_grow (by kernel_rfl) (by kernel_rfl) ?_
  repeat (go_big_quiet_step (fail))
  refine wpQuiet_nil ?_
  rintro _ ⟨w4, rfl⟩
  go_wp2_with fail
  refine wp_region_grow (by kernel_rfl) (by kernel_rfl) ?_
  repeat (go_big_quiet_step (fail))
  refine wpQuiet_nil ?_
  rintro _ ⟨w5, rfl⟩
  go_wp2_with fail
  go_ret
  exact ⟨rfl, bt (bt (bt (bt hb1 hb2) hb3) w4.h) w5.h⟩

theorem wordsForms_walk (s : ByteArray) (a n : Int) (w : World) (hs : s.size ≤ 9223372036854775807) (ha0 : -9223372036854775808 ≤ a) (ha1 : a ≤ 9223372036854775807) (hn0 : -9223372036854775808 ≤ n) (hn1 : n ≤ 9223372036854775807) :
    Calls Try.prog 5 #[.string s, .int .i64 a, .int .i64 n] w fun e w' => e = .returned (.bool true) ∧ Below w.heap.size w w' := by
  obtain ⟨m, T, hm, hT, hTs, hms⟩ := cut_str s 100 100 rfl
  have hp1 := pk_bd a (T.size + 1) (by omega)
  have hp2 := pk_bd n 14 (by omega)
  obtain ⟨i, hi⟩ : ∃ i : Nat, pk a (T.size + 1) = (i : Int) := ⟨(pk a (T.size + 1)).toNat, by omega⟩
  obtain ⟨k, hk⟩ : ∃ k : Nat, pk n 14 = (k : Int) := ⟨(pk n 14).toNat, by omega⟩
  have hiT : i ≤ T.size := by omega
  have hk14 : k < 14 := by omega
  have one : ∀ c, c ≤ T.size → ∀ L, (T.data.toList.drop i).take (c - i) = L → T.extract i c = str L := by
    intro c hc L hL
    rw [← hL, ← str_of (T.extract i c)]
    congr 1
    simp [ByteArray.data_extract]
  have w8 : i + 8 * k ≤ T.size → T.extract i (i + 8 * k) = str (wrds 8 (nums 8 k (T.data.toList.drop i))) := by
    intro h
    refine one _ h _ ?_
    rw [wrds_nums 8 k _ (by simp; omega)]
    congr 1; omega
  have w4 : i + 4 ≤ T.size → T.extract i (i + 4) = str (octs 4 (val ((T.data.toList.drop i).take 4))) := by
    intro h
    refine one _ h _ ?_
    rw [octs_val_of (by simp; omega)]
    congr 1; omega
  have hx : val ((T.data.toList.drop i).take 4) < 2 ^ 32 := val_lt_of (w := 4) (by simp; omega)
  have hv : ∀ v ∈ nums 8 k (T.data.toList.drop i), v < 2 ^ 64 := nums_lt 8 k _
  have hl := nums_len 8 k (T.data.toList.drop i)
  by_cases h1 : i + 8 * k ≤ T.size <;> by_cases h2 : i + 4 ≤ T.size
  · exact forms_11 s T a n m i k (i + 8 * k) (i + 4) _ _ _ _ w ha0 ha1 hn0 hn1 hm hT hTs hms hi hk hiT hk14 (by omega) (by omega) h1 (Lib.hid rfl) hl hv (Lib.hid rfl) (w8 h1) h2 (Lib.hid rfl) hx (Lib.hid rfl) (w4 h2)
  · exact forms_10 s T a n m i k (i + 8 * k) (i + 4) _ _ w ha0 ha1 hn0 hn1 hm hT hTs hms hi hk hiT hk14 (by omega) (by omega) h1 (Lib.hid rfl) hl hv (Lib.hid rfl) (w8 h1) (by omega)
  · exact forms_01 s T a n m i k (i + 8 * k) (i + 4) _ _ w ha0 ha1 hn0 hn1 hm hT hTs hms hi hk hiT hk14 (by omega) (by omega) (by omega) h2 (Lib.hid rfl) hx (Lib.hid rfl) (w4 h2)
  · exact forms_00 s T a n m i k (i + 8 * k) (i + 4) w ha0 ha1 hn0 hn1 hm hT hTs hms hi hk hiT hk14 (by omega) (by omega) (by omega) (by omega)
end Go.Proofs.Ytkdfefbjpglcpaa.V
