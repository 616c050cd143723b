/-
  VarintForms: for every text and every raw place and count the statement's function returns true, and writes nothing that was there.
-/
import Derived.Test.YtlljfgaaefofbaaVarAwake
import Derived.Deep.RegionWith
import Derived.Deep.RegionHeld3
set_option linter.unusedVariables false
namespace Go.Proofs.Ytlljfgaaefofbaa.V
open Go.RowKit

theorem takeRow_us (s : ByteArray) (i n : Nat) (w : World) (l : List Nat) (p er : Nat) (hs : s.size ≤ 1000000000) (hi : i ≤ 9223372036854775807) (hn1 : n ≤ 9223372036854775807) (h : takeRow s.data.toList n i = (l, p, er)) :
    Calls Try.prog 19 #[.string s, .int .i64 i, .int .i64 n] w fun e w' => ∃ ao cap, e = .returned (.tuple #[.slice ao l.length cap, .int .i64 p, .int .i64 er]) ∧ Us w' ao l ∧ Below w.heap.size w w' := by
  refine takeRow_lit s i n w l p er hs (by omega) (by omega) ?_
  unfold takeRowI
  rw [if_neg (by omega)]
  simpa using h

theorem take_int (s : ByteArray) (q : Nat) (x p er : Int) (w : World) (hs : s.size ≤ 1000000000) (hq : q ≤ 9223372036854775807) (hx : x = (takeAt s.data.toList q).1) (hp : p = (takeAt s.data.toList q).2.1) (he : er = (takeAt s.data.toList q).2.2) :
    Calls Try.prog 17 #[.string s, .int .i64 q] w fun e w' => e = .returned (.tuple #[.int .u64 x, .int .i64 p, .int .i64 er]) ∧ w = w' := by
  subst hx hp he
  exact take_nat s q _ _ _ w hs hq rfl
theorem takeRow_int (s : ByteArray) (i n : Nat) (w : World) (l : List Nat) (p er : Int) (len : Nat) (hs : s.size ≤ 1000000000) (hi : i ≤ 9223372036854775807) (hn1 : n ≤ 9223372036854775807) (hl : l = (takeRow s.data.toList n i).1) (hp : p = (takeRow s.data.toList n i).2.1) (he : er = (takeRow s.data.toList n i).2.2) (hlen : len = l.length) :
    Calls Try.prog 19 #[.string s, .int .i64 i, .int .i64 n] w fun e w' => ∃ ao cap, e = .returned (.tuple #[.slice ao len cap, .int .i64 p, .int .i64 er]) ∧ Us w' ao l ∧ Below w.heap.size w w' := by
  subst hlen hl hp he
  exact takeRow_us s i n w _ _ _ hs hi hn1 rfl

theorem row_len (ao : Option Addr) (len cap : Nat) (zs : List Nat) (s : ByteArray) (w : World) (hlen : zs.length = len) (hz : len ≤ 1000) (hv : ∀ v ∈ zs, v < 2 ^ 64) (hu : Us w ao zs) (h : str (row zs) = s) :
    Calls Try.prog 14 #[.slice ao len cap] w fun e w' => e = .returned (.string s) ∧ Below w.heap.size w w' := by subst h hlen; exact row_any ao cap zs w hz hv hu
theorem pick_int (c n r : Int) (w : World) (h0 : -9223372036854775808 ≤ c) (h1 : c ≤ 9223372036854775807) (h2 : 1 ≤ n) (h3 : n ≤ 1000000000) (hr : pk c n = r) :
    Calls Try.prog 16 #[.int .i64 c, .int .i64 n] w fun e w' => e = .returned (.int .i64 r) ∧ w = w' := by subst hr; exact pick_any c n w h0 h1 h2 h3

set_option maxRecDepth 100000 in
set_option maxHeartbeats 2000000 in
theorem forms_okok (s T P R : ByteArray) (a n : Int) (m i k x p q : Nat) (l : List Nat) (w : World) (ha0 : -9223372036854775808 ≤ a) (ha1 : a ≤ 9223372036854775807) (hn0 : -9223372036854775808 ≤ n) (hn1 : n ≤ 9223372036854775807)
    (hm : min (s.size : Int) 40 = (m : Int)) (hT : s.extract 0 m = T) (hTs : T.size ≤ 40) (hms : m ≤ s.size)
    (HI : Hid (pk a (T.size + 1) = (i : Int))) (HK : Hid (pk n 12 = (k : Int))) (hi : i ≤ T.size) (hk : k < 12)
    (H1 : Hid (takeAt T.data.toList i = (x, p, 0)))
    (hx : x < 2 ^ 64) (hp1 : i < p) (hp2 : p ≤ T.size) (HP : Hid (str (put x) = P)) (hP : T.extract i p = P)
    (H2 : Hid (takeRow T.data.toList k i = (l, q, 0))) (H3 : Hid (l.length = k))
    (hq1 : i ≤ q) (hq2 : q ≤ T.size) (HV : Hid (∀ v ∈ l, v < 2 ^ 64)) (HR : Hid (str (row l) = R)) (hR : T.extract i q = R) (hl : l.length ≤ 1000) :
    Calls Try.prog 5 #[.string s, .int .i64 a, .int .i64 n] w fun e w' => e = .returned (.bool true) ∧ Below w.heap.size w w' := by
  go_enter Try.func5, Try.ntmps5
  go_wp2_with fail
  refine (awake_any _).mono ?_
  rintro e w1 ⟨rfl, hb1⟩
  go_wp2_with fail
  refine (pick_any a (T.size + 1) _ ha0 ha1 (by omega) (by omega)).mono ?_
  rintro e w' ⟨rfl, rfl⟩
  rw [HI.out]
  go_wp2_with fail
  refine (take_int T i x p 0 _ (by omega) (by omega) (by rw [H1.out]) (by rw [H1.out]) (by rw [H1.out]; rfl)).mono ?_
  rintro e w' ⟨rfl, rfl⟩
  go_wp2_with fail
  refine (pick_any n 12 _ hn0 hn1 (by omega) (by omega)).mono ?_
  rintro e w' ⟨rfl, rfl⟩
  rw [HK.out]
  go_wp2_with fail
  refine (takeRow_int T i k _ l q 0 k (by omega) (by omega) (by omega) (by rw [H2.out]) (by rw [H2.out]) (by rw [H2.out]; rfl) H3.out.symm).mono ?_
  rintro e w2 ⟨ao, cap, rfl, hu, hb2⟩
  have HU := Lib.hid hu
  clear hu
  go_wp2_with fail
  have i1 : (0 : Int) ≤ (i : Int) := Int.natCast_nonneg _
  have i2 : (i : Int) ≤ (p : Int) := by omega
  have i3 : (p : Int) ≤ (T.size : Int) := by omega
  have t1 : decide (p < i) = false := by simp; omega
  have t2 : decide (T.size < p) = false := by simp; omega
  have i4 : (i : Int) ≤ (q : Int) := by omega
  have i5 : (q : Int) ≤ (T.size : Int) := by omega
  have t3 : decide (q < i) = false := by simp; omega
  have t4 : decide (T.size < q) = false := by simp; omega
  refine wp_region_grow (by kernel_rfl) (by kernel_rfl) ?_
  repeat (go_big_quiet_step ((go_at_call 10; exact grow_call (put_lit x P _ hx HP.out))))
  refine wpQuiet_nil ?_
  rintro _ ⟨w3, rfl⟩
  go_wp2_with fail
  refine wp_region_grow (by kernel_rfl) (by kernel_rfl) ?_
  repeat (go_big_quiet_step ((first | (go_at_call 16; exact grow_same (pick_int n 12 k _ hn0 hn1 (by omega) (by omega) HK.out)) | (go_at_call 14; exact grow_call (row_len ao k cap l R _ H3.out (by omega) HV.out ((HU.out.below (Nat.le_refl _) w3.h).below (Nat.le_refl _) (GW.h _)) HR.out)))))
  refine wpQuiet_nil ?_
  rintro _ ⟨w4, rfl⟩
  go_wp2_with fail
  go_ret
  exact ⟨rfl, bt (bt (bt hb1 hb2) w3.h) w4.h⟩

set_option maxRecDepth 100000 in
set_option maxHeartbeats 2000000 in
theorem forms_oker (s T P : ByteArray) (a n : Int) (m i k x p : Nat) (e2 : Int) (w : World) (ha0 : -9223372036854775808 ≤ a) (ha1 : a ≤ 9223372036854775807) (hn0 : -9223372036854775808 ≤ n) (hn1 : n ≤ 9223372036854775807)
    (hm : min (s.size : Int) 40 = (m : Int)) (hT : s.extract 0 m = T) (hTs : T.size ≤ 40) (hms : m ≤ s.size)
    (HI : Hid (pk a (T.size + 1) = (i : Int))) (HK : Hid (pk n 12 = (k : Int))) (hi : i ≤ T.size) (hk : k < 12)
    (H1 : Hid (takeAt T.data.toList i = (x, p, 0)))
    (hx : x < 2 ^ 64) (hp1 : i < p) (hp2 : p ≤ T.size) (HP : Hid (str (put x) = P)) (hP : T.extract i p = P)
    (H2 : Hid ((takeRow T.data.toList k i).1 = [] ∧ (takeRow T.data.toList k i).2.1 = 0 ∧ e2 = (takeRow T.data.toList k i).2.2)) (hy1 : (e2 == 0) = false) (hy2 : (e2 != 0) = true) :
    Calls Try.prog 5 #[.string s, .int .i64 a, .int .i64 n] w fun e w' => e = .returned (.bool true) ∧ Below w.heap.size w w' := by
  go_enter Try.func5, Try.ntmps5
  go_wp2_with fail
  refine (awake_any _).mono ?_
  rintro e w1 ⟨rfl, hb1⟩
  go_wp2_with fail
  refine (pick_any a (T.size + 1) _ ha0 ha1 (by omega) (by omega)).mono ?_
  rintro e w' ⟨rfl, rfl⟩
  rw [HI.out]
  go_wp2_with fail
  refine (take_int T i x p 0 _ (by omega) (by omega) (by rw [H1.out]) (by rw [H1.out]) (by rw [H1.out]; rfl)).mono ?_
  rintro e w' ⟨rfl, rfl⟩
  go_wp2_with fail
  refine (pick_any n 12 _ hn0 hn1 (by omega) (by omega)).mono ?_
  rintro e w' ⟨rfl, rfl⟩
  rw [HK.out]
  go_wp2_with fail
  refine (takeRow_int T i k _ [] 0 e2 0 (by omega) (by omega) (by omega) H2.out.1.symm (by rw [H2.out.2.1]; rfl) H2.out.2.2 rfl).mono ?_
  rintro e w2 ⟨ao, cap, rfl, hu, hb2⟩
  have HU := Lib.hid hu
  clear hu
  go_wp2_with fail
  have i1 : (0 : Int) ≤ (i : Int) := Int.natCast_nonneg _
  have i2 : (i : Int) ≤ (p : Int) := by omega
  have i3 : (p : Int) ≤ (T.size : Int) := by omega
  have t1 : decide (p < i) = false := by simp; omega
  have t2 : decide (T.size < p) = false := by simp; omega
  refine wp_region_grow (by kernel_rfl) (by kernel_rfl) ?_
  repeat (go_big_quiet_step ((go_at_call 10; exact grow_call (put_lit x P _ hx HP.out))))
  refine wpQuiet_nil ?_
  rintro _ ⟨w3, rfl⟩
  go_wp2_with fail
  refine wp_region_grow (by kernel_rfl) (by kernel_rfl) ?_
  repeat (go_big_quiet_step (fail))
  refine wpQuiet_nil ?_
  rintro _ ⟨w4, rfl⟩
  go_wp2_with fail
  go_ret
  exact ⟨rfl, bt (bt (bt hb1 hb2) w3.h) w4.h⟩

set_option maxRecDepth 100000 in
set_option maxHeartbeats 2000000 in
theorem forms_erok (s T R : ByteArray) (a n : Int) (m i k q : Nat) (l : List Nat) (e1 : Int) (w : World) (ha0 : -9223372036854775808 ≤ a) (ha1 : a ≤ 9223372036854775807) (hn0 : -9223372036854775808 ≤ n) (hn1 : n ≤ 9223372036854775807)
    (hm : min (s.size : Int) 40 = (m : Int)) (hT : s.extract 0 m = T) (hTs : T.size ≤ 40) (hms : m ≤ s.size)
    (HI : Hid (pk a (T.size + 1) = (i : Int))) (HK : Hid (pk n 12 = (k : Int))) (hi : i ≤ T.size) (hk : k < 12)
    (H1 : Hid ((takeAt T.data.toList i).1 = 0 ∧ (takeAt T.data.toList i).2.1 = 0 ∧ e1 = (takeAt T.data.toList i).2.2)) (hx1 : (e1 == 0) = false) (hx2 : (e1 != 0) = true)
    (H2 : Hid (takeRow T.data.toList k i = (l, q, 0))) (H3 : Hid (l.length = k))
    (hq1 : i ≤ q) (hq2 : q ≤ T.size) (HV : Hid (∀ v ∈ l, v < 2 ^ 64)) (HR : Hid (str (row l) = R)) (hR : T.extract i q = R) (hl : l.length ≤ 1000) :
    Calls Try.prog 5 #[.string s, .int .i64 a, .int .i64 n] w fun e w' => e = .returned (.bool true) ∧ Below w.heap.size w w' := by
  go_enter Try.func5, Try.ntmps5
  go_wp2_with fail
  refine (awake_any _).mono ?_
  rintro e w1 ⟨rfl, hb1⟩
  go_wp2_with fail
  refine (pick_any a (T.size + 1) _ ha0 ha1 (by omega) (by omega)).mono ?_
  rintro e w' ⟨rfl, rfl⟩
  rw [HI.out]
  go_wp2_with fail
  refine (take_int T i 0 0 e1 _ (by omega) (by omega) (by rw [H1.out.1]; rfl) (by rw [H1.out.2.1]; rfl) H1.out.2.2).mono ?_
  rintro e w' ⟨rfl, rfl⟩
  go_wp2_with fail
  refine (pick_any n 12 _ hn0 hn1 (by omega) (by omega)).mono ?_
  rintro e w' ⟨rfl, rfl⟩
  rw [HK.out]
  go_wp2_with fail
  refine (takeRow_int T i k _ l q 0 k (by omega) (by omega) (by omega) (by rw [H2.out]) (by rw [H2.out]) (by rw [H2.out]; rfl) H3.out.symm).mono ?_
  rintro e w2 ⟨ao, cap, rfl, hu, hb2⟩
  have HU := Lib.hid hu
  clear hu
  go_wp2_with fail
  have i1 : (0 : Int) ≤ (i : Int) := Int.natCast_nonneg _
  have i4 : (i : Int) ≤ (q : Int) := by omega
  have i5 : (q : Int) ≤ (T.size : Int) := by omega
  have t3 : decide (q < i) = false := by simp; omega
  have t4 : decide (T.size < q) = false := by simp; omega
  refine wp_region_grow (by kernel_rfl) (by kernel_rfl) ?_
  repeat (go_big_quiet_step (fail))
  refine wpQuiet_nil ?_
  rintro _ ⟨w3, rfl⟩
  go_wp2_with fail
  refine wp_region_grow (by kernel_rfl) (by kernel_rfl) ?_
  repeat (go_big_quiet_step ((first | (go_at_call 16; exact grow_same (pick_int n 12 k _ hn0 hn1 (by omega) (by omega) HK.out)) | (go_at_call 14; exact grow_call (row_len ao k cap l R _ H3.out (by omega) HV.out ((HU.out.below (Nat.le_refl _) w3.h).below (Nat.le_refl _) (GW.h _)) HR.out)))))
  refine wpQuiet_nil ?_
  rintro _ ⟨w4, rfl⟩
  go_wp2_with fail
  go_ret
  exact ⟨rfl, bt (bt (bt hb1 hb2) w3.h) w4.h⟩

set_option maxRecDepth 100000 in
set_option maxHeartbeats 2000000 in
theorem forms_erer (s T : ByteArray) (a n : Int) (m i k : Nat) (e1 : Int) (e2 : Int) (w : World) (ha0 : -9223372036854775808 ≤ a) (ha1 : a ≤ 9223372036854775807) (hn0 : -9223372036854775808 ≤ n) (hn1 : n ≤ 9223372036854775807)
    (hm : min (s.size : Int) 40 = (m : Int)) (hT : s.extract 0 m = T) (hTs : T.size ≤ 40) (hms : m ≤ s.size)
    (HI : Hid (pk a (T.size + 1) = (i : Int))) (HK : Hid (pk n 12 = (k : Int))) (hi : i ≤ T.size) (hk : k < 12)
    (H1 : Hid ((takeAt T.data.toList i).1 = 0 ∧ (takeAt T.data.toList i).2.1 = 0 ∧ e1 = (takeAt T.data.toList i).2.2)) (hx1 : (e1 == 0) = false) (hx2 : (e1 != 0) = true)
    (H2 : Hid ((takeRow T.data.toList k i).1 = [] ∧ (takeRow T.data.toList k i).2.1 = 0 ∧ e2 = (takeRow T.data.toList k i).2.2)) (hy1 : (e2 == 0) = false) (hy2 : (e2 != 0) = true) :
    Calls Try.prog 5 #[.string s, .int .i64 a, .int .i64 n] w fun e w' => e = .returned (.bool true) ∧ Below w.heap.size w w' := by
  go_enter Try.func5, Try.ntmps5
  go_wp2_with fail
  refine (awake_any _).mono ?_
  rintro e w1 ⟨rfl, hb1⟩
  go_wp2_with fail
  refine (pick_any a (T.size + 1) _ ha0 ha1 (by omega) (by omega)).mono ?_
  rintro e w' ⟨rfl, rfl⟩
  rw [HI.out]
  go_wp2_with fail
  refine (take_int T i 0 0 e1 _ (by omega) (by omega) (by rw [H1.out.1]; rfl) (by rw [H1.out.2.1]; rfl) H1.out.2.2).mono ?_
  rintro e w' ⟨rfl, rfl⟩
  go_wp2_with fail
  refine (pick_any n 12 _ hn0 hn1 (by omega) (by omega)).mono ?_
  rintro e w' ⟨rfl, rfl⟩
  rw [HK.out]
  go_wp2_with fail
  refine (takeRow_int T i k _ [] 0 e2 0 (by omega) (by omega) (by omega) H2.out.1.symm (by rw [H2.out.2.1]; rfl) H2.out.2.2 rfl).mono ?_
  rintro e w2 ⟨ao, cap, rfl, hu, hb2⟩
  have HU := Lib.hid hu
  clear hu
  go_wp2_with fail
  have i1 : (0 : Int) ≤ (i : Int) := Int.natCast_nonneg _
  refine wp_region_grow (by kernel_rfl) (by kernel_rfl) ?_
  repeat (go_big_quiet_step (fail))
  refine wpQuiet_nil ?_
  rintro _ ⟨w3, rfl⟩
  go_wp2_with fail
  refine wp_region_grow (by kernel_rfl) (by kernel_rfl) ?_
  repeat (go_big_quiet_step (fail))
  refine wpQuiet_nil ?_
  rintro _ ⟨w4, rfl⟩
  go_wp2_with fail
  go_ret
  exact ⟨rfl, bt (bt (bt hb1 hb2) w3.h) w4.h⟩

theorem err_int {c : Nat} (h : c ≠ 0) : ((c : Int) == 0) = false ∧ ((c : Int) != 0) = true := by
  constructor <;> simp <;> omega
theorem varintForms_walk (s : ByteArray) (a n : Int) (w : World) (hs : s.size ≤ 9223372036854775807) (ha0 : -9223372036854775808 ≤ a) (ha1 : a ≤ 9223372036854775807) (hn0 : -9223372036854775808 ≤ n) (hn1 : n ≤ 9223372036854775807) :
    Calls Try.prog 5 #[.string s, .int .i64 a, .int .i64 n] w fun e w' => e = .returned (.bool true) ∧ Below w.heap.size w w' := by
  obtain ⟨m, T, hm, hT, hTs, hms⟩ := cut_str s 40 40 rfl
  have hp1 := pk_bd a (T.size + 1) (by omega)
  have hp2 := pk_bd n 12 (by omega)
  obtain ⟨i, hi⟩ : ∃ i : Nat, pk a (T.size + 1) = (i : Int) := ⟨(pk a (T.size + 1)).toNat, by omega⟩
  obtain ⟨k, hk⟩ : ∃ k : Nat, pk n 12 = (k : Int) := ⟨(pk n 12).toNat, by omega⟩
  have hiT : i ≤ T.size := by omega
  have hk12 : k < 12 := by omega
  have hTl : T.data.toList.length = T.size := by simp
  have one : ∀ c, c ≤ T.size → ∀ L, (T.data.toList.drop i).take (c - i) = L → T.extract i c = str L := by
    intro c hc L hL
    rw [← hL, ← str_of (T.extract i c)]
    congr 1
    simp [ByteArray.data_extract]
  by_cases h1 : (takeAt T.data.toList i).2.2 = 0 <;> by_cases h2 : (takeRow T.data.toList k i).2.2 = 0
  · obtain ⟨b1, b2, b3, b4⟩ := takeAt_ok T.data.toList i (by omega) h1
    obtain ⟨c1, c2, c3, c4, c5⟩ := takeRow_ok T.data.toList k i (by omega) h2
    rw [hTl] at b3 c4
    exact forms_okok s T _ _ a n m i k _ _ _ _ w ha0 ha1 hn0 hn1 hm hT hTs hms hi hk hiT hk12 (by rw [← h1]; exact Lib.hid rfl) b1 b2 b3 (Lib.hid rfl) (one _ b3 _ b4) (by rw [← h2]; exact Lib.hid rfl) c1 (by omega) c4 c2 (Lib.hid rfl) (one _ c4 _ c5) (by omega)
  · obtain ⟨b1, b2, b3, b4⟩ := takeAt_ok T.data.toList i (by omega) h1
    rw [hTl] at b3
    obtain ⟨d1, d2⟩ := takeRow_err _ _ _ h2
    exact forms_oker s T _ a n m i k _ _ _ w ha0 ha1 hn0 hn1 hm hT hTs hms hi hk hiT hk12 (by rw [← h1]; exact Lib.hid rfl) b1 b2 b3 (Lib.hid rfl) (one _ b3 _ b4) ⟨d1, d2, rfl⟩ (err_int h2).1 (err_int h2).2
  · obtain ⟨c1, c2, c3, c4, c5⟩ := takeRow_ok T.data.toList k i (by omega) h2
    rw [hTl] at c4
    have d : (takeAt T.data.toList i).1 = 0 ∧ (takeAt T.data.toList i).2.1 = 0 := by
      rcases takeAt_err T.data.toList i with h | h | h
      · exact absurd h h1
      · rw [h]; exact ⟨rfl, rfl⟩
      · rw [h]; exact ⟨rfl, rfl⟩
    exact forms_erok s T _ a n m i k _ _ _ w ha0 ha1 hn0 hn1 hm hT hTs hms hi hk hiT hk12 ⟨d.1, d.2, rfl⟩ (err_int h1).1 (err_int h1).2 (by rw [← h2]; exact Lib.hid rfl) c1 (by omega) c4 c2 (Lib.hid rfl) (one _ c4 _ c5) (by omega)
  · have d : (takeAt T.data.toList i).1 = 0 ∧ (takeAt T.data.toList i).2.1 = 0 := by
      rcases takeAt_err T.data.toList i with h | h | h
      · exact absurd h h1
      · rw [h]; exact ⟨rfl, rfl⟩
      · rw [h]; exact ⟨rfl, rfl⟩
    obtain ⟨d1, d2⟩ := takeRow_err _ _ _ h2
    exact forms_erer s T a n m i k _ _ w ha0 ha1 hn0 hn1 hm hT hTs hms hi hk hiT hk12 ⟨d.1, d.2, rfl⟩ (err_int h1).1 (err_int h1).2 ⟨d1, d2, rfl⟩ (err_int h2).1 (err_int h2).2
end Go.Proofs.Ytlljfgaaefofbaa.V
