/-
  VarintBack: for every number, every two texts and every raw place the statement's function returns true, and writes nothing that was there. No condition but the kinds' own ranges.
-/
import Derived.Test.YtlljfgaaefofbaaVarAwake
import Derived.Test.YtlljfgaaefofbaaRows
set_option linter.unusedVariables false
namespace Go.Proofs.Ytlljfgaaefofbaa.V
open Go.RowKit

theorem at_whole (A P C : ByteArray) (v : Nat) (hv : v < 2 ^ 64) (hP : P.data.toList = put v) (n : Nat) (hn : n = A.size + P.size) : takeAt (A ++ P ++ C).data.toList A.size = (v, n, 0) := by
  have := takeAt_put A.data.toList v C.data.toList hv
  rw [← hP] at this
  have e : (A ++ P ++ C).data.toList = A.data.toList ++ (P.data.toList ++ C.data.toList) := by simp [ByteArray.data_append]
  rw [e, show A.size = A.data.toList.length by simp, this, hn]
  simp
theorem at_cut (A P D : ByteArray) (v k : Nat) (hv : v < 2 ^ 64) (hP : P.data.toList = put v) (hD : P.extract 0 k = D) (hk : k < P.size) : takeAt (A ++ D).data.toList A.size = (0, 0, 2) := by
  have e : (A ++ D).data.toList = A.data.toList ++ (put v).take k := by rw [← hD, ← hP]; simp [ByteArray.data_append, ByteArray.data_extract]
  unfold takeAt
  rw [e, show A.size = A.data.toList.length by simp, List.drop_left, take_cut0 v k hv (by rw [← hP]; simpa using hk)]
  rfl

set_option maxRecDepth 100000 in
set_option maxHeartbeats 2000000 in
theorem varintBack_walk (v : Nat) (s t : ByteArray) (c : Int) (w : World) (hv : v < 2 ^ 64) (hs : s.size ≤ 9223372036854775807) (ht : t.size ≤ 9223372036854775807) (hc0 : -9223372036854775808 ≤ c) (hc1 : c ≤ 9223372036854775807) :
    Calls Try.prog 4 #[.int .u64 v, .string s, .string t, .int .i64 c] w fun e w' => e = .returned (.bool true) ∧ Below w.heap.size w w' := by
  obtain ⟨m, A, hm, hA, hAs, hms⟩ := cut_str s 20 20 rfl
  obtain ⟨n, C, hn, hC, hCs, hns⟩ := cut_str t 20 20 rfl
  have hp1 := put_pos v
  have hp2 := put_le v
  obtain ⟨P, hP⟩ : ∃ P, str (put v) = P := ⟨_, rfl⟩
  have hPs : P.size = (put v).length := by rw [← hP, str_size]
  have hPl : P.data.toList = put v := by rw [← hP, str_list]
  have HPs := Lib.hid hPs
  have hP1 : 1 ≤ P.size := by omega
  have hP2 : P.size ≤ 10 := by omega
  have HP := Lib.hid hP
  have hpk := pk_bd c (P.size + 1) (by omega)
  obtain ⟨k, hk⟩ : ∃ k : Nat, pk c (P.size + 1) = (k : Int) := ⟨(pk c (P.size + 1)).toNat, by omega⟩
  obtain ⟨D, hD⟩ : ∃ D, P.extract 0 k = D := ⟨_, rfl⟩
  have hkP : k ≤ P.size := by omega
  have hDs : D.size ≤ 10 := by rw [← hD]; simp [ByteArray.size_extract]; omega
  have HT1 := Lib.hid (at_whole A P C v hv hPl (A.size + P.size) rfl)
  have HK := Lib.hid hk
  have hTs : (A ++ P ++ C).size ≤ 1000000000 := by simp [ByteArray.size_append]; omega
  have hTs2 : (A ++ D).size ≤ 1000000000 := by simp [ByteArray.size_append]; omega
  have HTs := Lib.hid hTs
  have HTs2 := Lib.hid hTs2
  clear hPs hP hp1 hp2 hpk hk hTs hTs2
  by_cases hkk : k = P.size
  · subst hkk
    have HT2 : Hid (takeAt (A ++ D).data.toList A.size = (v, A.size + P.size, 0)) := by
      have hDP : D = P := by rw [← hD]; simp
      have := at_whole A P ByteArray.empty v hv hPl (A.size + P.size) rfl
      rw [hDP]; simpa [Hid] using this
    clear hPl
    go_enter Try.func4, Try.ntmps4
    go_wp2_with fail
    refine (awake_any _).mono ?_
    rintro e w1 ⟨rfl, hb1⟩
    go_wp2_with fail
    refine (put_any v _ hv).mono ?_
    rintro e w2 ⟨rfl, hb2⟩
    rw [HP.out]
    go_wp2_with fail
    refine (take_nat _ _ v (A.size + P.size) 0 _ HTs.out (by omega) HT1.out).mono ?_
    rintro e w' ⟨rfl, rfl⟩
    go_wp2_with fail
    refine (pick_any c (P.size + 1) _ hc0 hc1 (by omega) (by omega)).mono ?_
    rintro e w' ⟨rfl, rfl⟩
    rw [HK.out]
    go_wp2_with fail
    refine (take_nat _ _ v (A.size + P.size) 0 _ HTs2.out (by omega) HT2.out).mono ?_
    rintro e w' ⟨rfl, rfl⟩
    go_wp2_with fail
    refine (len_any v _ hv).mono ?_
    rintro e w' ⟨rfl, rfl⟩
    rw [← HPs.out]
    go_wp2_with fail
    go_ret
    exact ⟨rfl, bt hb1 hb2⟩
  · have hlt : k < P.size := by omega
    have hne : ((k : Int) == P.size) = false := by simp; omega
    have HT2 := Lib.hid (at_cut A P D v k hv hPl hD hlt)
    clear hPl hkk
    go_enter Try.func4, Try.ntmps4
    go_wp2_with fail
    refine (awake_any _).mono ?_
    rintro e w1 ⟨rfl, hb1⟩
    go_wp2_with fail
    refine (put_any v _ hv).mono ?_
    rintro e w2 ⟨rfl, hb2⟩
    rw [HP.out]
    go_wp2_with fail
    refine (take_nat _ _ v (A.size + P.size) 0 _ HTs.out (by omega) HT1.out).mono ?_
    rintro e w' ⟨rfl, rfl⟩
    go_wp2_with fail
    refine (pick_any c (P.size + 1) _ hc0 hc1 (by omega) (by omega)).mono ?_
    rintro e w' ⟨rfl, rfl⟩
    rw [HK.out]
    go_wp2_with fail
    refine (take_nat _ _ 0 0 2 _ HTs2.out (by omega) HT2.out).mono ?_
    rintro e w' ⟨rfl, rfl⟩
    go_wp2_with fail
    refine (len_any v _ hv).mono ?_
    rintro e w' ⟨rfl, rfl⟩
    rw [← HPs.out]
    go_wp2_with fail
    go_ret
    exact ⟨rfl, bt hb1 hb2⟩
end Go.Proofs.Ytlljfgaaefofbaa.V
