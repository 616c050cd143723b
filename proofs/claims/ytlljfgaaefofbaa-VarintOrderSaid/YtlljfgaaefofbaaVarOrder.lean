/-
  VarintOrder: for every two numbers and every raw count of bits the statement's function returns true, and writes nothing that was there.
-/
import Derived.Test.YtlljfgaaefofbaaVarAwake
set_option linter.unusedVariables false
namespace Go.Proofs.Ytlljfgaaefofbaa.V
open Go.RowKit

theorem put_str (v : Nat) (w : World) (hv : v < 2 ^ 64) (A : ByteArray) (hA : str (put v) = A) :
    Calls Try.prog 10 #[.int .u64 v] w fun e w' => e = .returned (.string A) ∧ Below w.heap.size w w' := by subst hA; exact put_any v w hv

set_option maxRecDepth 100000 in
set_option maxHeartbeats 2000000 in
theorem varintOrder_walk (v u : Nat) (c : Int) (w : World) (hv : v < 2 ^ 64) (hu : u < 2 ^ 64) (hc0 : -9223372036854775808 ≤ c) (hc1 : c ≤ 9223372036854775807) :
    Calls Try.prog 6 #[.int .u64 v, .int .u64 u, .int .i64 c] w fun e w' => e = .returned (.bool true) ∧ Below w.heap.size w w' := by
  have hpk := pk_bd c 64 (by omega)
  obtain ⟨k, hk⟩ : ∃ k : Nat, pk c 64 = (k : Int) := ⟨(pk c 64).toNat, by omega⟩
  have hk64 : k < 64 := by omega
  have HK := Lib.hid hk
  obtain ⟨A, hA⟩ : ∃ A, str (put v) = A := ⟨_, rfl⟩
  obtain ⟨C, hC⟩ : ∃ C, str (put u) = C := ⟨_, rfl⟩
  have hA1 : 1 ≤ A.size ∧ A.size ≤ 10 := by rw [← hA, str_size]; exact ⟨put_pos v, put_le v⟩
  have hC1 : 1 ≤ C.size ∧ C.size ≤ 10 := by rw [← hC, str_size]; exact ⟨put_pos u, put_le u⟩
  obtain ⟨hA1, hA2⟩ := hA1
  obtain ⟨hC1, hC2⟩ := hC1
  have hAl : A.data.toList = put v := by rw [← hA, str_list]
  have hCl : C.data.toList = put u := by rw [← hC, str_list]
  have HA := Lib.hid hA
  have HC := Lib.hid hC
  obtain ⟨q, hq, hqk⟩ : ∃ q : Nat, IntKind.u64.wrap ((2 : Int) ^ k) = (q : Int) ∧ q = 2 ^ k := by
    have h1 : 2 ^ k < 2 ^ 64 := Nat.pow_lt_pow_right (by omega) hk64
    have h2 : ((2 : Int) ^ k) = ((2 ^ k : Nat) : Int) := by push_cast; rfl
    have h3 : 0 ≤ ((2 ^ k : Nat) : Int) := Int.natCast_nonneg _
    exact ⟨2 ^ k, by rw [h2]; exact IntWalk.u64_in _ ⟨h3, by omega⟩, rfl⟩
  have hq1 : 1 ≤ q := by rw [hqk]; exact Nat.one_le_two_pow
  have hq2 : q < 2 ^ 64 := by rw [hqk]; exact Nat.pow_lt_pow_right (by omega) hk64
  have hl := len_pow ⟨k, hk64⟩
  simp only [← hqk] at hl
  have HL := Lib.hid hl
  clear hpk hk hA hC hl hqk
  by_cases hvu : v < u
  · have n1 : ((v : Int) == u) = false := by simp; omega
    have n2 : ((v : Int) != u) = true := by simp; omega
    have hle : A.size ≤ C.size := by have := put_mono v u (by omega); rw [← hAl, ← hCl] at this; simpa using this
    have n3 : (A.toList == C.toList) = false := str_ne (by intro e; have := put_inj v u hv hu (by rw [← hAl, ← hCl, e]); omega)
    have n4 : ((C.extract 0 A.size).toList == A.toList) = false := str_ne (by
      intro e
      have := put_prefix v u hv hu (by rw [← hAl, ← hCl]; conv => rhs; rw [← e]
                                       simp [ByteArray.data_extract])
      omega)
    clear hAl hCl
    go_enter Try.func6, Try.ntmps6
    go_wp2_with fail
    refine (awake_any _).mono ?_
    rintro e w1 ⟨rfl, hb1⟩
    go_wp2_with fail
    refine (put_str v _ hv A HA.out).mono ?_
    rintro e w2 ⟨rfl, hb2⟩
    go_wp2_with fail
    refine (put_str u _ hu C HC.out).mono ?_
    rintro e w3 ⟨rfl, hb3⟩
    go_wp2_with fail
    refine (pick_any c 64 _ hc0 hc1 (by omega) (by omega)).mono ?_
    rintro e w' ⟨rfl, rfl⟩
    rw [HK.out]
    go_wp2_with fail
    refine (len_any q _ hq2).mono ?_
    rintro e w' ⟨rfl, rfl⟩
    rw [HL.out.1]
    go_wp2_with fail
    · go_ret
      exact ⟨rfl, bt (bt hb1 hb2) hb3⟩
    · rw [show ((q : Int) - 1) = ((q - 1 : Nat) : Int) by omega]
      refine (len_any (q - 1) _ (by omega)).mono ?_
      rintro e w' ⟨rfl, rfl⟩
      rw [HL.out.2 (by omega)]
      go_wp2_with fail
      go_ret
      exact ⟨rfl, bt (bt hb1 hb2) hb3⟩
  by_cases huv : u < v
  · have n1 : ((v : Int) == u) = false := by simp; omega
    have n2 : ((v : Int) != u) = true := by simp; omega
    have n3 : (A.toList == C.toList) = false := str_ne (by intro e; have := put_inj v u hv hu (by rw [← hAl, ← hCl, e]); omega)
    have n4 : ((C.extract 0 A.size).toList == A.toList) = false := str_ne (by
      intro e
      have := put_prefix v u hv hu (by rw [← hAl, ← hCl]; conv => rhs; rw [← e]
                                       simp [ByteArray.data_extract])
      omega)
    clear hAl hCl
    by_cases hle : A.size ≤ C.size
    all_goals
      go_enter Try.func6, Try.ntmps6
      go_wp2_with fail
      refine (awake_any _).mono ?_
      rintro e w1 ⟨rfl, hb1⟩
      go_wp2_with fail
      refine (put_str v _ hv A HA.out).mono ?_
      rintro e w2 ⟨rfl, hb2⟩
      go_wp2_with fail
      refine (put_str u _ hu C HC.out).mono ?_
      rintro e w3 ⟨rfl, hb3⟩
      go_wp2_with fail
      refine (pick_any c 64 _ hc0 hc1 (by omega) (by omega)).mono ?_
      rintro e w' ⟨rfl, rfl⟩
      rw [HK.out]
      go_wp2_with fail
      refine (len_any q _ hq2).mono ?_
      rintro e w' ⟨rfl, rfl⟩
      rw [HL.out.1]
      go_wp2_with fail
      · go_ret
        exact ⟨rfl, bt (bt hb1 hb2) hb3⟩
      · rw [show ((q : Int) - 1) = ((q - 1 : Nat) : Int) by omega]
        refine (len_any (q - 1) _ (by omega)).mono ?_
        rintro e w' ⟨rfl, rfl⟩
        rw [HL.out.2 (by omega)]
        go_wp2_with fail
        go_ret
        exact ⟨rfl, bt (bt hb1 hb2) hb3⟩
  · have e : v = u := by omega
    subst e
    have e2 : A = C := by rw [← HA.out, HC.out]
    subst e2
    have n1 : ((v : Int) == v) = true := by simp
    have n2 : ((v : Int) != v) = false := by simp
    have n3 : (A.toList == A.toList) = true := by simp
    clear hAl hCl
    go_enter Try.func6, Try.ntmps6
    go_wp2_with fail
    refine (awake_any _).mono ?_
    rintro e w1 ⟨rfl, hb1⟩
    go_wp2_with fail
    refine (put_str v _ hv A HA.out).mono ?_
    rintro e w2 ⟨rfl, hb2⟩
    go_wp2_with fail
    refine (put_str v _ hv A HA.out).mono ?_
    rintro e w3 ⟨rfl, hb3⟩
    go_wp2_with fail
    refine (pick_any c 64 _ hc0 hc1 (by omega) (by omega)).mono ?_
    rintro e w' ⟨rfl, rfl⟩
    rw [HK.out]
    go_wp2_with fail
    refine (len_any q _ hq2).mono ?_
    rintro e w' ⟨rfl, rfl⟩
    rw [HL.out.1]
    go_wp2_with fail
    · go_ret
      exact ⟨rfl, bt (bt hb1 hb2) hb3⟩
    · rw [show ((q : Int) - 1) = ((q - 1 : Nat) : Int) by omega]
      refine (len_any (q - 1) _ (by omega)).mono ?_
      rintro e w' ⟨rfl, rfl⟩
      rw [HL.out.2 (by omega)]
      go_wp2_with fail
      go_ret
      exact ⟨rfl, bt (bt hb1 hb2) hb3⟩
end Go.Proofs.Ytlljfgaaefofbaa.V
