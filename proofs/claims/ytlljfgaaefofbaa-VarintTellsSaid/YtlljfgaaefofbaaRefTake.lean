/-
  The document's own Take and TakeRow of layer 1, walked: the same as the program's, at every string of at most a thousand million bytes.
-/
import Derived.Test.YtlljfgaaefofbaaRefVar
set_option linter.unusedVariables false
namespace Go.Proofs.Ytlljfgaaefofbaa.V
open Go.RowKit

theorem getD_byte (s : ByteArray) (j : Nat) (h : j < s.size) : s.data.toList.drop j = s[j] :: s.data.toList.drop (j + 1) := by
  rw [List.drop_eq_getElem_cons (by simpa using h)]; rfl

theorem ref_sum (acc c k q : Nat) (hq : q = 2 ^ (7 * k)) (h : acc < 2 ^ (7 * k)) (hc : k ≤ 8 ∨ (k = 9 ∧ c ≤ 1)) :
    IntKind.u64.wrap ((acc : Int) + IntKind.u64.wrap ((q : Int) * ((c : Int) % 128))) = ((acc + c % 128 * 2 ^ (7 * k) : Nat) : Int) := by
  subst hq
  have hb : acc + c % 128 * 2 ^ (7 * k) < 2 ^ 64 := by
    rcases hc with hk | ⟨rfl, h1⟩
    · have := acc_lt acc c k h
      have h2 : 2 ^ (7 * (k + 1)) ≤ 2 ^ 63 := Nat.pow_le_pow_right (by omega) (by omega)
      omega
    · have : c % 128 ≤ 1 := by omega
      have : c % 128 * 2 ^ (7 * 9) ≤ 1 * 2 ^ (7 * 9) := Nat.mul_le_mul_right _ this
      omega
  have e : (((2 ^ (7 * k) : Nat) : Int) * ((c : Int) % 128)) = ((c % 128 * 2 ^ (7 * k) : Nat) : Int) := by
    rw [Int.mul_comm]; push_cast; rfl
  have h0 : 0 ≤ ((c % 128 * 2 ^ (7 * k) : Nat) : Int) := Int.natCast_nonneg _
  rw [e, IntWalk.u64_in _ ⟨h0, by omega⟩, IntWalk.u64_in _ ⟨by omega, by omega⟩]
  omega
theorem ref_pow (k q : Nat) (hq : q = 2 ^ (7 * k)) (hk : k ≤ 8) : IntKind.u64.wrap (128 * (q : Int)) = ((2 ^ (7 * (k + 1)) : Nat) : Int) := by
  subst hq
  have h1 : 2 ^ (7 * (k + 1)) ≤ 2 ^ 63 := Nat.pow_le_pow_right (by omega) (by omega)
  have h2 := pow_step k
  rw [h2] at h1 ⊢
  have h0 : 0 ≤ ((2 ^ (7 * k) : Nat) : Int) := Int.natCast_nonneg _
  rw [IntWalk.u64_in _ ⟨by omega, by omega⟩]
  omega

set_option maxRecDepth 100000 in
set_option maxHeartbeats 2000000 in
theorem refTake_in (s : ByteArray) (i : Nat) (w : World) (hs : s.size ≤ 1000000000) (hi : i ≤ 9223372036854775807) :
    Calls Try.prog 18 #[.string s, .int .i64 i] w fun e w' => e = .returned (tup (takeAt s.data.toList i)) ∧ w = w' := by
  have hd : decide ((i : Int) < 0) = false := by simp
  go_enter Try.func18, Try.ntmps18
  go_wp2_with fail
  clear hd
  go_loop [7, 8, 9] (fun v p n => ∃ (k acc q : Nat), k ≤ 9 ∧ n = .int .i64 k ∧ v = .int .u64 acc ∧ p = .int .u64 q ∧ Hid (q = 2 ^ (7 * k)) ∧ Hid (acc < 2 ^ (7 * k)) ∧ Hid (takeF 0 0 (s.data.toList.drop i) = takeF k acc ((s.data.toList.drop i).drop k))) (fun _ _ n => 10 - (intOf n).toNat)
  case atStart => exact ⟨0, 0, 1, by omega, rfl, rfl, rfl, Lib.hid (by simp), Lib.hid (by simp), Lib.hid (by rw [List.drop_zero])⟩
  case round =>
    obtain ⟨k, acc, q, hk9, rfl, rfl, rfl, HQ, HA, HR⟩ := hrel
    by_cases hlt : (i : Int) < (s.size : Int) - (k : Int)
    · have hik : i + k < s.size := by omega
      have hR := HR.out
      rw [List.drop_drop, getD_byte s (i + k) hik] at hR
      have HS := Lib.hid (step_fin hR)
      have HN := Lib.hid (acc_lt acc s[i + k].toNat k HA.out)
      have HR2 := Lib.hid hR
      clear hR HR
      go_wp2_with fail
      · have h9 : (k : Int) = 9 := by assumption
        have hc : 2 ≤ (s[i + k].toNat : Int) := by assumption
        go_ret3
        refine ⟨tup_mk ?_ ?_ ?_, rfl⟩ <;> (rw [HS.out, if_pos ⟨by omega, by omega⟩]; rfl)
      · have h9 : (k : Int) = 9 := by assumption
        have hc : s[i + k].toNat = 0 := by assumption
        go_ret3
        refine ⟨tup_mk ?_ ?_ ?_, rfl⟩ <;> (rw [HS.out, if_neg (by omega), if_pos ⟨by omega, by omega⟩]; rfl)
      · have h9 : (k : Int) = 9 := by assumption
        have hc1 : (s[i + k].toNat : Int) < 2 := by assumption
        have hc : ¬ s[i + k].toNat = 0 := by assumption
        go_ret3
        refine ⟨tup_mk ?_ ?_ ?_, rfl⟩ <;> rw [HS.out, if_neg (by omega), if_neg (by omega), if_pos (by omega)]
        · exact ref_sum acc _ k q HQ.out HA.out (Or.inr ⟨by omega, by omega⟩)
        · simp [fin]; omega
        · rfl
      · have h9 : ¬ (k : Int) = 9 := by assumption
        have hc : s[i + k].toNat = 0 := by assumption
        have hk0 : 0 < k := by assumption
        go_ret3
        refine ⟨tup_mk ?_ ?_ ?_, rfl⟩ <;> (rw [HS.out, if_neg (by omega), if_pos ⟨by omega, by omega⟩]; rfl)
      · have h9 : ¬ (k : Int) = 9 := by assumption
        have hc : s[i + k].toNat = 0 := by assumption
        have hk0 : ¬ 0 < k := by assumption
        go_ret3
        refine ⟨tup_mk ?_ ?_ ?_, rfl⟩ <;> rw [HS.out, if_neg (by omega), if_neg (by omega), if_pos (by omega)]
        · have e0 : IntKind.u64.wrap 0 = IntKind.u64.wrap ((q : Int) * ((s[i + k].toNat : Int) % 128)) := by rw [hc]; simp
          rw [e0]; exact ref_sum acc _ k q HQ.out HA.out (Or.inl (by omega))
        · simp [fin]; omega
        · rfl
      · have h9 : ¬ (k : Int) = 9 := by assumption
        have hc : ¬ s[i + k].toNat = 0 := by assumption
        have hc1 : (s[i + k].toNat : Int) < 128 := by assumption
        go_ret3
        refine ⟨tup_mk ?_ ?_ ?_, rfl⟩ <;> rw [HS.out, if_neg (by omega), if_neg (by omega), if_pos (by omega)]
        · exact ref_sum acc _ k q HQ.out HA.out (Or.inl (by omega))
        · simp [fin]; omega
        · rfl
      · have h9 : ¬ (k : Int) = 9 := by assumption
        have hc1 : 128 ≤ (s[i + k].toNat : Int) := by assumption
        go_round
        case rel => exact ⟨k + 1, _, _, by omega, by go_num, congrArg (Value.int .u64) (ref_sum acc _ k q HQ.out HA.out (Or.inl (by omega))), congrArg (Value.int .u64) (ref_pow k q HQ.out (by omega)), Lib.hid rfl, HN, Lib.hid (by rw [HR2.out, takeF, if_neg (by omega), if_neg (by omega), if_neg (by omega), List.drop_drop, Nat.add_assoc])⟩
        case measure => simp [intOf]; omega
    · have hR : takeAt s.data.toList i = (0, 0, 2) := by
        unfold takeAt; rw [HR.out, List.drop_drop, List.drop_eq_nil_of_le (by simp; omega)]; rfl
      have HS := Lib.hid hR
      clear hR
      go_wp2_with fail
      go_ret3
      refine ⟨tup_mk ?_ ?_ ?_, rfl⟩ <;> (rw [HS.out]; rfl)

theorem refTake_any (s : ByteArray) (a : Int) (w : World) (hs : s.size ≤ 1000000000) (ha1 : a ≤ 9223372036854775807) :
    Calls Try.prog 18 #[.string s, .int .i64 a] w fun e w' => e = .returned (tup (takeI s.data.toList a)) ∧ w = w' := by
  by_cases ha : a < 0
  · go_enter Try.func18, Try.ntmps18
    go_wp2_with fail
    go_ret3
    refine ⟨tup_mk ?_ ?_ ?_, rfl⟩ <;> (unfold takeI; rw [if_pos ha]; rfl)
  · obtain ⟨i, rfl⟩ := Int.eq_ofNat_of_zero_le (show 0 ≤ a by omega)
    unfold takeI
    rw [if_neg ha, Int.toNat_natCast]
    exact refTake_in s i w hs (by omega)
theorem refTake_nat (s : ByteArray) (q x p er : Nat) (w : World) (hs : s.size ≤ 1000000000) (hq : q ≤ 9223372036854775807) (h : takeAt s.data.toList q = (x, p, er)) :
    Calls Try.prog 18 #[.string s, .int .i64 q] w fun e w' => e = .returned (.tuple #[.int .u64 x, .int .i64 p, .int .i64 er]) ∧ w = w' := by
  refine (refTake_in s q w hs (by omega)).mono ?_
  rintro e w' ⟨rfl, rfl⟩
  rw [h]
  exact ⟨rfl, rfl⟩

set_option maxRecDepth 100000 in
set_option maxHeartbeats 1000000 in
theorem refTakeRow_in (s : ByteArray) (i n : Nat) (w : World) (hs : s.size ≤ 1000000000) (hi : i ≤ 9223372036854775807) (hn : n ≤ 9223372036854775807) :
    Calls Try.prog 20 #[.string s, .int .i64 i, .int .i64 n] w fun e w' => ∃ v, e = .returned (.tuple #[v, .int .i64 (takeRow s.data.toList n i).2.1, .int .i64 (takeRow s.data.toList n i).2.2]) ∧
      OwnU w' w.heap.size v (takeRow s.data.toList n i).1 ∧ Below w.heap.size w w' := by
  have hd1 : decide ((i : Int) < 0) = false := by simp
  have hd2 : decide ((n : Int) < 0) = false := by simp
  go_enter Try.func20, Try.ntmps20
  go_wp2_with fail
  clear hd1 hd2
  go_loopw [9, 10, 11] (fun v p j wr => ∃ (k q : Nat) (acc : List Nat), k ≤ n ∧ j = .int .i64 k ∧ p = .int .i64 q ∧ q ≤ 9223372036854775807 ∧ acc.length ≤ s.size ∧ acc.length ≤ q ∧ OwnU wr w.heap.size v acc ∧ Below w.heap.size w wr ∧
      Hid (takeRow s.data.toList n i = comb acc (takeRow s.data.toList (n - k) q))) (fun _ _ j _ => n - (intOf j).toNat)
  case atStart => exact ⟨0, i, [], by omega, rfl, rfl, hi, by simp, by simp, World.ownsRow_nil _ _ _ _, Below.refl _ _, Lib.hid (by rw [comb_nil]; rfl)⟩
  case round =>
    obtain ⟨k, q, acc, hk, rfl, rfl, hq, ha1, ha2, hown, hbel, HR⟩ := hrel
    by_cases hlt : k < n
    · obtain ⟨m, hm⟩ : ∃ m, n - k = m + 1 := ⟨n - k - 1, by omega⟩
      rcases takeAt_err s.data.toList q with h0 | h0 | h0
      · obtain ⟨x, p, er, ht⟩ : ∃ x p er, takeAt s.data.toList q = (x, p, er) := ⟨_, _, _, rfl⟩
        have he : er = 0 := by rw [ht] at h0; exact h0
        subst he
        have hin := takeAt_in h0
        rw [ht] at hin
        have hin1 : q < p := hin.1
        have hin2 : p ≤ s.size := by simpa using hin.2.1
        have HR2 : Hid (takeRow s.data.toList n i = comb (acc ++ [x]) (takeRow s.data.toList (n - (k + 1)) p)) := by
          rw [HR.out, hm, comb_ok acc m h0, ht, show n - (k + 1) = m by omega]; rfl
        have HT := Lib.hid ht
        have hsz := hbel.size
        clear ht h0 hin HR hm
        go_wp2_with (first | (go_at_call 18; refine (refTake_nat s q x p 0 _ hs (by omega) HT.out).mono ?_; rintro e w' ⟨rfl, rfl⟩) | (at_builtin; refine wp_append_u64 _ rfl (.tmp 37) (.tmp 39) rfl w.heap.size _ acc rfl (hown.alloc _) _ x rfl ?_ ?_ ?_ ?_))
        · simp [U]
        · omega
        · simp; omega
        · intro v' w1 hown' hgrow
          have hb' := hown.below hbel (Nat.le_refl _) hgrow
          clear hgrow hown hbel
          go_wp2
          go_roundw
          case rel => exact ⟨k + 1, p, acc ++ [x], by omega, by go_num, rfl, by omega, by simp; omega, by simp; omega, hown', hb', HR2⟩
          case measure => simp [intOf]; omega
      all_goals
        have HR2 := HR.out
        rw [hm, comb_no acc m (by rw [h0]; simp), h0] at HR2
        have HT := Lib.hid h0
        have HR3 := Lib.hid HR2
        clear h0 HR HR2 hm
        go_wp2_with (go_at_call 18; first | refine (refTake_nat s q 0 0 2 _ hs (by omega) HT.out).mono ?_; rintro e w' ⟨rfl, rfl⟩ | refine (refTake_nat s q 0 0 3 _ hs (by omega) HT.out).mono ?_; rintro e w' ⟨rfl, rfl⟩)
        go_ret3
        rw [HR3.out]
        exact ⟨_, rfl, World.ownsRow_nil _ _ _ _, hbel⟩
    · have hke : n - k = 0 := by omega
      have HR2 := HR.out
      rw [hke, comb_end] at HR2
      have HR3 := Lib.hid HR2
      clear HR HR2 hke
      go_wp2_with fail
      go_ret3
      rw [HR3.out]
      exact ⟨_, rfl, hown, hbel⟩

theorem refTakeRow_any (s : ByteArray) (a n : Int) (w : World) (hs : s.size ≤ 1000000000) (ha1 : a ≤ 9223372036854775807) (hn1 : n ≤ 9223372036854775807) :
    Calls Try.prog 20 #[.string s, .int .i64 a, .int .i64 n] w fun e w' => ∃ v, e = .returned (.tuple #[v, .int .i64 (takeRowI s.data.toList a n).2.1, .int .i64 (takeRowI s.data.toList a n).2.2]) ∧
      OwnU w' w.heap.size v (takeRowI s.data.toList a n).1 ∧ Below w.heap.size w w' := by
  unfold takeRowI
  by_cases h : a < 0 ∨ n < 0
  · rw [if_pos h]
    rcases (show a < 0 ∨ (0 ≤ a ∧ n < 0) by omega) with h | ⟨h, h2⟩
    · go_enter Try.func20, Try.ntmps20
      go_wp2_with fail
      go_ret3
      exact ⟨_, rfl, World.ownsRow_nil _ _ _ _, Below.refl _ _⟩
    · have hd : decide (a < 0) = false := by simp; omega
      go_enter Try.func20, Try.ntmps20
      go_wp2_with fail
      go_ret3
      exact ⟨_, rfl, World.ownsRow_nil _ _ _ _, Below.refl _ _⟩
  · rw [if_neg h]
    obtain ⟨i, rfl⟩ := Int.eq_ofNat_of_zero_le (show 0 ≤ a by omega)
    obtain ⟨m, rfl⟩ := Int.eq_ofNat_of_zero_le (show 0 ≤ n by omega)
    simp only [Int.toNat_natCast]
    exact refTakeRow_in s i m w hs (by omega) (by omega)
end Go.Proofs.Ytlljfgaaefofbaa.V
