/-
  varint.TakeRow and varint.Put, walked.
-/
import Derived.Test.YtlljfgaaefofbaaVarRow
namespace Go.Proofs.Ytlljfgaaefofbaa.V
open Go.RowKit

def takeRowI (l : List UInt8) (a n : Int) : List Nat × Nat × Nat := if a < 0 ∨ n < 0 then ([], 0, 1) else takeRow l n.toNat a.toNat
def comb (acc : List Nat) (r : List Nat × Nat × Nat) : List Nat × Nat × Nat := if r.2.2 = 0 then (acc ++ r.1, r.2.1, 0) else ([], 0, r.2.2)
theorem comb_nil (s : List UInt8) (m i : Nat) : comb [] (takeRow s m i) = takeRow s m i := by
  unfold comb
  split
  · rename_i h; simp [← h]
  · rename_i h
    obtain ⟨a, b⟩ := takeRow_err s m i h
    rw [← a, ← b]
theorem comb_ok {s : List UInt8} {p : Nat} (acc : List Nat) (m : Nat) (h : (takeAt s p).2.2 = 0) : comb acc (takeRow s (m + 1) p) = comb (acc ++ [(takeAt s p).1]) (takeRow s m (takeAt s p).2.1) := by
  rw [takeRow, if_pos h]
  unfold comb
  by_cases h2 : (takeRow s m (takeAt s p).2.1).2.2 = 0
  · rw [if_pos h2, if_pos rfl, if_pos h2]; simp
  · rw [if_neg h2, if_neg h2, if_neg h2]
theorem comb_no {s : List UInt8} {p : Nat} (acc : List Nat) (m : Nat) (h : (takeAt s p).2.2 ≠ 0) : comb acc (takeRow s (m + 1) p) = ([], 0, (takeAt s p).2.2) := by
  rw [takeRow, if_neg h]
  unfold comb
  rw [if_neg h]
theorem comb_end (s : List UInt8) (acc : List Nat) (p : Nat) : comb acc (takeRow s 0 p) = (acc, p, 0) := by simp [takeRow, comb]
theorem takeAt_in {s : List UInt8} {p : Nat} (h : (takeAt s p).2.2 = 0) : p < (takeAt s p).2.1 ∧ (takeAt s p).2.1 ≤ s.length ∧ (takeAt s p).1 < 2 ^ 64 := by
  by_cases hp : p ≤ s.length
  · obtain ⟨a, b, c, _⟩ := takeAt_ok s p hp h; exact ⟨b, c, a⟩
  · exfalso; unfold takeAt at h; rw [List.drop_eq_nil_of_le (by omega)] at h; simp [takeF, fin] at h

theorem take_nat (s : ByteArray) (q x p er : Nat) (w : World) (hs : s.size ≤ 1000000000) (hq : q ≤ 9223372036854775807) (h : takeAt s.data.toList q = (x, p, er)) :
    Calls Try.prog 17 #[.string s, .int .i64 q] w fun e w' => e = .returned (.tuple #[.int .u64 x, .int .i64 p, .int .i64 er]) ∧ w = w' := by
  refine (take_any s q w hs (by omega)).mono ?_
  rintro e w' ⟨rfl, rfl⟩
  unfold takeI
  rw [if_neg (by omega), Int.toNat_natCast, h]
  exact ⟨rfl, rfl⟩

set_option maxRecDepth 100000 in
set_option maxHeartbeats 1000000 in
theorem takeRow_in (s : ByteArray) (i n : Nat) (w : World) (hs : s.size ≤ 1000000000) (hi : i ≤ 9223372036854775807) (hn : n ≤ 9223372036854775807) :
    Calls Try.prog 19 #[.string s, .int .i64 i, .int .i64 n] w fun e w' => ∃ v, e = .returned (.tuple #[v, .int .i64 (takeRow s.data.toList n i).2.1, .int .i64 (takeRow s.data.toList n i).2.2]) ∧
      OwnU w' w.heap.size v (takeRow s.data.toList n i).1 ∧ Below w.heap.size w w' := by
  have hd1 : decide ((i : Int) < 0) = false := by simp
  have hd2 : decide ((n : Int) < 0) = false := by simp
  go_enter Try.func19, Try.ntmps19
  go_wp2_with fail
  clear hd1 hd2
  go_loopw [6, 7, 20] (fun v p j wr => ∃ (k q : Nat) (acc : List Nat), k ≤ n ∧ j = .int .i64 k ∧ p = .int .i64 q ∧ q ≤ 9223372036854775807 ∧ acc.length ≤ s.size ∧ acc.length ≤ q ∧ OwnU wr w.heap.size v acc ∧ Below w.heap.size w wr ∧
      Hid (takeRow s.data.toList n i = comb acc (takeRow s.data.toList (n - k) q))) (fun _ _ j _ => n - (intOf j).toNat)
  case atStart => exact ⟨0, i, [], by omega, rfl, rfl, hi, by simp, by simp, World.ownsRow_nil _ _ _ _, Below.refl _ _, Lib.hid (by rw [comb_nil]; rfl)⟩
  case round =>
    obtain ⟨k, q, acc, hk, rfl, rfl, hq, ha1, ha2, hown, hbel, HR⟩ := hrel
    by_cases hlt : k < n
    · obtain ⟨m, hm⟩ : ∃ m, n - k = m + 1 := ⟨n - k - 1, by omega⟩
      rcases takeAt_err s.data.toList q with h0 | h0 | h0
      · obtain ⟨x, p, er, ht⟩ : ∃ x p er, takeAt s.data.toList q = (x, p, er) := ⟨_, _, _, rfl⟩
        have he : er = 0 := by rw [ht] at h0; exact h0
        subst he
        have hin := takeAt_in h0
        rw [ht] at hin
        have hin1 : q < p := hin.1
        have hin2 : p ≤ s.size := by simpa using hin.2.1
        have HR2 : Hid (takeRow s.data.toList n i = comb (acc ++ [x]) (takeRow s.data.toList (n - (k + 1)) p)) := by
          rw [HR.out, hm, comb_ok acc m h0, ht, show n - (k + 1) = m by omega]; rfl
        have HT := Lib.hid ht
        have hsz := hbel.size
        clear ht h0 hin HR hm
        go_wp2_with (first | (go_at_call 17; refine (take_nat s q x p 0 _ hs (by omega) HT.out).mono ?_; rintro e w' ⟨rfl, rfl⟩) | (at_builtin; refine wp_append_u64 _ rfl (.tmp 32) (.tmp 34) rfl w.heap.size _ acc rfl (hown.alloc _) _ x rfl ?_ ?_ ?_ ?_))
        · simp [U]
        · omega
        · simp; omega
        · intro v' w1 hown' hgrow
          have hb' := hown.below hbel (Nat.le_refl _) hgrow
          clear hgrow hown hbel
          go_wp2
          go_roundw
          case rel => exact ⟨k + 1, p, acc ++ [x], by omega, by go_num, rfl, by omega, by simp; omega, by simp; omega, hown', hb', HR2⟩
          case measure => simp [intOf]; omega
      all_goals
        have HR2 := HR.out
        rw [hm, comb_no acc m (by rw [h0]; simp), h0] at HR2
        have HT := Lib.hid h0
        have HR3 := Lib.hid HR2
        clear h0 HR HR2 hm
        go_wp2_with (go_at_call 17; first | refine (take_nat s q 0 0 2 _ hs (by omega) HT.out).mono ?_; rintro e w' ⟨rfl, rfl⟩ | refine (take_nat s q 0 0 3 _ hs (by omega) HT.out).mono ?_; rintro e w' ⟨rfl, rfl⟩)
        go_ret3
        rw [HR3.out]
        exact ⟨_, rfl, World.ownsRow_nil _ _ _ _, hbel⟩
    · have hke : n - k = 0 := by omega
      have HR2 := HR.out
      rw [hke, comb_end] at HR2
      have HR3 := Lib.hid HR2
      clear HR HR2 hke
      go_wp2_with fail
      go_ret3
      rw [HR3.out]
      exact ⟨_, rfl, hown, hbel⟩

theorem takeRow_any (s : ByteArray) (a n : Int) (w : World) (hs : s.size ≤ 1000000000) (ha1 : a ≤ 9223372036854775807) (hn1 : n ≤ 9223372036854775807) :
    Calls Try.prog 19 #[.string s, .int .i64 a, .int .i64 n] w fun e w' => ∃ v, e = .returned (.tuple #[v, .int .i64 (takeRowI s.data.toList a n).2.1, .int .i64 (takeRowI s.data.toList a n).2.2]) ∧
      OwnU w' w.heap.size v (takeRowI s.data.toList a n).1 ∧ Below w.heap.size w w' := by
  unfold takeRowI
  by_cases h : a < 0 ∨ n < 0
  · rw [if_pos h]
    rcases (show a < 0 ∨ (0 ≤ a ∧ n < 0) by omega) with h | ⟨h, h2⟩
    · go_enter Try.func19, Try.ntmps19
      go_wp2_with fail
      go_ret3
      exact ⟨_, rfl, World.ownsRow_nil _ _ _ _, Below.refl _ _⟩
    · have hd : decide (a < 0) = false := by simp; omega
      go_enter Try.func19, Try.ntmps19
      go_wp2_with fail
      go_ret3
      exact ⟨_, rfl, World.ownsRow_nil _ _ _ _, Below.refl _ _⟩
  · rw [if_neg h]
    obtain ⟨i, rfl⟩ := Int.eq_ofNat_of_zero_le (show 0 ≤ a by omega)
    obtain ⟨m, rfl⟩ := Int.eq_ofNat_of_zero_le (show 0 ≤ n by omega)
    simp only [Int.toNat_natCast]
    exact takeRow_in s i m w hs (by omega) (by omega)

theorem put_any (v : Nat) (w : World) (hv : v < 2 ^ 64) :
    Calls Try.prog 10 #[.int .u64 v] w fun e w' => e = .returned (.string (str (put v))) ∧ Below w.heap.size w w' := by
  have hu : Us (w.alloc (.cells #[.int .u64 v] 22)) (some ⟨w.heap.size, 0, none⟩) [v] := by
    intro j hj
    have : j = 0 := by simp at hj; omega
    subst this
    exact ⟨_, _, rfl, by simp, by simp⟩
  have H := row_any (some ⟨w.heap.size, 0, none⟩) 1 [v] (w.alloc (.cells #[.int .u64 v] 22)) (by simp) (by simpa using hv) hu
  rw [show row [v] = put v by simp [row], show [v].length = 1 from rfl] at H
  have HH := Lib.hid H
  clear hu H
  go_enter Try.func10, Try.ntmps10
  go_wp2_with fail
  refine HH.out.mono ?_
  rintro e w' ⟨rfl, hb⟩
  clear HH
  have hb' : Below w.heap.size w w' := ((Below.refl _ w).alloc (Nat.le_refl _) _).trans (hb.mono (by simp))
  clear hb
  go_wp2_with fail
  go_ret
  exact ⟨rfl, hb'⟩
end Go.Proofs.Ytlljfgaaefofbaa.V
