/-
  The small functions of stage 1: pick of the statements, walked; math/bits.Len64, by the library's contract laid at this program's numbers; varint.Len, walked: each for every argument within its kind.
-/
import Derived.Test.YtlljfgaaefofbaaBase
import Derived.Test.YtlljfgaaefofbaaVarPure
import Derived.Shelf.Strconv.Itoa0
import Derived.Lib.Hide
namespace Go.Proofs.Ytlljfgaaefofbaa.V
open Go.RowKit

def pk (c n : Int) : Int := (if c < 0 then -(c + 1) else c) % n
theorem pk_bd (c n : Int) (hn : 1 ≤ n) : 0 ≤ pk c n ∧ pk c n < n := by
  unfold pk; exact ⟨Int.emod_nonneg _ (by omega), Int.emod_lt_of_pos _ (by omega)⟩


theorem pick_any (c n : Int) (w : World) (h0 : -9223372036854775808 ≤ c) (h1 : c ≤ 9223372036854775807) (h2 : 1 ≤ n) (h3 : n ≤ 1000000000) :
    Calls Try.prog 16 #[.int .i64 c, .int .i64 n] w fun e w' => e = .returned (.int .i64 (pk c n)) ∧ w = w' := by
  by_cases hc : c < 0
  · have e : -(c + 1).tmod n = pk c n := by unfold pk; rw [if_pos hc, ← Int.neg_tmod, Int.tmod_eq_emod_of_nonneg (by omega)]
    have E := Lib.hid e
    clear e
    go_enter Try.func16, Try.ntmps16
    go_wp2
    go_ret
    exact ⟨ret_int E.out, rfl⟩
  · have e : c % n = pk c n := by unfold pk; rw [if_neg hc]
    have E := Lib.hid e
    clear e
    go_enter Try.func16, Try.ntmps16
    go_wp2
    go_ret
    exact ⟨ret_int E.out, rfl⟩

/-! ### math/bits.Len64 -/
open Go.Shelf in
def ren : Go.Shelf.Ren := ⟨fun | 129 => 22 | n => n, fun | 53 => 22 | 3 => 3 | 4 => 4 | 46 => 45 | 5 => 5 | 9 => 9 | n => n, fun | n => n⟩
theorem lays129 : Go.Proofs.Lays.n129 Try.prog ren := {
  mixed := by kernel_rfl
  f129 := Try.func22.trans (congrArg some (by kernel_rfl))
  t3 := Try.underlying3
  a3 := Try.isAgg3
  z3 := Try.sizeOf3
  v3 := Try.zeroValue3
  t4 := Try.underlying4
  a4 := Try.isAgg4
  z4 := Try.sizeOf4
  v4 := Try.zeroValue4
  t5 := Try.underlying5
  a5 := Try.isAgg5
  z5 := Try.sizeOf5
  v5 := Try.zeroValue5
  t9 := Try.underlying9
  a9 := Try.isAgg9
  z9 := Try.sizeOf9
  v9 := Try.zeroValue9
  t46 := Try.underlying45
  a46 := Try.isAgg45
  z46 := Try.sizeOf45
  v46 := Try.zeroValue45
  t53 := Try.underlying22
  a53 := Try.isAgg22
  z53 := Try.sizeOf22
  v53 := Try.zeroValue22 }
theorem len64_any (x : Int) (w : World) (h0 : 0 ≤ x) (h1 : x ≤ 18446744073709551615) :
    Calls Try.prog 22 #[.int .u64 x] w fun e w' => e = .returned (.int .i64 (Lib.bitLen x.toNat)) ∧ w = w' :=
  (Any.bits_Len64 lays129 x w h0 h1).mono fun _ _ ⟨a, b⟩ => ⟨a, b.symm⟩

theorem bitLen_one (x : Nat) (h0 : x ≠ 0) (h : x < 2 ^ 64) : 1 ≤ Lib.bitLen x := by
  rw [Lib.bitLen_half x h0 h]; omega
theorem putF_len (f : Nat) : ∀ v, v < 2 ^ (7 * (f + 1)) → v < 2 ^ 64 → (putF f v).length = max 1 ((Lib.bitLen v + 6) / 7) := by
  induction f with
  | zero =>
    intro v hv _
    have : Lib.bitLen v ≤ 7 := Lib.bitLen_le v 7 (by omega) (by simpa using hv)
    simp [putF]; omega
  | succ f ih =>
    intro v hv hv2
    by_cases h : v < 128
    · have : Lib.bitLen v ≤ 7 := Lib.bitLen_le v 7 (by omega) (by omega)
      simp [putF, h]; omega
    · have hp : 2 ^ (7 * (f + 1 + 1)) = 128 * 2 ^ (7 * (f + 1)) := by rw [show 7 * (f + 1 + 1) = 7 * (f + 1) + 7 by omega, Nat.pow_add, Nat.mul_comm]
      have hd : v / 128 < 2 ^ (7 * (f + 1)) := by omega
      have hb : Lib.bitLen v = 7 + Lib.bitLen (v / 128) := Lib.bitLen_shift 7 v (by omega) hv2
      have hz := bitLen_one (v / 128) (by omega) (by omega)
      simp only [putF, if_neg h, List.length_cons]
      rw [ih _ hd (by omega), hb]
      omega
theorem put_len (v : Nat) (h : v < 2 ^ 64) : (put v).length = max 1 ((Lib.bitLen v + 6) / 7) :=
  putF_len 9 v (Nat.lt_of_lt_of_le h (Nat.pow_le_pow_right (by omega) (by omega))) h

theorem len_any (v : Nat) (w : World) (h : v < 2 ^ 64) :
    Calls Try.prog 12 #[.int .u64 v] w fun e w' => e = .returned (.int .i64 ((put v).length : Nat)) ∧ w = w' := by
  have hb : Lib.bitLen v ≤ 64 := Lib.bitLen_le v 64 (by omega) h
  have hl := put_len v h
  have HL := Lib.hid hl
  clear hl
  go_enter Try.func12, Try.ntmps12
  go_wp2_with (go_at_call 22; refine (len64_any _ _ (by omega) (by omega)).mono ?_; rintro e w' ⟨rfl, rfl⟩; rw [Int.toNat_natCast])
  go_ret
  refine ⟨ret_int ?_, rfl⟩
  rw [HL.out]
  omega
end Go.Proofs.Ytlljfgaaefofbaa.V
