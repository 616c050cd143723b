/-
  Single bytes of numbers, halves, and parts of rows: on lists alone.
-/
import Derived.Test.YtkdfefbjpglcpaaWPure
set_option linter.unusedVariables false
namespace Go.Proofs.Ytkdfefbjpglcpaa.V

theorem octs_get (w v j : Nat) (h : j < w) : (octs w v)[j]? = some (UInt8.ofNat (v / 256 ^ j)) := by
  induction w generalizing v j with
  | zero => omega
  | succ w ih =>
    cases j with
    | zero => simp [octs]
    | succ j =>
      simp only [octs, List.getElem?_cons_succ]
      rw [ih _ _ (by omega), Nat.div_div_eq_div_mul, Nat.pow_succ, Nat.mul_comm 256]
theorem wrds_split (w : Nat) (l : List Nat) (k : Nat) (hk : k < l.length) : wrds w l = wrds w (l.take k) ++ (octs w (l.getD k 0) ++ wrds w (l.drop (k + 1))) := by
  conv => lhs; rw [← List.take_append_drop k l]
  rw [wrds_app, List.drop_eq_getElem_cons hk]
  simp [wrds, List.getD, hk]
theorem wrds_pre (w : Nat) (l : List Nat) (k : Nat) (hk : k ≤ l.length) : (wrds w (l.take k)).length = w * k := by simp; rw [Nat.min_eq_left hk]
theorem wrds_drop (w : Nat) (l : List Nat) (k : Nat) (hk : k < l.length) : (wrds w l).drop (w * k) = octs w (l.getD k 0) ++ wrds w (l.drop (k + 1)) := by
  rw [wrds_split w l k hk, List.drop_append_of_le_length (by rw [wrds_pre w l k (by omega)]; omega), List.drop_of_length_le (by rw [wrds_pre w l k (by omega)]; omega)]; rfl
theorem wrds_get (w : Nat) (l : List Nat) (k j : Nat) (hk : k < l.length) (hj : j < w) : (wrds w l)[w * k + j]? = some (UInt8.ofNat (l.getD k 0 / 256 ^ j)) := by
  rw [← List.getElem?_drop, wrds_drop w l k hk, List.getElem?_append_left (by simpa using hj), octs_get w _ j hj]
theorem octs_half (a b v : Nat) : (octs (a + b) v).take a = octs a v := by
  rw [octs_add, List.take_append_of_le_length (by simp), List.take_of_length_le (by simp)]
/-- Number k of the row stands at its place. -/
theorem nums_at (l : List Nat) (k : Nat) (hk : k < l.length) (hl : ∀ v ∈ l, v < 2 ^ 64) : nums 8 1 ((wrds 8 l).drop (8 * k)) = [l.getD k 0] := by
  rw [wrds_drop 8 l k hk]
  have h := nums_wrds 8 [l.getD k 0] (wrds 8 (l.drop (k + 1))) (by
    intro v hv
    simp only [List.mem_singleton] at hv
    subst hv
    exact hl _ (by simp [List.getD, hk]))
  simpa [wrds] using h
theorem byte_at {S : ByteArray} {L : List UInt8} (h : str L = S) (q : Nat) (hq : q < S.size) (c : UInt8) (hc : L[q]? = some c) : S[q] = c := by
  subst h
  have : q < L.length := by rw [str_size] at hq; exact hq
  rw [List.getElem?_eq_getElem this] at hc
  simp at hc
  rw [← hc]
  rfl
/-- A part of a text, by its bytes. -/
theorem cut_list {S : ByteArray} {L : List UInt8} (h : str L = S) (i j : Nat) : S.extract i j = str ((L.drop i).take (j - i)) := by
  subst h
  rw [← str_of ((str L).extract i j)]
  congr 1
  simp [ByteArray.data_extract, str]
end Go.Proofs.Ytkdfefbjpglcpaa.V
