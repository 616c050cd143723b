/-
  Numbers of a fixed width as bytes, the lowest first, and back: on lists alone, with no program.
-/
import Derived.Test.YtkdfefbjpglcpaaBase
set_option linter.unusedVariables false
namespace Go.Proofs.Ytkdfefbjpglcpaa.V

/-- The w lowest bytes of v, the lowest first. -/
def octs : Nat → Nat → List UInt8
  | 0, _ => []
  | w + 1, v => UInt8.ofNat v :: octs w (v / 256)
/-- The number of these bytes. -/
def val : List UInt8 → Nat
  | [] => 0
  | c :: r => c.toNat + 256 * val r
/-- Numbers, w bytes each. -/
def wrds (w : Nat) : List Nat → List UInt8
  | [] => []
  | v :: r => octs w v ++ wrds w r
/-- n numbers of w bytes each. -/
def nums (w : Nat) : Nat → List UInt8 → List Nat
  | 0, _ => []
  | n + 1, s => val (s.take w) :: nums w n (s.drop w)

@[simp] theorem octs_len (w v : Nat) : (octs w v).length = w := by
  induction w generalizing v with
  | zero => rfl
  | succ w ih => simp [octs, ih]
theorem octs_snoc (w v : Nat) : octs (w + 1) v = octs w v ++ [UInt8.ofNat (v / 256 ^ w)] := by
  induction w generalizing v with
  | zero => simp [octs]
  | succ w ih =>
    rw [octs, ih, octs]
    simp [Nat.div_div_eq_div_mul, Nat.pow_succ, Nat.mul_comm]
theorem octs_add (a b v : Nat) : octs (a + b) v = octs a v ++ octs b (v / 256 ^ a) := by
  induction a generalizing v with
  | zero => simp [octs]
  | succ a ih =>
    rw [show a + 1 + b = (a + b) + 1 by omega, octs, ih, octs]
    simp [Nat.div_div_eq_div_mul, Nat.pow_succ, Nat.mul_comm]
theorem val_octs (w v : Nat) : val (octs w v) = v % 256 ^ w := by
  induction w generalizing v with
  | zero => simp [octs, val]; omega
  | succ w ih =>
    rw [octs, val, ih, UInt8.toNat_ofNat', show (256 : Nat) ^ (w + 1) = 256 * 256 ^ w by rw [Nat.pow_succ, Nat.mul_comm], Nat.mod_mul]
theorem val_octs_lt (w v : Nat) (h : v < 256 ^ w) : val (octs w v) = v := by rw [val_octs, Nat.mod_eq_of_lt h]
theorem val_lt (l : List UInt8) : val l < 256 ^ l.length := by
  induction l with
  | nil => simp [val]
  | cons c r ih =>
    have := c.toNat_lt
    simp only [val, List.length_cons, Nat.pow_succ]; omega
theorem val_lt_of {l : List UInt8} {w : Nat} (h : l.length ≤ w) : val l < 256 ^ w := Nat.lt_of_lt_of_le (val_lt l) (Nat.pow_le_pow_right (by omega) h)
theorem val_app (a b : List UInt8) : val (a ++ b) = val a + 256 ^ a.length * val b := by
  induction a with
  | nil => simp [val]
  | cons c r ih => simp only [List.cons_append, val, ih, List.length_cons, Nat.pow_succ]; rw [Nat.mul_add, Nat.add_assoc]; congr 2; rw [← Nat.mul_assoc, Nat.mul_comm 256]
theorem octs_val (l : List UInt8) : octs l.length (val l) = l := by
  induction l with
  | nil => rfl
  | cons c r ih =>
    have h : (c.toNat + 256 * val r) / 256 = val r := by have := c.toNat_lt; omega
    simp only [List.length_cons, octs, val, h, ih]
    congr 1
    apply UInt8.toNat.inj
    have := c.toNat_lt
    rw [UInt8.toNat_ofNat']; omega
theorem octs_val_of {l : List UInt8} {w : Nat} (h : l.length = w) : octs w (val l) = l := by subst h; exact octs_val l
theorem octs_mod (w v : Nat) : octs w (v % 256 ^ w) = octs w v := by
  rw [← val_octs, octs_val_of (octs_len w v)]
theorem octs_inj {w a b : Nat} (ha : a < 256 ^ w) (hb : b < 256 ^ w) (h : octs w a = octs w b) : a = b := by
  rw [← val_octs_lt w a ha, ← val_octs_lt w b hb, h]

@[simp] theorem wrds_len (w : Nat) (l : List Nat) : (wrds w l).length = w * l.length := by
  induction l with
  | nil => rfl
  | cons v r ih => simp [wrds, ih, Nat.mul_add]; omega
theorem wrds_app (w : Nat) (a b : List Nat) : wrds w (a ++ b) = wrds w a ++ wrds w b := by
  induction a with
  | nil => rfl
  | cons v r ih => simp [wrds, ih]
theorem wrds_take (w : Nat) (zs : List Nat) (k : Nat) (h : k < zs.length) : wrds w (zs.take (k + 1)) = wrds w (zs.take k) ++ octs w (zs.getD k 0) := by
  rw [List.take_add_one, List.getElem?_eq_getElem h, wrds_app]
  simp [wrds, List.getD, h]
@[simp] theorem nums_len (w n : Nat) (s : List UInt8) : (nums w n s).length = n := by
  induction n generalizing s with
  | zero => rfl
  | succ n ih => simp [nums, ih]
theorem nums_snoc (w n : Nat) (s : List UInt8) : nums w (n + 1) s = nums w n s ++ [val ((s.drop (w * n)).take w)] := by
  induction n generalizing s with
  | zero => simp [nums]
  | succ n ih =>
    rw [nums, ih, nums]
    simp only [List.cons_append, List.drop_drop]
    rw [show w + w * n = w * (n + 1) by rw [Nat.mul_add, Nat.mul_one, Nat.add_comm]]
theorem nums_lt (w n : Nat) (s : List UInt8) : ∀ v ∈ nums w n s, v < 256 ^ w := by
  induction n generalizing s with
  | zero => simp [nums]
  | succ n ih =>
    intro v hv
    simp only [nums, List.mem_cons] at hv
    rcases hv with rfl | hv
    · exact val_lt_of (by simp; omega)
    · exact ih _ v hv
theorem wrds_nums (w n : Nat) (s : List UInt8) (h : w * n ≤ s.length) : wrds w (nums w n s) = s.take (w * n) := by
  induction n generalizing s with
  | zero => simp [nums, wrds]
  | succ n ih =>
    have e : w * (n + 1) = w + w * n := by rw [Nat.mul_add, Nat.mul_one, Nat.add_comm]
    rw [e] at h
    rw [nums, wrds, octs_val_of (by simp; omega), ih _ (by simp; omega), e, List.take_add]
theorem nums_wrds (w : Nat) (l : List Nat) (r : List UInt8) (h : ∀ v ∈ l, v < 256 ^ w) : nums w l.length (wrds w l ++ r) = l := by
  induction l with
  | nil => rfl
  | cons v t ih =>
    have h1 : ((octs w v ++ wrds w t) ++ r).take w = octs w v := by
      rw [List.append_assoc, List.take_append_of_le_length (by simp)]; exact List.take_of_length_le (by simp)
    have h2 : ((octs w v ++ wrds w t) ++ r).drop w = wrds w t ++ r := by
      rw [List.append_assoc, List.drop_append_of_le_length (by simp), List.drop_of_length_le (by simp)]; rfl
    simp only [wrds, List.length_cons, nums]
    rw [h1, h2, val_octs_lt w v (h v (by simp)), ih (fun x hx => h x (by simp [hx]))]

/-- The document's take: numbers, the place behind, the error. -/
def takeW (w : Nat) (s : List UInt8) (a n : Int) : List Nat × Nat × Nat :=
  if a < 0 ∨ n < 0 then ([], 0, 1)
  else if (s.length : Int) < a ∨ ((s.length : Int) - a) / w < n then ([], 0, 2)
  else (nums w n.toNat (s.drop a.toNat), a.toNat + n.toNat * w, 0)
theorem takeW_neg (w : Nat) (s : List UInt8) (a n : Int) (h : a < 0 ∨ n < 0) : takeW w s a n = ([], 0, 1) := by unfold takeW; rw [if_pos h]
theorem takeW_short (w : Nat) (s : List UInt8) (a n : Int) (h1 : 0 ≤ a) (h2 : 0 ≤ n) (h : (s.length : Int) < a ∨ ((s.length : Int) - a) / w < n) : takeW w s a n = ([], 0, 2) := by
  unfold takeW; rw [if_neg (by omega), if_pos h]
theorem takeW_ok (w : Nat) (s : List UInt8) (a n : Nat) (hw : 0 < w) (h : a + w * n ≤ s.length) : takeW w s a n = (nums w n (s.drop a), a + n * w, 0) := by
  unfold takeW
  rw [if_neg (by omega), if_neg]
  · simp
  · have e : ((s.length : Int) - (a : Int)) = ((s.length - a : Nat) : Int) := by omega
    rw [e]
    have : n ≤ (s.length - a) / w := by
      rw [Nat.le_div_iff_mul_le hw, Nat.mul_comm]; omega
    have h2 : ((s.length - a : Nat) : Int) / (w : Int) = (((s.length - a) / w : Nat) : Int) := by simp
    rw [h2]; omega
theorem takeW_no (w : Nat) (s : List UInt8) (a n : Nat) (hw : 0 < w) (h : s.length < a + w * n) : takeW w s a n = ([], 0, 2) := by
  by_cases ha : s.length < a
  · exact takeW_short w s a n (by omega) (by omega) (Or.inl (by omega))
  · refine takeW_short w s a n (by omega) (by omega) (Or.inr ?_)
    have e : ((s.length : Int) - (a : Int)) = ((s.length - a : Nat) : Int) := by omega
    have h2 : ((s.length - a : Nat) : Int) / (w : Int) = (((s.length - a) / w : Nat) : Int) := by simp
    rw [e, h2]
    have : (s.length - a) / w < n := by
      rw [Nat.div_lt_iff_lt_mul hw, Nat.mul_comm]; omega
    omega
end Go.Proofs.Ytkdfefbjpglcpaa.V
