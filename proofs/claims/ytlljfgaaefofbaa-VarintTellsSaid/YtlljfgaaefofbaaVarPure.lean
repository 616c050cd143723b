/-
  Numbers in as few bytes as it takes, as plain functions on lists of bytes, and the laws of them that stage 1's statements want: no condition but the ranges that each theorem names. Nothing of the program is imported here.
-/
import Derived.WalkKit
namespace Go.Proofs.Ytlljfgaaefofbaa.V

/-- The bytes of a number, the lowest digit first; at most f + 1 of them. -/
def putF : Nat → Nat → List UInt8
  | 0, v => [UInt8.ofNat v]
  | f + 1, v => if v < 128 then [UInt8.ofNat v] else UInt8.ofNat (v % 128 + 128) :: putF f (v / 128)
def put (v : Nat) : List UInt8 := putF 9 v
def row : List Nat → List UInt8
  | [] => []
  | v :: r => put v ++ row r
/-- What is read behind n bytes whose number is a: the number, how many bytes in all, and the error. -/
def takeF : Nat → Nat → List UInt8 → Nat × Nat × Nat
  | _, _, [] => (0, 0, 2)
  | n, a, c :: r =>
    if n = 9 ∧ 1 < c.toNat then (0, 0, 3)
    else if 0 < n ∧ c.toNat = 0 then (0, 0, 3)
    else if c.toNat < 128 then (a + c.toNat % 128 * 2 ^ (7 * n), n + 1, 0)
    else takeF (n + 1) (a + c.toNat % 128 * 2 ^ (7 * n)) r
def fin (i : Nat) (r : Nat × Nat × Nat) : Nat × Nat × Nat := if r.2.2 = 0 then (r.1, i + r.2.1, 0) else (0, 0, r.2.2)
def takeAt (s : List UInt8) (i : Nat) : Nat × Nat × Nat := fin i (takeF 0 0 (s.drop i))
def takeRow (s : List UInt8) : Nat → Nat → List Nat × Nat × Nat
  | 0, i => ([], i, 0)
  | m + 1, i =>
    if (takeAt s i).2.2 = 0 then
      (if (takeRow s m (takeAt s i).2.1).2.2 = 0 then ((takeAt s i).1 :: (takeRow s m (takeAt s i).2.1).1, (takeRow s m (takeAt s i).2.1).2.1, 0) else ([], 0, (takeRow s m (takeAt s i).2.1).2.2))
    else ([], 0, (takeAt s i).2.2)

/-! ### Bytes of a number -/
theorem putF_pos (f v : Nat) : 1 ≤ (putF f v).length := by
  cases f with
  | zero => simp [putF]
  | succ f => unfold putF; split <;> simp
theorem putF_le (f v : Nat) : (putF f v).length ≤ f + 1 := by
  induction f generalizing v with
  | zero => simp [putF]
  | succ f ih => unfold putF; split
                 · simp
                 · simp; exact ih _
theorem put_pos (v : Nat) : 1 ≤ (put v).length := putF_pos 9 v
theorem put_le (v : Nat) : (put v).length ≤ 10 := putF_le 9 v

theorem ofNat_toNat (v : Nat) (h : v < 256) : (UInt8.ofNat v).toNat = v := by
  simp [UInt8.toNat_ofNat']; omega

theorem pow_step (n : Nat) : 2 ^ (7 * (n + 1)) = 128 * 2 ^ (7 * n) := by
  rw [show 7 * (n + 1) = 7 * n + 7 by omega, Nat.pow_add, Nat.mul_comm]

theorem split128 (v P : Nat) : v % 128 * P + v / 128 * (128 * P) = v * P := by
  rw [← Nat.mul_assoc, ← Nat.add_mul]; congr 1; omega

theorem take_put (f : Nat) : ∀ (n a v : Nat) (r : List UInt8), f + n = 9 → v < 2 ^ (7 * f + 1) → (0 < n → 0 < v) →
    takeF n a (putF f v ++ r) = (a + v * 2 ^ (7 * n), n + (putF f v).length, 0) := by
  induction f with
  | zero =>
    intro n a v r hn hv h0
    have : n = 9 := by omega
    subst this
    have hv2 : v < 2 := by simpa using hv
    have e : (UInt8.ofNat v).toNat = v := ofNat_toNat v (by omega)
    simp only [putF, List.cons_append, List.nil_append, takeF, e]
    rw [if_neg (by omega), if_neg (by omega), if_pos (by omega)]
    simp; omega
  | succ f ih =>
    intro n a v r hn hv h0
    by_cases h : v < 128
    · have e : (UInt8.ofNat v).toNat = v := ofNat_toNat v (by omega)
      have hm : v % 128 = v := by omega
      simp only [putF, if_pos h, List.cons_append, List.nil_append, takeF, e]
      rw [if_neg (by omega), if_neg (by omega), hm]
      simp
    · have e : (UInt8.ofNat (v % 128 + 128)).toNat = v % 128 + 128 := ofNat_toNat _ (by omega)
      have hm : (v % 128 + 128) % 128 = v % 128 := by omega
      have hp : 2 ^ (7 * (f + 1) + 1) = 128 * 2 ^ (7 * f + 1) := by rw [show 7 * (f + 1) + 1 = (7 * f + 1) + 7 by omega, Nat.pow_add, Nat.mul_comm]
      have hd : v / 128 < 2 ^ (7 * f + 1) := by omega
      simp only [putF, if_neg h, List.cons_append, takeF, e]
      rw [if_neg (by omega), if_neg (by omega), if_neg (by omega), hm, ih (n + 1) _ (v / 128) r (by omega) hd (by omega), pow_step, Nat.add_assoc, split128]
      simp; omega

theorem take_put0 (v : Nat) (r : List UInt8) (h : v < 2 ^ 64) : takeF 0 0 (put v ++ r) = (v, (put v).length, 0) := by
  have := take_put 9 0 0 v r (by omega) (by simpa using h) (by omega)
  simpa [put] using this

/-- Cut off, it is too short. -/
theorem take_cut (f : Nat) : ∀ (n a v k : Nat), f + n = 9 → v < 2 ^ (7 * f + 1) → k < (putF f v).length → takeF n a ((putF f v).take k) = (0, 0, 2) := by
  induction f with
  | zero =>
    intro n a v k hn hv hk
    have : k = 0 := by simp [putF] at hk; omega
    subst this
    simp [takeF]
  | succ f ih =>
    intro n a v k hn hv hk
    cases k with
    | zero => simp [takeF]
    | succ k =>
      by_cases h : v < 128
      · simp [putF, if_pos h] at hk
      · have e : (UInt8.ofNat (v % 128 + 128)).toNat = v % 128 + 128 := ofNat_toNat _ (by omega)
        have hp : 2 ^ (7 * (f + 1) + 1) = 128 * 2 ^ (7 * f + 1) := by rw [show 7 * (f + 1) + 1 = (7 * f + 1) + 7 by omega, Nat.pow_add, Nat.mul_comm]
        have hd : v / 128 < 2 ^ (7 * f + 1) := by omega
        simp only [putF, if_neg h, List.length_cons] at hk
        simp only [putF, if_neg h, List.take_succ_cons, takeF, e]
        rw [if_neg (by omega), if_neg (by omega), if_neg (by omega)]
        exact ih (n + 1) _ (v / 128) k (by omega) hd (by omega)
theorem take_cut0 (v k : Nat) (h : v < 2 ^ 64) (hk : k < (put v).length) : takeF 0 0 ((put v).take k) = (0, 0, 2) :=
  take_cut 9 0 0 v k (by omega) (by simpa using h) hk

/-- The errors. -/
theorem takeF_err (l : List UInt8) : ∀ n a, (takeF n a l).2.2 = 0 ∨ takeF n a l = (0, 0, 2) ∨ takeF n a l = (0, 0, 3) := by
  induction l with
  | nil => intro n a; exact .inr (.inl rfl)
  | cons c r ih =>
    intro n a
    unfold takeF
    split
    · exact .inr (.inr rfl)
    · split
      · exact .inr (.inr rfl)
      · split
        · exact .inl rfl
        · exact ih _ _

/-- What is read is the bytes of the number, and no more. -/
theorem take_back (l : List UInt8) : ∀ (n a : Nat), n ≤ 9 → (takeF n a l).2.2 = 0 →
    ∃ v, (takeF n a l).1 = a + v * 2 ^ (7 * n) ∧ v < 2 ^ (7 * (9 - n) + 1) ∧ (0 < n → 0 < v) ∧ n < (takeF n a l).2.1 ∧ (takeF n a l).2.1 ≤ n + l.length ∧ l.take ((takeF n a l).2.1 - n) = putF (9 - n) v := by
  induction l with
  | nil => intro n a hn h; simp [takeF] at h
  | cons c r ih =>
    intro n a hn h
    have hc := c.toNat_lt
    have ec : UInt8.ofNat c.toNat = c := by simp
    unfold takeF at h ⊢
    by_cases h1 : n = 9 ∧ 1 < c.toNat
    · rw [if_pos h1] at h; simp at h
    rw [if_neg h1] at h ⊢
    by_cases h2 : 0 < n ∧ c.toNat = 0
    · rw [if_pos h2] at h; simp at h
    rw [if_neg h2] at h ⊢
    by_cases h3 : c.toNat < 128
    · rw [if_pos h3]
      refine ⟨c.toNat, by rw [Nat.mod_eq_of_lt h3], ?_, by omega, by simp, by simp, ?_⟩
      · by_cases h9 : n = 9
        · subst h9; simp; omega
        · have : 2 ^ 8 ≤ 2 ^ (7 * (9 - n) + 1) := Nat.pow_le_pow_right (by omega) (by omega)
          omega
      · simp
        cases hf : 9 - n with
        | zero => simp [putF, ec]
        | succ f => simp [putF, h3, ec]
    · rw [if_neg h3] at h ⊢
      have hn9 : n < 9 := by omega
      obtain ⟨v, e1, e2, e3, e4, e5, e6⟩ := ih (n + 1) _ (by omega) h
      obtain ⟨f, hf⟩ : ∃ f, 9 - n = f + 1 := ⟨8 - n, by omega⟩
      have hf' : 9 - (n + 1) = f := by omega
      rw [hf'] at e2 e6
      have hp : 2 ^ (7 * (f + 1) + 1) = 128 * 2 ^ (7 * f + 1) := by rw [show 7 * (f + 1) + 1 = (7 * f + 1) + 7 by omega, Nat.pow_add, Nat.mul_comm]
      have hm : (c.toNat % 128 + 128 * v) % 128 = c.toNat % 128 := by omega
      have hd : (c.toNat % 128 + 128 * v) / 128 = v := by omega
      have hv := e3 (by omega)
      refine ⟨c.toNat % 128 + 128 * v, ?_, ?_, by omega, by omega, by simp; omega, ?_⟩
      · rw [e1, pow_step, Nat.add_mul, Nat.add_assoc]; congr 2; rw [← Nat.mul_assoc, Nat.mul_comm v 128]
      · rw [hf, hp]; omega
      · rw [hf]
        simp only [putF, if_neg (show ¬ c.toNat % 128 + 128 * v < 128 by omega), hm, hd]
        obtain ⟨q, hq⟩ : ∃ q, (takeF (n + 1) (a + c.toNat % 128 * 2 ^ (7 * n)) r).2.1 - n = q + 1 := ⟨(takeF (n + 1) (a + c.toNat % 128 * 2 ^ (7 * n)) r).2.1 - n - 1, by omega⟩
        have hq' : (takeF (n + 1) (a + c.toNat % 128 * 2 ^ (7 * n)) r).2.1 - (n + 1) = q := by omega
        rw [hq'] at e6
        rw [hq, List.take_succ_cons, e6]
        congr 1
        rw [show c.toNat % 128 + 128 = c.toNat by omega, ec]

theorem take_back0 (l : List UInt8) (h : (takeF 0 0 l).2.2 = 0) : (takeF 0 0 l).1 < 2 ^ 64 ∧ 0 < (takeF 0 0 l).2.1 ∧ (takeF 0 0 l).2.1 ≤ l.length ∧ l.take (takeF 0 0 l).2.1 = put (takeF 0 0 l).1 := by
  obtain ⟨v, e1, e2, _, e4, e5, e6⟩ := take_back l 0 0 (by omega) h
  simp at e1 e2 e4 e5 e6
  rw [e1]
  exact ⟨by simpa using e2, e4, e5, e6⟩

/-! ### How many bytes -/
theorem putF_mono (f : Nat) : ∀ v w, v ≤ w → (putF f v).length ≤ (putF f w).length := by
  induction f with
  | zero => intro v w _; simp [putF]
  | succ f ih =>
    intro v w h
    by_cases h1 : v < 128
    · have := putF_pos (f + 1) w; simp only [putF, if_pos h1, List.length_singleton]; simpa [putF] using this
    · simp only [putF, if_neg h1, if_neg (show ¬ w < 128 by omega), List.length_cons]
      have := ih (v / 128) (w / 128) (by omega)
      omega
theorem put_mono (v w : Nat) (h : v ≤ w) : (put v).length ≤ (put w).length := putF_mono 9 v w h

theorem put_inj (v w : Nat) (hv : v < 2 ^ 64) (hw : w < 2 ^ 64) (h : put v = put w) : v = w := by
  have a := take_put0 v [] hv
  have b := take_put0 w [] hw
  rw [h, b] at a
  exact (congrArg Prod.fst a).symm
theorem put_prefix (v w : Nat) (hv : v < 2 ^ 64) (hw : w < 2 ^ 64) (h : (put w).take (put v).length = put v) : v = w := by
  have a := take_put0 v ((put w).drop (put v).length) hv
  have b := take_put0 w [] hw
  rw [← h, List.length_take] at a
  have e : (put w).take (min (put v).length (put w).length) = (put w).take (put v).length := by rw [← List.take_length (l := put w)]; simp
  rw [List.append_nil] at b
  have c : List.take (put v).length (put w) ++ List.drop (min (put v).length (put w).length) (put w) = put w := by
    by_cases hl : (put v).length ≤ (put w).length
    · rw [Nat.min_eq_left hl]; exact List.take_append_drop _ _
    · rw [Nat.min_eq_right (by omega), List.drop_length, List.append_nil, List.take_of_length_le (by omega)]
  have d : (put v).length ≤ (put w).length := by
    have := congrArg List.length h; simp at this; omega
  have a' := take_put0 v ((put w).drop (put v).length) hv
  have c' : put v ++ (put w).drop (put v).length = put w := by
    conv => lhs; lhs; rw [← h]
    exact List.take_append_drop _ _
  rw [c', b] at a'
  exact (congrArg Prod.fst a').symm

theorem len_pow : ∀ k : Fin 64, (put (2 ^ k.val)).length = k.val / 7 + 1 ∧ (0 < k.val → (put (2 ^ k.val - 1)).length = (k.val + 6) / 7) := by decide +kernel

/-! ### Rows -/
theorem row_append (a b : List Nat) : row (a ++ b) = row a ++ row b := by
  induction a with
  | nil => rfl
  | cons v r ih => simp [row, ih]
theorem takeAt_put (p : List UInt8) (v : Nat) (r : List UInt8) (h : v < 2 ^ 64) : takeAt (p ++ (put v ++ r)) p.length = (v, p.length + (put v).length, 0) := by
  unfold takeAt
  rw [List.drop_left, take_put0 v r h]
  simp [fin]
theorem takeRow_row (l : List Nat) : ∀ (p r : List UInt8), (∀ v ∈ l, v < 2 ^ 64) → takeRow (p ++ (row l ++ r)) l.length p.length = (l, p.length + (row l).length, 0) := by
  induction l with
  | nil => intro p r _; simp [takeRow, row]
  | cons v l ih =>
    intro p r h
    have e : takeAt (p ++ (row (v :: l) ++ r)) p.length = (v, p.length + (put v).length, 0) := by
      simp only [row, List.append_assoc]; exact takeAt_put p v _ (h v (by simp))
    have i := ih (p ++ put v) r (fun x hx => h x (by simp [hx]))
    simp only [List.append_assoc, List.length_append] at i
    have e2 : p ++ (row (v :: l) ++ r) = p ++ (put v ++ (row l ++ r)) := by simp [row]
    simp only [List.length_cons, takeRow, e]
    rw [e2, i]
    simp [row]; omega
/-- One number more than there are is too short. -/
theorem takeRow_more (l : List Nat) : ∀ (p : List UInt8), (∀ v ∈ l, v < 2 ^ 64) → takeRow (p ++ row l) (l.length + 1) p.length = ([], 0, 2) := by
  induction l with
  | nil => intro p _; simp [takeRow, row, takeAt, takeF, fin]
  | cons v l ih =>
    intro p h
    have e : takeAt (p ++ row (v :: l)) p.length = (v, p.length + (put v).length, 0) := by
      have := takeAt_put p v (row l) (h v (by simp)); simpa [row] using this
    have i := ih (p ++ put v) (fun x hx => h x (by simp [hx]))
    simp only [List.append_assoc, List.length_append] at i
    rw [List.length_cons, takeRow]
    rw [e]
    simp only [if_true]
    have e2 : p ++ row (v :: l) = p ++ (put v ++ row l) := by simp [row]
    rw [e2, i]
    simp
theorem takeRow_err (s : List UInt8) : ∀ m i, (takeRow s m i).2.2 ≠ 0 → (takeRow s m i).1 = [] ∧ (takeRow s m i).2.1 = 0 := by
  intro m
  induction m with
  | zero => intro i h; simp [takeRow] at h
  | succ m ih =>
    intro i h
    unfold takeRow at h ⊢
    split
    · split
      · rename_i h1 h2; rw [if_pos h1, if_pos h2] at h; simp at h
      · simp
    · simp
theorem takeAt_ok (s : List UInt8) (i : Nat) (hi : i ≤ s.length) (h : (takeAt s i).2.2 = 0) :
    (takeAt s i).1 < 2 ^ 64 ∧ i < (takeAt s i).2.1 ∧ (takeAt s i).2.1 ≤ s.length ∧ (s.drop i).take ((takeAt s i).2.1 - i) = put (takeAt s i).1 := by
  have h0 : (takeF 0 0 (s.drop i)).2.2 = 0 := by
    unfold takeAt fin at h; split at h
    · assumption
    · simpa using h
  obtain ⟨a, b, c, d⟩ := take_back0 _ h0
  have e : takeAt s i = ((takeF 0 0 (s.drop i)).1, i + (takeF 0 0 (s.drop i)).2.1, 0) := by unfold takeAt fin; rw [if_pos h0]
  rw [e]
  simp at c
  exact ⟨a, by simp; omega, by simp; omega, by simpa using d⟩
theorem takeAt_err (s : List UInt8) (i : Nat) : (takeAt s i).2.2 = 0 ∨ takeAt s i = (0, 0, 2) ∨ takeAt s i = (0, 0, 3) := by
  unfold takeAt fin
  rcases takeF_err (s.drop i) 0 0 with h | h | h
  · left; rw [if_pos h]
  · right; left; rw [h]; rfl
  · right; right; rw [h]; rfl
theorem takeRow_ok (s : List UInt8) : ∀ m i, i ≤ s.length → (takeRow s m i).2.2 = 0 →
    (takeRow s m i).1.length = m ∧ (∀ v ∈ (takeRow s m i).1, v < 2 ^ 64) ∧ i + m ≤ (takeRow s m i).2.1 ∧ (takeRow s m i).2.1 ≤ s.length ∧ (s.drop i).take ((takeRow s m i).2.1 - i) = row (takeRow s m i).1 := by
  intro m
  induction m with
  | zero => intro i hi _; simp [takeRow, row]; omega
  | succ m ih =>
    intro i hi h
    by_cases h1 : (takeAt s i).2.2 = 0
    · by_cases h2 : (takeRow s m (takeAt s i).2.1).2.2 = 0
      · obtain ⟨a, b, c, d⟩ := takeAt_ok s i hi h1
        obtain ⟨e, f, g, g', k⟩ := ih (takeAt s i).2.1 c h2
        have q : takeRow s (m + 1) i = ((takeAt s i).1 :: (takeRow s m (takeAt s i).2.1).1, (takeRow s m (takeAt s i).2.1).2.1, 0) := by rw [takeRow, if_pos h1, if_pos h2]
        rw [q]
        refine ⟨by simp [e], ?_, by simp; omega, g', ?_⟩
        · intro v hv
          rcases List.mem_cons.1 hv with rfl | hv
          · exact a
          · exact f v hv
        · simp only [row, ← d, ← k]
          have n1 : (takeRow s m (takeAt s i).2.1).2.1 - i = ((takeAt s i).2.1 - i) + ((takeRow s m (takeAt s i).2.1).2.1 - (takeAt s i).2.1) := by omega
          have n2 : (takeAt s i).2.1 = i + ((takeAt s i).2.1 - i) := by omega
          rw [n1, List.take_add, List.drop_drop, ← n2]
      · rw [takeRow, if_pos h1, if_neg h2] at h; exact absurd h h2
    · rw [takeRow, if_neg h1] at h; exact absurd h h1
end Go.Proofs.Ytlljfgaaefofbaa.V
