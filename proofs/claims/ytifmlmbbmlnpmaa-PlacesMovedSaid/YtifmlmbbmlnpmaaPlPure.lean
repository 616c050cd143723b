/-
  Places, on numbers: which layouts are right, parts' first addresses, addresses of places, places of addresses, what is flipped.
-/
import Derived.Test.YtifmlmbbmlnpmaaGen
set_option linter.unusedVariables false
namespace Go.Proofs.Ytifmlmbbmlnpmaa.V

structure Lo where
  base : Nat
  cap : Int
  to : Int
  low : Int
  high : Int
  old : Int
  far : Int
deriving DecidableEq, Inhabited
def lright (l : Lo) : Prop := 1 ≤ l.base ∧ (0 ≤ l.cap ∧ l.cap ≤ 4096) ∧ (l.base : Int) + 2 * l.cap ≤ 9223372036854775808 ∧ (0 ≤ l.to ∧ l.to ≤ 1) ∧ (0 ≤ l.low ∧ 0 ≤ l.high ∧ 0 ≤ l.old ∧ 0 ≤ l.far) ∧ l.low + l.high ≤ l.cap ∧ l.old + l.far ≤ l.cap
instance (l : Lo) : Decidable (lright l) := by unfold lright; infer_instance
def Lo.bd (l : Lo) : Prop := l.base < 2 ^ 64 ∧ (-9223372036854775808 ≤ l.cap ∧ l.cap ≤ 9223372036854775807) ∧ (-9223372036854775808 ≤ l.to ∧ l.to ≤ 9223372036854775807) ∧ (-9223372036854775808 ≤ l.low ∧ l.low ≤ 9223372036854775807) ∧ (-9223372036854775808 ≤ l.high ∧ l.high ≤ 9223372036854775807) ∧ (-9223372036854775808 ≤ l.old ∧ l.old ≤ 9223372036854775807) ∧ (-9223372036854775808 ≤ l.far ∧ l.far ≤ 9223372036854775807)
theorem lright_bd {l : Lo} (h : lright l) : l.bd := by
  obtain ⟨h1, ⟨h2, h3⟩, h4, ⟨h5, h6⟩, ⟨h7, h8, h9, h10⟩, h11, h12⟩ := h
  refine ⟨by omega, ⟨by omega, by omega⟩, ⟨by omega, by omega⟩, ⟨by omega, by omega⟩, ⟨by omega, by omega⟩, ⟨by omega, by omega⟩, ⟨by omega, by omega⟩⟩
/-- The first address of the space in use, and of the other one. -/
def lto (l : Lo) : Int := if l.to = 0 then l.base else l.base + l.cap
def lfrom (l : Lo) : Int := if l.to = 0 then l.base + l.cap else l.base
/-- A part's first address, and how many it has. -/
def lpart (l : Lo) (p : Int) : Int × Int :=
  if p = 1 then (lto l, l.low) else if p = 2 then (lto l + (l.cap - l.high), l.high) else if p = 3 then (lfrom l, l.old) else if p = 4 then (lfrom l + (l.cap - l.far), l.far) else (0, 0)
def laddr (l : Lo) (p i : Int) : Int × Int := if lright l then if 0 ≤ i ∧ i < (lpart l p).2 then ((lpart l p).1 + i, 0) else (0, 6) else (0, 1)
def lin (l : Lo) (y p : Int) : Prop := (lpart l p).1 ≤ y ∧ y < (lpart l p).1 + (lpart l p).2
instance (l : Lo) (y p : Int) : Decidable (lin l y p) := by unfold lin; infer_instance
def lfind (l : Lo) (y : Int) : (Int × Int) × Int :=
  if lright l then if lin l y 1 then ((1, y - (lpart l 1).1), 0) else if lin l y 2 then ((2, y - (lpart l 2).1), 0) else if lin l y 3 then ((3, y - (lpart l 3).1), 0) else if lin l y 4 then ((4, y - (lpart l 4).1), 0) else ((0, 0), 6) else ((0, 0), 1)
def lflip (l : Lo) : Lo × Int := if lright l then (⟨l.base, l.cap, 1 - l.to, 0, 0, l.low, l.high⟩, 0) else (⟨0, 0, 0, 0, 0, 0, 0⟩, 1)
def lroom (l : Lo) : Int := if lright l then l.cap - l.low - l.high else 0

theorem lto_bd {l : Lo} (h : lright l) : 1 ≤ lto l ∧ lto l + l.cap ≤ 9223372036854775808 ∧ 1 ≤ lfrom l ∧ lfrom l + l.cap ≤ 9223372036854775808 := by
  obtain ⟨h1, ⟨h2, h3⟩, h4, ⟨h5, h6⟩, _⟩ := h
  unfold lto lfrom
  split <;> omega
theorem lpart_bd {l : Lo} (h : lright l) (p : Int) : 0 ≤ (lpart l p).1 ∧ 0 ≤ (lpart l p).2 ∧ (lpart l p).2 ≤ 4096 ∧ (lpart l p).1 + (lpart l p).2 ≤ 9223372036854775808 ∧ (lpart l p).1 ≤ 9223372036854775807 + 1 := by
  obtain ⟨t1, t2, t3, t4⟩ := lto_bd h
  obtain ⟨h1, ⟨h2, h3⟩, h4, ⟨h5, h6⟩, ⟨h7, h8, h9, h10⟩, h11, h12⟩ := h
  unfold lpart
  split
  · dsimp only; omega
  · split
    · dsimp only; omega
    · split
      · dsimp only; omega
      · split
        · dsimp only; omega
        · dsimp only; omega
theorem lin_le {l : Lo} {y p : Int} (h : lin l y p) : (p = 1 ∨ p = 2 ∨ p = 3 ∨ p = 4) := by
  unfold lin lpart at h
  by_cases h1 : p = 1
  · exact .inl h1
  · by_cases h2 : p = 2
    · exact .inr (.inl h2)
    · by_cases h3 : p = 3
      · exact .inr (.inr (.inl h3))
      · by_cases h4 : p = 4
        · exact .inr (.inr (.inr h4))
        · simp [h1, h2, h3, h4] at h; omega
/-- An address is at most one part's. -/
theorem lin_one {l : Lo} (h : lright l) {y p q : Int} (hp : lin l y p) (hq : lin l y q) : p = q := by
  have h1 := lin_le hp
  have h2 := lin_le hq
  obtain ⟨_, ⟨c0, _⟩, _, ⟨h5, h6⟩, ⟨h7, h8, h9, h10⟩, h11, h12⟩ := h
  unfold lin lpart lto lfrom at hp hq
  rcases h1 with rfl | rfl | rfl | rfl <;> rcases h2 with rfl | rfl | rfl | rfl <;> first | rfl | (simp at hp hq; split at hp <;> omega)
theorem lfind_in {l : Lo} (h : lright l) {y p : Int} (hp : lin l y p) : lfind l y = ((p, y - (lpart l p).1), 0) := by
  unfold lfind
  rw [if_pos h]
  by_cases h1 : lin l y 1
  · rw [if_pos h1, lin_one h hp h1]
  · rw [if_neg h1]
    by_cases h2 : lin l y 2
    · rw [if_pos h2, lin_one h hp h2]
    · rw [if_neg h2]
      by_cases h3 : lin l y 3
      · rw [if_pos h3, lin_one h hp h3]
      · rw [if_neg h3]
        by_cases h4 : lin l y 4
        · rw [if_pos h4, lin_one h hp h4]
        · rcases lin_le hp with rfl | rfl | rfl | rfl
          · exact absurd hp h1
          · exact absurd hp h2
          · exact absurd hp h3
          · exact absurd hp h4
theorem lfind_out {l : Lo} (h : lright l) {y : Int} (hn : ∀ p, ¬ lin l y p) : lfind l y = ((0, 0), 6) := by
  unfold lfind
  rw [if_pos h, if_neg (hn 1), if_neg (hn 2), if_neg (hn 3), if_neg (hn 4)]
theorem lfind_cases {l : Lo} (h : lright l) (y : Int) : (∃ p, lin l y p ∧ lfind l y = ((p, y - (lpart l p).1), 0)) ∨ ((∀ p, ¬ lin l y p) ∧ lfind l y = ((0, 0), 6)) := by
  by_cases hp : ∃ p, lin l y p
  · obtain ⟨p, hp⟩ := hp
    exact .inl ⟨p, hp, lfind_in h hp⟩
  · have hn : ∀ p, ¬ lin l y p := fun p h => hp ⟨p, h⟩
    exact .inr ⟨hn, lfind_out h hn⟩
theorem laddr_in {l : Lo} (h : lright l) {p i : Int} (hi : 0 ≤ i ∧ i < (lpart l p).2) : laddr l p i = ((lpart l p).1 + i, 0) := by unfold laddr; rw [if_pos h, if_pos hi]
theorem laddr_out {l : Lo} (h : lright l) {p i : Int} (hi : ¬ (0 ≤ i ∧ i < (lpart l p).2)) : laddr l p i = (0, 6) := by unfold laddr; rw [if_pos h, if_neg hi]
/-- Address undoes Find, and Find Address. -/
theorem laddr_find {l : Lo} (h : lright l) {y p : Int} (hp : lin l y p) : laddr l p (y - (lpart l p).1) = (y, 0) := by
  rw [laddr_in h (by unfold lin at hp; omega)]
  congr 1; omega
theorem lfind_addr {l : Lo} (h : lright l) {p i : Int} (hi : 0 ≤ i ∧ i < (lpart l p).2) : lfind l ((lpart l p).1 + i) = ((p, i), 0) := by
  rw [lfind_in h (p := p) (by unfold lin; omega)]
  congr 2; omega
theorem lflip_right {l : Lo} (h : lright l) : lright (lflip l).1 := by
  unfold lflip
  rw [if_pos h]
  obtain ⟨h1, ⟨h2, h3⟩, h4, ⟨h5, h6⟩, ⟨h7, h8, h9, h10⟩, h11, h12⟩ := h
  exact ⟨h1, ⟨h2, h3⟩, h4, ⟨by dsimp only; omega, by dsimp only; omega⟩, ⟨by dsimp only; omega, by dsimp only; omega, h7, h8⟩, by dsimp only; omega, h11⟩
end Go.Proofs.Ytifmlmbbmlnpmaa.V
