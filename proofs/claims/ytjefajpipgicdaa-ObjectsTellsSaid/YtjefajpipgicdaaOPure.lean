/-
  Words as objects, on lists: what is walked, what each word is, what is laid; the laws of stage 6 there.
-/
import Derived.Test.YtjefajpipgicdaaHForms
set_option linter.unusedVariables false
namespace Go.Proofs.Ytjefajpipgicdaa.V

/-- An object: where it is, its shape, whether it is gone, and where to. -/
structure Ob where
  pos : Int
  size : Int
  ptrs : Int
  gone : Bool
  tgt : Nat
deriving DecidableEq, Inhabited
abbrev Shp := Int × Int

def isPtr (w : Nat) : Bool := w == 0 || (haddr w).2 == 0
/-- May these be the slots of an object of so many pointers, gone or not? -/
def slotsOk : List Nat → Int → Bool → Bool
  | [], _, _ => true
  | x :: r, p, g => (!g || x == 0) && (!decide (0 < p) || isPtr x) && slotsOk r (p - 1) g
/-- What begins with a word: Size, Ptrs, gone, its target, and the shapes that are left. -/
def headOf (w : Nat) (sh : List Shp) (old : Bool) : Option ((Nat × Nat × Bool × Nat) × List Shp) :=
  if old && (haddr w).2 == 0 then
    match sh with
    | [] => none
    | (s, p) :: r => if hright s p then some ((s.toNat, p.toNat, true, (haddr w).1), r) else none
  else if (hunpack w).2.2 == 0 then some (((hunpack w).1, (hunpack w).2.1, false, 0), sh) else none
/-- The objects from a place on, and an error's number. -/
def walkF : Nat → Nat → List Nat → List Shp → Bool → List Ob × Nat
  | 0, _, _, _, _ => ([], 0)
  | _ + 1, _, [], sh, _ => if sh.isEmpty then ([], 0) else ([], 3)
  | f + 1, pos, w :: r, sh, old =>
    match headOf w sh old with
    | none => ([], 3)
    | some ((s, p, g, t), sh') =>
      if r.length < s then ([], 2) else if slotsOk (r.take s) p g then
        if (walkF f (pos + 1 + s) (r.drop s) sh' old).2 = 0 then (⟨pos, s, p, g, t⟩ :: (walkF f (pos + 1 + s) (r.drop s) sh' old).1, 0) else ([], (walkF f (pos + 1 + s) (r.drop s) sh' old).2)
      else ([], 3)
def walkL (ws : List Nat) (sh : List Shp) (old : Bool) : List Ob × Nat := walkF (ws.length + 1) 0 ws sh old
def kindsF : Int → List Ob → Option (List Int)
  | _, [] => some []
  | n, o :: r => if hright o.size o.ptrs ∧ o.pos = n then (kindsF (n + 1 + o.size) r).map fun k => 1 :: (List.replicate o.ptrs.toNat 2 ++ (List.replicate (o.size.toNat - o.ptrs.toNat) 3 ++ k)) else none
def kindsL (n : Nat) (l : List Ob) : List Int × Nat :=
  match kindsF 0 l with
  | some k => if k.length = n then (k, 0) else ([], 1)
  | none => ([], 1)
def layL (s p : Int) (l : List Nat) : List Nat × Nat := if hright s p ∧ (l.length : Int) = s then if slotsOk l p false then (hpack s.toNat p.toNat :: l, 0) else ([], 3) else ([], 1)

theorem isPtr_zero : isPtr 0 = true := rfl
theorem haddr_even (w : Nat) (h : w % 2 = 0) : (haddr w).2 ≠ 0 := by
  unfold haddr
  split
  · simp
  · rw [if_pos (Or.inl h)]; simp
theorem haddr_odd (w : Nat) (h : w % 2 = 1) (h1 : w ≠ 1) : haddr w = (w / 2, 0) := by
  unfold haddr
  rw [if_neg (by omega), if_neg (by omega)]
theorem isPtr_iff (w : Nat) : isPtr w = true ↔ w = 0 ∨ (w % 2 = 1 ∧ w ≠ 1) := by
  unfold isPtr
  by_cases h0 : w = 0
  · simp [h0]
  · by_cases h1 : w % 2 = 0
    · have := haddr_even w h1
      simp [h0, this]; omega
    · by_cases h2 : w = 1
      · subst h2; decide
      · rw [haddr_odd w (by omega) h2]
        simp; omega
theorem hpack_even (s p : Nat) : hpack s p % 2 = 0 := by unfold hpack; omega
theorem hunpack_odd (w : Nat) (h : w % 2 = 1) : (hunpack w).2.2 ≠ 0 := by
  intro h0
  have := (hunpack_ok w h0).2.2
  unfold hpack at this
  omega

theorem walkF_fuel : ∀ (f g pos : Nat) (ws : List Nat) (sh : List Shp) (old : Bool), ws.length < f → ws.length < g → walkF f pos ws sh old = walkF g pos ws sh old
  | 0, _, _, _, _, _, h, _ => by omega
  | _, 0, _, _, _, _, _, h => by omega
  | f + 1, g + 1, pos, [], sh, old, _, _ => rfl
  | f + 1, g + 1, pos, w :: r, sh, old, hf, hg => by
    simp only [walkF]
    cases headOf w sh old with
    | none => rfl
    | some x =>
      obtain ⟨⟨s, p, gn, t⟩, sh'⟩ := x
      have := walkF_fuel f g (pos + 1 + s) (r.drop s) sh' old (by simp at hf ⊢; omega) (by simp at hg ⊢; omega)
      simp only [this]

/-- One object's words, as they are laid. -/
structure It where
  s : Nat
  p : Nat
  gone : Bool
  tgt : Nat
  slots : List Nat
deriving Inhabited
def It.ok (i : It) : Prop := i.s ≤ 255 ∧ i.p ≤ i.s ∧ i.slots.length = i.s ∧ slotsOk i.slots i.p i.gone = true ∧ (i.gone = true → 1 ≤ i.tgt) ∧ (i.gone = false → i.tgt = 0)
def It.words (i : It) : List Nat := (if i.gone then 2 * i.tgt + 1 else hpack i.s i.p) :: i.slots
def itWords (l : List It) : List Nat := l.flatMap It.words
def itShapes (l : List It) : List Shp := (l.filter (·.gone)).map fun i => ((i.s : Int), (i.p : Int))
def itObs : Nat → List It → List Ob
  | _, [] => []
  | n, i :: r => ⟨n, i.s, i.p, i.gone, i.tgt⟩ :: itObs (n + 1 + i.s) r
theorem It.words_len (i : It) (h : i.ok) : i.words.length = 1 + i.s := by simp [It.words, h.2.2.1]; omega

theorem head_item (i : It) (h : i.ok) (old : Bool) (hold : old = true ∨ i.gone = false) (sh : List Shp) :
    headOf (if i.gone then 2 * i.tgt + 1 else hpack i.s i.p) (itShapes [i] ++ sh) old = some ((i.s, i.p, i.gone, i.tgt), sh) := by
  obtain ⟨h1, h2, h3, h4, h5, h6⟩ := h
  cases hg : i.gone with
  | true =>
    have ho : old = true := by rcases hold with h | h; exact h; rw [hg] at h; cases h
    have ht := h5 hg
    subst ho
    simp only [if_true, headOf, itShapes, List.filter, hg, List.map]
    rw [haddr_ref i.tgt ht]
    simp only [beq_self_eq_true, Bool.and_self, if_true, List.cons_append, List.nil_append]
    rw [if_pos ⟨by omega, by omega, by omega, by omega⟩]
    simp
  | false =>
    have ht := h6 hg
    have he := haddr_even (hpack i.s i.p) (hpack_even i.s i.p)
    simp only [headOf, itShapes, List.filter, hg, List.map, List.nil_append, Bool.false_eq_true, if_false]
    rw [if_neg (by simp [he]), hunpack_pack i.s i.p h1 h2]
    simp [ht]

theorem walkF_items : ∀ (l : List It) (f pos : Nat) (rest : List Nat) (sh : List Shp) (old : Bool), (∀ i ∈ l, i.ok) → (old = true ∨ ∀ i ∈ l, i.gone = false) → (itWords l ++ rest).length < f →
    walkF f pos (itWords l ++ rest) (itShapes l ++ sh) old =
      if (walkF f (pos + (itWords l).length) rest sh old).2 = 0 then (itObs pos l ++ (walkF f (pos + (itWords l).length) rest sh old).1, 0) else ([], (walkF f (pos + (itWords l).length) rest sh old).2)
  | [], f, pos, rest, sh, old, _, _, hf => by
    have key : ∀ (f pos : Nat) (ws : List Nat) (sh : List Shp), (walkF f pos ws sh old).2 ≠ 0 → (walkF f pos ws sh old).1 = [] := by
      intro f
      induction f with
      | zero => intro pos ws sh h; rfl
      | succ f ih =>
        intro pos ws sh h
        cases ws with
        | nil => simp only [walkF] at h ⊢; split <;> rfl
        | cons w r =>
          simp only [walkF] at h ⊢
          cases hh : headOf w sh old with
          | none => rfl
          | some x =>
            obtain ⟨⟨s, p, gn, t⟩, sh'⟩ := x
            simp only [hh] at h ⊢
            split
            · rfl
            · split
              · split
                · rename_i h1 h2 h3; simp only [h1, h2, h3, if_true, if_false] at h; simp at h
                · rfl
              · rfl
    simp only [itWords, List.flatMap_nil, List.nil_append, itShapes, List.filter_nil, List.map_nil, List.length_nil, Nat.add_zero, itObs]
    split
    · rename_i h; exact Prod.ext rfl h
    · rename_i h; exact Prod.ext (key _ _ _ _ h) rfl
  | i :: l, 0, pos, rest, sh, old, _, _, hf => by omega
  | i :: l, f + 1, pos, rest, sh, old, hok, hold, hf => by
    have hi := hok i (by simp)
    have hold1 : old = true ∨ i.gone = false := hold.imp id fun h => h i (by simp)
    have hlen := It.words_len i hi
    have hsl := hi.2.2.1
    have e1 : itWords (i :: l) ++ rest = (if i.gone then 2 * i.tgt + 1 else hpack i.s i.p) :: (i.slots ++ (itWords l ++ rest)) := by simp [itWords, It.words]
    have e2 : itShapes (i :: l) ++ sh = itShapes [i] ++ (itShapes l ++ sh) := by
      simp only [itShapes, List.filter]
      cases i.gone <;> simp
    have ih := walkF_items l f (pos + 1 + i.s) rest sh old (fun j hj => hok j (by simp [hj])) (hold.imp id fun h j hj => h j (by simp [hj])) (by
      rw [e1] at hf; simp at hf ⊢; omega)
    have e3 : (itWords (i :: l)).length = 1 + i.s + (itWords l).length := by simp only [itWords, List.flatMap_cons, List.length_append, hlen]
    have e4 : walkF (f + 1) (pos + (itWords (i :: l)).length) rest sh old = walkF f (pos + 1 + i.s + (itWords l).length) rest sh old := by
      rw [e3, walkF_fuel (f + 1) f _ _ _ _ (by rw [e1] at hf; simp at hf ⊢; omega) (by rw [e1] at hf; simp at hf ⊢; omega)]
      congr 1; omega
    rw [e4, e1, e2]
    simp only [walkF, head_item i hi old hold1]
    rw [if_neg (by simp [hsl]), List.take_left' hsl, if_pos hi.2.2.2.1, List.drop_left' hsl, ih]
    by_cases h0 : (walkF f (pos + 1 + i.s + (itWords l).length) rest sh old).2 = 0
    · simp [h0, itObs]
    · simp [h0]
end Go.Proofs.Ytjefajpipgicdaa.V
