/-
  The laws of stage 6 on lists.
-/
import Derived.Test.YtjefajpipgicdaaOPure
set_option linter.unusedVariables false
namespace Go.Proofs.Ytjefajpipgicdaa.V

theorem itWords_app (a b : List It) : itWords (a ++ b) = itWords a ++ itWords b := by simp [itWords]
theorem itWords_cons (i : It) (b : List It) : itWords (i :: b) = i.words ++ itWords b := by simp [itWords]
theorem itShapes_app (a b : List It) : itShapes (a ++ b) = itShapes a ++ itShapes b := by simp [itShapes]
theorem itShapes_none (l : List It) (h : ∀ i ∈ l, i.gone = false) : itShapes l = [] := by
  simp only [itShapes, List.map_eq_nil_iff, List.filter_eq_nil_iff]
  intro i hi; simp [h i hi]
theorem itObs_app (a b : List It) : ∀ n, itObs n (a ++ b) = itObs n a ++ itObs (n + ((a.map (fun i => 1 + i.s)).sum)) b := by
  induction a with
  | nil => intro n; simp [itObs]
  | cons i a ih =>
    intro n
    simp only [List.cons_append, itObs, ih, List.map_cons, List.sum_cons]
    rw [show n + 1 + i.s + (a.map (fun i => 1 + i.s)).sum = n + (1 + i.s + (a.map (fun i => 1 + i.s)).sum) by omega]
theorem itWords_len (l : List It) (h : ∀ i ∈ l, i.ok) : (itWords l).length = (l.map (fun i => 1 + i.s)).sum := by
  induction l with
  | nil => rfl
  | cons i l ih =>
    rw [itWords_cons, List.length_append, It.words_len i (h i (by simp)), ih (fun j hj => h j (by simp [hj]))]
    simp
theorem itObs_len (l : List It) : ∀ n, (itObs n l).length = l.length := by
  induction l with
  | nil => intro n; rfl
  | cons i l ih => intro n; simp [itObs, ih]

theorem walk_items (l : List It) (old : Bool) (h : ∀ i ∈ l, i.ok) (ho : old = true ∨ ∀ i ∈ l, i.gone = false) : walkL (itWords l) (itShapes l) old = (itObs 0 l, 0) := by
  have := walkF_items l ((itWords l).length + 1) 0 [] [] old h ho (by simp)
  simp only [List.append_nil] at this
  rw [walkL, this]
  simp [walkF]
theorem walk_none (l : List It) (old : Bool) (h : ∀ i ∈ l, i.ok) (ho : ∀ i ∈ l, i.gone = false) : walkL (itWords l) [] old = (itObs 0 l, 0) := by
  have := walk_items l old h (Or.inr ho)
  rwa [itShapes_none l ho] at this
theorem walk_more (l : List It) (x : Shp) (h : ∀ i ∈ l, i.ok) : walkL (itWords l) (itShapes l ++ [x]) true = ([], 3) := by
  have := walkF_items l ((itWords l).length + 1) 0 [] [x] true h (Or.inl rfl) (by simp)
  simp only [List.append_nil] at this
  rw [walkL, this]
  simp [walkF]
/-- Behind items: an error is the whole's. -/
theorem walk_err (a : List It) (rest : List Nat) (sh : List Shp) (old : Bool) (e : Nat) (h : ∀ i ∈ a, i.ok) (ho : old = true ∨ ∀ i ∈ a, i.gone = false) (he : e ≠ 0)
    (hr : (walkF (rest.length + 1) (itWords a).length rest sh old).2 = e) : walkL (itWords a ++ rest) (itShapes a ++ sh) old = ([], e) := by
  have := walkF_items a ((itWords a ++ rest).length + 1) 0 rest sh old h ho (by simp)
  rw [walkL, this, Nat.zero_add, walkF_fuel _ (rest.length + 1) _ _ _ _ (by simp; omega) (by omega), if_neg (by omega), hr]
theorem split_last (l : List It) (h : itShapes l ≠ []) : ∃ a g b, l = a ++ g :: b ∧ g.gone = true ∧ itShapes b = [] := by
  induction l with
  | nil => exact absurd rfl h
  | cons i l ih =>
    by_cases hl : itShapes l = []
    · cases hg : i.gone with
      | true => exact ⟨[], i, l, rfl, hg, hl⟩
      | false =>
        have : itShapes (i :: l) = itShapes l := by simp [itShapes, List.filter, hg]
        exact absurd (this.trans hl) h
    · obtain ⟨a, g, b, rfl, hg, hb⟩ := ih hl
      exact ⟨i :: a, g, b, rfl, hg, hb⟩
theorem split_first (l : List It) (h : itShapes l ≠ []) : ∃ a g b, l = a ++ g :: b ∧ g.gone = true ∧ ∀ i ∈ a, i.gone = false := by
  induction l with
  | nil => exact absurd rfl h
  | cons i l ih =>
    cases hg : i.gone with
    | true => exact ⟨[], i, l, rfl, hg, by simp⟩
    | false =>
      have : itShapes (i :: l) = itShapes l := by simp [itShapes, List.filter, hg]
      obtain ⟨a, g, b, rfl, hg2, hb⟩ := ih (by rwa [this] at h)
      exact ⟨i :: a, g, b, rfl, hg2, by intro j hj; rcases List.mem_cons.1 hj with rfl | hj; exact hg; exact hb j hj⟩
theorem gone_words (g : It) (hg : g.gone = true) : g.words = (2 * g.tgt + 1) :: g.slots := by simp [It.words, hg]
theorem walk_fewer (l : List It) (h : ∀ i ∈ l, i.ok) (hn : itShapes l ≠ []) : walkL (itWords l) (itShapes l).dropLast true = ([], 3) := by
  obtain ⟨a, g, b, rfl, hg, hb⟩ := split_last l hn
  have hgo := h g (by simp)
  have ht := hgo.2.2.2.2.1 hg
  have e : (itShapes (a ++ g :: b)).dropLast = itShapes a ++ [] := by
    have : itShapes (g :: b) = [((g.s : Int), (g.p : Int))] := by
      have hb' : b.filter (·.gone) = [] := by simpa [itShapes] using hb
      simp [itShapes, List.filter, hg, hb']
    rw [itShapes_app, this, List.dropLast_concat, List.append_nil]
  rw [e, itWords_app]
  refine walk_err a _ [] true 3 (fun i hi => h i (by simp [hi])) (Or.inl rfl) (by decide) ?_
  rw [itWords_cons, gone_words g hg]
  simp only [List.cons_append, walkF, headOf, haddr_ref g.tgt ht]
  simp
theorem walk_gone (l : List It) (h : ∀ i ∈ l, i.ok) (hn : itShapes l ≠ []) : walkL (itWords l) [] false = ([], 3) := by
  obtain ⟨a, g, b, rfl, hg, hb⟩ := split_first l hn
  have e : ([] : List Shp) = itShapes a ++ [] := by rw [itShapes_none a hb]; rfl
  rw [e, itWords_app]
  refine walk_err a _ [] false 3 (fun i hi => h i (by simp [hi])) (Or.inr hb) (by decide) ?_
  rw [itWords_cons, gone_words g hg]
  have hu := hunpack_odd (2 * g.tgt + 1) (by omega)
  simp only [List.cons_append, walkF, headOf]
  simp [hu]

/-- A place among the words of items: at the beginning of one, or behind them all; or within one. -/
theorem place (l : List It) (h : ∀ i ∈ l, i.ok) : ∀ k, k ≤ (itWords l).length →
    (∃ a b, l = a ++ b ∧ k = (itWords a).length) ∨ (∃ a i b m, l = a ++ i :: b ∧ k = (itWords a).length + m ∧ 1 ≤ m ∧ m ≤ i.s) := by
  induction l with
  | nil => intro k hk; exact Or.inl ⟨[], [], rfl, by simpa [itWords] using hk⟩
  | cons i l ih =>
    intro k hk
    have hi := It.words_len i (h i (by simp))
    rw [itWords_cons, List.length_append, hi] at hk
    by_cases h0 : k = 0
    · exact Or.inl ⟨[], i :: l, rfl, by simpa [itWords] using h0⟩
    · by_cases h1 : k ≤ i.s
      · exact Or.inr ⟨[], i, l, k, rfl, by simp [itWords], by omega, h1⟩
      · rcases ih (fun j hj => h j (by simp [hj])) (k - (1 + i.s)) (by omega) with ⟨a, b, rfl, he⟩ | ⟨a, j, b, m, rfl, he, hm, hm2⟩
        · exact Or.inl ⟨i :: a, b, rfl, by rw [itWords_cons, List.length_append, hi]; omega⟩
        · exact Or.inr ⟨i :: a, j, b, m, rfl, by rw [itWords_cons, List.length_append, hi]; omega, hm, hm2⟩
theorem walk_cut (l a b : List It) (i : It) (m : Nat) (h : ∀ i ∈ l, i.ok) (ho : ∀ i ∈ l, i.gone = false) (hl : l = a ++ i :: b) (h1 : 1 ≤ m) (h2 : m ≤ i.s) :
    walkL ((itWords l).take ((itWords a).length + m)) [] false = ([], 2) := by
  subst hl
  have hi := h i (by simp)
  have e : ([] : List Shp) = itShapes a ++ [] := by rw [itShapes_none a (fun j hj => ho j (by simp [hj]))]; rfl
  have e2 : (itWords (a ++ i :: b)).take ((itWords a).length + m) = itWords a ++ (hpack i.s i.p :: i.slots.take (m - 1)) := by
    rw [itWords_app, List.take_length_add_append, itWords_cons, It.words, ho i (by simp)]
    simp only [Bool.false_eq_true, if_false]
    rw [show m = (m - 1) + 1 by omega, List.cons_append, List.take_succ_cons, List.take_append_of_le_length (by rw [hi.2.2.1]; omega)]
    rfl
  rw [e, e2]
  refine walk_err a _ [] false 2 (fun j hj => h j (by simp [hj])) (Or.inr fun j hj => ho j (by simp [hj])) (by decide) ?_
  have hh := head_item i hi false (Or.inr (ho i (by simp))) []
  rw [ho i (by simp), itShapes_none [i] (by intro j hj; simp at hj; subst hj; exact ho j (by simp))] at hh
  simp only [Bool.false_eq_true, if_false, List.nil_append] at hh
  simp only [walkF, hh]
  rw [if_pos (by simp; omega)]

theorem slotsOk_set : ∀ (l : List Nat) (p : Int) (k w : Nat), k < l.length → slotsOk l p false = true → slotsOk (l.set k w) p false = (!decide ((k : Int) < p) || isPtr w)
  | [], _, _, _, h, _ => by simp at h
  | x :: r, p, 0, w, _, h => by
    simp only [slotsOk, Bool.and_eq_true] at h
    simp only [List.set_cons_zero, slotsOk, h.2, Bool.and_true]
    simp
  | x :: r, p, k + 1, w, hk, h => by
    simp only [slotsOk, Bool.and_eq_true] at h
    have := slotsOk_set r (p - 1) k w (by simpa using hk) h.2
    simp only [List.set_cons_succ, slotsOk, this, h.1]
    have e : decide ((k : Int) < p - 1) = decide (((k + 1 : Nat) : Int) < p) := by simp; omega
    rw [e]; simp
/-- A slot that is another word. -/
theorem walk_slot (l a b : List It) (i : It) (m w : Nat) (h : ∀ i ∈ l, i.ok) (ho : ∀ i ∈ l, i.gone = false) (hl : l = a ++ i :: b) (h1 : 1 ≤ m) (h2 : m ≤ i.s) :
    walkL ((itWords l).set ((itWords a).length + m) w) [] false = if i.p < m ∨ isPtr w = true then (itObs 0 l, 0) else ([], 3) := by
  subst hl
  have hi := h i (by simp)
  have hg := ho i (by simp)
  have hs := slotsOk_set i.slots i.p (m - 1) w (by rw [hi.2.2.1]; omega) (by rw [← hg]; exact hi.2.2.2.1)
  have e2 : (itWords (a ++ i :: b)).set ((itWords a).length + m) w = itWords a ++ (hpack i.s i.p :: (i.slots.set (m - 1) w ++ itWords b)) := by
    rw [itWords_app, List.set_append_right _ _ (by omega), itWords_cons, It.words, hg]
    simp only [Bool.false_eq_true, if_false]
    rw [show (itWords a).length + m - (itWords a).length = (m - 1) + 1 by omega, List.cons_append, List.set_cons_succ, List.set_append_left _ _ (by rw [hi.2.2.1]; omega)]
  rw [e2]
  split
  · rename_i hc
    have hs2 : slotsOk (i.slots.set (m - 1) w) i.p false = true := by
      rw [hs]
      rcases hc with hc | hc
      · have : ¬ ((m - 1 : Nat) : Int) < (i.p : Int) := by omega
        simp [this]
      · simp [hc]
    have := walk_none (a ++ { i with slots := i.slots.set (m - 1) w } :: b) false (by
      intro j hj
      rcases List.mem_append.1 hj with hj | hj
      · exact h j (by simp [hj])
      · rcases List.mem_cons.1 hj with rfl | hj
        · exact ⟨hi.1, hi.2.1, by simp [hi.2.2.1], by simp only [hg]; exact hs2, hi.2.2.2.2.1, hi.2.2.2.2.2⟩
        · exact h j (by simp [hj])) (by
      intro j hj
      rcases List.mem_append.1 hj with hj | hj
      · exact ho j (by simp [hj])
      · rcases List.mem_cons.1 hj with rfl | hj
        · exact hg
        · exact ho j (by simp [hj]))
    have e3 : itWords (a ++ { i with slots := i.slots.set (m - 1) w } :: b) = itWords a ++ (hpack i.s i.p :: (i.slots.set (m - 1) w ++ itWords b)) := by
      rw [itWords_app, itWords_cons, It.words]; simp [hg]
    have e4 : itObs 0 (a ++ { i with slots := i.slots.set (m - 1) w } :: b) = itObs 0 (a ++ i :: b) := by
      rw [itObs_app, itObs_app]; simp [itObs]
    rw [← e3, this, e4]
  · rename_i hc
    have e : ([] : List Shp) = itShapes a ++ [] := by rw [itShapes_none a (fun j hj => ho j (by simp [hj]))]; rfl
    have hh := head_item i hi false (Or.inr hg) []
    rw [hg, itShapes_none [i] (by intro j hj; simp at hj; subst hj; exact hg)] at hh
    simp only [Bool.false_eq_true, if_false, List.nil_append] at hh
    rw [e]
    refine walk_err a _ [] false 3 (fun j hj => h j (by simp [hj])) (Or.inr fun j hj => ho j (by simp [hj])) (by decide) ?_
    simp only [walkF, hh]
    have hs2 : slotsOk (i.slots.set (m - 1) w) i.p false = false := by
      rw [hs]
      simp only [not_or] at hc
      have h5 : ((m - 1 : Nat) : Int) < (i.p : Int) := by omega
      simp [h5, hc.2]
    rw [if_neg (by simp [hi.2.2.1]), List.take_left' (by simp [hi.2.2.1]), if_neg (by simp [hs2])]
/-- A header that is an odd word. -/
theorem walk_head (l a b : List It) (i : It) (w : Nat) (h : ∀ i ∈ l, i.ok) (ho : ∀ i ∈ l, i.gone = false) (hl : l = a ++ i :: b) (hw : w % 2 = 1) :
    walkL ((itWords l).set (itWords a).length w) [] false = ([], 3) := by
  subst hl
  have e2 : (itWords (a ++ i :: b)).set (itWords a).length w = itWords a ++ (w :: (i.slots ++ itWords b)) := by
    rw [itWords_app, List.set_append_right _ _ (by omega), itWords_cons, It.words]
    simp
  have e : ([] : List Shp) = itShapes a ++ [] := by rw [itShapes_none a (fun j hj => ho j (by simp [hj]))]; rfl
  rw [e, e2]
  refine walk_err a _ [] false 3 (fun j hj => h j (by simp [hj])) (Or.inr fun j hj => ho j (by simp [hj])) (by decide) ?_
  have hu := hunpack_odd w hw
  simp only [walkF, headOf]
  simp [hu]

/-- What each word of items is. -/
def itKinds (l : List It) : List Int := l.flatMap fun i => 1 :: (List.replicate i.p 2 ++ List.replicate (i.s - i.p) 3)
theorem itKinds_len (l : List It) (h : ∀ i ∈ l, i.ok) : (itKinds l).length = (itWords l).length := by
  induction l with
  | nil => rfl
  | cons i l ih =>
    have hi := h i (by simp)
    rw [itWords_cons, List.length_append, It.words_len i hi, ← ih (fun j hj => h j (by simp [hj]))]
    have := hi.2.1
    simp [itKinds]; omega
theorem kindsF_items (l : List It) (h : ∀ i ∈ l, i.ok) : ∀ n : Nat, kindsF n (itObs n l) = some (itKinds l) := by
  induction l with
  | nil => intro n; rfl
  | cons i l ih =>
    intro n
    have hi := h i (by simp)
    have ih' := ih (fun j hj => h j (by simp [hj])) (n + 1 + i.s)
    simp only [itObs, kindsF]
    rw [if_pos ⟨⟨by omega, by have := hi.1; omega, by omega, by have := hi.2.1; omega⟩, trivial⟩]
    have e : ((n : Int) + 1 + (i.s : Int)) = ((n + 1 + i.s : Nat) : Int) := by omega
    rw [e, ih']
    simp [itKinds]
theorem kinds_items (l : List It) (h : ∀ i ∈ l, i.ok) : kindsL (itWords l).length (itObs 0 l) = (itKinds l, 0) := by
  have := kindsF_items l h 0
  simp only [kindsL]
  rw [show ((0 : Nat) : Int) = 0 from rfl] at this
  rw [this]
  simp [itKinds_len l h]
end Go.Proofs.Ytjefajpipgicdaa.V
