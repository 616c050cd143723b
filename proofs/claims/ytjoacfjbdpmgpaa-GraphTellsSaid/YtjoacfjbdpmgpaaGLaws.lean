/-
  The rest of stage 8's laws, on lists: roots that are the same, new nodes, how many words.
-/
import Derived.Test.YtjoacfjbdpmgpaaGRuns
set_option linter.unusedVariables false
namespace Go.Proofs.Ytjoacfjbdpmgpaa.V

/-- Roots of one node have the same slots. -/
theorem has_same {x : Gr} {a b k : Int} {v : Nat} (h : GHas x a k v) (hb : groot x b) (he : gat x b = gat x a) : GHas x b k v := by
  obtain ⟨h1, h2, h3, h4, h5⟩ := h
  have hn : gnode x b = gnode x a := by unfold gnode; rw [he]
  exact ⟨h1, hb, by omega, by rw [hn]; exact h4, by rw [hn]; exact h5⟩
theorem gat_assign {g : Gr} {a b : Int} (ha : groot g a) (hb : groot g b) : gat (grooted g a (gat g b)) a = gat g b ∧ gat (grooted g a (gat g b)) b = gat g b := by
  refine ⟨gat_rooted ha _, ?_⟩
  by_cases h : a = b
  · subst h; exact gat_rooted ha _
  · exact gat_other ha hb h _
/-- An empty root has no slots, whatever it is asked. -/
theorem none_slot {g : Gr} {a : Ac} (h : gright g) (hk : a.kind = 2 ∨ a.kind = 3 ∨ a.kind = 4 ∨ a.kind = 5) (hr : groot g a.r) (hs : groot g a.s) (h0 : gat g a.s < 0) : gdo g a = (0, ⟨[], []⟩, 6) := by
  have hn : gnames g a := by
    unfold gnames
    rcases hk with hk | hk | hk | hk
    · exact Or.inr (Or.inr ⟨Or.inl hk, hr, hs⟩)
    · exact Or.inr (Or.inl ⟨Or.inl hk, hs⟩)
    · exact Or.inr (Or.inr ⟨Or.inr (Or.inl hk), hr, hs⟩)
    · exact Or.inr (Or.inl ⟨Or.inr hk, hs⟩)
  rw [gdo_slot h hk hn, gslot_none h0]
theorem map_set_same {l : List Nd} {p : Nat} {z y : Nd} (h : l[p]? = some z) (he : ndw y = ndw z) : (l.set p y).map ndw = l.map ndw := by
  apply List.ext_getElem?
  intro i
  rw [List.getElem?_map, List.getElem?_map, List.getElem?_set]
  by_cases hi : p = i
  · subst hi
    obtain ⟨h1, h2⟩ := List.getElem?_eq_some_iff.1 h
    simp [h1, he, h2]
  · simp [hi]
theorem gwords_eq {g x : Gr} (hg : gright g) (hx : gright x) (h : x.nodes.map ndw = g.nodes.map ndw) : gwords x = gwords g := by unfold gwords; rw [if_pos hx, if_pos hg, h]
theorem gwords_turned {g : Gr} (h : gright g) {s : Int} (hs : groot g s) (h0 : 0 ≤ gat g s) {y : Nd} (hx : gright (gturned g (gat g s) y)) (hy : ndw y = ndw (gnode g s)) : gwords (gturned g (gat g s) y) = gwords g := by
  obtain ⟨z, hz, _, hz2⟩ := node_at h0 (gat_in h hs).2
  refine gwords_eq h hx ?_
  exact map_set_same hz2 (by rw [hy]; unfold gnode; rw [hz])
/-- How many words a graph has behind an act. -/
theorem gdo_words {g x : Gr} {a : Ac} {v : Nat} (hg : gright g) (hd : gdo g a = (v, x, 0)) : gwords x = gwords g + (if a.kind = 1 then 1 + a.size.toNat else 0) := by
  have hx := gdo_right hd
  by_cases hn : gnames g a
  · have hn' := hn
    unfold gnames at hn'
    rcases hn' with ⟨hk, hr⟩ | ⟨hk, hs⟩ | ⟨hk, hr, hs⟩
    · rcases hk with hk | hk
      · rw [gdo_new hg hk hr] at hd
        split at hd
        · rename_i hz
          simp only [Prod.mk.injEq] at hd
          obtain ⟨_, rfl, _⟩ := hd
          unfold gwords
          rw [if_pos hx, if_pos hg, if_pos hk]
          simp [ndw, gfresh]
          omega
        · simp at hd
      · rw [gdo_drop hg hk hr] at hd
        simp only [Prod.mk.injEq] at hd
        obtain ⟨_, rfl, _⟩ := hd
        rw [if_neg (by omega), gwords_eq hg hx rfl]
        rfl
    · rw [if_neg (by omega), Nat.add_zero]
      rcases hk with hk | hk
      · rw [gdo_slot hg (Or.inr (Or.inl hk)) hn] at hd
        by_cases h0 : 0 ≤ gat g a.s
        · rw [gslot_get h0 hk] at hd
          split at hd
          · simp only [Prod.mk.injEq] at hd
            obtain ⟨_, rfl, _⟩ := hd
            rfl
          · simp at hd
        · rw [gslot_none (by omega)] at hd
          simp at hd
      · rw [gdo_slot hg (Or.inr (Or.inr (Or.inr hk))) hn] at hd
        by_cases h0 : 0 ≤ gat g a.s
        · rw [gslot_set h0 hk] at hd
          split at hd
          · simp only [Prod.mk.injEq] at hd
            obtain ⟨_, rfl, _⟩ := hd
            exact gwords_turned hg hs h0 hx (by simp [ndw])
          · simp at hd
        · rw [gslot_none (by omega)] at hd
          simp at hd
    · rw [if_neg (by omega), Nat.add_zero]
      rcases hk with hk | hk | hk
      · rw [gdo_slot hg (Or.inl hk) hn] at hd
        by_cases h0 : 0 ≤ gat g a.s
        · rw [gslot_load h0 hk] at hd
          split at hd
          · simp only [Prod.mk.injEq] at hd
            obtain ⟨_, rfl, _⟩ := hd
            exact gwords_eq hg hx rfl
          · simp at hd
        · rw [gslot_none (by omega)] at hd
          simp at hd
      · rw [gdo_slot hg (Or.inr (Or.inr (Or.inl hk))) hn] at hd
        by_cases h0 : 0 ≤ gat g a.s
        · rw [gslot_store h0 hk] at hd
          split at hd
          · simp only [Prod.mk.injEq] at hd
            obtain ⟨_, rfl, _⟩ := hd
            exact gwords_turned hg hs h0 hx (by simp [ndw])
          · simp at hd
        · rw [gslot_none (by omega)] at hd
          simp at hd
      · rw [gdo_assign hg hk hr hs] at hd
        simp only [Prod.mk.injEq] at hd
        obtain ⟨_, rfl, _⟩ := hd
        exact gwords_eq hg hx rfl
  · rw [gdo_bad (fun hh => hn hh.2)] at hd
    simp at hd
/-- A new node: its slots; nobody points to it, and just root r is it. -/
theorem new_shape {g : Gr} {r size ptrs : Int} (hg : gright g) (hr : groot g r) (h0 : 0 ≤ size) (h1 : size ≤ 255) (h2 : 0 ≤ ptrs) (h3 : ptrs ≤ size) :
    ∃ x, gdo g ⟨1, r, 0, 0, size, ptrs, 0⟩ = (0, x, 0) ∧ x.nodes = g.nodes ++ [gfresh size ptrs] ∧ x.roots.length = g.roots.length ∧
      (∀ i : Nat, i < x.roots.length → (x.roots[i]? = some (g.nodes.length : Int) ↔ (i : Int) = r)) ∧ ∀ y ∈ x.nodes, ∀ p ∈ y.ptrs, p ≠ (g.nodes.length : Int) := by
  refine ⟨⟨g.nodes ++ [gfresh size ptrs], g.roots.set r.toNat g.nodes.length⟩, ?_, rfl, by simp, ?_, ?_⟩
  · rw [gdo_new hg rfl hr]
    dsimp only
    rw [if_pos ⟨h0, h1, h2, h3⟩]
  · intro i hi
    unfold groot at hr
    simp at hi
    dsimp only
    rw [List.getElem?_set]
    by_cases he : r.toNat = i
    · simp [he]; omega
    · rw [if_neg he]
      constructor
      · intro h
        have := hg.2.1 (g.nodes.length : Int) (List.mem_of_getElem? h)
        unfold gin at this
        omega
      · intro h; omega
  · intro y hy p hp
    simp only [List.mem_append, List.mem_singleton] at hy
    rcases hy with hy | rfl
    · have := (hg.2.2 y hy).2 p hp
      unfold gin at this
      omega
    · simp [gfresh] at hp
      omega
end Go.Proofs.Ytjoacfjbdpmgpaa.V
