/-
  What an act changes: one root, or one slot, or one node more, and nothing else: on lists.
-/
import Derived.Test.YtjoacfjbdpmgpaaGLaws
set_option linter.unusedVariables false
namespace Go.Proofs.Ytjoacfjbdpmgpaa.V

/-- What stands in two nodes is the same but for one slot, if the act is one on that slot. -/
def NdKeep (g : Gr) (a : Ac) (i : Nat) (p q : Nd) : Prop := p.ptrs.length = q.ptrs.length ∧ p.data.length = q.data.length ∧
  (∀ k : Nat, p.ptrs[k]? ≠ q.ptrs[k]? → a.kind = 4 ∧ (i : Int) = gat g a.s ∧ (k : Int) = a.i) ∧ (∀ k : Nat, p.data[k]? ≠ q.data[k]? → a.kind = 5 ∧ (i : Int) = gat g a.s ∧ (k : Int) = a.i)
theorem NdKeep.refl (g : Gr) (a : Ac) (i : Nat) (p : Nd) : NdKeep g a i p p := ⟨rfl, rfl, fun _ h => absurd rfl h, fun _ h => absurd rfl h⟩
def GKeep (g x : Gr) (a : Ac) : Prop := x.roots.length = g.roots.length ∧ x.nodes.length = g.nodes.length + (if a.kind = 1 then 1 else 0) ∧
  (∀ i : Nat, x.roots[i]? ≠ g.roots[i]? → (i : Int) = a.r ∧ a.kind ≠ 3 ∧ a.kind ≠ 4 ∧ a.kind ≠ 5) ∧
  ∀ i : Nat, i < g.nodes.length → ∃ p q, g.nodes[i]? = some p ∧ x.nodes[i]? = some q ∧ NdKeep g a i p q
theorem set_diff {l : List Int} {r i : Nat} {v : Int} (h : (l.set r v)[i]? ≠ l[i]?) : i = r := by
  by_cases he : r = i
  · exact he.symm
  · rw [List.getElem?_set, if_neg he] at h
    exact absurd rfl h
theorem nodes_same {g : Gr} {a : Ac} (i : Nat) (hi : i < g.nodes.length) : ∃ p q, g.nodes[i]? = some p ∧ g.nodes[i]? = some q ∧ NdKeep g a i p q :=
  ⟨g.nodes[i], g.nodes[i], by simp [hi], by simp [hi], NdKeep.refl _ _ _ _⟩
theorem keep_rooted {g : Gr} {a : Ac} (hr : groot g a.r) (hk : a.kind = 2 ∨ a.kind = 6 ∨ a.kind = 7) (to : Int) : GKeep g (grooted g a.r to) a := by
  refine ⟨by simp [grooted], by rw [if_neg (by omega)]; rfl, ?_, fun i hi => nodes_same i hi⟩
  intro i h
  have := set_diff h
  unfold groot at hr
  exact ⟨by omega, by omega, by omega, by omega⟩
theorem keep_turned {g : Gr} {a : Ac} {y : Nd} (h : gright g) (hs : groot g a.s) (h0 : 0 ≤ gat g a.s) (hk : a.kind ≠ 1) (hy : ∀ i : Nat, (i : Int) = gat g a.s → NdKeep g a i (gnode g a.s) y) : GKeep g (gturned g (gat g a.s) y) a := by
  refine ⟨rfl, by rw [if_neg hk]; simp [gturned], fun i h => absurd rfl h, ?_⟩
  intro i hi
  have hlt := (gat_in h hs).2
  by_cases he : (gat g a.s).toNat = i
  · obtain ⟨z, hz, _, hz2⟩ := node_at h0 hlt
    have hg : gnode g a.s = z := hz
    refine ⟨z, y, by rw [← he]; exact hz2, ?_, by have := hy i (by omega); rw [hg] at this; exact this⟩
    simp [gturned, he, hi]
  · refine ⟨g.nodes[i], g.nodes[i], by simp [hi], ?_, NdKeep.refl _ _ _ _⟩
    simp [gturned, he, hi]
theorem gdo_keeps {g x : Gr} {a : Ac} {v : Nat} (hg : gright g) (hd : gdo g a = (v, x, 0)) : GKeep g x a := by
  by_cases hn : gnames g a
  · have hn' := hn
    unfold gnames at hn'
    rcases hn' with ⟨hk, hr⟩ | ⟨hk, hs⟩ | ⟨hk, hr, hs⟩
    · rcases hk with hk | hk
      · rw [gdo_new hg hk hr] at hd
        split at hd
        · simp only [Prod.mk.injEq] at hd
          obtain ⟨_, rfl, _⟩ := hd
          refine ⟨by simp, by rw [if_pos hk]; simp, ?_, ?_⟩
          · intro i h
            have := set_diff h
            unfold groot at hr
            exact ⟨by omega, by omega, by omega, by omega⟩
          · intro i hi
            exact ⟨g.nodes[i], g.nodes[i], by simp [hi], by simp [List.getElem?_append_left hi, hi], NdKeep.refl _ _ _ _⟩
        · simp at hd
      · rw [gdo_drop hg hk hr] at hd
        simp only [Prod.mk.injEq] at hd
        obtain ⟨_, rfl, _⟩ := hd
        exact keep_rooted hr (by omega) _
    · rcases hk with hk | hk
      · rw [gdo_slot hg (Or.inr (Or.inl hk)) hn] at hd
        by_cases h0 : 0 ≤ gat g a.s
        · rw [gslot_get h0 hk] at hd
          split at hd
          · simp only [Prod.mk.injEq] at hd
            obtain ⟨_, rfl, _⟩ := hd
            exact ⟨rfl, by rw [if_neg (by omega)]; rfl, fun i h => absurd rfl h, fun i hi => nodes_same i hi⟩
          · simp at hd
        · rw [gslot_none (by omega)] at hd
          simp at hd
      · rw [gdo_slot hg (Or.inr (Or.inr (Or.inr hk))) hn] at hd
        by_cases h0 : 0 ≤ gat g a.s
        · rw [gslot_set h0 hk] at hd
          split at hd
          · simp only [Prod.mk.injEq] at hd
            obtain ⟨_, rfl, _⟩ := hd
            refine keep_turned hg hs h0 (by omega) fun i hi => ⟨rfl, by simp, fun _ h => absurd rfl h, ?_⟩
            intro k h
            have : k = a.i.toNat := by
              by_cases he : a.i.toNat = k
              · exact he.symm
              · dsimp only at h
                rw [List.getElem?_set, if_neg he] at h
                exact absurd rfl h
            exact ⟨hk, hi, by omega⟩
          · simp at hd
        · rw [gslot_none (by omega)] at hd
          simp at hd
    · rcases hk with hk | hk | hk
      · rw [gdo_slot hg (Or.inl hk) hn] at hd
        by_cases h0 : 0 ≤ gat g a.s
        · rw [gslot_load h0 hk] at hd
          split at hd
          · simp only [Prod.mk.injEq] at hd
            obtain ⟨_, rfl, _⟩ := hd
            exact keep_rooted hr (by omega) _
          · simp at hd
        · rw [gslot_none (by omega)] at hd
          simp at hd
      · rw [gdo_slot hg (Or.inr (Or.inr (Or.inl hk))) hn] at hd
        by_cases h0 : 0 ≤ gat g a.s
        · rw [gslot_store h0 hk] at hd
          split at hd
          · simp only [Prod.mk.injEq] at hd
            obtain ⟨_, rfl, _⟩ := hd
            refine keep_turned hg hs h0 (by omega) fun i hi => ⟨by simp, rfl, ?_, fun _ h => absurd rfl h⟩
            intro k h
            have : k = a.i.toNat := by
              by_cases he : a.i.toNat = k
              · exact he.symm
              · dsimp only at h
                rw [List.getElem?_set, if_neg he] at h
                exact absurd rfl h
            exact ⟨hk, hi, by omega⟩
          · simp at hd
        · rw [gslot_none (by omega)] at hd
          simp at hd
      · rw [gdo_assign hg hk hr hs] at hd
        simp only [Prod.mk.injEq] at hd
        obtain ⟨_, rfl, _⟩ := hd
        exact keep_rooted hr (by omega) _
  · rw [gdo_bad (fun hh => hn hh.2)] at hd
    simp at hd
/-- What an act that is refused tells. -/
theorem gdo_err (g : Gr) (a : Ac) : (gdo g a).2.2 = 0 ∨ ((gdo g a).2.2 = 1 ∨ (gdo g a).2.2 = 6) ∧ (gdo g a).2.1 = ⟨[], []⟩ ∧ (gdo g a).1 = 0 := by
  unfold gdo
  split
  · split
    · split <;> simp
    · split
      · simp
      · split
        · simp
        · unfold gslot
          dsimp only
          split
          · simp
          · split
            · split
              · split <;> simp
              · simp
            · split
              · split <;> simp
              · simp
  · simp
end Go.Proofs.Ytjoacfjbdpmgpaa.V
