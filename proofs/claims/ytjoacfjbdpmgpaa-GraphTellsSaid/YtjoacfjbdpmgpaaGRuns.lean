/-
  Acts on other roots and slots don't touch what a slot has; what a new node is: on lists.
-/
import Derived.Test.YtjoacfjbdpmgpaaGRows
set_option linter.unusedVariables false
namespace Go.Proofs.Ytjoacfjbdpmgpaa.V

/-- Slot k of root b has v. -/
def GHas (x : Gr) (b k : Int) (v : Nat) : Prop := gright x ∧ groot x b ∧ 0 ≤ gat x b ∧ (0 ≤ k ∧ k < (gnode x b).data.length) ∧ (gnode x b).data.getD k.toNat 0 = v
theorem gnode_other {g : Gr} {r b : Int} (hr : groot g r) (hb : groot g b) (hne : r ≠ b) (to : Int) : gnode (grooted g r to) b = gnode g b := by
  unfold gnode
  rw [gat_other hr hb hne]
  rfl
theorem has_rooted {g : Gr} {r b k to : Int} {v : Nat} (h : GHas g b k v) (hr : groot g r) (hne : r ≠ b) (ht : gin g.nodes.length to) : GHas (grooted g r to) b k v := by
  obtain ⟨h1, h2, h3, h4, h5⟩ := h
  refine ⟨grooted_right h1 r ht, groot_rooted h2, by rw [gat_other hr h2 hne]; exact h3, ?_, ?_⟩
  · rw [gnode_other hr h2 hne]; exact h4
  · rw [gnode_other hr h2 hne]; exact h5
/-- A node of which other pointers are stored. -/
theorem has_store {g : Gr} {s b k : Int} {v : Nat} {l : List Int} (h : GHas g b k v) (hs : groot g s) (h0 : 0 ≤ gat g s) (hl : l.length = (gnode g s).ptrs.length) (hp : ∀ p ∈ l, gin g.nodes.length p) : GHas (gturned g (gat g s) ⟨l, (gnode g s).data⟩) b k v := by
  obtain ⟨h1, h2, h3, h4, h5⟩ := h
  have hok := gnode_ok h1 hs h0
  have hd : (gnode (gturned g (gat g s) ⟨l, (gnode g s).data⟩) b).data = (gnode g b).data := by
    by_cases he : gat g b = gat g s
    · rw [gnode_turned h1 hs h0 _ he]
      unfold gnode
      rw [he]
    · have hlt := (gat_in h1 h2).2
      have hn : (gat g s).toNat ≠ (gat g b).toNat := by omega
      unfold gnode
      rw [gat_turned]
      simp [gturned, List.getD, hn]
  refine ⟨gturned_right h1 _ ⟨by dsimp only; rw [hl]; exact hok.1, hp⟩, h2, h3, ?_, ?_⟩
  · rw [hd]; exact h4
  · rw [hd]; exact h5
theorem has_new {g : Gr} {r b k : Int} {v : Nat} {z : Nd} (h : GHas g b k v) (hr : groot g r) (hne : r ≠ b) (hx : gright ⟨g.nodes ++ [z], g.roots.set r.toNat g.nodes.length⟩) : GHas ⟨g.nodes ++ [z], g.roots.set r.toNat g.nodes.length⟩ b k v := by
  obtain ⟨h1, h2, h3, h4, h5⟩ := h
  have ha : gat ⟨g.nodes ++ [z], g.roots.set r.toNat g.nodes.length⟩ b = gat g b := gat_other hr h2 hne _
  have hlt := (gat_in h1 h2).2
  have hl : (gat g b).toNat < g.nodes.length := by omega
  have hn : gnode ⟨g.nodes ++ [z], g.roots.set r.toNat g.nodes.length⟩ b = gnode g b := by
    unfold gnode
    rw [ha]
    simp [List.getD, List.getElem?_append_left hl]
  refine ⟨hx, groot_rooted (to := g.nodes.length) (r := r) h2, by rw [ha]; exact h3, ?_, ?_⟩
  · rw [hn]; exact h4
  · rw [hn]; exact h5
/-- An act that neither sets nor turns root b leaves what its slot has. -/
theorem runs_step {x y : Gr} {b k : Int} {v w : Nat} {a : Ac} (h : GHas x b k v) (hd : gdo x a = (w, y, 0)) (h5 : a.kind ≠ 5) (hb : a.r ≠ b ∨ a.kind = 4) : GHas y b k v := by
  have hy := gdo_right hd
  have hxr := h.1
  by_cases hn : gnames x a
  · have hn' := hn
    unfold gnames at hn'
    rcases hn' with ⟨hk, hr⟩ | ⟨hk, hs⟩ | ⟨hk, hr, hs⟩
    · have hne : a.r ≠ b := by rcases hb with hb | hb; exact hb; omega
      rcases hk with hk | hk
      · rw [gdo_new hxr hk hr] at hd
        split at hd
        · simp only [Prod.mk.injEq] at hd
          obtain ⟨_, rfl, _⟩ := hd
          exact has_new h hr hne hy
        · simp at hd
      · rw [gdo_drop hxr hk hr] at hd
        simp only [Prod.mk.injEq] at hd
        obtain ⟨_, rfl, _⟩ := hd
        exact has_rooted h hr hne (by unfold gin; omega)
    · have hk3 : a.kind = 3 := by omega
      rw [gdo_slot hxr (Or.inr (Or.inl hk3)) hn] at hd
      by_cases h0 : 0 ≤ gat x a.s
      · rw [gslot_get h0 hk3] at hd
        split at hd
        · simp only [Prod.mk.injEq] at hd
          obtain ⟨_, rfl, _⟩ := hd
          exact h
        · simp at hd
      · rw [gslot_none (by omega)] at hd
        simp at hd
    · rcases hk with hk | hk | hk
      · have hne : a.r ≠ b := by rcases hb with hb | hb; exact hb; omega
        rw [gdo_slot hxr (Or.inl hk) hn] at hd
        by_cases h0 : 0 ≤ gat x a.s
        · rw [gslot_load h0 hk] at hd
          split at hd
          · rename_i hi
            simp only [Prod.mk.injEq] at hd
            obtain ⟨_, rfl, _⟩ := hd
            refine has_rooted h hr hne ?_
            have hok := gnode_ok hxr hs h0
            have h2 : a.i.toNat < (gnode x a.s).ptrs.length := by omega
            have e : (gnode x a.s).ptrs.getD a.i.toNat 0 = (gnode x a.s).ptrs[a.i.toNat] := by simp [List.getD, h2]
            rw [e]
            exact hok.2 _ (List.getElem_mem h2)
          · simp at hd
        · rw [gslot_none (by omega)] at hd
          simp at hd
      · rw [gdo_slot hxr (Or.inr (Or.inr (Or.inl hk))) hn] at hd
        by_cases h0 : 0 ≤ gat x a.s
        · rw [gslot_store h0 hk] at hd
          split at hd
          · simp only [Prod.mk.injEq] at hd
            obtain ⟨_, rfl, _⟩ := hd
            refine has_store h hs h0 (by rw [List.length_set]) ?_
            intro p hp
            rcases List.mem_or_eq_of_mem_set hp with hp | rfl
            · exact (gnode_ok hxr hs h0).2 p hp
            · exact gat_in hxr hr
          · simp at hd
        · rw [gslot_none (by omega)] at hd
          simp at hd
      · have hne : a.r ≠ b := by rcases hb with hb | hb; exact hb; omega
        rw [gdo_assign hxr hk hr hs] at hd
        simp only [Prod.mk.injEq] at hd
        obtain ⟨_, rfl, _⟩ := hd
        exact has_rooted h hr hne (gat_in hxr hs)
  · rw [gdo_bad (fun hh => hn hh.2)] at hd
    simp at hd
theorem has_get {x : Gr} {b k : Int} {v : Nat} (h : GHas x b k v) : gdo x ⟨3, 0, b, k, 0, 0, 0⟩ = (v, x, 0) := by
  obtain ⟨h1, h2, h3, h4, h5⟩ := h
  rw [gdo_slot h1 (Or.inr (Or.inl rfl)) (Or.inr (Or.inl ⟨Or.inl rfl, h2⟩)), gslot_get h3 rfl]
  dsimp only
  rw [if_pos h4, h5]
theorem set_has {g : Gr} (h : gright g) {b k : Int} {v w : Nat} (hb : groot g b) {x : Gr} (hx : gdo g ⟨5, 0, b, k, 0, 0, v⟩ = (w, x, 0)) : GHas x b k v := by
  have hxr := gdo_right hx
  rw [gdo_slot h (Or.inr (Or.inr (Or.inr rfl))) (Or.inr (Or.inl ⟨Or.inr rfl, hb⟩))] at hx
  by_cases h0 : 0 ≤ gat g b
  · rw [gslot_set h0 rfl] at hx
    dsimp only at hx
    split at hx
    · rename_i hi
      simp only [Prod.mk.injEq] at hx
      obtain ⟨_, rfl, _⟩ := hx
      have hn := gnode_turned h hb h0 ⟨(gnode g b).ptrs, (gnode g b).data.set k.toNat v⟩ (s := b) rfl
      have hk : k.toNat < (gnode g b).data.length := by omega
      refine ⟨hxr, groot_turned hb, h0, ?_, ?_⟩
      · rw [hn]; dsimp only; rw [List.length_set]; exact hi
      · rw [hn]; simp [List.getD, hk]
    · simp at hx
  · rw [gslot_none (by dsimp only; omega)] at hx
    simp at hx
end Go.Proofs.Ytjoacfjbdpmgpaa.V
