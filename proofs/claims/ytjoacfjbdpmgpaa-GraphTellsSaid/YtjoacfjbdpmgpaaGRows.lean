/-
  What each row of an act does to a graph, on lists; the laws of stage 8 there: what was set is got, what was stored is loaded.
-/
import Derived.Test.YtjoacfjbdpmgpaaGPure
set_option linter.unusedVariables false
namespace Go.Proofs.Ytjoacfjbdpmgpaa.V

theorem gdo_new {g : Gr} {a : Ac} (h : gright g) (hk : a.kind = 1) (hr : groot g a.r) :
    gdo g a = if 0 ≤ a.size ∧ a.size ≤ 255 ∧ 0 ≤ a.ptrs ∧ a.ptrs ≤ a.size then (0, ⟨g.nodes ++ [gfresh a.size a.ptrs], g.roots.set a.r.toNat g.nodes.length⟩, 0) else (0, ⟨[], []⟩, 1) := by
  unfold gdo
  rw [if_pos ⟨h, Or.inl ⟨Or.inl hk, hr⟩⟩, if_pos hk]
theorem gdo_assign {g : Gr} {a : Ac} (h : gright g) (hk : a.kind = 6) (hr : groot g a.r) (hs : groot g a.s) : gdo g a = (0, grooted g a.r (gat g a.s), 0) := by
  unfold gdo
  rw [if_pos ⟨h, Or.inr (Or.inr ⟨Or.inr (Or.inr hk), hr, hs⟩)⟩, if_neg (by omega), if_pos hk]
theorem gdo_drop {g : Gr} {a : Ac} (h : gright g) (hk : a.kind = 7) (hr : groot g a.r) : gdo g a = (0, grooted g a.r (-1), 0) := by
  unfold gdo
  rw [if_pos ⟨h, Or.inl ⟨Or.inr hk, hr⟩⟩, if_neg (by omega), if_neg (by omega), if_pos hk]
theorem gdo_slot {g : Gr} {a : Ac} (h : gright g) (hk : a.kind = 2 ∨ a.kind = 3 ∨ a.kind = 4 ∨ a.kind = 5) (hn : gnames g a) : gdo g a = gslot g a := by
  unfold gdo
  rw [if_pos ⟨h, hn⟩, if_neg (by omega), if_neg (by omega), if_neg (by omega)]
theorem gdo_bad {g : Gr} {a : Ac} (h : ¬ (gright g ∧ gnames g a)) : gdo g a = (0, ⟨[], []⟩, 1) := by
  unfold gdo
  rw [if_neg h]
theorem gslot_none {g : Gr} {a : Ac} (h : gat g a.s < 0) : gslot g a = (0, ⟨[], []⟩, 6) := by unfold gslot; rw [if_pos h]
/-- The node that a root is. -/
def gnode (g : Gr) (r : Int) : Nd := g.nodes.getD (gat g r).toNat default
theorem gslot_get {g : Gr} {a : Ac} (h : 0 ≤ gat g a.s) (hk : a.kind = 3) : gslot g a = if 0 ≤ a.i ∧ a.i < (gnode g a.s).data.length then ((gnode g a.s).data.getD a.i.toNat 0, g, 0) else (0, ⟨[], []⟩, 1) := by
  unfold gslot
  rw [if_neg (by omega)]
  dsimp only
  rw [if_pos (Or.inl hk), if_pos hk]
  rfl
theorem gslot_set {g : Gr} {a : Ac} (h : 0 ≤ gat g a.s) (hk : a.kind = 5) : gslot g a = if 0 ≤ a.i ∧ a.i < (gnode g a.s).data.length then (0, gturned g (gat g a.s) ⟨(gnode g a.s).ptrs, (gnode g a.s).data.set a.i.toNat a.v⟩, 0) else (0, ⟨[], []⟩, 1) := by
  unfold gslot
  rw [if_neg (by omega)]
  dsimp only
  rw [if_pos (Or.inr hk), if_neg (show ¬ a.kind = 3 by omega)]
  rfl
theorem gslot_load {g : Gr} {a : Ac} (h : 0 ≤ gat g a.s) (hk : a.kind = 2) : gslot g a = if 0 ≤ a.i ∧ a.i < (gnode g a.s).ptrs.length then (0, grooted g a.r ((gnode g a.s).ptrs.getD a.i.toNat 0), 0) else (0, ⟨[], []⟩, 1) := by
  unfold gslot
  rw [if_neg (by omega)]
  dsimp only
  rw [if_neg (show ¬ (a.kind = 3 ∨ a.kind = 5) by omega), if_pos hk]
  rfl
theorem gslot_store {g : Gr} {a : Ac} (h : 0 ≤ gat g a.s) (hk : a.kind = 4) : gslot g a = if 0 ≤ a.i ∧ a.i < (gnode g a.s).ptrs.length then (0, gturned g (gat g a.s) ⟨(gnode g a.s).ptrs.set a.i.toNat (gat g a.r), (gnode g a.s).data⟩, 0) else (0, ⟨[], []⟩, 1) := by
  unfold gslot
  rw [if_neg (by omega)]
  dsimp only
  rw [if_neg (show ¬ (a.kind = 3 ∨ a.kind = 5) by omega), if_neg (show ¬ a.kind = 2 by omega)]
  rfl

theorem gat_rooted {g : Gr} {r : Int} (hr : groot g r) (to : Int) : gat (grooted g r to) r = to := by
  unfold groot at hr
  have h : r.toNat < g.roots.length := by omega
  simp [gat, grooted, List.getD, h]
theorem gat_other {g : Gr} {r s : Int} (hr : groot g r) (hs : groot g s) (hne : r ≠ s) (to : Int) : gat (grooted g r to) s = gat g s := by
  unfold groot at hr hs
  have : r.toNat ≠ s.toNat := by omega
  simp [gat, grooted, List.getD, this]
theorem groot_rooted {g : Gr} {r s to : Int} (h : groot g s) : groot (grooted g r to) s := by unfold groot at *; simpa [grooted] using h
theorem gat_turned (g : Gr) (p : Int) (x : Nd) (r : Int) : gat (gturned g p x) r = gat g r := rfl
theorem groot_turned {g : Gr} {p : Int} {x : Nd} {s : Int} (h : groot g s) : groot (gturned g p x) s := h
theorem gnode_turned {g : Gr} (h : gright g) {r : Int} (hr : groot g r) (h0 : 0 ≤ gat g r) (x : Nd) {s : Int} (hs : gat g s = gat g r) : gnode (gturned g (gat g r) x) s = x := by
  have h1 := (gat_in h hr).2
  have h2 : (gat g r).toNat < g.nodes.length := by omega
  unfold gnode
  rw [gat_turned, hs]
  simp [gturned, List.getD, h2]
theorem gnode_ok {g : Gr} (h : gright g) {r : Int} (hr : groot g r) (h0 : 0 ≤ gat g r) : ndok g.nodes.length (gnode g r) := by
  obtain ⟨x, hx, hm, _⟩ := node_at h0 (gat_in h hr).2
  unfold gnode
  rw [hx]
  exact h.2.2 x hm

theorem gnode_rooted {x : Gr} {a b : Int} (ha : groot x a) : gnode (grooted x a (gat x b)) a = gnode x b := by
  unfold gnode
  rw [gat_rooted ha]
  rfl
/-- What was set is got, by any root of that node. -/
theorem set_get {g : Gr} (h : gright g) {a b k : Int} {v : Nat} (ha : groot g a) (hb : groot g b) {w : Nat} {x : Gr} (hx : gdo g ⟨5, 0, b, k, 0, 0, v⟩ = (w, x, 0)) :
    ∃ y, gdo x ⟨6, a, b, 0, 0, 0, 0⟩ = (0, y, 0) ∧ gdo y ⟨3, 0, a, k, 0, 0, 0⟩ = (v, y, 0) ∧ gdo x ⟨3, 0, b, k, 0, 0, 0⟩ = (v, x, 0) := by
  have hxr := gdo_right hx
  rw [gdo_slot h (Or.inr (Or.inr (Or.inr rfl))) (Or.inr (Or.inl ⟨Or.inr rfl, hb⟩))] at hx
  by_cases h0 : 0 ≤ gat g b
  · rw [gslot_set h0 rfl] at hx
    dsimp only at hx
    split at hx
    · rename_i hi
      simp only [Prod.mk.injEq] at hx
      obtain ⟨_, rfl, _⟩ := hx
      have hb' : groot (gturned g (gat g b) ⟨(gnode g b).ptrs, (gnode g b).data.set k.toNat v⟩) b := groot_turned hb
      have ha' : groot (gturned g (gat g b) ⟨(gnode g b).ptrs, (gnode g b).data.set k.toNat v⟩) a := groot_turned ha
      have hn := gnode_turned h hb h0 ⟨(gnode g b).ptrs, (gnode g b).data.set k.toNat v⟩ (s := b) rfl
      have hk : k.toNat < (gnode g b).data.length := by omega
      refine ⟨_, gdo_assign hxr rfl ha' hb', ?_, ?_⟩
      · have hyr := gdo_right (gdo_assign (a := ⟨6, a, b, 0, 0, 0, 0⟩) hxr rfl ha' hb')
        have hat := gat_rooted ha' (gat (gturned g (gat g b) ⟨(gnode g b).ptrs, (gnode g b).data.set k.toNat v⟩) b)
        have h0' : 0 ≤ gat (grooted (gturned g (gat g b) ⟨(gnode g b).ptrs, (gnode g b).data.set k.toNat v⟩) a (gat (gturned g (gat g b) ⟨(gnode g b).ptrs, (gnode g b).data.set k.toNat v⟩) b)) a := by rw [hat]; exact h0
        have hn' := (gnode_rooted (b := b) ha').trans hn
        rw [gdo_slot hyr (Or.inr (Or.inl rfl)) (Or.inr (Or.inl ⟨Or.inl rfl, groot_rooted ha'⟩)), gslot_get h0' rfl]
        dsimp only
        rw [hn']
        dsimp only
        rw [if_pos (by rw [List.length_set]; exact hi)]
        simp [List.getD, hk]
      · rw [gdo_slot hxr (Or.inr (Or.inl rfl)) (Or.inr (Or.inl ⟨Or.inl rfl, hb'⟩)), gslot_get h0 rfl]
        dsimp only
        rw [hn]
        dsimp only
        rw [if_pos (by rw [List.length_set]; exact hi)]
        simp [List.getD, hk]
    · simp at hx
  · rw [gslot_none (by dsimp only; omega)] at hx
    simp at hx
/-- What was stored is loaded. -/
theorem store_load {g : Gr} (h : gright g) {a b k : Int} (ha : groot g a) (hb : groot g b) {w : Nat} {x : Gr} (hx : gdo g ⟨4, a, b, k, 0, 0, 0⟩ = (w, x, 0)) :
    ∃ y, gdo x ⟨2, a, b, k, 0, 0, 0⟩ = (0, y, 0) ∧ y.roots.length = g.roots.length ∧ gat y a = gat g a := by
  have hxr := gdo_right hx
  rw [gdo_slot h (Or.inr (Or.inr (Or.inl rfl))) (Or.inr (Or.inr ⟨Or.inr (Or.inl rfl), ha, hb⟩))] at hx
  by_cases h0 : 0 ≤ gat g b
  · rw [gslot_store h0 rfl] at hx
    dsimp only at hx
    split at hx
    · rename_i hi
      simp only [Prod.mk.injEq] at hx
      obtain ⟨_, rfl, _⟩ := hx
      have hb' : groot (gturned g (gat g b) ⟨(gnode g b).ptrs.set k.toNat (gat g a), (gnode g b).data⟩) b := groot_turned hb
      have ha' : groot (gturned g (gat g b) ⟨(gnode g b).ptrs.set k.toNat (gat g a), (gnode g b).data⟩) a := groot_turned ha
      have hn := gnode_turned h hb h0 ⟨(gnode g b).ptrs.set k.toNat (gat g a), (gnode g b).data⟩ (s := b) rfl
      have hk : k.toNat < (gnode g b).ptrs.length := by omega
      refine ⟨grooted (gturned g (gat g b) ⟨(gnode g b).ptrs.set k.toNat (gat g a), (gnode g b).data⟩) a (gat g a), ?_, by simp [grooted, gturned], gat_rooted ha' _⟩
      rw [gdo_slot hxr (Or.inl rfl) (Or.inr (Or.inr ⟨Or.inl rfl, ha', hb'⟩)), gslot_load h0 rfl]
      dsimp only
      rw [hn]
      dsimp only
      rw [if_pos (by rw [List.length_set]; exact hi)]
      simp [List.getD, hk]
    · simp at hx
  · rw [gslot_none (by dsimp only; omega)] at hx
    simp at hx
end Go.Proofs.Ytjoacfjbdpmgpaa.V
