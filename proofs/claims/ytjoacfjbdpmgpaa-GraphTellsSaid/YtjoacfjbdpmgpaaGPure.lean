/-
  Graphs, on lists: which are right, how many words, what acts do; an act keeps a right graph right.
-/
import Derived.Test.YtjoacfjbdpmgpaaGen
set_option linter.unusedVariables false
namespace Go.Proofs.Ytjoacfjbdpmgpaa.V

structure Nd where
  ptrs : List Int
  data : List Nat
deriving DecidableEq, Inhabited
structure Gr where
  nodes : List Nd
  roots : List Int
deriving DecidableEq, Inhabited
def gin (n : Nat) (p : Int) : Prop := -1 ≤ p ∧ p < n
instance (n : Nat) (p : Int) : Decidable (gin n p) := by unfold gin; infer_instance
def ndok (n : Nat) (x : Nd) : Prop := x.ptrs.length + x.data.length ≤ 255 ∧ ∀ p ∈ x.ptrs, gin n p
instance (n : Nat) (x : Nd) : Decidable (ndok n x) := by unfold ndok; infer_instance
def gright (g : Gr) : Prop := g.roots.length ≤ 16 ∧ (∀ p ∈ g.roots, gin g.nodes.length p) ∧ ∀ x ∈ g.nodes, ndok g.nodes.length x
instance (g : Gr) : Decidable (gright g) := by unfold gright; infer_instance
def ndw (x : Nd) : Nat := 1 + x.ptrs.length + x.data.length
def gwords (g : Gr) : Nat := if gright g then (g.nodes.map ndw).sum else 0

structure Ac where
  kind : Int
  r : Int
  s : Int
  i : Int
  size : Int
  ptrs : Int
  v : Nat
deriving DecidableEq, Inhabited
/-- Is it a root's place? -/
def groot (g : Gr) (r : Int) : Prop := 0 ≤ r ∧ r < g.roots.length
instance (g : Gr) (r : Int) : Decidable (groot g r) := by unfold groot; infer_instance
/-- Does an act name roots that are there, by its row? -/
def gnames (g : Gr) (a : Ac) : Prop :=
  ((a.kind = 1 ∨ a.kind = 7) ∧ groot g a.r) ∨ ((a.kind = 3 ∨ a.kind = 5) ∧ groot g a.s) ∨ ((a.kind = 2 ∨ a.kind = 4 ∨ a.kind = 6) ∧ groot g a.r ∧ groot g a.s)
instance (g : Gr) (a : Ac) : Decidable (gnames g a) := by unfold gnames; infer_instance
def gat (g : Gr) (r : Int) : Int := g.roots.getD r.toNat 0
def grooted (g : Gr) (r : Int) (to : Int) : Gr := ⟨g.nodes, g.roots.set r.toNat to⟩
def gturned (g : Gr) (at' : Int) (x : Nd) : Gr := ⟨g.nodes.set at'.toNat x, g.roots⟩
def gfresh (size ptrs : Int) : Nd := ⟨List.replicate ptrs.toNat (-1), List.replicate (size - ptrs).toNat 0⟩
/-- The rows of slots. -/
def gslot (g : Gr) (a : Ac) : Nat × Gr × Int :=
  if gat g a.s < 0 then (0, ⟨[], []⟩, 6) else
  let x := g.nodes.getD (gat g a.s).toNat default
  if a.kind = 3 ∨ a.kind = 5 then
    if 0 ≤ a.i ∧ a.i < x.data.length then
      if a.kind = 3 then (x.data.getD a.i.toNat 0, g, 0) else (0, gturned g (gat g a.s) ⟨x.ptrs, x.data.set a.i.toNat a.v⟩, 0)
    else (0, ⟨[], []⟩, 1)
  else
    if 0 ≤ a.i ∧ a.i < x.ptrs.length then
      if a.kind = 2 then (0, grooted g a.r (x.ptrs.getD a.i.toNat 0), 0) else (0, gturned g (gat g a.s) ⟨x.ptrs.set a.i.toNat (gat g a.r), x.data⟩, 0)
    else (0, ⟨[], []⟩, 1)
def gdo (g : Gr) (a : Ac) : Nat × Gr × Int :=
  if gright g ∧ gnames g a then
    if a.kind = 1 then
      if 0 ≤ a.size ∧ a.size ≤ 255 ∧ 0 ≤ a.ptrs ∧ a.ptrs ≤ a.size then (0, ⟨g.nodes ++ [gfresh a.size a.ptrs], g.roots.set a.r.toNat g.nodes.length⟩, 0) else (0, ⟨[], []⟩, 1)
    else if a.kind = 6 then (0, grooted g a.r (gat g a.s), 0)
    else if a.kind = 7 then (0, grooted g a.r (-1), 0)
    else gslot g a
  else (0, ⟨[], []⟩, 1)

theorem gin_more {n m : Nat} {p : Int} (h : gin n p) (hm : n ≤ m) : gin m p := by unfold gin at *; omega
theorem ndok_more {n m : Nat} {x : Nd} (h : ndok n x) (hm : n ≤ m) : ndok m x := ⟨h.1, fun p hp => gin_more (h.2 p hp) hm⟩
theorem gat_in {g : Gr} (h : gright g) {r : Int} (hr : groot g r) : gin g.nodes.length (gat g r) := by
  unfold groot at hr
  have h1 : r.toNat < g.roots.length := by omega
  have : gat g r = g.roots[r.toNat] := by simp [gat, List.getD, h1]
  rw [this]
  exact h.2.1 _ (List.getElem_mem h1)
theorem node_at {g : Gr} {p : Int} (h0 : 0 ≤ p) (h1 : p < g.nodes.length) : ∃ x, g.nodes.getD p.toNat default = x ∧ x ∈ g.nodes ∧ g.nodes[p.toNat]? = some x := by
  have h2 : p.toNat < g.nodes.length := by omega
  exact ⟨g.nodes[p.toNat], by simp [List.getD, h2], List.getElem_mem h2, by simp [h2]⟩
theorem grooted_right {g : Gr} (h : gright g) (r : Int) {to : Int} (ht : gin g.nodes.length to) : gright (grooted g r to) := by
  refine ⟨by simp [grooted]; exact h.1, ?_, h.2.2⟩
  intro p hp
  rcases List.mem_or_eq_of_mem_set hp with hp | rfl
  · exact h.2.1 p hp
  · exact ht
theorem gturned_right {g : Gr} (h : gright g) (at' : Int) {x : Nd} (hx : ndok g.nodes.length x) : gright (gturned g at' x) := by
  refine ⟨h.1, ?_, ?_⟩
  · intro p hp
    have := h.2.1 p hp
    simpa [gturned] using this
  · intro y hy
    have e : (gturned g at' x).nodes.length = g.nodes.length := by simp [gturned]
    rw [e]
    rcases List.mem_or_eq_of_mem_set hy with hy | rfl
    · exact h.2.2 y hy
    · exact hx
/-- No act makes a right graph one that is not. -/
theorem gdo_right {g : Gr} {a : Ac} {v : Nat} {x : Gr} (hd : gdo g a = (v, x, 0)) : gright x := by
  unfold gdo at hd
  split at hd
  · rename_i h
    obtain ⟨h, hn⟩ := h
    split at hd
    · split at hd
      · rename_i hk hs
        simp only [Prod.mk.injEq] at hd
        obtain ⟨_, rfl, _⟩ := hd
        have hl : (g.nodes ++ [gfresh a.size a.ptrs]).length = g.nodes.length + 1 := by simp
        refine ⟨by simp; exact h.1, ?_, ?_⟩
        · intro p hp
          show gin (g.nodes ++ [gfresh a.size a.ptrs]).length p
          rw [hl]
          rcases List.mem_or_eq_of_mem_set hp with hp | rfl
          · exact gin_more (h.2.1 p hp) (by omega)
          · unfold gin; omega
        · intro y hy
          show ndok (g.nodes ++ [gfresh a.size a.ptrs]).length y
          rw [hl]
          simp only [List.mem_append, List.mem_singleton] at hy
          rcases hy with hy | rfl
          · exact ndok_more (h.2.2 y hy) (by omega)
          · refine ⟨by simp [gfresh]; omega, ?_⟩
            intro p hp
            simp [gfresh] at hp
            unfold gin; omega
      · simp at hd
    · split at hd
      · rename_i hk
        simp only [Prod.mk.injEq] at hd
        obtain ⟨_, rfl, _⟩ := hd
        refine grooted_right h a.r (gat_in h ?_)
        unfold gnames at hn
        rcases hn with ⟨hn, _⟩ | ⟨hn, _⟩ | ⟨_, _, hn⟩
        · omega
        · omega
        · exact hn
      · split at hd
        · simp only [Prod.mk.injEq] at hd
          obtain ⟨_, rfl, _⟩ := hd
          exact grooted_right h a.r (by unfold gin; omega)
        · rename_i k1 k6 k7
          have hs : groot g a.s := by
            unfold gnames at hn
            rcases hn with ⟨hn, _⟩ | ⟨_, hn⟩ | ⟨_, _, hn⟩
            · omega
            · exact hn
            · exact hn
          have hg := gat_in h hs
          unfold gslot at hd
          split at hd
          · simp at hd
          · rename_i hlt
            have hg' : gat g a.s < g.nodes.length := hg.2
            obtain ⟨y, hy, hym, _⟩ := node_at (by omega) hg'
            have hyo := h.2.2 y hym
            rw [hy] at hd
            dsimp only at hd
            split at hd
            · split at hd
              · split at hd
                · simp only [Prod.mk.injEq] at hd
                  obtain ⟨_, rfl, _⟩ := hd
                  exact h
                · simp only [Prod.mk.injEq] at hd
                  obtain ⟨_, rfl, _⟩ := hd
                  exact gturned_right h _ ⟨by simp; exact hyo.1, hyo.2⟩
              · simp at hd
            · rename_i k35
              have hr : groot g a.r := by
                unfold gnames at hn
                rcases hn with ⟨hn, _⟩ | ⟨hn, _⟩ | ⟨_, hn, _⟩
                · omega
                · exact absurd hn k35
                · exact hn
              split at hd
              · rename_i hi
                split at hd
                · simp only [Prod.mk.injEq] at hd
                  obtain ⟨_, rfl, _⟩ := hd
                  refine grooted_right h _ (hyo.2 _ ?_)
                  have h2 : a.i.toNat < y.ptrs.length := by omega
                  have e : y.ptrs.getD a.i.toNat 0 = y.ptrs[a.i.toNat] := by simp [List.getD, h2]
                  rw [e]
                  exact List.getElem_mem h2
                · simp only [Prod.mk.injEq] at hd
                  obtain ⟨_, rfl, _⟩ := hd
                  refine gturned_right h _ ⟨by simp; exact hyo.1, ?_⟩
                  intro p hp
                  rcases List.mem_or_eq_of_mem_set hp with hp | rfl
                  · exact hyo.2 p hp
                  · exact gat_in h hr
              · simp at hd
  · simp at hd
end Go.Proofs.Ytjoacfjbdpmgpaa.V
