/-
  How arguments are opened that are slices of records of any kind.
-/
import Derived.Test.YtjoacfjbdpmgpaaOpen
import Derived.Test.YtjoacfjbdpmgpaaRws
import Derived.Test.YtjoacfjbdpmgpaaUs
import Derived.Deep.Slices
set_option linter.unusedVariables false
namespace Go.Proofs.Ytjoacfjbdpmgpaa.V
open Go.ChangeShapes Go.WideShapes Go.ChangeAt Go.RowKit

theorem pick_fun {α : Type} [Inhabited α] {Q : Nat → α → Prop} {m : Nat} (h : ∀ i, i < m → ∃ r, Q i r) : ∃ f : Nat → α, ∀ i, i < m → Q i (f i) := by
  have h2 : ∀ i, ∃ r, i < m → Q i r := fun i => by
    by_cases hi : i < m
    · obtain ⟨r, hr⟩ := h i hi
      exact ⟨r, fun _ => hr⟩
    · exact ⟨default, fun hh => absurd hh hi⟩
  exact ⟨fun i => Classical.choose (h2 i), fun i => Classical.choose_spec (h2 i)⟩
theorem open_recs {α : Type} [Inhabited α] {c : α → List Value} {n : Nat} (hn : 0 < n) {R : α → Prop} {H : Type} {enc : TypeId × Value → H} {W : World} {t e : TypeId} (ht : Try.prog.underlying t = some (.slice e)) (hC : Try.prog.cellsOf e = n)
    (dec : ∀ fuel cs x, DataW.trod enc Try.prog W 0 (fun _ => true) true fuel e cs = some x → cs.length = n → ∃ r, cs = c r ∧ R r)
    {a : Option Addr} {len cap : Nat} {d : DataW H} {p : List MemPlace} (h : DataW.Trod enc Try.prog W 0 (fun _ => true) true t (.slice a len cap) d p) :
    ∃ l : List α, len = l.length ∧ Rw c n W a l ∧ (∀ r ∈ l, R r) ∧ l.length ≤ cap ∧ cap ≤ 9223372036854775807 ∧ (a = none → cap = 0) := by
  obtain ⟨fuel, hf⟩ := h
  rcases Go.Deep.open_slice ht hf with ⟨hcs, _⟩ | ⟨ad, l0, c0, m, k, D, Pl, hcs, _, hl, hm, hmm, _, hi⟩
  · simp [Value.cells] at hcs
    obtain ⟨rfl, rfl, rfl⟩ := hcs
    exact ⟨[], rfl, Rw.nil _ _, by simp, by simp, by omega, fun _ => rfl⟩
  · simp [Value.cells] at hcs
    obtain ⟨rfl, rfl, rfl⟩ := hcs
    simp only [if_true] at hmm
    subst hmm
    rw [hC] at hi
    obtain ⟨f, hfn⟩ := pick_fun (α := α) (m := len) (Q := fun i r => (∀ j v, (c r)[j]? = some v → W.cell? ((ad.add (i * n)).add j) = some v) ∧ (c r).length = n ∧ R r) (fun i hlt => by
      obtain ⟨cs', hc, htr⟩ := hi i (by omega)
      obtain ⟨_, hcl, hat⟩ := World.cells?_some hc
      obtain ⟨r, hr, hp⟩ := dec k cs' _ htr hcl
      subst hr
      exact ⟨r, fun j v hj => by rw [hat j (by rw [← hcl]; exact (List.getElem?_eq_some_iff.1 hj).1), hj], hcl, hp⟩)
    refine ⟨(List.range len).map f, by simp, fun j x hj => ?_, ?_, by simpa using hl, by unfold maxLen at hm; omega, fun h => by cases h⟩
    · have hjl : j < len := by
        have := (List.getElem?_eq_some_iff.1 hj).1
        simpa using this
      have hx : f j = x := by simpa [hjl] using hj
      subst hx
      obtain ⟨h1, h2, _⟩ := hfn j hjl
      obtain ⟨b, off, spot⟩ := ad
      obtain ⟨v0, hv0⟩ : ∃ v0, (c (f j))[0]? = some v0 := ⟨_, List.getElem?_eq_getElem (by omega)⟩
      have hc0 := h1 0 v0 hv0
      obtain ⟨u1, u2, _⟩ := hfn 0 (by omega)
      obtain ⟨v1, hv1⟩ : ∃ v1, (c (f 0))[0]? = some v1 := ⟨_, List.getElem?_eq_getElem (by omega)⟩
      have hspot : spot = none := by
        have := World.cell?_spot (u1 0 v1 hv1)
        simpa [Addr.add] using this
      subst hspot
      rw [Addr.add_lit, Addr.add_lit] at hc0
      refine ⟨b, off, rfl, World.block_lt_of_cell? W _ hc0, fun i v hiv => ?_⟩
      have := h1 i v hiv
      rw [Addr.add_lit, Addr.add_lit, Nat.add_assoc] at this
      exact this
    · intro r hr
      obtain ⟨i, hi2, rfl⟩ := List.mem_map.1 hr
      exact (hfn i (by simpa using hi2)).2.2

theorem open_us_cs {H : Type} {enc : TypeId × Value → H} {W : World} {fuel : Nat} {cs : List Value} {x : DataW H × List MemPlace} (h : DataW.trod enc Try.prog W 0 (fun _ => true) true fuel 34 cs = some x) :
    ∃ (ao : Option Addr) (cap : Nat) (zs : List Nat), cs = [.slice ao zs.length cap] ∧ (∀ v ∈ zs, v < 2 ^ 64) ∧ Us W ao zs ∧ zs.length ≤ cap ∧ cap ≤ 9223372036854775807 ∧ (ao = none → cap = 0) := by
  have hcs : ∃ a l c, cs = [.slice a l c] := by
    rcases open_ints Try.underlying34 Try.underlying29 (by kernel_rfl) h with ⟨h1, _⟩ | ⟨a, l, c, _, h1, _⟩
    · exact ⟨_, _, _, h1⟩
    · exact ⟨_, _, _, h1⟩
  obtain ⟨a, l, c, rfl⟩ := hcs
  obtain ⟨zs, rfl, h1, h2, h3, h4, h5⟩ := open_us (d := x.1) (p := x.2) ⟨fuel, h⟩
  exact ⟨a, c, zs, rfl, h1, h2, h3, h4, h5⟩
end Go.Proofs.Ytjoacfjbdpmgpaa.V
