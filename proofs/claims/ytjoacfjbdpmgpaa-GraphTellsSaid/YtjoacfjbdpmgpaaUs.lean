/-
  Slices of 64-bit numbers that came in, and those of the call's own, read: their cells.
-/
import Derived.Test.YtjoacfjbdpmgpaaBase
namespace Go.Proofs.Ytjoacfjbdpmgpaa.V
open Go.RowKit

/-- The cells of a slice of 64-bit numbers that came in. -/
def Us (w : World) (ao : Option Addr) (zs : List Nat) : Prop := ∀ j, j < zs.length → ∃ b off, ao = some ⟨b, off, none⟩ ∧ b < w.heap.size ∧ w.cell? ⟨b, off + j, none⟩ = some (.int .u64 (zs.getD j 0 : Nat))
theorem OwnU.us {w : World} {S : Nat} {v : Value} {l : List Nat} (h : OwnU w S v l) : ∃ ao cap, v = .slice ao l.length cap ∧ Us w ao l := by
  have h' := h
  obtain ⟨_, ⟨rfl, h0⟩ | ⟨g, cap, cur, rfl, hb, hg, _⟩⟩ := h
  · have : l = [] := List.eq_nil_of_length_eq_zero h0
    subst this
    exact ⟨_, _, rfl, fun j hj => by simp at hj⟩
  · refine ⟨_, cap, rfl, fun j hj => ⟨g, 0, rfl, (Array.getElem?_eq_some_iff.1 hg).1, ?_⟩⟩
    have := World.ownsRow.cellAt h' j (by simpa using hj)
    rw [Nat.zero_add, this]
    simp [List.getD, hj, U]
theorem Us.below {w w' : World} {ao : Option Addr} {l : List Nat} {S : Nat} (h : Us w ao l) (hS : w.heap.size ≤ S) (hb : Below S w w') : Us w' ao l := by
  intro j hj
  obtain ⟨b, off, rfl, hlt, hc⟩ := h j hj
  exact ⟨b, off, rfl, Nat.lt_of_lt_of_le hlt hb.size, (hb.cell (p := ⟨b, off + j, none⟩) (Nat.lt_of_lt_of_le hlt hS)).trans hc⟩

theorem Us.take {w : World} {ao : Option Addr} {l : List Nat} (h : Us w ao l) (m : Nat) : Us w ao (l.take m) := by
  intro j hj
  simp at hj
  obtain ⟨b, off, rfl, hb, hc⟩ := h j (by omega)
  refine ⟨b, off, rfl, hb, ?_⟩
  rw [hc]
  simp [List.getD, show j < m by omega]

/-- The cells of a piece, at its own address. -/
theorem Us.cut {w : World} {b off : Nat} {l : List Nat} (h : Us w (some ⟨b, off, none⟩) l) (i k : Nat) : Us w (some ⟨b, off + i, none⟩) ((l.drop i).take k) := by
  intro j hj
  simp at hj
  obtain ⟨b', off', e, hb, hc⟩ := h (i + j) (by omega)
  cases e
  refine ⟨b, off + i, rfl, hb, ?_⟩
  rw [Nat.add_assoc, hc]
  simp [List.getD, show j < k by omega]
/-- The cells of a piece, at the address that the walk gives it. -/
theorem Us.cutIf {w : World} {b off ca : Nat} {l : List Nat} (h : Us w (some ⟨b, off, none⟩) l) (hc : l.length ≤ ca) (i k : Nat) (hik : i + k ≤ l.length) : Us w (if ca = i then some ⟨b, off, none⟩ else some ⟨b, off + i, none⟩) ((l.drop i).take k) := by
  split
  · intro j hj
    simp at hj
    omega
  · exact h.cut i k
theorem us_lit1 (w : World) (a : Nat) : Us (w.alloc (.cells #[.int .u64 a] 29)) (some ⟨w.heap.size, 0, none⟩) [a] := by
  intro j hj
  refine ⟨_, _, rfl, by simp, ?_⟩
  match j, hj with
  | 0, _ => simp
theorem us_lit2 (w : World) (a b : Nat) : Us (w.alloc (.cells #[.int .u64 a, .int .u64 b] 29)) (some ⟨w.heap.size, 0, none⟩) [a, b] := by
  intro j hj
  refine ⟨_, _, rfl, by simp, ?_⟩
  match j, hj with
  | 0, _ => simp
  | 1, _ => simp
theorem Us.dropIf {w : World} {ao : Option Addr} {l : List Nat} {cap kk : Nat} (h : Us w ao l) (hc : l.length ≤ cap) : Us w (if cap = kk then ao else Option.map (fun x => x.add kk) ao) (l.drop kk) := by
  intro j hj
  simp at hj
  rw [if_neg (by omega)]
  obtain ⟨b, off, rfl, hb, hcell⟩ := h (kk + j) (by omega)
  refine ⟨b, off + kk, by simp [Addr.add], hb, ?_⟩
  rw [Nat.add_assoc, hcell]
  simp [List.getD]

end Go.Proofs.Ytjoacfjbdpmgpaa.V
