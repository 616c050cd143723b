/-
  Slices of 32-bit numbers: those of the call's own, and append onto them; make of slices of 64-bit and of 32-bit numbers.
-/
import Derived.Test.YtkdfefbjpglcpaaUs
set_option linter.unusedVariables false
namespace Go.Proofs.Ytkdfefbjpglcpaa.V
open Go.RowKit

def H (n : Nat) : Value := .int .u32 n
theorem info_u32 : (Try.prog.info? 23).map (fun i => (i.zero, i.size, i.bytes)) = some (some (.int .u32 0), 1, 4) := by kernel_rfl
def OwnH (w : World) (base : Nat) (v : Value) (l : List Nat) : Prop := w.ownsRow base 23 1 v l.length (l.map H)
theorem OwnH.alloc {w : World} {base : Nat} {v : Value} {l : List Nat} (h : OwnH w base v l) (o : Obj) : OwnH (w.alloc o) base v l := World.ownsRow.alloc h o

theorem wp_append_u32 (w : World) {ops : Array Oper} {rest : List Oper} {o : Oper} {a : Act} {Q : Exit → Act → World → Prop} (hgd : o.guard = none) (s x : Operand)
    (ho : o.op = .call { callee := .builtin .append, args := #[s, x], argTypes := #[49, 49] })
    (base : Nat) (v : Value) (l : List Nat) (hs : a.eval s = v) (hown : OwnH w base v l) (g : Nat) (c : Nat) (hx : a.eval x = .slice (some ⟨g, 0, none⟩) 1 1)
    (hc : w.cell? ⟨g, 0, none⟩ = some (H c)) (hl : l.length ≤ 1000000000) (hbase : base ≤ w.heap.size)
    (h : ∀ v' w', OwnH w' base v' (l ++ [c]) → w.grownBy w' v.ownBlock → wpList Try.prog ops Q rest (a.put o.dst v') w') : wpList Try.prog ops Q (o :: rest) a w := by
  obtain ⟨i0, hi, hz0, hz1, hz2⟩ := info_parts info_u32
  refine wpList_append_own w hgd s x 49 ho base 23 i0 (.int .u32 0) 1 4 Try.underlying49 hi hz0 hz1 hz2 rfl (by decide) v l.length _ hs hown ⟨g, 0, none⟩ 1 1 [H c] hx rfl ?_ ?_ ?_ ?_ hbase ?_
  · intro j u hj
    match j, hj with
    | 0, hj => simp at hj; subst hj; simpa [Addr.add] using hc
  · intro u hu; simp at hu; subst hu; rfl
  · unfold maxLen; omega
  · omega
  · intro v' w' h1 h2 _
    exact h v' w' (by unfold OwnH; simpa using h1) h2

theorem OwnH.below {w wr w1 : World} {S : Nat} {v : Value} {l : List Nat} {o : Obj} (hown : OwnH wr S v l) (hbel : Below S w wr) (hS : S ≤ w.heap.size) (hgrow : (wr.alloc o).grownBy w1 v.ownBlock) : Below S w w1 :=
  (hbel.alloc (Nat.le_trans hS hbel.size) o).grown hgrow (by have := hbel.size; simp; omega) (fun j hj => (World.ownsRow.lt hown j hj).1)

/-- The cells of a slice of 32-bit numbers that came in. -/
def Us4 (w : World) (ao : Option Addr) (zs : List Nat) : Prop := ∀ j, j < zs.length → ∃ b off, ao = some ⟨b, off, none⟩ ∧ b < w.heap.size ∧ w.cell? ⟨b, off + j, none⟩ = some (.int .u32 (zs.getD j 0 : Nat))
theorem OwnH.us4 {w : World} {S : Nat} {v : Value} {l : List Nat} (h : OwnH w S v l) : ∃ ao cap, v = .slice ao l.length cap ∧ Us4 w ao l := by
  have h' := h
  obtain ⟨_, ⟨rfl, h0⟩ | ⟨g, cap, cur, rfl, hb, hg, _⟩⟩ := h
  · have : l = [] := List.eq_nil_of_length_eq_zero h0
    subst this
    exact ⟨_, _, rfl, fun j hj => by simp at hj⟩
  · refine ⟨_, cap, rfl, fun j hj => ⟨g, 0, rfl, (Array.getElem?_eq_some_iff.1 hg).1, ?_⟩⟩
    have := World.ownsRow.cellAt h' j (by simpa using hj)
    rw [Nat.zero_add, this]
    simp [List.getD, hj, H]
theorem Us4.below {w w' : World} {ao : Option Addr} {l : List Nat} {S : Nat} (h : Us4 w ao l) (hS : w.heap.size ≤ S) (hb : Below S w w') : Us4 w' ao l := by
  intro j hj
  obtain ⟨b, off, rfl, hlt, hc⟩ := h j hj
  exact ⟨b, off, rfl, Nat.lt_of_lt_of_le hlt hb.size, (hb.cell (p := ⟨b, off + j, none⟩) (Nat.lt_of_lt_of_le hlt hS)).trans hc⟩


/-- make([]uint64, 0, n) -/
theorem wp_make_u64 (w : World) {ops : Array Oper} {rest : List Oper} {o : Oper} {a : Act} {Q : Exit → Act → World → Prop} (hg : o.guard = none) (l c : Operand)
    (hop : o.op = Op.makeSlice 22 l c) (C : Int) (n : Nat) (hl : a.eval l = .int .i64 0) (hc : a.eval c = .int .i64 C) (hC : C = (n : Int)) (b2 : n ≤ 1000000000)
    (hK : ∀ v w', OwnU w' w.heap.size v [] → w.grownBy w' none → wpList Try.prog ops Q rest (a.put o.dst v) w') : wpList Try.prog ops Q (o :: rest) a w := by
  obtain ⟨i0, hi, hz0, hz1, hz2⟩ := info_parts info_u64
  exact wpList_make_own w hg l c 22 hop w.heap.size 40 i0 (.int .u64 0) 1 Try.underlying22 hi hz0 hz1 .i64 .i64 C n hl hc hC (by rw [hz2]; omega) (by unfold maxLen; omega) (Nat.le_refl _) (fun w' h1 h2 => hK _ w' h1 h2)

/-- make([]uint32, 0, n) -/
theorem wp_make_u32 (w : World) {ops : Array Oper} {rest : List Oper} {o : Oper} {a : Act} {Q : Exit → Act → World → Prop} (hg : o.guard = none) (l c : Operand)
    (hop : o.op = Op.makeSlice 49 l c) (C : Int) (n : Nat) (hl : a.eval l = .int .i64 0) (hc : a.eval c = .int .i64 C) (hC : C = (n : Int)) (b2 : n ≤ 1000000000)
    (hK : ∀ v w', OwnH w' w.heap.size v [] → w.grownBy w' none → wpList Try.prog ops Q rest (a.put o.dst v) w') : wpList Try.prog ops Q (o :: rest) a w := by
  obtain ⟨i0, hi, hz0, hz1, hz2⟩ := info_parts info_u32
  exact wpList_make_own w hg l c 49 hop w.heap.size 23 i0 (.int .u32 0) 1 Try.underlying49 hi hz0 hz1 .i64 .i64 C n hl hc hC (by rw [hz2]; omega) (by unfold maxLen; omega) (Nat.le_refl _) (fun w' h1 h2 => hK _ w' h1 h2)
end Go.Proofs.Ytkdfefbjpglcpaa.V
