/-
  Headers and pointers on plain numbers, and the document's own answers of layer 5, walked: Right, Pack, Unpack, Ref, Address.
-/
import Derived.Test.YtjoacfjbdpmgpaaBase
import Derived.Laws.ResultCell
import Derived.Deep.MidRow
set_option linter.unusedVariables false
namespace Go.Proofs.Ytjoacfjbdpmgpaa.V
open Go.RowKit

abbrev hright (s p : Int) : Prop := 0 ≤ s ∧ s ≤ 255 ∧ 0 ≤ p ∧ p ≤ s
def hpack (s p : Nat) : Nat := 2 * (s + 65536 * p)
/-- Pack of any shape: the word, the error. -/
def hpackI (s p : Int) : Nat × Nat := if hright s p then (hpack s.toNat p.toNat, 0) else (0, 1)
/-- Unpack of any word: Size, Ptrs, the error. -/
def hunpack (w : Nat) : Nat × Nat × Nat := if w / 2 % 65536 ≤ 255 ∧ w / 131072 % 65536 ≤ w / 2 % 65536 ∧ hpack (w / 2 % 65536) (w / 131072 % 65536) = w then (w / 2 % 65536, w / 131072 % 65536, 0) else (0, 0, 3)
def href (a : Nat) : Nat × Nat := if 1 ≤ a ∧ a ≤ 9223372036854775807 then (2 * a + 1, 0) else (0, 1)
def haddr (w : Nat) : Nat × Nat := if w = 0 then (0, 6) else if w % 2 = 0 ∨ w = 1 then (0, 3) else (w / 2, 0)

theorem hpack_lt (s p : Nat) (h1 : s ≤ 255) (h2 : p ≤ s) : hpack s p < 33554432 := by unfold hpack; omega
theorem hunpack_pack (s p : Nat) (h1 : s ≤ 255) (h2 : p ≤ s) : hunpack (hpack s p) = (s, p, 0) := by
  have e1 : hpack s p / 2 % 65536 = s := by unfold hpack; omega
  have e2 : hpack s p / 131072 % 65536 = p := by unfold hpack; omega
  unfold hunpack
  rw [e1, e2, if_pos ⟨h1, h2, rfl⟩]
theorem hunpack_ok (w : Nat) (h : (hunpack w).2.2 = 0) : (hunpack w).1 ≤ 255 ∧ (hunpack w).2.1 ≤ (hunpack w).1 ∧ hpack (hunpack w).1 (hunpack w).2.1 = w := by
  unfold hunpack at h ⊢
  split at h
  · rename_i h2; rw [if_pos h2]; exact h2
  · simp at h
theorem hunpack_err (w : Nat) (h : (hunpack w).2.2 ≠ 0) : hunpack w = (0, 0, 3) := by
  unfold hunpack at h ⊢
  split at h
  · simp at h
  · rename_i h2; rw [if_neg h2]
theorem haddr_ref (a : Nat) (h1 : 1 ≤ a) : haddr (2 * a + 1) = (a, 0) := by
  unfold haddr
  rw [if_neg (by omega), if_neg (by omega)]
  congr 1; omega

theorem rightNo (s p : Int) (w : World) (h : ¬ hright s p) : Calls Try.prog 26 #[.agg #[.int .i64 s, .int .i64 p]] w fun e w' => e = .returned (.bool false) ∧ Below w.heap.size w w' := by
  by_cases h1 : s < 0
  · have d1 : decide (0 ≤ s) = false := by simp; omega
    go_enter Try.func26, Try.ntmps26
    go_wp2_with fail
    go_ret
    exact ⟨rfl, ba0 _ _⟩
  · have d1 : decide (0 ≤ s) = true := by simp; omega
    by_cases h2 : 255 < s
    · have d2 : decide (s ≤ 255) = false := by simp; omega
      go_enter Try.func26, Try.ntmps26
      go_wp2_with fail
      go_ret
      exact ⟨rfl, ba0 _ _⟩
    · have d2 : decide (s ≤ 255) = true := by simp; omega
      by_cases h3 : p < 0
      · have d3 : decide (0 ≤ p) = false := by simp; omega
        go_enter Try.func26, Try.ntmps26
        go_wp2_with fail
        go_ret
        exact ⟨rfl, ba0 _ _⟩
      · have d3 : decide (0 ≤ p) = true := by simp; omega
        have d4 : decide (p ≤ s) = false := by simp; omega
        go_enter Try.func26, Try.ntmps26
        go_wp2_with fail
        go_ret
        exact ⟨rfl, ba0 _ _⟩
theorem rightYes (s p : Int) (w : World) (h : hright s p) : Calls Try.prog 26 #[.agg #[.int .i64 s, .int .i64 p]] w fun e w' => e = .returned (.bool true) ∧ Below w.heap.size w w' := by
  obtain ⟨h1, h2, h3, h4⟩ := h
  go_enter Try.func26, Try.ntmps26
  go_wp2_with fail
  go_ret
  exact ⟨rfl, ba0 _ _⟩
theorem refRight (s p : Int) (w : World) : Calls Try.prog 26 #[.agg #[.int .i64 s, .int .i64 p]] w fun e w' => e = .returned (.bool (decide (hright s p))) ∧ Below w.heap.size w w' := by
  by_cases h : hright s p
  · simpa [h] using rightYes s p w h
  · simpa [h] using rightNo s p w h


/-- A struct of two cells, read and stored whole, at its place. -/
theorem loadVar_sh {w : World} {b : Nat} {s p : Int} (h1 : w.cell? ⟨b, 0, none⟩ = some (.int .i64 s)) (h2 : w.cell? ⟨b, 1, none⟩ = some (.int .i64 p)) :
    (loadVar 28 ⟨b, 0, none⟩).run Try.prog w = .ok (.agg #[.int .i64 s, .int .i64 p]) w := by
  refine run_loadVar_mid w b 0 28 [.int .i64 s, .int .i64 p] _ ?_ Try.underlying28 rfl (by kernel_rfl)
  intro j v hj
  match j, hj with
  | 0, hj => simp at hj; subst hj; exact h1
  | 1, hj => simp at hj; subst hj; exact h2
theorem wp_store_sh {ops : Array Oper} {rest : List Oper} {op : Oper} {a : Act} {w : World} {Q : Exit → Act → World → Prop} (hgd : op.guard = none) (x y : Operand) (ho : op.op = .store 28 x y)
    (g : Nat) (s p : Int) (hx : a.eval x = .pointer (some ⟨g, 0, none⟩)) (hy : a.eval y = .agg #[.int .i64 s, .int .i64 p])
    (hc : ∀ j, j < 2 → (w.cell? ⟨g, j, none⟩).isSome = true) (hf : ∀ j, j < 2 → w.frozen? ⟨g, j, none⟩ = false)
    (h : ∀ w2, w2.cell? ⟨g, 0, none⟩ = some (.int .i64 s) → w2.cell? ⟨g, 1, none⟩ = some (.int .i64 p) → (∀ S v, S ≤ g → Below S v w → Below S v w2) → wpList Try.prog ops Q rest (a.put op.dst undef) w2) : wpList Try.prog ops Q (op :: rest) a w := by
  have ht : w.there g 0 2 := fun j hj => by rw [Nat.zero_add]; exact ⟨hc j hj, hf j hj⟩
  refine wpList_store_mid hgd 28 x y ho g 0 #[.int .i64 s, .int .i64 p] hx hy ht (by kernel_rfl) (by simp [Value.oneCell']) ?_
  have hr := World.rangeAt_setCells_same w g 0 [.int .i64 s, .int .i64 p] ht
  refine h _ (by simpa using hr 0 _ rfl) (by simpa using hr 1 _ rfl) ?_
  intro S v hS hb
  exact (hb.setCell hS _).setCell hS _
theorem results_cell2 {fn : Func} {p u : Tmp} {ty : TypeId} (h : fn.results = #[.cell p ty, .tmp u]) (tmps : Array Value) (P : Program) (w : World) (g : Nat) (r : Value)
    (hp : tmps.getD p undef = .pointer (some ⟨g, 0, none⟩)) (hr : (loadVar ty ⟨g, 0, none⟩).run P w = .ok r w) : (results fn tmps).run P w = .ok (.tuple #[r, tmps.getD u undef]) w := by
  have hp' : tmps[p]?.getD undef = .pointer (some ⟨g, 0, none⟩) := by simpa using hp
  simp [results, h, hp', asAddr, Result.andThen, hr]




end Go.Proofs.Ytjoacfjbdpmgpaa.V
