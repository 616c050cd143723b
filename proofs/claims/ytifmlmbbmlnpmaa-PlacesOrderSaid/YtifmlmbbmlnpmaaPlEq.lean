/-
  Places and layouts compared; what is asked of the program's functions.
-/
import Derived.Test.YtifmlmbbmlnpmaaPlFind
import Derived.Laws.StructEq
set_option linter.unusedVariables false
namespace Go.Proofs.Ytifmlmbbmlnpmaa.V
open Go.RowKit

theorem eql_pl (w : World) (a b c d : Int) : (binOp .eql 27 (.agg #[.int .i64 a, .int .i64 b]) (.agg #[.int .i64 c, .int .i64 d])).run Try.prog w = .ok (.bool (decide (a = c ∧ b = d))) w := by
  have u3 := Try.underlying3
  have a3 := Try.isAgg3
  have z3 := Try.sizeOf3
  have hS : Try.prog.underlying 27 = some (.struct (Try.prog.fieldsOf 27)) := by kernel_rfl
  have hp : Try.prog.stoodInHeld 27 = false := by kernel_rfl
  rw [run_eql_struct, show (10000 : Nat) = 9999 + 1 from rfl, run_equalIn_agg w 9999 27 _ _ hS hp]
  simp only [Program.fieldsOf, Try.underlying27]
  by_cases h1 : a = c <;> by_cases h2 : b = d <;> simp [h1, h2] <;> go_simp
theorem neq_pl (w : World) (a b c d : Int) : (binOp .neq 27 (.agg #[.int .i64 a, .int .i64 b]) (.agg #[.int .i64 c, .int .i64 d])).run Try.prog w = .ok (.bool (!decide (a = c ∧ b = d))) w := by
  have u3 := Try.underlying3
  have a3 := Try.isAgg3
  have z3 := Try.sizeOf3
  have hS : Try.prog.underlying 27 = some (.struct (Try.prog.fieldsOf 27)) := by kernel_rfl
  have hp : Try.prog.stoodInHeld 27 = false := by kernel_rfl
  rw [run_neq_struct, show (10000 : Nat) = 9999 + 1 from rfl, run_equalIn_agg w 9999 27 _ _ hS hp]
  simp only [Program.fieldsOf, Try.underlying27]
  by_cases h1 : a = c <;> by_cases h2 : b = d <;> simp [h1, h2] <;> go_simp
theorem eql_lo (w : World) (l m : Lo) : (binOp .eql 24 (lov l) (lov m)).run Try.prog w = .ok (.bool (decide (l = m))) w := by
  have u3 := Try.underlying3
  have a3 := Try.isAgg3
  have z3 := Try.sizeOf3
  have u5 := Try.underlying22
  have a5 := Try.isAgg22
  have z5 := Try.sizeOf22
  have hS : Try.prog.underlying 24 = some (.struct (Try.prog.fieldsOf 24)) := by kernel_rfl
  have hp : Try.prog.stoodInHeld 24 = false := by kernel_rfl
  obtain ⟨b1, c1, t1, l1, h1, o1, f1⟩ := l
  obtain ⟨b2, c2, t2, l2, h2, o2, f2⟩ := m
  unfold lov
  rw [run_eql_struct, show (10000 : Nat) = 9999 + 1 from rfl, run_equalIn_agg w 9999 24 _ _ hS hp]
  simp only [Program.fieldsOf, Try.underlying24]
  go_simp
  by_cases e1 : b1 = b2
  · by_cases e2 : c1 = c2
    · by_cases e3 : t1 = t2
      · by_cases e4 : l1 = l2
        · by_cases e5 : h1 = h2
          · by_cases e6 : o1 = o2
            · by_cases e7 : f1 = f2
              · simp [e1, e2, e3, e4, e5, e6, e7]
              · simp [e1, e2, e3, e4, e5, e6, e7]
            · simp [e1, e2, e3, e4, e5, e6]
          · simp [e1, e2, e3, e4, e5]
        · simp [e1, e2, e3, e4]
      · simp [e1, e2, e3]
    · simp [e1, e2]
  · have e8 : ¬ (b1 : Int) = (b2 : Int) := by omega
    simp [e1, e8]
theorem neq_lo (w : World) (l m : Lo) : (binOp .neq 24 (lov l) (lov m)).run Try.prog w = .ok (.bool (!decide (l = m))) w := by
  have u3 := Try.underlying3
  have a3 := Try.isAgg3
  have z3 := Try.sizeOf3
  have u5 := Try.underlying22
  have a5 := Try.isAgg22
  have z5 := Try.sizeOf22
  have hS : Try.prog.underlying 24 = some (.struct (Try.prog.fieldsOf 24)) := by kernel_rfl
  have hp : Try.prog.stoodInHeld 24 = false := by kernel_rfl
  obtain ⟨b1, c1, t1, l1, h1, o1, f1⟩ := l
  obtain ⟨b2, c2, t2, l2, h2, o2, f2⟩ := m
  unfold lov
  rw [run_neq_struct, show (10000 : Nat) = 9999 + 1 from rfl, run_equalIn_agg w 9999 24 _ _ hS hp]
  simp only [Program.fieldsOf, Try.underlying24]
  go_simp
  by_cases e1 : b1 = b2
  · by_cases e2 : c1 = c2
    · by_cases e3 : t1 = t2
      · by_cases e4 : l1 = l2
        · by_cases e5 : h1 = h2
          · by_cases e6 : o1 = o2
            · by_cases e7 : f1 = f2
              · simp [e1, e2, e3, e4, e5, e6, e7]
              · simp [e1, e2, e3, e4, e5, e6, e7]
            · simp [e1, e2, e3, e4, e5, e6]
          · simp [e1, e2, e3, e4, e5]
        · simp [e1, e2, e3, e4]
      · simp [e1, e2, e3]
    · simp [e1, e2]
  · have e8 : ¬ (b1 : Int) = (b2 : Int) := by omega
    simp [e1, e8]

/-- What is asked of the program's functions. -/
structure PlC : Prop where
  right : ∀ (l : Lo) (R : Bool) (w : World), l.bd → decide (lright l) = R → Calls Try.prog 14 #[.agg #[.int .u64 (l.base : Int), .int .i64 l.cap, .int .i64 l.to, .int .i64 l.low, .int .i64 l.high, .int .i64 l.old, .int .i64 l.far]] w fun e w' => e = .returned (.bool R) ∧ Below w.heap.size w w'
  room : ∀ (l : Lo) (R : Int) (w : World), l.bd → lroom l = R → Calls Try.prog 16 #[.agg #[.int .u64 (l.base : Int), .int .i64 l.cap, .int .i64 l.to, .int .i64 l.low, .int .i64 l.high, .int .i64 l.old, .int .i64 l.far]] w fun e w' => e = .returned (.int .i64 R) ∧ Below w.heap.size w w'
  flip : ∀ (l m : Lo) (E : Int) (w : World), l.bd → lflip l = (m, E) → Calls Try.prog 12 #[.agg #[.int .u64 (l.base : Int), .int .i64 l.cap, .int .i64 l.to, .int .i64 l.low, .int .i64 l.high, .int .i64 l.old, .int .i64 l.far]] w fun e w' => e = .returned (.tuple #[lov m, .int .i64 E]) ∧ Below w.heap.size w w'
  addr : ∀ (l : Lo) (p i A E : Int) (w : World), l.bd → -9223372036854775808 ≤ p → p ≤ 9223372036854775807 → -9223372036854775808 ≤ i → i ≤ 9223372036854775807 → laddr l p i = (A, E) → Calls Try.prog 18 #[.agg #[.int .u64 (l.base : Int), .int .i64 l.cap, .int .i64 l.to, .int .i64 l.low, .int .i64 l.high, .int .i64 l.old, .int .i64 l.far], .agg #[.int .i64 p, .int .i64 i]] w fun e w' => e = .returned (.tuple #[.int .u64 A, .int .i64 E]) ∧ Below w.heap.size w w'
  find : ∀ (l : Lo) (Y P I E : Int) (w : World), l.bd → 0 ≤ Y → Y ≤ 18446744073709551615 → lfind l Y = ((P, I), E) → Calls Try.prog 20 #[.agg #[.int .u64 (l.base : Int), .int .i64 l.cap, .int .i64 l.to, .int .i64 l.low, .int .i64 l.high, .int .i64 l.old, .int .i64 l.far], .int .u64 Y] w fun e w' => e = .returned (.tuple #[.agg #[.int .i64 P, .int .i64 I], .int .i64 E]) ∧ Below w.heap.size w w'
theorem res_cell1 {fn : Func} {p : Tmp} {ty : TypeId} (h : fn.results = #[.cell p ty]) (tmps : Array Value) (P : Program) (w : World) (g : Nat) (r : Value)
    (hp : tmps.getD p undef = .pointer (some ⟨g, 0, none⟩)) (hr : (loadVar ty ⟨g, 0, none⟩).run P w = .ok r w) : (results fn tmps).run P w = .ok r w := by
  have hp' : tmps[p]?.getD undef = .pointer (some ⟨g, 0, none⟩) := by simpa using hp
  simp [results, h, hp', asAddr, hr]
end Go.Proofs.Ytifmlmbbmlnpmaa.V
