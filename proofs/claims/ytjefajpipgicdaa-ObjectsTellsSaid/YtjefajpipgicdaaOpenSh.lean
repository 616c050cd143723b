/-
  How an argument that is a shape (a struct of two numbers) is opened.
-/
import Derived.Test.YtjefajpipgicdaaOpen
import Derived.Lib.SmallJoins
set_option linter.unusedVariables false
namespace Go.Proofs.Ytjefajpipgicdaa.V
open Go.ChangeShapes Go.WideShapes Go.ChangeAt Go.RowKit

theorem open_shape {H : Type} {enc : TypeId × Value → H} {W : World} {base : Nat} {v : Value} {d : DataW H} {p : List MemPlace} (hval : Value.okWide Try.prog W .any base 28 v)
    (h : DataW.Trod enc Try.prog W 0 (fun _ => true) true 28 v d p) :
    ∃ a b : Int, v = .agg #[.int .i64 a, .int .i64 b] ∧ -9223372036854775808 ≤ a ∧ a ≤ 9223372036854775807 ∧ -9223372036854775808 ≤ b ∧ b ≤ 9223372036854775807 := by
  obtain ⟨v0, v1, y0, y1, n, rfl, _, _, h0, h1⟩ := Go.Joins.open_agg2 Try.underlying28 (by kernel_rfl) (by kernel_rfl) hval h
  obtain ⟨a, e0, _, w0⟩ := DataW.trod_int Try.underlying3 h0
  obtain ⟨b, e1, _, w1⟩ := DataW.trod_int Try.underlying3 h1
  have e0' : v0 = .int .i64 a := by simpa using e0
  have e1' : v1 = .int .i64 b := by simpa using e1
  have := bounds_i64 w0
  have := bounds_i64 w1
  exact ⟨a, b, by rw [e0', e1'], by omega, by omega, by omega, by omega⟩
end Go.Proofs.Ytjefajpipgicdaa.V
