/-
  Shape(..).Size, at its step.
-/
import Derived.Test.YtjefajpipgicdaaOLawLay
set_option linter.unusedVariables false
namespace Go.Proofs.Ytjefajpipgicdaa.V
open Go.RowKit

theorem field_sh (w : World) (a b : Int) : (Instr.field 28 (.agg #[.int .i64 a, .int .i64 b]) 0).run Try.prog w = .ok (.int .i64 a) w := by
  have u3 := Try.underlying3
  have a3 := Try.isAgg3
  have z3 := Try.sizeOf3
  have hS : Try.prog.underlying 28 = some (.struct (Try.prog.fieldsOf 28)) := by kernel_rfl
  unfold Instr.field
  simp only [Sem.run_bind, run_underlying hS, Result.andThen_ok, Program.fieldsOf, Try.underlying28]
  go_simp
  simp [asAgg, Result.andThen]
end Go.Proofs.Ytjefajpipgicdaa.V
