/-
  The program keeps what is asked of Walk, WalkOld, Kinds and Lay; what XOC asks.
-/
import Derived.Test.YtjefajpipgicdaaOKinds
set_option linter.unusedVariables false
namespace Go.Proofs.Ytjefajpipgicdaa.V
open Go.RowKit

theorem objC : ObjC := ⟨walkC, walkOldC, kindsC, layC⟩

end Go.Proofs.Ytjefajpipgicdaa.V
