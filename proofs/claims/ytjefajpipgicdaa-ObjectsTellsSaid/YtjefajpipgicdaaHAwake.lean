/-
  Stage 5: contracts with results as variables, and the statements' fixed calls (awake), walked: they answer as they must: true.
-/
import Derived.Test.YtjefajpipgicdaaHProg
import Derived.Test.YtjefajpipgicdaaPick
set_option linter.unusedVariables false
namespace Go.Proofs.Ytjefajpipgicdaa.V
open Go.RowKit

theorem cell_step {w w' : World} {g j : Nat} {v : Value} (hb : Below w.heap.size w w') (hg : g < w.heap.size) (h : w.cell? ⟨g, j, none⟩ = some v) : w'.cell? ⟨g, j, none⟩ = some v :=
  (hb.cell (p := ⟨g, j, none⟩) hg).trans h
theorem pk_nat (c n : Int) (hn : 1 ≤ n) : ∃ k : Nat, pk c n = (k : Int) ∧ (k : Int) < n := ⟨(pk c n).toNat, by have := pk_bd c n hn; omega, by have := pk_bd c n hn; omega⟩
theorem hPackI (s p V E : Int) (w : World) (hv : ((hpackI s p).1 : Int) = V) (he : ((hpackI s p).2 : Int) = E) : Calls Try.prog 25 #[.agg #[.int .i64 s, .int .i64 p]] w fun e w' => e = .returned (.tuple #[.int .u64 V, .int .i64 E]) ∧ Below w.heap.size w w' := by
  subst hv; subst he; exact hPack s p w
theorem hAddressI (A : Int) (a : Nat) (V E : Int) (w : World) (hA : A = (a : Int)) (ha : a < 2 ^ 64) (hv : ((haddr a).1 : Int) = V) (he : ((haddr a).2 : Int) = E) : Calls Try.prog 26 #[.int .u64 A] w fun e w' => e = .returned (.tuple #[.int .u64 V, .int .i64 E]) ∧ w = w' := by
  subst hA; subst hv; subst he; exact hAddress a w ha
theorem hUnpackI (A : Int) (a : Nat) (S P E : Int) (w : World) (hA : A = (a : Int)) (ha : a < 2 ^ 64) (hs : ((hunpack a).1 : Int) = S) (hp : ((hunpack a).2.1 : Int) = P) (he : ((hunpack a).2.2 : Int) = E) : Calls Try.prog 46 #[.int .u64 A] w fun e w' => e = .returned (.tuple #[.agg #[.int .i64 S, .int .i64 P], .int .i64 E]) ∧ Below w.heap.size w w' := by
  subst hA; subst hs; subst hp; subst he; exact hUnpack a w ha

end Go.Proofs.Ytjefajpipgicdaa.V
