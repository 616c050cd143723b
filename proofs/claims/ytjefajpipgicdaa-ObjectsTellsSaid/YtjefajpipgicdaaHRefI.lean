/-
  The document's own answers of layer 5 with results as variables; a shape loaded whole.
-/
import Derived.Test.YtjefajpipgicdaaHRef
import Derived.Deep.MidRow
import Derived.BigQuiet
set_option linter.unusedVariables false
namespace Go.Proofs.Ytjefajpipgicdaa.V
open Go.RowKit

theorem load_sh {w : World} {b o : Nat} {s p : Int} (h1 : w.cell? ⟨b, o, none⟩ = some (.int .i64 s)) (h2 : w.cell? ⟨b, o + 1, none⟩ = some (.int .i64 p)) :
    (Instr.loadAt 28 (.pointer (some ⟨b, o, none⟩))).run Try.prog w = .ok (.agg #[.int .i64 s, .int .i64 p]) w := by
  refine run_loadAt_mid w b o 28 [.int .i64 s, .int .i64 p] _ ?_ Try.underlying28 rfl (by kernel_rfl)
  intro j v hj
  match j, hj with
  | 0, hj => simp at hj; subst hj; exact h1
  | 1, hj => simp at hj; subst hj; exact h2
/-- The load of a whole shape, at a step of a region that draws its order. -/
theorem wpQ_load_sh {ops : Array Oper} {C : World → Prop} {Q : Act → Prop} {rest : List Oper} {o : Oper} {a : Act} (hw : Region.wanted o (yielded ops a.tmps) = true) (x : Operand) (ho : o.op = .load 28 x)
    (b off : Nat) (hx : a.eval x = .pointer (some ⟨b, off, none⟩)) (s p : Int) (hl : ∀ w, C w → w.cell? ⟨b, off, none⟩ = some (.int .i64 s) ∧ w.cell? ⟨b, off + 1, none⟩ = some (.int .i64 p))
    (h : wpQuiet Try.prog ops C Q rest (a.put o.dst (.agg #[.int .i64 s, .int .i64 p]))) : wpQuiet Try.prog ops C Q (o :: rest) a := by
  refine BigFrame.wpQuiet_want hw fun K hK => ⟨_, fun w hc => ?_, hK _ h⟩
  obtain ⟨h1, h2⟩ := hl w hc
  unfold Oper.quietAt execOp
  simp only [ho, hx, Sem.run_bind, load_sh h1 h2, Result.andThen_ok, Sem.run_pure]
  exact ⟨rfl, rfl⟩
theorem refPackI (s p V E : Int) (w : World) (hv : ((hpackI s p).1 : Int) = V) (he : ((hpackI s p).2 : Int) = E) : Calls Try.prog 27 #[.agg #[.int .i64 s, .int .i64 p]] w fun e w' => e = .returned (.tuple #[.int .u64 V, .int .i64 E]) ∧ Below w.heap.size w w' := by
  subst hv; subst he; exact refPack s p w
theorem refAddressI (A : Int) (a : Nat) (V E : Int) (w : World) (hA : A = (a : Int)) (ha : a < 2 ^ 64) (hv : ((haddr a).1 : Int) = V) (he : ((haddr a).2 : Int) = E) : Calls Try.prog 36 #[.int .u64 A] w fun e w' => e = .returned (.tuple #[.int .u64 V, .int .i64 E]) ∧ w = w' := by
  subst hA; subst hv; subst he; exact refAddress a w ha
theorem refUnpackI (A : Int) (a : Nat) (S P E : Int) (w : World) (hA : A = (a : Int)) (ha : a < 2 ^ 64) (hs : ((hunpack a).1 : Int) = S) (hp : ((hunpack a).2.1 : Int) = P) (he : ((hunpack a).2.2 : Int) = E) : Calls Try.prog 37 #[.int .u64 A] w fun e w' => e = .returned (.tuple #[.agg #[.int .i64 S, .int .i64 P], .int .i64 E]) ∧ Below w.heap.size w w' := by
  subst hA; subst hs; subst hp; subst he; exact refUnpack a w ha

end Go.Proofs.Ytjefajpipgicdaa.V
