/-
  words[k:], at its step: the address stays unknown, so that the walk does not split.
-/
import Derived.Test.YtjefajpipgicdaaUs
set_option linter.unusedVariables false
namespace Go.Proofs.Ytjefajpipgicdaa.V
open Go.RowKit

theorem run_slice_us (w : World) (ao : Option Addr) (m cap k : Nat) (hk : k ≤ m) (hmc : m ≤ cap) :
    (Instr.sliceAt 22 (.slice ao m cap) (some (.int .i64 (k : Int))) none none).run Try.prog w = .ok (.slice (if cap = k then ao else Option.map (fun x => x.add k) ao) (m - k) (cap - k)) w := by
  have u1 := Try.underlying22
  have u2 := Try.underlying24
  have z2 := Try.sizeOf24
  have h1 : (k : Int) ≤ (m : Int) := by omega
  have h2 : (m : Int) ≤ (cap : Int) := by omega
  have h3 : (k : Int) ≤ (cap : Int) := by omega
  have h0 : (0 : Int) ≤ (k : Int) := by omega
  go_simp
theorem wp_slice_us {ops : Array Oper} {rest : List Oper} {op : Oper} {a : Act} {w : World} {Q : Exit → Act → World → Prop} (hgd : op.guard = none) (x y : Operand) (ho : op.op = .slice 22 x (some y) none none)
    (ao : Option Addr) (m cap k : Nat) (hx : a.eval x = .slice ao m cap) (hy : a.eval y = .int .i64 (k : Int)) (hk : k ≤ m) (hmc : m ≤ cap) (l : List Nat) (hl : l.length = m) (hu : Us w ao l) (hn : ao = none → cap = 0)
    (h : ∀ X c', Us w X (l.drop k) → m - k ≤ c' → c' ≤ cap → (X = none → c' = 0) → wpList Try.prog ops Q rest (a.put op.dst (.slice X (m - k) c')) w) : wpList Try.prog ops Q (op :: rest) a w := by
  refine BigFrame.wpList_want (by simp [Region.wanted, hgd]) fun K hK => ?_
  unfold Oper.wp execOp
  simp only [ho, hx, hy, Sem.run_bind, Sem.run_pure, Result.andThen_ok, Option.map_some, Option.map_none, run_slice_us w ao m cap k hk hmc]
  refine hK _ _ (h _ _ (hu.dropIf (by omega)) (by omega) (by omega) ?_)
  intro h2
  have : ao = none := by
    cases ao with
    | none => rfl
    | some ad => split at h2 <;> simp at h2
  have := hn this
  omega
end Go.Proofs.Ytjefajpipgicdaa.V
