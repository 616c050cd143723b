/-
  WalkOld's deferred function, walked: what it makes of a panic with an error, and of none.
-/
import Derived.Test.YtjefajpipgicdaaOTold
import Derived.RecoverIn
import Derived.Test.YtjefajpipgicdaaOC
set_option linter.unusedVariables false
namespace Go.Proofs.Ytjefajpipgicdaa.V
open Go.RowKit

theorem run_assert_errno (E : Int) (w : World) : (Instr.typeAssert (.iface 34 (.int .i64 E)) 20 34 false).run Try.prog w = .ok (.int .i64 E) w := by
  simp [Instr.typeAssert, go_sem]
theorem results_none' {fn : Func} (h : fn.results = #[]) (tmps : Array Value) (P : Program) (w : World) : (results fn tmps).run P w = .ok (.tuple #[]) w := by
  simp [results, h, go_sem]
theorem catchIdle (B4 B5 : Nat) (w : World) (k : Nat) :
    CallsDIn Fence.wide k Try.prog 29 #[.pointer (some ⟨B4, 0, none⟩), .pointer (some ⟨B5, 0, none⟩)] .returning w fun e u' w' => e = .returned (.tuple #[]) ∧ u' = .returning ∧ w' = w := by
  refine callsDIn_of_wpSIn Try.func29 rfl trivial fun c₀ cs hu => ?_
  apply wpSIn_seq
  apply wpSIn_region
  simp [wpOpsSIn, go_sem, recoverD, hu, Try.ntmps29, Exit.thenS]
  refine wpSIn_of_wpIn rfl (wpIn_wide.2 ?_)
  rw [show (#[Value.pointer (some { block := B4, off := 0 }), Value.pointer (some { block := B5, off := 0 })] ++ ((Array.replicate 6 undef).setIfInBounds 1 Value.nilIface).setIfInBounds 0 Value.nilIface) = #[.pointer (some ⟨B4, 0, none⟩), .pointer (some ⟨B5, 0, none⟩), .nilIface, .nilIface, undef, undef, undef, undef] from rfl]
  go_wp2_with fail
  exact ⟨rfl, .returning, by rw [← hu], _, results_none' rfl _ _ _, rfl, rfl, rfl⟩
theorem catchPanic (B4 B5 : Nat) (E : Int) (older : List PanicEntry) (x y : Value) (w : World) (k : Nat) (hne : B4 ≠ B5) (h4 : w.cell? ⟨B4, 0, none⟩ = some x) (h5 : w.cell? ⟨B5, 0, none⟩ = some y) (f4 : w.frozen? ⟨B4, 0, none⟩ = false) (f5 : w.frozen? ⟨B5, 0, none⟩ = false) :
    CallsDIn Fence.wide k Try.prog 29 #[.pointer (some ⟨B4, 0, none⟩), .pointer (some ⟨B5, 0, none⟩)] (.panicking ({ v := .iface 34 (.int .i64 E), recovered := false } :: older)) w fun e u' w' =>
      e = .returned (.tuple #[]) ∧ u' = .panicking ({ v := .iface 34 (.int .i64 E), recovered := true } :: older) ∧ w'.cell? ⟨B4, 0, none⟩ = some (.slice none 0 0) ∧ w'.cell? ⟨B5, 0, none⟩ = some (.int .i64 E) ∧ (∀ S v, S ≤ B4 → S ≤ B5 → Below S v w → Below S v w') := by
  have ht := fun w => run_assert_errno E w
  have h5' : (w.setCell ⟨B4, 0, none⟩ (.slice none 0 0)).cell? ⟨B5, 0, none⟩ = some y := set_far _ hne h5
  have f5' : (w.setCell ⟨B4, 0, none⟩ (.slice none 0 0)).frozen? ⟨B5, 0, none⟩ = false := (World.frozen?_setCell _ _ _ _).trans f5
  refine callsDIn_of_wpSIn Try.func29 rfl trivial fun c₀ cs hu => ?_
  apply wpSIn_seq
  apply wpSIn_region
  simp [wpOpsSIn, go_sem, recoverD, hu, Try.ntmps29, Exit.thenS]
  refine wpSIn_of_wpIn rfl (wpIn_wide.2 ?_)
  rw [show (#[Value.pointer (some { block := B4, off := 0 }), Value.pointer (some { block := B5, off := 0 })] ++ ((Array.replicate 6 undef).setIfInBounds 1 (Value.iface 34 (Value.int IntKind.i64 E))).setIfInBounds 0 (Value.iface 34 (Value.int IntKind.i64 E))) = #[.pointer (some ⟨B4, 0, none⟩), .pointer (some ⟨B5, 0, none⟩), .iface 34 (.int .i64 E), .iface 34 (.int .i64 E), undef, undef, undef, undef] from rfl]
  go_wp2_with fail
  go_region
  refine ⟨rfl, _, rfl, _, results_none' rfl _ _ _, rfl, rfl, ?_, ?_, ?_⟩
  · exact set_far _ (Ne.symm hne) (set_at _ h4)
  · exact set_at _ h5'
  · intro S v h1 h2 hb
    exact ((hb.setCell h1 _).setCell h2 _).drew

theorem toldC (ao bo : Option Addr) (ca cb m n : Nat) (w : World) :
    Calls Try.prog 30 #[.slice ao m ca, .slice bo n cb] w fun e w' => e = .returned (.func (.func 39) #[] #[.pointer (some ⟨w.heap.size + 1, 0, none⟩), .pointer (some ⟨w.heap.size, 0, none⟩)]) ∧ w' = (w.alloc (.cells #[.slice ao m ca] 22)).alloc (.cells #[.slice bo n cb] 25) := by
  have hmf : ∀ (fn : Fn) (first cap : Array Value) (w : World), (Instr.makeFunc fn first cap).run Try.prog w = .ok (.func fn first cap) w := fun _ _ _ _ => rfl
  go_enter Try.func30, Try.ntmps30
  go_wp2_with fail
  go_ret
  exact ⟨rfl, rfl⟩
end Go.Proofs.Ytjefajpipgicdaa.V
