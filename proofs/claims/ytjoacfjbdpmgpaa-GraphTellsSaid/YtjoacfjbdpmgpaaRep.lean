/-
  slices.Repeat at one number, walked.
-/
import Derived.Test.YtjoacfjbdpmgpaaGOwn
import Derived.Laws.CopyRow
import Derived.Laws.MakeOwn
import Derived.Laws.CopyOwn
set_option linter.unusedVariables false
namespace Go.Proofs.Ytjoacfjbdpmgpaa.V
open Go.RowKit

theorem oMul64 (c : Nat) (w : World) (hc : c ≤ 255) : Calls Try.prog 57 #[.int .u64 1, .int .u64 c] w fun e w' => e = .returned (.tuple #[.int .u64 0, .int .u64 c]) ∧ w = w' := by
  have b1 : bits BinOp.and IntKind.u64 1 4294967295 = 1 := by decide +kernel
  have b0 : bits BinOp.and IntKind.u64 0 4294967295 = 0 := by decide +kernel
  have bc : bits BinOp.and IntKind.u64 (c : Int) 4294967295 = (c : Int) := (by decide +kernel : ∀ x : Fin 256, bits BinOp.and IntKind.u64 (x.val : Int) 4294967295 = (x.val : Int)) ⟨c, by omega⟩
  have d1 : (c : Int) / 4294967296 = 0 := by omega
  go_enter Try.func57, Try.ntmps57
  go_wp2_with fail
  go_ret2
  exact ⟨rfl, rfl⟩
theorem oMul (c : Nat) (w : World) (hc : c ≤ 255) : Calls Try.prog 54 #[.int .u64 1, .int .u64 c] w fun e w' => e = .returned (.tuple #[.int .u64 0, .int .u64 c]) ∧ w = w' := by
  go_enter Try.func54, Try.ntmps54
  go_wp2_with fail
  refine (oMul64 c _ hc).mono ?_
  rintro e w1 ⟨rfl, rfl⟩
  go_wp2_with fail
  go_ret2
  exact ⟨rfl, rfl⟩

theorem wp_copy_is {ops : Array Oper} {rest : List Oper} {o : Oper} {a : Act} {w : World} {Q : Exit → Act → World → Prop} (hgd : o.guard = none) (d s : Operand) (ho : o.op = .call { callee := .builtin .copy, args := #[d, s], argTypes := #[23, 23] })
    (x y : Value) (hx : a.eval d = x) (hy : a.eval s = y) (k : Nat) (w' : World) (hrun : ∀ ty, (Builtin.copy_ #[23, 23] ty #[x, y]).run Try.prog w = .ok (.int .i64 k) w') (h : wpList Try.prog ops Q rest (a.put o.dst (.int .i64 k)) w') : wpList Try.prog ops Q (o :: rest) a w := by
  refine BigFrame.wpList_want (by simp [Region.wanted, hgd]) fun K hK => ?_
  unfold Oper.wp
  simp [execOp, ho, resolve, invoke, builtin, hx, hy, hrun, Result.andThen]
  exact hK _ _ h
theorem run_slice_from (w : World) (G c n : Nat) (hn : n < c) : (Instr.sliceAt 23 (.slice (some ⟨G, 0, none⟩) c c) (some (.int .i64 (n : Int))) none none).run Try.prog w = .ok (.slice (some ⟨G, n, none⟩) (c - n) (c - n)) w := by
  have u1 := Try.underlying23
  have u2 := Try.underlying3
  have z2 := Try.sizeOf3
  have h1 : (n : Int) ≤ (c : Int) := by omega
  have h0 : (0 : Int) ≤ (n : Int) := by omega
  have h2 : ¬ c = n := by omega
  go_simp
theorem run_slice_to (w : World) (G c n : Nat) (hn : n ≤ c) : (Instr.sliceAt 23 (.slice (some ⟨G, 0, none⟩) c c) none (some (.int .i64 (n : Int))) none).run Try.prog w = .ok (.slice (some ⟨G, 0, none⟩) n c) w := by
  have u1 := Try.underlying23
  have u2 := Try.underlying3
  have z2 := Try.sizeOf3
  have h1 : (n : Int) ≤ (c : Int) := by omega
  have h0 : (0 : Int) ≤ (n : Int) := by omega
  go_simp
/-- The row of which the first n are filled. -/
def repA (c n : Nat) (k : Int) : Array Value := (List.replicate n (Value.int .i64 k) ++ List.replicate (c - n) (Value.int .i64 0)).toArray
theorem repA_copy (c n m : Nat) (k : Int) (h : n + m ≤ c) : ((repA c n k).toList.take n ++ List.replicate m (Value.int .i64 k) ++ (repA c n k).toList.drop (n + (List.replicate m (Value.int .i64 k)).length)).toArray = repA c (n + m) k := by
  unfold repA
  rw [List.length_replicate]
  congr 1
  have e1 : (List.replicate n (Value.int .i64 k) ++ List.replicate (c - n) (Value.int .i64 0)).take n = List.replicate n (Value.int .i64 k) := by
    rw [List.take_append_of_le_length (by simp)]; simp
  have e2 : (List.replicate n (Value.int .i64 k) ++ List.replicate (c - n) (Value.int .i64 0)).drop (n + m) = List.replicate (c - (n + m)) (Value.int .i64 0) := by
    rw [List.drop_append, List.drop_eq_nil_of_le (by simp), List.nil_append, List.drop_replicate]
    congr 1; simp; omega
  rw [e1, e2, List.replicate_append_replicate]
theorem copy_rep (W : World) (G c n m sL sC : Nat) (k : Int) (a : Addr) (hm : m = Nat.min sL (c - n)) (hg : W.heap[G]? = some (.cells (repA c n k) 3 (0, 0))) (hnc : n + m ≤ c) (hsrc : ∀ j, j < m → W.cell? (a.add j) = some (.int .i64 k)) :
    ∀ ty, (Builtin.copy_ #[23, 23] ty #[.slice (some ⟨G, n, none⟩) (c - n) (c - n), .slice (some a) sL sC]).run Try.prog W = .ok (.int .i64 m) (W.setRow G (repA c (n + m) k)) := by
  intro ty
  have h := run_copy_row Try.prog W 23 23 ty 3 G n (c - n) (c - n) a sL sC (repA c n k) 3 (List.replicate m (Value.int .i64 k)) Try.underlying23 (by kernel_rfl) hg (by rw [List.length_replicate]; exact hm)
    (fun j v hj => by
      obtain ⟨h1, h2⟩ := List.getElem?_eq_some_iff.1 hj
      simp at h1 h2
      subst h2
      exact hsrc j h1) (by simp [repA]; omega) (by intro v hv; rw [List.mem_replicate] at hv; rw [hv.2]; rfl)
  rw [repA_copy c n m k hnc, List.length_replicate] at h
  exact h

theorem made_rep (c : Nat) (k : Int) : madeCells #[Value.int .i64 0] (c * 1) = repA c 0 k := by
  unfold repA madeCells
  apply Array.ext
  · simp
  · intro i h1 h2
    simp [Nat.mod_one]
theorem repA_cell {W : World} {G c n : Nat} {k : Int} (hg : W.heap[G]? = some (.cells (repA c n k) 3 (0, 0))) (j : Nat) (hj : j < n) : W.cell? ⟨G, j, none⟩ = some (.int .i64 k) := by
  simp [World.cell?, hg, repA, hj, List.getElem?_append]
set_option maxRecDepth 100000 in
theorem oRepeat (g0 c : Nat) (k : Int) (w : World) (hc : c ≤ 255) (h0 : w.cell? ⟨g0, 0, none⟩ = some (.int .i64 k)) (hlt : g0 < w.heap.size) :
    Calls Try.prog 49 #[.slice (some ⟨g0, 0, none⟩) 1 1, .int .i64 c] w fun e w' => ∃ g', e = .returned (.slice (some ⟨g', 0, none⟩) c c) ∧ w.heap.size ≤ g' ∧ w'.heap[g']? = some (.cells (repA c c k) 3 (0, 0)) ∧ Below w.heap.size w w' := by
  obtain ⟨i0, hi, hz0, hz1, hz2⟩ := info_parts info_in
  have hmk := run_makeSlice (P := Try.prog) w 23 3 i0 _ Try.underlying23 hi hz0 .i64 .i64 (c : Int) (c : Int) (by omega) (by omega) (by rw [hz1]; simp; omega) (by rw [hz2]; omega) (by omega)
  rw [hz1, Int.toNat_natCast, show (Value.int .i64 0).cells = #[Value.int .i64 0] from rfl, made_rep c k] at hmk
  have HB1 := Lib.hid (ba0 w (.cells (repA c 0 k) 3))
  have hG1 : (w.alloc (.cells (repA c 0 k) 3)).heap[w.heap.size]? = some (.cells (repA c 0 k) 3 (0, 0)) := heap_alloc_new w _
  have h1 : (w.alloc (.cells (repA c 0 k) 3)).cell? ⟨g0, 0, none⟩ = some (.int .i64 k) := cellS HB1.out hlt h0
  obtain ⟨m, hm⟩ : ∃ m, m = Nat.min 1 (c - 0) := ⟨_, rfl⟩
  have hmc : m ≤ c := by rw [hm]; exact Nat.le_trans (Nat.min_le_right _ _) (by omega)
  have hm1 : m ≤ 1 := by rw [hm]; exact Nat.min_le_left _ _
  have hm0 : 1 ≤ m ∨ c = 0 := by rcases Nat.eq_zero_or_pos c with h | h; exact Or.inr h; exact Or.inl (by rw [hm]; exact Nat.le_min.2 ⟨Nat.le_refl _, by omega⟩)
  have hcp := copy_rep _ w.heap.size c 0 m 1 1 k ⟨g0, 0, none⟩ hm hG1 (by omega) (fun j hj => by
    obtain rfl : j = 0 := by omega
    rw [show (⟨g0, 0, none⟩ : Addr).add 0 = ⟨g0, 0, none⟩ from rfl]
    exact h1)
  simp only [Nat.sub_zero, Nat.zero_add] at hcp
  have HCP := Lib.hid hcp
  have HM := Lib.hid hm
  clear hcp hm h0 h1
  go_enter Try.func49, Try.ntmps49
  go_wp2_with fail
  refine (oMul c _ hc).mono ?_
  rintro e w1 ⟨rfl, rfl⟩
  have hcp3 := HCP.out 3
  go_wp2_with fail
  have HG2 := Lib.hid (setRow_heap (w.alloc (.cells (repA c 0 k) 3)) w.heap.size _ (repA c m k) _ _ hG1)
  have HB2 := Lib.hid (show Below w.heap.size w ((w.alloc (.cells (repA c 0 k) 3)).setRow w.heap.size (repA c m k)) from below_setRow HB1.out (Nat.le_refl _) _)
  clear HCP hG1 hmk hcp3
  generalize (w.alloc (.cells (repA c 0 k) 3)).setRow w.heap.size (repA c m k) = W2 at HG2 HB2 ⊢
  go_loopw [8] (fun nn wr => ∃ n, nn = .int .i64 (n : Nat) ∧ n ≤ c ∧ (1 ≤ n ∨ c = 0) ∧ Hid (wr.heap[w.heap.size]? = some (.cells (repA c n k) 3 (0, 0))) ∧ Hid (Below w.heap.size w wr)) (fun nn _ => c - (intOf nn).toNat)
  case atStart => exact ⟨m, rfl, hmc, hm0, HG2, HB2⟩
  case round =>
    obtain ⟨n, rfl, hn, hn1, HG, HB⟩ := hrel
    by_cases hnc : n < c
    · obtain ⟨q, hq⟩ : ∃ q, q = Nat.min n (c - n) := ⟨_, rfl⟩
      have hq1 : n + q ≤ c := by
        have h9 : q ≤ c - n := by rw [hq]; exact Nat.min_le_right _ _
        omega
      have hq0 : 1 ≤ q := by rw [hq]; exact Nat.le_min.2 ⟨by omega, by omega⟩
      have hqn : q ≤ n := by rw [hq]; exact Nat.min_le_left _ _
      have HCP := Lib.hid (copy_rep wr.drew w.heap.size c n q n c k ⟨w.heap.size, 0, none⟩ hq HG.out hq1 (fun j hj => by rw [Addr.add_lit, Nat.zero_add]; exact repA_cell (W := wr.drew) HG.out j (by omega)))
      have hs1 := run_slice_from wr.drew w.heap.size c n hnc
      have hs2 := run_slice_to wr.drew w.heap.size c n hn
      clear hq
      go_wp2_with fail
      have hcp3 := HCP.out 3
      have hw1 : IntKind.i64.wrap ((n : Int) + q) = (n : Int) + q := IntWalk.i64_in _ (by omega)
      have HG3 := Lib.hid (setRow_heap wr.drew w.heap.size _ (repA c (n + q) k) _ _ HG.out)
      have HB3 := Lib.hid (below_setRow (HB.out.drew) (Nat.le_refl w.heap.size) (repA c (n + q) k))
      go_wp2_with fail
      go_region
      simp only [Exit.inBlock]
      go_roundw
      case rel =>
        refine ⟨_, _, _, _, _, _, _, _, _, _, _, _, _, _, ?_, rfl⟩
        exact ⟨n + q, by go_num, hq1, Or.inl (by omega), HG3, HB3⟩
      case measure => simp [intOf]; omega
    · obtain rfl : n = c := by omega
      go_wp2_with fail
      go_ret
      exact ⟨_, rfl, Nat.le_refl _, HG.out, HB.out⟩
end Go.Proofs.Ytjoacfjbdpmgpaa.V
