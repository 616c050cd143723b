/-
  append(s, make([]uint64, n)...) onto a slice of the call's own.
-/
import Derived.Test.YtjefajpipgicdaaAppend
import Derived.Lib.AppendZeros
set_option linter.unusedVariables false
namespace Go.Proofs.Ytjefajpipgicdaa.V
open Go.RowKit

theorem zeros_list (n : Nat) : (Builtin.zeroCells #[Value.int .u64 0] n).toList = (List.replicate n 0).map U := by
  have h : (Value.int .u64 0) = U 0 := rfl
  rw [h]
  refine List.ext_getElem? fun j => ?_
  simp only [Builtin.zeroCells]
  by_cases hj : j < n
  · simp [hj, Nat.mod_one]
  · simp [hj]
theorem zeros_size (n : Nat) : (Builtin.zeroCells #[Value.int .u64 0] n).size = n := by
  have := congrArg List.length (zeros_list n)
  simpa using this
theorem own_new {w : World} {base n cap : Nat} {l : List Nat} {rest : Array Value} {cs : Array Value} (hb : base ≤ w.heap.size) (hn : n = l.length) (hnc : n ≤ cap) (hcm : cap ≤ maxLen) (hcs : cs.toList = l.map U ++ rest.toList) (hs : cs.size = cap) :
    OwnU (w.drew.alloc (.cells cs 24)) base (.slice (some ⟨w.heap.size, 0, none⟩) n cap) l := by
  subst hn
  refine ⟨by simp, Or.inr ⟨w.heap.size, cap, cs, rfl, hb, heap_alloc_new w.drew _, hnc, hcm, by omega, ?_⟩⟩
  rw [hcs, Nat.mul_one]
  exact List.take_left' (by simp)
theorem run_append_zeros {w : World} {base : Nat} {v : Value} {l : List Nat} {n : Nat} (ty : TypeId) (hown : OwnU w base v l) (hl : l.length + n ≤ 1000000000) (hbase : base ≤ w.heap.size) :
    ∃ v' w', (Builtin.append_ #[22, 3] ty #[v, .int .i64 n]).run Try.prog w = .ok v' w' ∧ OwnU w' base v' (l ++ List.replicate n 0) ∧ w.grownBy w' v.ownBlock := by
  obtain ⟨i0, hi, hz0, hz1, hz2⟩ := info_parts info_u64
  have hw : IntKind.i64.wrap (n : Int) = n := by rw [IntKind.wrap_i64]; omega
  have hneg : ¬ ((n : Int) < 0) := by omega
  have h48i : ¬ (281474976710656 < (n : Int) * (8 : Int)) := by omega
  have ut := Try.underlying22
  have un := Try.underlying3
  have hown' := hown
  obtain ⟨hlen, ⟨rfl, h0⟩ | ⟨g, cap, cur, rfl, hbg, hg, hnc, hcm, hcs, htake⟩⟩ := hown
  · have hl0 : l = [] := List.eq_nil_of_length_eq_zero h0
    subst hl0
    by_cases hn : n = 0
    · subst hn
      refine ⟨.slice none 0 0, w, ?_, by simpa using hown', World.grownBy.refl _ _⟩
      simp [Builtin.append_, run_underlying ut, run_underlying un, sizeOf, typeInfo, hi, hz2, asInt, asIntOf, IntKind.wrap_i64]
    · refine ⟨_, _, Lib.run_append_nil_zeros w _ _ ty 24 i0 (.int .u64 0) .i64 .i64 ut un hi hz0 n (by omega) (by omega) (by omega) (by rw [hz2]; omega), ?_, ⟨rfl, rfl, rfl, by simp, fun k hk _ => heap_alloc_old w.drew _ hk⟩⟩
      have hge := grownCap_ge w n 0 24
      refine own_new hbase (by simp) hge (grownCap_le_maxLen w n 0 _ (by unfold maxLen; omega)) (rest := Builtin.zeroCells #[Value.int .u64 0] (grownCap w n 0 24 - n)) ?_ ?_
      · show (Builtin.zeroCells #[Value.int .u64 0] n ++ _).toList = _
        rw [Array.toList_append, zeros_list]; rfl
      · show (Builtin.zeroCells #[Value.int .u64 0] n ++ Builtin.zeroCells #[Value.int .u64 0] (grownCap w n 0 24 - n)).size = _
        rw [Array.size_append, zeros_size, zeros_size]; omega
  · by_cases hroom : l.length + n ≤ cap
    · have hcap : cur.size = cap := by omega
      have hst := run_storeCells_at Try.prog g (l.length * 1) 24 ((List.replicate n 0).map U) 0 cur w hg (by simp; omega) (by intro u hu; obtain ⟨_, _, rfl⟩ := List.mem_map.1 hu; rfl)
      simp only [Nat.add_zero, Nat.mul_one] at hst
      have htk : cur.toList.take l.length = l.map U := by simpa using htake
      refine ⟨.slice (some ⟨g, 0, none⟩) (l.length + n) cap, w.setRow g (cur.toList.take l.length ++ (List.replicate n 0).map U ++ cur.toList.drop (l.length + ((List.replicate n 0).map U).length)).toArray, ?_, ?_, ?_⟩
      · by_cases hn : n = 0
        · subst hn
          have hst0 : (storeCells ⟨g, l.length, none⟩ [] 0).run Try.prog w = .ok () (w.setRow g (cur.toList.take l.length ++ (List.replicate 0 0).map U ++ cur.toList.drop (l.length + ((List.replicate 0 0).map U).length)).toArray) := by simpa using hst
          simp only [Nat.add_zero] at hroom
          simp [Builtin.append_, run_underlying ut, run_underlying un, sizeOf, typeInfo, hi, hz1, hz2, asInt, asIntOf, IntKind.wrap_i64, hroom, Addr.add_lit, hst0]
        · have hst2 : (storeCells ⟨g, l.length, none⟩ (Builtin.zeroCells #[Value.int .u64 0] n).toList 0).run Try.prog w = .ok () (w.setRow g (cur.toList.take l.length ++ (List.replicate n 0).map U ++ cur.toList.drop (l.length + ((List.replicate n 0).map U).length)).toArray) := by rw [zeros_list]; exact hst
          have hzc : (Value.int .u64 0).cells = #[Value.int .u64 0] := rfl
          simp [Builtin.append_, run_underlying ut, run_underlying un, sizeOf, typeInfo, zeroValue, hi, hz0, hz1, hz2, asInt, asIntOf, hw, hneg, h48i, hn, hroom, hzc, Addr.add_lit, hst2]
      · refine ⟨by simp, Or.inr ⟨g, cap, _, ?_, hbg, setRow_heap w g cur _ 24 _ hg, ?_, hcm, ?_, ?_⟩⟩
        · simp
        · simpa using hroom
        · simp; omega
        · rw [htk]
          simp only [List.length_append, List.length_replicate, Nat.mul_one, List.map_append]
          exact List.take_left' (by simp)
      · exact ⟨rfl, rfl, rfl, by simp, fun k _ hk => setRow_other w g k _ (fun e => hk (by simp [Value.ownBlock, e]))⟩
    · have hn : n ≠ 0 := by omega
      have holds : ∀ j u, (l.map U)[j]? = some u → w.cell? ((⟨g, 0, none⟩ : Addr).add j) = some u := World.ownsRow.cells hown' (g := g) rfl
      have hfo := run_firstCells_some (P := Try.prog) w.drew 1 l.length ⟨g, 0, none⟩ l.length cap (l.map U) (by simp) (by simpa using holds)
      have h63 : ¬ (9223372036854775807 < ((l.length : Int) + (n : Int))) := by omega
      have h48 : ¬ (281474976710656 < Builtin.nextslicecap (l.length + n) cap * 8) := by
        have := growslice_fits (need := l.length + n) (old := cap) (bytes := 8) (by omega) (by omega)
        omega
      have hzc : (Value.int .u64 0).cells = #[Value.int .u64 0] := rfl
      have hge := grownCap_ge w (l.length + n) cap 24
      refine ⟨.slice (some ⟨w.heap.size, 0, none⟩) (l.length + n) (grownCap w (l.length + n) cap 24), w.drew.alloc (.cells ((l.map U).toArray ++ Builtin.zeroCells #[Value.int .u64 0] n ++ Builtin.zeroCells #[Value.int .u64 0] (grownCap w (l.length + n) cap 24 - (l.length + n))) 24), ?_, ?_, ⟨rfl, rfl, rfl, by simp, fun k hk _ => heap_alloc_old w.drew _ hk⟩⟩
      · simp [Builtin.append_, run_underlying ut, run_underlying un, sizeOf, typeInfo, zeroValue, hi, hz0, hz1, hz2, asInt, asIntOf, hw, hneg, h48i, hn, hroom, h63, h48, Question.forced, hfo, hzc, newRow, grownCap]
      · refine own_new hbase (by simp) hge (grownCap_le_maxLen w _ cap _ (by unfold maxLen; omega)) (rest := Builtin.zeroCells #[Value.int .u64 0] (grownCap w (l.length + n) cap 24 - (l.length + n))) ?_ ?_
        · rw [Array.toList_append, Array.toList_append, zeros_list]
          simp
        · rw [Array.size_append, Array.size_append, zeros_size, zeros_size]
          simp; omega

theorem wp_append_zeros (w : World) {ops : Array Oper} {rest : List Oper} {o : Oper} {a : Act} {Q : Exit → Act → World → Prop} (hgd : o.guard = none) (s x : Operand)
    (ho : o.op = .call { callee := .builtin .append, args := #[s, x], argTypes := #[22, 3] })
    (base : Nat) (v : Value) (l : List Nat) (n : Nat) (hs : a.eval s = v) (hown : OwnU w base v l) (hx : a.eval x = .int .i64 n) (hl : l.length + n ≤ 1000000000) (hbase : base ≤ w.heap.size)
    (h : ∀ v' w', OwnU w' base v' (l ++ List.replicate n 0) → w.grownBy w' v.ownBlock → wpList Try.prog ops Q rest (a.put o.dst v') w') : wpList Try.prog ops Q (o :: rest) a w := by
  obtain ⟨v', w', hr, h1, h2⟩ := run_append_zeros o.type hown hl hbase
  exact Lib.wpList_append_run w hgd s x _ _ ho v _ hs hx v' w' hr (h v' w' h1 h2)
end Go.Proofs.Ytjefajpipgicdaa.V
