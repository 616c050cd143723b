/-
  append of a whole slice of 64-bit numbers onto one of the call's own, guarded or not; a literal of one number.
-/
import Derived.Test.YtjoacfjbdpmgpaaUs
import Derived.Laws.AppendOwnNone
set_option linter.unusedVariables false
namespace Go.Proofs.Ytjoacfjbdpmgpaa.V
open Go.RowKit

theorem run_append_us {w : World} {base : Nat} {v : Value} {l zs : List Nat} {ao : Option Addr} {m cap : Nat} (hown : OwnU w base v l) (hm : zs.length = m) (hu : Us w ao zs) (hn : ao = none → cap = 0)
    (hl : l.length + m ≤ 1000000000) (hbase : base ≤ w.heap.size) : ∃ v' w', (Builtin.append_ #[34, 34] 34 #[v, .slice ao m cap]).run Try.prog w = .ok v' w' ∧ OwnU w' base v' (l ++ zs) ∧ w.grownBy w' v.ownBlock := by
  obtain ⟨i0, hi, hz0, hz1, hz2⟩ := info_parts info_u64
  cases ao with
  | none =>
    have hz : zs = [] := by
      cases zs with
      | nil => rfl
      | cons z r => obtain ⟨b, off, h, _⟩ := hu 0 (by simp); simp at h
    subst hz
    simp at hm
    subst hm
    rw [hn rfl]
    have := run_append_owned_none (P := Try.prog) (w := w) base 34 34 29 i0 1 Try.underlying34 hi v l.length (l.map U) hown
    exact ⟨v, w, this, by rw [List.append_nil]; exact hown, World.grownBy.refl _ _⟩
  | some ad =>
    have hnews : ∀ j u, (zs.map U)[j]? = some u → w.cell? (ad.add j) = some u := by
      intro j u hj
      have hjl : j < zs.length := by
        have := (List.getElem?_eq_some_iff.1 hj).1; simpa using this
      obtain ⟨b, off, hao, _, hc⟩ := hu j hjl
      obtain rfl := Option.some.inj hao
      rw [Addr.add_lit, hc]
      simp [hjl, U] at hj
      rw [← hj]
      simp [List.getD, hjl]
    obtain ⟨v', w', h1, h2, h3, _⟩ := run_append_own (P := Try.prog) w base 34 34 29 i0 (.int .u64 0) 1 8 Try.underlying34 hi hz0 hz1 hz2 rfl (by decide) v l.length (l.map U) hown ad m cap (zs.map U) (by simp [hm]) hnews
      (by intro u hu; obtain ⟨_, _, rfl⟩ := List.mem_map.1 hu; rfl) (by unfold maxLen; omega) (by omega) hbase
    exact ⟨v', w', h1, by unfold OwnU; rw [List.length_append, List.map_append, hm]; exact h2, h3⟩

theorem wp_append_us (w : World) {ops : Array Oper} {rest : List Oper} {o : Oper} {a : Act} {Q : Exit → Act → World → Prop} (hgd : Region.wanted o (yielded ops a.tmps) = true) (s x : Operand)
    (ho : o.op = .call { callee := .builtin .append, args := #[s, x], argTypes := #[34, 34] }) (hty : o.type = 34)
    (base : Nat) (v : Value) (l zs : List Nat) (hs : a.eval s = v) (hown : OwnU w base v l) (ao : Option Addr) (m cap : Nat) (hx : a.eval x = .slice ao m cap) (hm : zs.length = m) (hu : Us w ao zs) (hn : ao = none → cap = 0)
    (hl : l.length + m ≤ 1000000000) (hbase : base ≤ w.heap.size)
    (h : ∀ v' w', OwnU w' base v' (l ++ zs) → w.grownBy w' v.ownBlock → wpList Try.prog ops Q rest (a.put o.dst v') w') : wpList Try.prog ops Q (o :: rest) a w := by
  refine BigFrame.wpList_want hgd fun K hK => ?_
  obtain ⟨v', w', hrun, h1, h2⟩ := run_append_us hown hm hu hn hl hbase
  unfold Oper.wp
  simp [execOp, ho, hty, resolve, invoke, builtin, hs, hx, hrun, Result.andThen]
  exact hK _ _ (h v' w' h1 h2)

/-- The same at a step of a region that draws its order: for 'go_region_held3'. -/
theorem step_append_us {w : World} {ops : Array Oper} {o : Oper} {a : Act} {K : Act → World → Prop} {Q : Exit → Act → World → Prop} {E : Prop} (hgd : Region.wanted o (yielded ops a.tmps) = true) (s x : Operand)
    (ho : o.op = .call { callee := .builtin .append, args := #[s, x], argTypes := #[34, 34] }) (hty : o.type = 34)
    (w0 : World) (v : Value) (l zs L : List Nat) (n : Nat) (hs : a.eval s = v) (hown : OwnU w w0.heap.size v l) (ao : Option Addr) (m cap : Nat) (hx : a.eval x = .slice ao m cap) (hm : zs.length = m) (hu : Us w ao zs) (hn : ao = none → cap = 0)
    (hL : l ++ zs = L) (hLn : L.length = n) (hl : n ≤ 1000000000) (hb : Below w0.heap.size w0 w)
    (h : ∀ ao' cap' w', OwnU w' w0.heap.size (.slice ao' n cap') L → Us w' ao' L → Below w0.heap.size w0 w' → K (a.put o.dst (.slice ao' n cap')) w') :
    if Region.wanted o (yielded ops a.tmps) = true then Oper.wp Try.prog o a w K Q else E := by
  rw [if_pos hgd]
  have hlen : l.length + m = n := by rw [← hLn, ← hL, List.length_append, hm]
  obtain ⟨v', w', hrun, h1, h2⟩ := run_append_us hown hm hu hn (by omega) hb.size
  rw [hL] at h1
  obtain ⟨ao', cap', rfl, hu'⟩ := OwnU.us h1
  rw [hLn] at h1 hrun
  unfold Oper.wp
  simp [execOp, ho, hty, resolve, invoke, builtin, hs, hx, hrun, Result.andThen]
  exact h ao' cap' w' h1 hu' (hb.grown h2 hb.size (fun k hk => (World.ownsRow.lt hown k hk).1))

theorem OwnU.lit1 (w : World) (base n : Nat) (hb : base ≤ w.heap.size) : OwnU (w.alloc (.cells #[.int .u64 (n : Int)] 29)) base (.slice (some ⟨w.heap.size, 0, none⟩) 1 1) [n] :=
  World.ownsRow_lit w #[.int .u64 (n : Int)] 1 hb (by unfold maxLen; omega) rfl
end Go.Proofs.Ytjoacfjbdpmgpaa.V
