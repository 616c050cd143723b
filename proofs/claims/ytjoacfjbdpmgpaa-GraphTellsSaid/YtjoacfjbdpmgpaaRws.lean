/-
  Slices of records of any kind (each record a fixed number of cells): those that came in, those of the call's own, append onto them.
-/
import Derived.Test.YtjoacfjbdpmgpaaBase
import Derived.Laws.AppendOwnNone
import Derived.Laws.OwnMore
set_option linter.unusedVariables false
namespace Go.Proofs.Ytjoacfjbdpmgpaa.V
open Go.RowKit

section
variable {α : Type} {c : α → List Value} {n : Nat}

theorem flat_at (hc : ∀ x, (c x).length = n) : ∀ (l : List α) (j i : Nat) (x : α), l[j]? = some x → i < n → (l.flatMap c)[j * n + i]? = (c x)[i]?
  | [], j, i, x, h, _ => by simp at h
  | y :: r, 0, i, x, h, hi => by
    simp at h; subst h
    rw [List.flatMap_cons, List.getElem?_append_left (by rw [hc]; omega), Nat.zero_mul, Nat.zero_add]
  | y :: r, j + 1, i, x, h, hi => by
    rw [List.flatMap_cons, List.getElem?_append_right (by rw [hc, Nat.succ_mul]; omega), hc, show (j + 1) * n + i - n = j * n + i by rw [Nat.succ_mul]; omega]
    exact flat_at hc r j i x (by simpa using h) hi
theorem flat_len (hc : ∀ x, (c x).length = n) (l : List α) : (l.flatMap c).length = l.length * n := by
  induction l with
  | nil => simp
  | cons y r ih => rw [List.flatMap_cons, List.length_append, hc, ih, List.length_cons, Nat.succ_mul]; omega

/-- The cells of a slice of records. -/
def Rw (c : α → List Value) (n : Nat) (w : World) (ao : Option Addr) (l : List α) : Prop :=
  ∀ j x, l[j]? = some x → ∃ b off, ao = some ⟨b, off, none⟩ ∧ b < w.heap.size ∧ ∀ i v, (c x)[i]? = some v → w.cell? ⟨b, off + (j * n + i), none⟩ = some v
/-- v is a slice of records of the call's own. -/
def OwnR (e : TypeId) (c : α → List Value) (n : Nat) (w : World) (base : Nat) (v : Value) (l : List α) : Prop := w.ownsRow base e n v l.length (l.flatMap c)

theorem Rw.nil (w : World) (ao : Option Addr) : Rw c n w ao [] := fun j x h => by simp at h
theorem OwnR.nil (e : TypeId) (w : World) (base : Nat) : OwnR e c n w base (.slice none 0 0) [] := ⟨by simp, Or.inl ⟨rfl, rfl⟩⟩
theorem Rw.below {w w' : World} {ao : Option Addr} {l : List α} {S : Nat} (h : Rw c n w ao l) (hS : w.heap.size ≤ S) (hb : Below S w w') : Rw c n w' ao l := by
  intro j x hj
  obtain ⟨b, off, rfl, hlt, hcell⟩ := h j x hj
  exact ⟨b, off, rfl, Nat.lt_of_lt_of_le hlt hb.size, fun i v hi => (hb.cell (p := ⟨b, _, none⟩) (Nat.lt_of_lt_of_le hlt hS)).trans (hcell i v hi)⟩
theorem Rw.take {w : World} {ao : Option Addr} {l : List α} (h : Rw c n w ao l) (m : Nat) : Rw c n w ao (l.take m) := by
  intro j x hj
  rw [List.getElem?_take] at hj
  split at hj
  · exact h j x hj
  · cases hj
theorem OwnR.rw' (hc : ∀ x, (c x).length = n) {e : TypeId} {w : World} {S : Nat} {v : Value} {l : List α} (h : OwnR e c n w S v l) :
    ∃ ao cap, v = .slice ao l.length cap ∧ Rw c n w ao l ∧ l.length ≤ cap ∧ cap ≤ 9223372036854775807 ∧ (ao = none → cap = 0) := by
  have h' := h
  obtain ⟨_, ⟨rfl, h0⟩ | ⟨g, cap, cur, rfl, hb, hg, h1, h2, _⟩⟩ := h
  · have : l = [] := List.eq_nil_of_length_eq_zero h0
    subst this
    exact ⟨_, _, rfl, Rw.nil _ _, by simp, by omega, fun _ => rfl⟩
  · refine ⟨_, cap, rfl, fun j x hj => ⟨g, 0, rfl, (Array.getElem?_eq_some_iff.1 hg).1, fun i v hi => ?_⟩, h1, by unfold maxLen at h2; omega, fun h => by cases h⟩
    have hin : i < n := by rw [← hc x]; exact (List.getElem?_eq_some_iff.1 hi).1
    have hjl : j < l.length := (List.getElem?_eq_some_iff.1 hj).1
    have hlt : j * n + i < l.length * n := by
      have : (j + 1) * n ≤ l.length * n := Nat.mul_le_mul_right n hjl
      rw [Nat.succ_mul] at this
      omega
    have := World.ownsRow.cellAt h' (j * n + i) hlt
    rw [Nat.zero_add, this, flat_at hc l j i x hj hin, hi]
theorem OwnR.alloc {e : TypeId} {w : World} {base : Nat} {v : Value} {l : List α} (h : OwnR e c n w base v l) (o : Obj) : OwnR e c n (w.alloc o) base v l := World.ownsRow.alloc h o
/-- What an append onto a slice of the call's own leaves of older memory. -/
theorem OwnR.below {e : TypeId} {w wr w1 : World} {S : Nat} {v : Value} {l : List α} (hown : OwnR e c n wr S v l) (hbel : Below S w wr) (hS : S ≤ w.heap.size) (hgrow : wr.grownBy w1 v.ownBlock) : Below S w w1 :=
  hbel.grown hgrow (Nat.le_trans hS hbel.size) (fun j hj => (World.ownsRow.lt hown j hj).1)
/-- Own, at a later world in which its own block stands as it stood. -/
theorem OwnR.later {e : TypeId} {w w1 : World} {S : Nat} {v : Value} {l : List α} (hown : OwnR e c n w S v l) (hb : Below w.heap.size w w1) : OwnR e c n w1 S v l := by
  obtain ⟨h1, h2 | ⟨g, cap, cur, rfl, hg, hh, h3⟩⟩ := hown
  · exact ⟨h1, Or.inl h2⟩
  · have hlt : g < w.heap.size := (Array.getElem?_eq_some_iff.1 hh).1
    exact ⟨h1, Or.inr ⟨g, cap, cur, rfl, hg, by rw [hb.block g hlt]; exact hh, h3⟩⟩

theorem wp_append_row (e t : TypeId) (z : Value) (bytes : Nat) (hinfo : (Try.prog.info? e).map (fun i => (i.zero, i.size, i.bytes)) = some (some z, n, bytes)) (ht : Try.prog.underlying t = some (.slice e)) (hz : z.cells.size = n) (hn : 0 < n) (hby : bytes ≤ 100)
    (hc : ∀ x, (c x).length = n) (h1 : ∀ x, ∀ u ∈ c x, u.oneCell' = true)
    (w : World) {ops : Array Oper} {rest : List Oper} {o : Oper} {a : Act} {Q : Exit → Act → World → Prop} (hgd : o.guard = none) (s x : Operand)
    (ho : o.op = .call { callee := .builtin .append, args := #[s, x], argTypes := #[t, t] })
    (base : Nat) (v : Value) (l : List α) (hs : a.eval s = v) (hown : OwnR e c n w base v l) (g : Nat) (f : α) (hx : a.eval x = .slice (some ⟨g, 0, none⟩) 1 1)
    (hcell : ∀ i u, (c f)[i]? = some u → w.cell? ⟨g, i, none⟩ = some u) (hl : l.length ≤ 1000000000) (hbase : base ≤ w.heap.size)
    (h : ∀ v' w', OwnR e c n w' base v' (l ++ [f]) → w.grownBy w' v.ownBlock → wpList Try.prog ops Q rest (a.put o.dst v') w') : wpList Try.prog ops Q (o :: rest) a w := by
  obtain ⟨i0, hi, hz0, hz1, hz2⟩ := info_parts hinfo
  refine wpList_append_own w hgd s x t ho base e i0 z n bytes ht hi hz0 hz1 hz2 hz hn v l.length _ hs hown ⟨g, 0, none⟩ 1 1 (c f) hx (by rw [hc]; omega) ?_ (h1 f) ?_ ?_ hbase ?_
  · intro j u hj
    rw [Addr.add_lit, Nat.zero_add]
    exact hcell j u hj
  · unfold maxLen; omega
  · have : (l.length + 1) * bytes ≤ (l.length + 1) * 100 := Nat.mul_le_mul_left _ hby
    omega
  · intro v' w' h1 h2 _
    exact h v' w' (by unfold OwnR; rw [List.flatMap_append]; simpa using h1) h2

theorem run_append_rows (e t : TypeId) (z : Value) (bytes : Nat) (hinfo : (Try.prog.info? e).map (fun i => (i.zero, i.size, i.bytes)) = some (some z, n, bytes)) (ht : Try.prog.underlying t = some (.slice e)) (hz : z.cells.size = n) (hn : 0 < n) (hby : bytes ≤ 100)
    (hc : ∀ x, (c x).length = n) (h1 : ∀ x, ∀ u ∈ c x, u.oneCell' = true)
    {w : World} {base : Nat} {v : Value} {l zs : List α} {ao : Option Addr} {m cap : Nat} (hown : OwnR e c n w base v l) (hm : zs.length = m) (hu : Rw c n w ao zs) (hn0 : ao = none → cap = 0)
    (hl : l.length + m ≤ 1000000000) (hbase : base ≤ w.heap.size) : ∃ v' w', (Builtin.append_ #[t, t] t #[v, .slice ao m cap]).run Try.prog w = .ok v' w' ∧ OwnR e c n w' base v' (l ++ zs) ∧ w.grownBy w' v.ownBlock := by
  obtain ⟨i0, hi, hz0, hz1, hz2⟩ := info_parts hinfo
  cases ao with
  | none =>
    have hz : zs = [] := by
      cases zs with
      | nil => rfl
      | cons z r => obtain ⟨b, off, h, _⟩ := hu 0 z (by simp); simp at h
    subst hz
    simp at hm
    subst hm
    rw [hn0 rfl]
    have := run_append_owned_none (P := Try.prog) (w := w) base t t e i0 n ht hi v l.length (l.flatMap c) hown
    exact ⟨v, w, this, by rw [List.append_nil]; exact hown, World.grownBy.refl _ _⟩
  | some ad =>
    have hnews : ∀ j u, (zs.flatMap c)[j]? = some u → w.cell? (ad.add j) = some u := by
      intro j u hj
      have hjl : j < zs.length * n := by rw [← flat_len hc]; exact (List.getElem?_eq_some_iff.1 hj).1
      have hq : j / n < zs.length := Nat.div_lt_of_lt_mul (by rw [Nat.mul_comm]; exact hjl)
      have hr : j % n < n := Nat.mod_lt _ hn
      have hdm : j / n * n + j % n = j := by rw [Nat.mul_comm]; exact Nat.div_add_mod j n
      obtain ⟨b, off, hao, _, hcell⟩ := hu (j / n) zs[j / n] (List.getElem?_eq_getElem hq)
      obtain rfl := Option.some.inj hao
      rw [← hdm, flat_at hc zs (j / n) (j % n) _ (List.getElem?_eq_getElem hq) hr] at hj
      have := hcell _ _ hj
      rw [hdm] at this
      rw [Addr.add_lit]
      exact this
    obtain ⟨v', w', h1, h2, h3, _⟩ := run_append_own (P := Try.prog) w base t t e i0 z n bytes ht hi hz0 hz1 hz2 hz hn v l.length (l.flatMap c) hown ad m cap (zs.flatMap c) (by rw [flat_len hc, hm]) hnews
      (by intro u hu; obtain ⟨x, _, hx⟩ := List.mem_flatMap.1 hu; exact h1 x u hx) (by unfold maxLen; omega) (by
        have : (l.length + m) * bytes ≤ (l.length + m) * 100 := Nat.mul_le_mul_left _ hby
        omega) hbase
    exact ⟨v', w', h1, by unfold OwnR; rw [List.length_append, List.flatMap_append, hm]; exact h2, h3⟩

theorem wp_append_rows (e t : TypeId) (z : Value) (bytes : Nat) (hinfo : (Try.prog.info? e).map (fun i => (i.zero, i.size, i.bytes)) = some (some z, n, bytes)) (ht : Try.prog.underlying t = some (.slice e)) (hz : z.cells.size = n) (hn : 0 < n) (hby : bytes ≤ 100)
    (hc : ∀ x, (c x).length = n) (h1 : ∀ x, ∀ u ∈ c x, u.oneCell' = true)
    (w : World) {ops : Array Oper} {rest : List Oper} {o : Oper} {a : Act} {Q : Exit → Act → World → Prop} (hgd : Region.wanted o (yielded ops a.tmps) = true) (s x : Operand)
    (ho : o.op = .call { callee := .builtin .append, args := #[s, x], argTypes := #[t, t] }) (hty : o.type = t)
    (base : Nat) (v : Value) (l zs : List α) (hs : a.eval s = v) (hown : OwnR e c n w base v l) (ao : Option Addr) (m cap : Nat) (hx : a.eval x = .slice ao m cap) (hm : zs.length = m) (hu : Rw c n w ao zs) (hn0 : ao = none → cap = 0)
    (hl : l.length + m ≤ 1000000000) (hbase : base ≤ w.heap.size)
    (h : ∀ v' w', OwnR e c n w' base v' (l ++ zs) → w.grownBy w' v.ownBlock → wpList Try.prog ops Q rest (a.put o.dst v') w') : wpList Try.prog ops Q (o :: rest) a w := by
  refine BigFrame.wpList_want hgd fun K hK => ?_
  obtain ⟨v', w', hrun, h1, h2⟩ := run_append_rows e t z bytes hinfo ht hz hn hby hc h1 hown hm hu hn0 hl hbase
  unfold Oper.wp
  simp [execOp, ho, hty, resolve, invoke, builtin, hs, hx, hrun, Result.andThen]
  exact hK _ _ (h v' w' h1 h2)
end
end Go.Proofs.Ytjoacfjbdpmgpaa.V
