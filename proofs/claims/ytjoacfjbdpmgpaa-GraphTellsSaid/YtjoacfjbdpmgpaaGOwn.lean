/-
  Slices that a call copies for itself (append onto nil), of ints, of nodes, of numbers; one element of such a slice stored; graphs in memory, whole.
-/
import Derived.Test.YtjoacfjbdpmgpaaGMem
import Derived.Test.YtjoacfjbdpmgpaaAppend
import Derived.Test.YtjoacfjbdpmgpaaBlk
import Derived.Deep.Heap
set_option linter.unusedVariables false
namespace Go.Proofs.Ytjoacfjbdpmgpaa.V
open Go.RowKit

theorem info_nd : (Try.prog.info? 36).map (fun i => (i.zero, i.size, i.bytes)) = some (some (.agg #[.slice none 0 0, .slice none 0 0]), 2, 48) := by kernel_rfl

section
variable {α : Type} {c : α → List Value} {n : Nat}
/-- append([]T(nil), xs...) -/
theorem run_copy_rows (e t : TypeId) (z : Value) (bytes : Nat) (hinfo : (Try.prog.info? e).map (fun i => (i.zero, i.size, i.bytes)) = some (some z, n, bytes)) (ht : Try.prog.underlying t = some (.slice e)) (hz : z.cells.size = n) (hn : 0 < n) (hby : bytes ≤ 100)
    (hc : ∀ x, (c x).length = n) (h1 : ∀ x, ∀ u ∈ c x, u.oneCell' = true) {w : World} {zs : List α} {ao : Option Addr} {m cap : Nat} (hm : zs.length = m) (hu : Rw c n w ao zs) (hn0 : ao = none → cap = 0) (hl : m ≤ 1000000000) :
    ∃ ao' cap' w', (Builtin.append_ #[t, t] t #[.slice none 0 0, .slice ao m cap]).run Try.prog w = .ok (.slice ao' m cap') w' ∧ OwnR e c n w' w.heap.size (.slice ao' m cap') zs ∧ Rw c n w' ao' zs ∧ m ≤ cap' ∧ cap' ≤ 9223372036854775807 ∧ (ao' = none → cap' = 0) ∧ Below w.heap.size w w' := by
  obtain ⟨v', w', hrun, ho, hg⟩ := run_append_rows e t z bytes hinfo ht hz hn hby hc h1 (OwnR.nil (c := c) (n := n) e w w.heap.size) hm hu hn0 (by simpa using hl) (Nat.le_refl _)
  rw [List.nil_append] at ho
  obtain ⟨ao', cap', rfl, hr, hle, hcap, hno⟩ := ho.rw' hc
  rw [hm] at ho hrun hle
  exact ⟨ao', cap', w', hrun, ho, hr, hle, hcap, hno, (Below.refl _ w).grown hg (Nat.le_refl _) (fun k hk => (by simp [Value.ownBlock] at hk))⟩
theorem step_copy_rows (e t : TypeId) (z : Value) (bytes : Nat) (hinfo : (Try.prog.info? e).map (fun i => (i.zero, i.size, i.bytes)) = some (some z, n, bytes)) (ht : Try.prog.underlying t = some (.slice e)) (hz : z.cells.size = n) (hn : 0 < n) (hby : bytes ≤ 100)
    (hc : ∀ x, (c x).length = n) (h1 : ∀ x, ∀ u ∈ c x, u.oneCell' = true) (w : World) {ops : Array Oper} {o : Oper} {a : Act} {K : Act → World → Prop} {Q : Exit → Act → World → Prop} {E : Prop} (hgd : Region.wanted o (yielded ops a.tmps) = true) (s x : Operand)
    (ho : o.op = .call { callee := .builtin .append, args := #[s, x], argTypes := #[t, t] }) (hty : o.type = t) (hs : a.eval s = .slice none 0 0) (ao : Option Addr) (m cap : Nat) (hx : a.eval x = .slice ao m cap) (zs : List α) (hm : zs.length = m) (hu : Rw c n w ao zs) (hn0 : ao = none → cap = 0) (hl : m ≤ 1000000000)
    (h : ∀ ao' cap' w', OwnR e c n w' w.heap.size (.slice ao' m cap') zs → Rw c n w' ao' zs → m ≤ cap' → cap' ≤ 9223372036854775807 → (ao' = none → cap' = 0) → Below w.heap.size w w' → K (a.put o.dst (.slice ao' m cap')) w') :
    if Region.wanted o (yielded ops a.tmps) = true then Oper.wp Try.prog o a w K Q else E := by
  rw [if_pos hgd]
  obtain ⟨ao', cap', w', hrun, k1, k2, k3, k4, k5, k6⟩ := run_copy_rows e t z bytes hinfo ht hz hn hby hc h1 hm hu hn0 hl
  unfold Oper.wp
  simp [execOp, ho, hty, resolve, invoke, builtin, hs, hx, hrun, Result.andThen]
  exact h ao' cap' w' k1 k2 k3 k4 k5 k6
theorem wp_copy_rows (e t : TypeId) (z : Value) (bytes : Nat) (hinfo : (Try.prog.info? e).map (fun i => (i.zero, i.size, i.bytes)) = some (some z, n, bytes)) (ht : Try.prog.underlying t = some (.slice e)) (hz : z.cells.size = n) (hn : 0 < n) (hby : bytes ≤ 100)
    (hc : ∀ x, (c x).length = n) (h1 : ∀ x, ∀ u ∈ c x, u.oneCell' = true) (w : World) {ops : Array Oper} {rest : List Oper} {o : Oper} {a : Act} {Q : Exit → Act → World → Prop} (hgd : Region.wanted o (yielded ops a.tmps) = true) (s x : Operand)
    (ho : o.op = .call { callee := .builtin .append, args := #[s, x], argTypes := #[t, t] }) (hty : o.type = t) (hs : a.eval s = .slice none 0 0) (ao : Option Addr) (m cap : Nat) (hx : a.eval x = .slice ao m cap) (zs : List α) (hm : zs.length = m) (hu : Rw c n w ao zs) (hn0 : ao = none → cap = 0) (hl : m ≤ 1000000000)
    (h : ∀ ao' cap' w', OwnR e c n w' w.heap.size (.slice ao' m cap') zs → Rw c n w' ao' zs → m ≤ cap' → cap' ≤ 9223372036854775807 → (ao' = none → cap' = 0) → Below w.heap.size w w' → wpList Try.prog ops Q rest (a.put o.dst (.slice ao' m cap')) w') :
    wpList Try.prog ops Q (o :: rest) a w := by
  refine BigFrame.wpList_want hgd fun K hK => ?_
  obtain ⟨ao', cap', w', hrun, k1, k2, k3, k4, k5, k6⟩ := run_copy_rows e t z bytes hinfo ht hz hn hby hc h1 hm hu hn0 hl
  unfold Oper.wp
  simp [execOp, ho, hty, resolve, invoke, builtin, hs, hx, hrun, Result.andThen]
  exact hK _ _ (h ao' cap' w' k1 k2 k3 k4 k5 k6)
/-- An own slice's base may be said lower. -/
theorem OwnR.low {e : TypeId} {w : World} {S S' : Nat} {v : Value} {l : List α} (h : OwnR e c n w S v l) (hs : S' ≤ S) : OwnR e c n w S' v l := by
  obtain ⟨h1, h2 | ⟨g, cap, cur, h3, h4, h5⟩⟩ := h
  · exact ⟨h1, Or.inl h2⟩
  · exact ⟨h1, Or.inr ⟨g, cap, cur, h3, Nat.le_trans hs h4, h5⟩⟩
/-- Where it lies, if it has elements; its block is none of another type. -/
theorem OwnR.at {e : TypeId} {w : World} {S : Nat} {ao : Option Addr} {m cap : Nat} {l : List α} (h : OwnR e c n w S (.slice ao m cap) l) (hm : 0 < m) (hl : l.length = m) : ∃ g, ao = some ⟨g, 0, none⟩ ∧ S ≤ g ∧ g < w.heap.size ∧ ∀ (b : Nat) ds u, Blk w b ds u → u ≠ e → b ≠ g := by
  obtain ⟨_, ⟨h2, h0⟩ | ⟨g, cap', cur, h2, h3, h4, _⟩⟩ := h
  · omega
  · simp only [Value.slice.injEq] at h2
    refine ⟨g, h2.1, h3, heapLt h4, fun b ds u hb hu hbg => ?_⟩
    subst hbg
    unfold Blk at hb
    rw [hb] at h4
    simp only [Option.some.injEq, Obj.cells.injEq] at h4
    exact hu h4.2.1
end
theorem OwnR.fz {α : Type} {c : α → List Value} {n : Nat} {e : TypeId} {w : World} {S g m cap : Nat} {l : List α} (h : OwnR e c n w S (.slice (some ⟨g, 0, none⟩) m cap) l) (hl : l.length = m) (j : Nat) : w.frozen? ⟨g, j, none⟩ = false := by
  unfold OwnR at h
  rw [hl] at h
  exact World.ownsRow.frozenAt h j
theorem own_u_fz {w : World} {S g m cap : Nat} {l : List Nat} (h : OwnU w S (.slice (some ⟨g, 0, none⟩) m cap) l) (hl : l.length = m) (j : Nat) : w.frozen? ⟨g, j, none⟩ = false := by
  unfold OwnU at h
  rw [hl] at h
  exact World.ownsRow.frozenAt h j
/-- An own slice where another block is set. -/
theorem OwnR.keep {α : Type} {c : α → List Value} {n : Nat} {e : TypeId} {w w' : World} {S g gg m cap : Nat} {l : List α} (h : OwnR e c n w S (.slice (some ⟨gg, 0, none⟩) m cap) l) (hne : gg ≠ g) (hf : ∀ b ds u, b ≠ g → Blk w b ds u → Blk w' b ds u) : OwnR e c n w' S (.slice (some ⟨gg, 0, none⟩) m cap) l := by
  obtain ⟨h1, ⟨h2, h0⟩ | ⟨g0, cap', cur, h2, h3, h4, h5⟩⟩ := h
  · cases h2
  · simp only [Value.slice.injEq, Option.some.injEq, Addr.mk.injEq, and_true] at h2
    obtain ⟨rfl, rfl, rfl⟩ := h2
    refine ⟨h1, Or.inr ⟨gg, cap, cur, rfl, h3, ?_, h5⟩⟩
    have := hf gg cur.toList e hne (by unfold Blk; simpa using h4)
    unfold Blk at this
    simpa using this
/-- One int of an own slice, stored. -/
theorem OwnR.stored1 {w : World} {S g m cap : Nat} {l : List Int} (h : OwnR 3 ic 1 w S (.slice (some ⟨g, 0, none⟩) m cap) l) (hl : l.length = m) (r : Nat) (hr : r < m) (to : Int) :
    OwnR 3 ic 1 (w.setCell ⟨g, r, none⟩ (.int .i64 to)) S (.slice (some ⟨g, 0, none⟩) m cap) (l.set r to) ∧ w.grownBy (w.setCell ⟨g, r, none⟩ (.int .i64 to)) (some g) := by
  unfold OwnR at h ⊢
  rw [hl] at h
  have := World.ownsRow.stored h r (.int .i64 to)
  rw [List.length_set, hl]
  have e : (l.set r to).flatMap ic = (l.flatMap ic).set r (.int .i64 to) := by
    have : ∀ x : List Int, x.flatMap ic = x.map (Value.int .i64) := by intro x; induction x with | nil => rfl | cons a t ih => simp [ic, ih]
    rw [this, this, List.map_set]
  rw [e]
  exact this
theorem own_u_at {w : World} {S : Nat} {ao : Option Addr} {m cap : Nat} {l : List Nat} (h : OwnU w S (.slice ao m cap) l) (hm : 0 < m) (hl : l.length = m) : ∃ g, ao = some ⟨g, 0, none⟩ ∧ S ≤ g ∧ g < w.heap.size ∧ ∀ (b : Nat) ds u, Blk w b ds u → u ≠ 29 → b ≠ g := by
  obtain ⟨_, ⟨h2, h0⟩ | ⟨g, cap', cur, h2, h3, h4, _⟩⟩ := h
  · omega
  · simp only [Value.slice.injEq] at h2
    refine ⟨g, h2.1, h3, heapLt h4, fun b ds u hb hu hbg => ?_⟩
    subst hbg
    unfold Blk at hb
    rw [hb] at h4
    simp only [Option.some.injEq, Obj.cells.injEq] at h4
    exact hu h4.2.1
theorem own_u_stored {w : World} {S g m cap : Nat} {l : List Nat} (h : OwnU w S (.slice (some ⟨g, 0, none⟩) m cap) l) (hl : l.length = m) (r : Nat) (hr : r < m) (to : Nat) :
    OwnU (w.setCell ⟨g, r, none⟩ (.int .u64 (to : Int))) S (.slice (some ⟨g, 0, none⟩) m cap) (l.set r to) ∧ w.grownBy (w.setCell ⟨g, r, none⟩ (.int .u64 (to : Int))) (some g) := by
  unfold OwnU at h ⊢
  rw [hl] at h
  have := World.ownsRow.stored h r (.int .u64 (to : Int))
  rw [List.length_set, hl, List.map_set]
  exact this
/-- A block of another place stands where one cell is stored. -/
theorem Blk.far {w : World} {b g j : Nat} {ds : List Value} {u : TypeId} (h : Blk w b ds u) (hne : b ≠ g) (v : Value) : Blk (w.setCell ⟨g, j, none⟩ v) b ds u := by
  unfold Blk at h ⊢
  rw [← h]
  exact Deep.blk_setCell_other w _ v b hne

/-- A list lies in a block of which P holds, if it has elements. -/
def Pl {α : Type} (P : Nat → Prop) (ao : Option Addr) (l : List α) : Prop := l ≠ [] → ∃ b off, ao = some ⟨b, off, none⟩ ∧ P b
theorem Pl.imp {α : Type} {P Q : Nat → Prop} {ao : Option Addr} {l : List α} (h : Pl P ao l) (hq : ∀ b, P b → Q b) : Pl Q ao l := fun hl => by
  obtain ⟨b, off, e, hp⟩ := h hl
  exact ⟨b, off, e, hq b hp⟩
theorem Rw.pl {α : Type} {c : α → List Value} {n : Nat} {w : World} {ao : Option Addr} {l : List α} (h : Rw c n w ao l) : Pl (fun b => b < w.heap.size) ao l := fun hl => by
  cases l with
  | nil => exact absurd rfl hl
  | cons x r => obtain ⟨b, off, e, hb, _⟩ := h 0 x rfl; exact ⟨b, off, e, hb⟩
theorem Us.pl {w : World} {ao : Option Addr} {l : List Nat} (h : Us w ao l) : Pl (fun b => b < w.heap.size) ao l := fun hl => by
  obtain ⟨b, off, e, hb, _⟩ := h 0 (by cases l with | nil => exact absurd rfl hl | cons x r => simp)
  exact ⟨b, off, e, hb⟩
theorem Rw.kept {α : Type} {c : α → List Value} {n : Nat} {w w' : World} {ao : Option Addr} {l : List α} {P : Nat → Prop} (h : Rw c n w ao l) (hp : Pl P ao l) (hs : w.heap.size ≤ w'.heap.size) (hk : ∀ b, P b → b < w.heap.size → w'.heap[b]? = w.heap[b]?) : Rw c n w' ao l := by
  intro j x hj
  obtain ⟨b, off, e, hb, hc⟩ := h j x hj
  obtain ⟨b', off', e', hP⟩ := hp (by intro h0; subst h0; simp at hj)
  rw [e] at e'
  simp only [Option.some.injEq, Addr.mk.injEq, and_true] at e'
  obtain ⟨rfl, rfl⟩ := e'
  exact ⟨b, off, e, Nat.lt_of_lt_of_le hb hs, fun i v hi => by rw [World.cell?_of_block (a := ⟨b, off + (j * n + i), none⟩) (hk b hP hb)]; exact hc i v hi⟩
theorem Us.kept {w w' : World} {ao : Option Addr} {l : List Nat} {P : Nat → Prop} (h : Us w ao l) (hp : Pl P ao l) (hs : w.heap.size ≤ w'.heap.size) (hk : ∀ b, P b → b < w.heap.size → w'.heap[b]? = w.heap[b]?) : Us w' ao l := by
  intro j hj
  obtain ⟨b, off, e, hb, hc⟩ := h j hj
  obtain ⟨b', off', e', hP⟩ := hp (by intro h0; subst h0; simp at hj)
  rw [e] at e'
  simp only [Option.some.injEq, Addr.mk.injEq, and_true] at e'
  obtain ⟨rfl, rfl⟩ := e'
  exact ⟨b, off, e, Nat.lt_of_lt_of_le hb hs, by rw [World.cell?_of_block (a := ⟨b, off + j, none⟩) (hk b hP hb)]; exact hc⟩
structure NdP (P : Nat → Prop) (x : NdV) : Prop where
  p : Pl P x.pa x.ptrs
  d : Pl P x.da x.data
theorem NdP.imp {P Q : Nat → Prop} {x : NdV} (h : NdP P x) (hq : ∀ b, P b → Q b) : NdP Q x := ⟨h.p.imp hq, h.d.imp hq⟩
theorem NdV.ok.kept {w w' : World} {x : NdV} {P : Nat → Prop} (h : x.ok w) (hp : NdP P x) (hs : w.heap.size ≤ w'.heap.size) (hk : ∀ b, P b → b < w.heap.size → w'.heap[b]? = w.heap[b]?) : x.ok w' :=
  ⟨h.p.kept hp.p hs hk, h.d.kept hp.d hs hk, h.pl, h.dl, h.pc, h.dc, h.pn, h.dn, h.pb, h.db⟩
/-- A graph in memory, its lists in blocks of which P holds. -/
def GAt (P : Nat → Prop) (w : World) (na : Option Addr) (n nq : Nat) (ra : Option Addr) (m rq : Nat) (g : Gr) : Prop :=
  ∃ nodes : List NdV, nodes.map NdV.nd = g.nodes ∧ nodes.length = n ∧ g.roots.length = m ∧ Rw nc 2 w na nodes ∧ (∀ x ∈ nodes, x.ok w) ∧ Rw ic 1 w ra g.roots ∧ n ≤ nq ∧ m ≤ rq ∧ nq ≤ 9223372036854775807 ∧ rq ≤ 9223372036854775807 ∧ (na = none → nq = 0) ∧ (ra = none → rq = 0) ∧ (∀ p ∈ g.roots, ib p) ∧ Pl P na nodes ∧ Pl P ra g.roots ∧ ∀ x ∈ nodes, NdP P x
theorem GAt.below {P : Nat → Prop} {w w' : World} {na ra : Option Addr} {n nq m rq : Nat} {g : Gr} (h : GAt P w na n nq ra m rq g) (hb : Below w.heap.size w w') : GAt P w' na n nq ra m rq g := by
  obtain ⟨nodes, h1, h2, h3, h4, h5, h6, h7⟩ := h
  exact ⟨nodes, h1, h2, h3, h4.below (Nat.le_refl _) hb, fun x hx => (h5 x hx).below (Nat.le_refl _) hb, h6.below (Nat.le_refl _) hb, h7⟩
theorem GAt.imp {P Q : Nat → Prop} {w : World} {na ra : Option Addr} {n nq m rq : Nat} {g : Gr} (h : GAt P w na n nq ra m rq g) (hq : ∀ b, P b → Q b) : GAt Q w na n nq ra m rq g := by
  obtain ⟨nodes, h1, h2, h3, h4, h5, h6, h7, h8, h9, h10, h11, h12, h13, h14, h15, h16⟩ := h
  exact ⟨nodes, h1, h2, h3, h4, h5, h6, h7, h8, h9, h10, h11, h12, h13, h14.imp hq, h15.imp hq, fun x hx => (h16 x hx).imp hq⟩
theorem GAt.lt {P : Nat → Prop} {w : World} {na ra : Option Addr} {n nq m rq : Nat} {g : Gr} (h : GAt P w na n nq ra m rq g) : GAt (fun b => b < w.heap.size) w na n nq ra m rq g := by
  obtain ⟨nodes, h1, h2, h3, h4, h5, h6, h7, h8, h9, h10, h11, h12, h13, h14, h15, h16⟩ := h
  exact ⟨nodes, h1, h2, h3, h4, h5, h6, h7, h8, h9, h10, h11, h12, h13, h4.pl, h6.pl, fun x hx => ⟨(h5 x hx).p.pl, (h5 x hx).d.pl⟩⟩
theorem GAt.kept {P : Nat → Prop} {w w' : World} {na ra : Option Addr} {n nq m rq : Nat} {g : Gr} (h : GAt P w na n nq ra m rq g) (hs : w.heap.size ≤ w'.heap.size) (hk : ∀ b, P b → b < w.heap.size → w'.heap[b]? = w.heap[b]?) : GAt P w' na n nq ra m rq g := by
  obtain ⟨nodes, h1, h2, h3, h4, h5, h6, h7, h8, h9, h10, h11, h12, h13, h14, h15, h16⟩ := h
  exact ⟨nodes, h1, h2, h3, h4.kept h14 hs hk, fun x hx => (h5 x hx).kept (h16 x hx) hs hk, h6.kept h15 hs hk, h7, h8, h9, h10, h11, h12, h13, h14, h15, h16⟩
/-- No list of it is too long for any machine. -/
def gsm (g : Gr) : Prop := g.nodes.length ≤ 1000000 ∧ g.roots.length ≤ 1000000 ∧ ∀ x ∈ g.nodes, x.ptrs.length ≤ 1000000 ∧ x.data.length ≤ 1000000
theorem gsm_right {g : Gr} (h : gright g) (hn : g.nodes.length ≤ 1000000) : gsm g := ⟨hn, by have := h.1; omega, fun x hx => by have := (h.2.2 x hx).1; omega⟩
end Go.Proofs.Ytjoacfjbdpmgpaa.V
