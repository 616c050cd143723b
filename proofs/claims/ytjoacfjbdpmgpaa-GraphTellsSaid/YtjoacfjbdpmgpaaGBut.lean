/-
  Worlds alike but for one block; a slice of numbers copied.
-/
import Derived.Test.YtjoacfjbdpmgpaaGSlot
import Derived.Test.YtjoacfjbdpmgpaaMover
set_option linter.unusedVariables false
namespace Go.Proofs.Ytjoacfjbdpmgpaa.V
open Go.RowKit

/-- All older blocks but Z stand. -/
def But (Z : Nat) (W w' : World) : Prop := W.heap.size ≤ w'.heap.size ∧ ∀ b, b < W.heap.size → b ≠ Z → w'.heap[b]? = W.heap[b]?
theorem But.refl (Z : Nat) (W : World) : But Z W W := ⟨Nat.le_refl _, fun _ _ _ => rfl⟩
theorem But.drew {Z : Nat} {W w' : World} (h : But Z W w') : But Z W w'.drew := h
theorem But.below {Z : Nat} {W a b : World} (h : But Z W a) (hb : Below a.heap.size a b) : But Z W b := ⟨Nat.le_trans h.1 hb.size, fun c hc hz => (hb.block c (Nat.lt_of_lt_of_le hc h.1)).trans (h.2 c hc hz)⟩
theorem But.set {Z : Nat} {W a : World} (h : But Z W a) (j : Nat) (v : Value) : But Z W (a.setCell ⟨Z, j, none⟩ v) := ⟨by rw [Deep.nblk_setCell]; exact h.1, fun c hc hz => (Deep.blk_setCell_other a _ v c hz).trans (h.2 c hc hz)⟩
theorem But.cell {Z : Nat} {W w' : World} (h : But Z W w') {b j : Nat} {v : Value} (hb : b < W.heap.size) (hz : b ≠ Z) (hc : W.cell? ⟨b, j, none⟩ = some v) : w'.cell? ⟨b, j, none⟩ = some v := by
  rw [World.cell?_of_block (a := ⟨b, j, none⟩) (h.2 b hb hz)]; exact hc
theorem Blk.but {Z : Nat} {W w' : World} {b : Nat} {ds : List Value} {u : TypeId} (h : Blk W b ds u) (hk : But Z W w') (hz : b ≠ Z) : Blk w' b ds u := by
  unfold Blk at *
  rw [hk.2 b (heapLt h) hz]; exact h
theorem setCells_far : ∀ (vs : List Value) (o : Nat) (w : World) (g b : Nat), b ≠ g → (w.setCells g o vs).heap[b]? = w.heap[b]?
  | [], _, _, _, _, _ => rfl
  | v :: r, o, w, g, b, h => by
    rw [World.setCells, setCells_far r (o + 1) _ g b h]
    exact Deep.blk_setCell_other w _ v b h
theorem setCells_size : ∀ (vs : List Value) (o : Nat) (w : World) (g : Nat), (w.setCells g o vs).heap.size = w.heap.size
  | [], _, _, _ => rfl
  | v :: r, o, w, g => by rw [World.setCells, setCells_size r (o + 1) _ g, Deep.nblk_setCell]
/-- A whole variable stored in a block of its own: all other blocks stand. -/
theorem wp_store_but {ops : Array Oper} {rest : List Oper} {op : Oper} {a : Act} {w : World} {Q : Exit → Act → World → Prop} (hgd : op.guard = none) (ty : TypeId) (x y : Operand) (ho : op.op = .store ty x y)
    (g : Nat) (cs vs : List Value) (hx : a.eval x = .pointer (some ⟨g, 0, none⟩)) (hy : a.eval y = .agg vs.toArray) (t : TypeId) (hb : Blk w g cs t) (hl : vs.length = cs.length)
    (hi : (Try.prog.info? ty).map (·.size) = some vs.length) (h1 : vs.toArray.all (·.oneCell') = true)
    (h : ∀ w2, Blk w2 g vs t → But g w w2 → (∀ S v, S ≤ g → Below S v w → Below S v w2) → wpList Try.prog ops Q rest (a.put op.dst undef) w2) : wpList Try.prog ops Q (op :: rest) a w := by
  have ht : w.there g 0 vs.toArray.size := fun j hj => by
    rw [Nat.zero_add]
    simp at hj
    refine ⟨?_, Blk.frozen hb j⟩
    rw [Blk.cell hb (v := cs[j]'(by omega)) (by simp [show j < cs.length by omega])]
    rfl
  refine wpList_store_mid hgd ty x y ho g 0 vs.toArray hx hy ht (by simpa using hi) h1 ?_
  refine h _ ?_ ⟨by rw [setCells_size]; exact Nat.le_refl _, fun b _ hz => setCells_far _ _ _ _ _ hz⟩ ?_
  · have := blk_setMany vs 0 w g cs t hb
    rw [setMany_all cs vs hl] at this
    exact this
  · intro S v hS hb2
    exact below_setMany vs 0 S w v g hS hb2
theorem GAt.but {P : Nat → Prop} {w w' : World} {Z : Nat} {na ra : Option Addr} {n nq m rq : Nat} {g : Gr} (h : GAt P w na n nq ra m rq g) (hP : ∀ b, P b → b ≠ Z) (hk : But Z w w') : GAt P w' na n nq ra m rq g :=
  h.kept hk.1 (fun b hb hlt => hk.2 b hlt (hP b hb))
/-- The load of a whole variable at a step of a region that draws its order. -/
theorem wpQ_load_any {ops : Array Oper} {C : World → Prop} {Q : Act → Prop} {rest : List Oper} {o : Oper} {a : Act} (hw : Region.wanted o (yielded ops a.tmps) = true) (ty : TypeId) (x : Operand) (ho : o.op = .load ty x)
    (g : Nat) (hx : a.eval x = .pointer (some ⟨g, 0, none⟩)) (cs : List Value) (t : TypeId) (d : TypeDesc) (hl : ∀ w, C w → Blk w g cs t) (hu : Try.prog.underlying ty = some d) (hd : d.isRow = true) (hi : (Try.prog.info? ty).map (·.size) = some cs.length)
    (h : wpQuiet Try.prog ops C Q rest (a.put o.dst (.agg cs.toArray))) : wpQuiet Try.prog ops C Q (o :: rest) a := by
  refine BigFrame.wpQuiet_want hw fun K hK => ⟨_, fun w hc => ?_, hK _ h⟩
  unfold Oper.quietAt execOp
  simp only [ho, hx, Sem.run_bind, run_loadAt_mid w g 0 ty cs d (fun j v hj => by rw [Nat.zero_add]; exact Blk.cell (hl w hc) hj) hu hd hi, Result.andThen_ok, Sem.run_pure]
  exact ⟨rfl, rfl⟩
theorem Pl.and {α : Type} {P Q : Nat → Prop} {ao : Option Addr} {l : List α} (h : Pl P ao l) (hq : Pl Q ao l) : Pl (fun b => P b ∧ Q b) ao l := fun hl => by
  obtain ⟨b, off, e, hp⟩ := h hl
  obtain ⟨b', off', e', hp'⟩ := hq hl
  rw [e] at e'
  simp only [Option.some.injEq, Addr.mk.injEq, and_true] at e'
  obtain ⟨rfl, rfl⟩ := e'
  exact ⟨b, off, e, hp, hp'⟩
theorem GAt.both {P : Nat → Prop} {w : World} {na ra : Option Addr} {n nq m rq : Nat} {g : Gr} (h : GAt P w na n nq ra m rq g) : GAt (fun b => P b ∧ b < w.heap.size) w na n nq ra m rq g := by
  obtain ⟨nodes, h1, h2, h3, h4, h5, h6, h7, h8, h9, h10, h11, h12, h13, h14, h15, h16⟩ := h
  exact ⟨nodes, h1, h2, h3, h4, h5, h6, h7, h8, h9, h10, h11, h12, h13, h14.and h4.pl, h15.and h6.pl, fun x hx => ⟨(h16 x hx).p.and (h5 x hx).p.pl, (h16 x hx).d.and (h5 x hx).d.pl⟩⟩
theorem own_u_caps {w : World} {S : Nat} {v : Value} {l : List Nat} (h : OwnU w S v l) : ∃ ao cap, v = .slice ao l.length cap ∧ Us w ao l ∧ l.length ≤ cap ∧ cap ≤ 9223372036854775807 ∧ (ao = none → cap = 0) := by
  obtain ⟨ao, cap, rfl, hu⟩ := h.us
  refine ⟨ao, cap, rfl, hu, ?_⟩
  obtain ⟨_, ⟨h2, h0⟩ | ⟨g, cap', cur, h2, h3, h4, h5, h6, _⟩⟩ := h
  · simp only [Value.slice.injEq] at h2
    obtain ⟨rfl, h21, rfl⟩ := h2
    exact ⟨by omega, by omega, fun _ => rfl⟩
  · simp only [Value.slice.injEq] at h2
    obtain ⟨rfl, _, rfl⟩ := h2
    exact ⟨h5, by unfold maxLen at h6; omega, fun h => by cases h⟩
theorem OwnU.keep {w w' : World} {S g gg m cap : Nat} {l : List Nat} (h : OwnU w S (.slice (some ⟨gg, 0, none⟩) m cap) l) (hne : gg ≠ g) (hf : ∀ b ds u, b ≠ g → Blk w b ds u → Blk w' b ds u) : OwnU w' S (.slice (some ⟨gg, 0, none⟩) m cap) l := by
  obtain ⟨h1, ⟨h2, h0⟩ | ⟨g0, cap', cur, h2, h3, h4, h5⟩⟩ := h
  · cases h2
  · simp only [Value.slice.injEq, Option.some.injEq, Addr.mk.injEq, and_true] at h2
    obtain ⟨rfl, rfl, rfl⟩ := h2
    refine ⟨h1, Or.inr ⟨gg, cap, cur, rfl, h3, ?_, h5⟩⟩
    have := hf gg cur.toList _ hne (by unfold Blk; simpa using h4)
    unfold Blk at this
    simpa using this
theorem OwnU.low {w : World} {S S' : Nat} {v : Value} {l : List Nat} (h : OwnU w S v l) (hs : S' ≤ S) : OwnU w S' v l := by
  obtain ⟨h1, h2 | ⟨g, cap, cur, h3, h4, h5⟩⟩ := h
  · exact ⟨h1, Or.inl h2⟩
  · exact ⟨h1, Or.inr ⟨g, cap, cur, h3, Nat.le_trans hs h4, h5⟩⟩
/-- append([]uint64(nil), xs...) -/
theorem wp_copy_us (w : World) {ops : Array Oper} {rest : List Oper} {o : Oper} {a : Act} {Q : Exit → Act → World → Prop} (hgd : Region.wanted o (yielded ops a.tmps) = true) (s x : Operand)
    (ho : o.op = .call { callee := .builtin .append, args := #[s, x], argTypes := #[34, 34] }) (hty : o.type = 34) (hs : a.eval s = .slice none 0 0) (ao : Option Addr) (m cap : Nat) (hx : a.eval x = .slice ao m cap) (zs : List Nat) (hm : zs.length = m) (hu : Us w ao zs) (hn0 : ao = none → cap = 0) (hl : m ≤ 1000000000)
    (h : ∀ ao' cap' w', OwnU w' w.heap.size (.slice ao' m cap') zs → Us w' ao' zs → m ≤ cap' → cap' ≤ 9223372036854775807 → (ao' = none → cap' = 0) → Below w.heap.size w w' → wpList Try.prog ops Q rest (a.put o.dst (.slice ao' m cap')) w') :
    wpList Try.prog ops Q (o :: rest) a w := by
  refine BigFrame.wpList_want hgd fun K hK => ?_
  have hnil : OwnU w w.heap.size (.slice none 0 0) [] := ⟨by simp, Or.inl ⟨rfl, rfl⟩⟩
  obtain ⟨v', w', hrun, h1, h2⟩ := run_append_us hnil hm hu hn0 (by simpa using hl) (Nat.le_refl _)
  rw [List.nil_append] at h1
  obtain ⟨ao', cap', rfl, k2, k3, k4, k5⟩ := own_u_caps h1
  rw [hm] at h1 hrun k3
  unfold Oper.wp
  simp [execOp, ho, hty, resolve, invoke, builtin, hs, hx, hrun, Result.andThen]
  exact hK _ _ (h ao' cap' w' h1 k2 k3 k4 k5 ((Below.refl _ w).grown h2 (Nat.le_refl _) (fun k hk => by simp [Value.ownBlock] at hk)))
end Go.Proofs.Ytjoacfjbdpmgpaa.V
