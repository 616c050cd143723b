/-
  Blocks of one's own, set cell by cell, or as a whole; all others stand.
-/
import Derived.Test.YtjoacfjbdpmgpaaGen
import Derived.Deep.MidRow
set_option linter.unusedVariables false
namespace Go.Proofs.Ytjoacfjbdpmgpaa.V
open Go.RowKit

theorem blk_set {w : World} {g : Nat} {cs : List Value} {t : TypeId} (h : Blk w g cs t) (j : Nat) (v : Value) : Blk (w.setCell ⟨g, j, none⟩ v) g (cs.set j v) t := by
  unfold Blk at h ⊢
  rw [setCell_eq_setRow w g j cs.toArray t (0, 0) v h, setRow_heap w g _ _ t _ h]
  simp
theorem blk_set_far {w : World} {g b : Nat} {cs ds : List Value} {t u : TypeId} (h : Blk w g cs t) (hne : b ≠ g) (j : Nat) (v : Value) (hb : Blk w b ds u) : Blk (w.setCell ⟨g, j, none⟩ v) b ds u := by
  unfold Blk at h hb ⊢
  rw [setCell_eq_setRow w g j cs.toArray t (0, 0) v h, setRow_other w g b _ hne]
  exact hb
def setMany : List Value → Nat → List Value → List Value
  | cs, _, [] => cs
  | cs, o, v :: r => setMany (cs.set o v) (o + 1) r
theorem setMany_len : ∀ (vs cs : List Value) (o : Nat), (setMany cs o vs).length = cs.length
  | [], _, _ => rfl
  | v :: r, cs, o => by rw [setMany, setMany_len r]; simp
theorem setMany_get : ∀ (vs cs : List Value) (o j : Nat), o + vs.length ≤ cs.length → (setMany cs o vs)[j]? = if j < o then cs[j]? else if j < o + vs.length then vs[j - o]? else cs[j]?
  | [], cs, o, j, _ => by simp [setMany]; intro h1 h2; omega
  | v :: r, cs, o, j, h => by
    simp only [List.length_cons] at h
    rw [setMany, setMany_get r (cs.set o v) (o + 1) j (by simp; omega)]
    by_cases h1 : j < o
    · rw [if_pos (by omega), if_pos h1, List.getElem?_set_ne (by omega)]
    · by_cases h2 : j = o
      · subst h2
        rw [if_pos (by omega), if_neg h1, if_pos (by simp)]
        simp [List.getElem?_set_self (show j < cs.length by omega)]
      · rw [if_neg (by omega), if_neg h1]
        by_cases h3 : j < o + 1 + r.length
        · rw [if_pos h3, if_pos (by simp; omega)]
          obtain ⟨k, hk⟩ : ∃ k, j - o = k + 1 := ⟨j - o - 1, by omega⟩
          rw [hk, List.getElem?_cons_succ]
          congr 1; omega
        · rw [if_neg h3, if_neg (by simp; omega), List.getElem?_set_ne (by omega)]
theorem setMany_all (cs vs : List Value) (h : vs.length = cs.length) : setMany cs 0 vs = vs := by
  apply List.ext_getElem?
  intro j
  rw [setMany_get vs cs 0 j (by omega)]
  by_cases h1 : j < vs.length
  · simp [h1]
  · simp only [Nat.zero_add, Nat.not_lt_zero, if_false, if_neg h1]
    rw [List.getElem?_eq_none (by omega), List.getElem?_eq_none (by omega)]
theorem blk_setMany : ∀ (vs : List Value) (o : Nat) (w : World) (g : Nat) (cs : List Value) (t : TypeId), Blk w g cs t → Blk (w.setCells g o vs) g (setMany cs o vs) t
  | [], _, _, _, _, _, h => h
  | v :: r, o, w, g, cs, t, h => by
    rw [World.setCells, setMany]
    exact blk_setMany r (o + 1) _ g _ t (blk_set h o v)
theorem blk_setMany_far : ∀ (vs : List Value) (o : Nat) (w : World) (g b : Nat) (cs ds : List Value) (t u : TypeId), Blk w g cs t → b ≠ g → Blk w b ds u → Blk (w.setCells g o vs) b ds u
  | [], _, _, _, _, _, _, _, _, _, _, h => h
  | v :: r, o, w, g, b, cs, ds, t, u, h, hne, hd => by
    rw [World.setCells]
    exact blk_setMany_far r (o + 1) _ g b _ ds t u (blk_set h o v) hne (blk_set_far h hne o v hd)
theorem below_setMany : ∀ (vs : List Value) (o S : Nat) (w v : World) (g : Nat), S ≤ g → Below S v w → Below S v (w.setCells g o vs)
  | [], _, _, _, _, _, _, h => h
  | x :: r, o, S, w, v, g, hS, h => by
    rw [World.setCells]
    exact below_setMany r (o + 1) S _ v g hS (h.setCell hS _)
/-- A whole variable stored in a block of its own. -/
theorem wp_store_whole {ops : Array Oper} {rest : List Oper} {op : Oper} {a : Act} {w : World} {Q : Exit → Act → World → Prop} (hgd : op.guard = none) (ty : TypeId) (x y : Operand) (ho : op.op = .store ty x y)
    (g : Nat) (cs vs : List Value) (hx : a.eval x = .pointer (some ⟨g, 0, none⟩)) (hy : a.eval y = .agg vs.toArray) (t : TypeId) (hb : Blk w g cs t) (hl : vs.length = cs.length)
    (hi : (Try.prog.info? ty).map (·.size) = some vs.length) (h1 : vs.toArray.all (·.oneCell') = true)
    (h : ∀ w2, Blk w2 g vs t → (∀ b ds u, b ≠ g → Blk w b ds u → Blk w2 b ds u) → (∀ S v, S ≤ g → Below S v w → Below S v w2) → wpList Try.prog ops Q rest (a.put op.dst undef) w2) : wpList Try.prog ops Q (op :: rest) a w := by
  have ht : w.there g 0 vs.toArray.size := fun j hj => by
    rw [Nat.zero_add]
    simp at hj
    refine ⟨?_, Blk.frozen hb j⟩
    rw [Blk.cell hb (v := cs[j]'(by omega)) (by simp [show j < cs.length by omega])]
    rfl
  refine wpList_store_mid hgd ty x y ho g 0 vs.toArray hx hy ht (by simpa using hi) h1 ?_
  refine h _ ?_ ?_ ?_
  · have := blk_setMany vs 0 w g cs t hb
    rw [setMany_all cs vs hl] at this
    exact this
  · intro b ds u hne hd
    exact blk_setMany_far vs 0 w g b cs ds t u hb hne hd
  · intro S v hS hb2
    exact below_setMany vs 0 S w v g hS hb2
theorem res_cell1 {fn : Func} {p : Tmp} {ty : TypeId} (h : fn.results = #[.cell p ty]) (tmps : Array Value) (P : Program) (w : World) (g : Nat) (r : Value)
    (hp : tmps.getD p undef = .pointer (some ⟨g, 0, none⟩)) (hr : (loadVar ty ⟨g, 0, none⟩).run P w = .ok r w) : (results fn tmps).run P w = .ok r w := by
  have hp' : tmps[p]?.getD undef = .pointer (some ⟨g, 0, none⟩) := by simpa using hp
  simp [results, h, hp', asAddr, hr]
theorem res_cell2 {fn : Func} {p u : Tmp} {ty : TypeId} (h : fn.results = #[.cell p ty, .tmp u]) (tmps : Array Value) (P : Program) (w : World) (g : Nat) (r : Value)
    (hp : tmps.getD p undef = .pointer (some ⟨g, 0, none⟩)) (hr : (loadVar ty ⟨g, 0, none⟩).run P w = .ok r w) : (results fn tmps).run P w = .ok (.tuple #[r, tmps.getD u undef]) w := by
  have hp' : tmps[p]?.getD undef = .pointer (some ⟨g, 0, none⟩) := by simpa using hp
  simp [results, h, hp', asAddr, Result.andThen, hr]
/-- Blocks made one behind the other. -/
theorem blk2 {w : World} {o1 o3 : Obj} {cs : List Value} {t : TypeId} : Blk (((w.alloc o1).alloc (.cells cs.toArray t)).alloc o3) (w.heap.size + 1) cs t := by
  have := (Blk.new (w.alloc o1) cs t).below (ba0 _ o3)
  rwa [World.size_alloc] at this
theorem blk3 {w : World} {o1 o2 : Obj} {cs : List Value} {t : TypeId} : Blk (((w.alloc o1).alloc o2).alloc (.cells cs.toArray t)) (w.heap.size + 1 + 1) cs t := by
  have := Blk.new ((w.alloc o1).alloc o2) cs t
  rwa [World.size_alloc, World.size_alloc] at this
end Go.Proofs.Ytjoacfjbdpmgpaa.V
