/-
  The program's add: a node more, behind all, and a root that is it; walked.
-/
import Derived.Test.YtjoacfjbdpmgpaaGProg6
import Derived.Test.YtjoacfjbdpmgpaaRep
import Derived.Test.YtjoacfjbdpmgpaaPart
import Derived.Test.YtjoacfjbdpmgpaaHProg
import Derived.Test.YtjoacfjbdpmgpaaGDoNew
set_option linter.unusedVariables false
namespace Go.Proofs.Ytjoacfjbdpmgpaa.V
open Go.RowKit

theorem kept_of {v : Value} {row : Option Nat} (h : ∀ k, row = some k → v.ownBlock ≠ some k) : v.ownBlock = none ∨ v.ownBlock ≠ row := by
  cases hv : v.ownBlock with
  | none => exact Or.inl rfl
  | some k => right; intro e; exact h k e.symm hv
theorem NdO.grown {S : Nat} {w w' : World} {x : NdV} {row : Option Nat} (h : NdO S w x) (hg : w.grownBy w' row) (hp : ∀ k, row = some k → (ptrV x).ownBlock ≠ some k) (hd : ∀ k, row = some k → (datV x).ownBlock ≠ some k) : NdO S w' x :=
  ⟨World.ownsRow.kept h.p hg (kept_of hp), World.ownsRow.kept h.d hg (kept_of hd)⟩
theorem own_rep {w : World} {S g c : Nat} {k : Int} (hg : w.heap[g]? = some (.cells (repA c c k) 3 (0, 0))) (hS : S ≤ g) (hc : c ≤ 1000000) : OwnR 3 ic 1 w S (.slice (some ⟨g, 0, none⟩) c c) (List.replicate c k) := by
  have e : ∀ c : Nat, (List.replicate c k).flatMap ic = List.replicate c (Value.int .i64 k) := by
    intro c
    induction c with
    | zero => rfl
    | succ c ih => rw [List.replicate_succ, List.flatMap_cons, ih, List.replicate_succ]; rfl
  unfold OwnR
  rw [List.length_replicate, e]
  refine ⟨by simp, Or.inr ⟨g, c, repA c c k, rfl, hS, hg, Nat.le_refl _, by unfold maxLen; omega, by simp [repA], ?_⟩⟩
  simp [repA]
/-- make([]uint64, n) at a step of a region that draws its order. -/
theorem step_make_us (w : World) {ops : Array Oper} {o : Oper} {a : Act} {K : Act → World → Prop} {Q : Exit → Act → World → Prop} {E : Prop} (hgd : Region.wanted o (yielded ops a.tmps) = true) (l c : Operand)
    (hop : o.op = Op.makeSlice 34 l c) (n : Nat) (hl : a.eval l = .int .i64 (n : Int)) (hc : a.eval c = .int .i64 (n : Int)) (b2 : n ≤ 1000000000)
    (hK : ∀ w', OwnU w' w.heap.size (.slice (some ⟨w.heap.size, 0, none⟩) n n) (List.replicate n 0) → Below w.heap.size w w' → K (a.put o.dst (.slice (some ⟨w.heap.size, 0, none⟩) n n)) w') :
    if Region.wanted o (yielded ops a.tmps) = true then Oper.wp Try.prog o a w K Q else E := by
  rw [if_pos hgd]
  obtain ⟨i0, hi, hz0, hz1, hz2⟩ := info_parts info_u64
  obtain ⟨w', hrun, ho, hgr⟩ := run_make_full w (P := Try.prog) w.heap.size 34 29 i0 (.int .u64 0) 1 Try.underlying34 hi hz0 hz1 .i64 .i64 n (by rw [hz2]; omega) (by unfold maxLen; omega) (Nat.le_refl _)
  have ho2 : OwnU w' w.heap.size (.slice (some ⟨w.heap.size, 0, none⟩) n n) (List.replicate n 0) := by
    unfold OwnU
    rw [List.length_replicate]
    have e : (madeCells (Value.int .u64 0).cells (n * 1)).toList = (List.replicate n 0).map U := by
      show (madeCells #[Value.int .u64 0] (n * 1)).toList = _
      rw [Nat.mul_one, toList_madeCells_one, List.map_replicate]
      rfl
    rw [e] at ho
    exact ho
  unfold Oper.wp execOp
  simp only [hop, hl, hc, Sem.run_bind, hrun, Result.andThen_ok, Sem.run_pure]
  exact hK w' ho2 ((Below.refl _ w).grown hgr (Nat.le_refl _) (fun k hk => by cases hk))
/-- What an append of a node, and its store, leave. -/
theorem add_end {S Z : Nat} {W w21 w' : World} {na ra ao : Option Addr} {n cq m rq cp : Nat} {nodes : List NdV} {roots : List Int} {L : NdV} (h : GO S W na n cq ra m rq nodes roots) (hz : Blk W Z [.slice na n cq, .slice ra m rq] 61) (hL : NdO S W L) (hLb : ndb L)
    (ho : OwnR 36 nc 2 w21 S (.slice ao (n + 1) cp) (nodes ++ [L])) (hg : W.grownBy w21 (Value.slice na n cq).ownBlock) (he : w'.heap = (w21.setCell ⟨Z, 0, none⟩ (.slice ao (n + 1) cp)).heap) :
    Blk w' Z [.slice ao (n + 1) cp, .slice ra m rq] 61 ∧ GAt (fun b => S ≤ b) w' ao (n + 1) cp ra m rq ⟨nodes.map NdV.nd ++ [L.nd], roots⟩ := by
  have hz1 : Blk w21 Z [.slice na n cq, .slice ra m rq] 61 := hz.grown hg (h.no.notblk hz (by decide))
  have hk0 : But Z w21 (w21.setCell ⟨Z, 0, none⟩ (.slice ao (n + 1) cp)) := (But.refl Z w21).set 0 _
  have hk : But Z w21 w' := ⟨by rw [he]; exact hk0.1, by rw [he]; exact hk0.2⟩
  have hx1 : ∀ x, NdO S W x → NdO S w' x := fun x hx => by
    have h1 : NdO S w21 x := hx.grown hg (fun k hk => by obtain ⟨ds, hds⟩ := h.no.blkOf hk; exact (hx.notnd hds (by decide) (by decide)).1) (fun k hk => by obtain ⟨ds, hds⟩ := h.no.blkOf hk; exact (hx.notnd hds (by decide) (by decide)).2)
    exact h1.but hk (h1.notnd hz1 (by decide) (by decide)).1 (h1.notnd hz1 (by decide) (by decide)).2
  have hro : OwnR 3 ic 1 w21 S (.slice ra m rq) roots := World.ownsRow.kept h.ro hg (kept_of fun k hk => by obtain ⟨ds, hds⟩ := h.no.blkOf hk; exact h.ro.notblk hds (by decide))
  refine ⟨Blk.heap (blk_set hz1 0 _) he, ?_⟩
  have := gat_of (nodes := nodes ++ [L]) (by rw [List.length_append, h.nl]; rfl) h.rl (ho.butO hk (ho.notblk hz1 (by decide))) (fun x hx => by
    rcases List.mem_append.1 hx with hx | hx
    · exact hx1 x (h.xo x hx)
    · rw [List.mem_singleton] at hx; subst hx; exact hx1 x hL) (hro.butO hk (hro.notblk hz1 (by decide))) (fun x hx => by
    rcases List.mem_append.1 hx with hx | hx
    · exact h.xb x hx
    · rw [List.mem_singleton] at hx; subst hx; exact hLb) h.rb
  rw [List.map_append, List.map_singleton] at this
  exact this
set_option maxRecDepth 100000 in
set_option maxHeartbeats 1000000 in
theorem gpAdd_no {S Z : Nat} {w : World} {na ra : Option Addr} {n cq m rq : Nat} {nodes : List NdV} {roots : List Int} (hz : Blk w Z [.slice na n cq, .slice ra m rq] 61) (hO : GO S w na n cq ra m rq nodes roots) (hS : S ≤ w.heap.size) (hn : n ≤ 1000000) (hm : m ≤ 1000000) (hSz : S ≤ Z) (kd r s i sz pt v : Int) (hh : ¬ hright sz pt) : Calls Try.prog 37 #[.pointer (some ⟨Z, 0, none⟩), .agg #[.int .i64 kd, .int .i64 r, .int .i64 s, .int .i64 i, .int .i64 sz, .int .i64 pt, .int .u64 v]] w (DeedNo S w 1) := by
  have HB := Lib.hid (ba0 w (.cells #[.int .i64 kd, .int .i64 r, .int .i64 s, .int .i64 i, .int .i64 sz, .int .i64 pt, .int .u64 v] 31))
  have HB1 := Lib.hid (HB.out.mono hS)
  have HH := Lib.hid hh
  clear hz hO hh
  go_enter Try.func37, Try.ntmps37
  go_wp2_with fail
  refine (hRightNo sz pt _ HH.out).mono ?_
  rintro e V2 ⟨rfl, hb2⟩
  have HB2 := Lib.hid (HB1.out.trans (hb2.mono (Nat.le_trans hS HB.out.size)))
  clear hb2
  go_wp2_with fail
  go_ret2
  exact ⟨rfl, HB2.out⟩

set_option maxRecDepth 100000 in
set_option maxHeartbeats 2000000 in
theorem gpAdd_ok {S Z : Nat} {w : World} {na ra : Option Addr} {n cq m rq : Nat} {nodes : List NdV} {roots : List Int} (hz : Blk w Z [.slice na n cq, .slice ra m rq] 61) (hO : GO S w na n cq ra m rq nodes roots) (hS : S ≤ w.heap.size) (hn : n ≤ 1000000) (hm : m ≤ 1000000) (hSz : S ≤ Z) (kd s i v : Int) (r SZ PT : Nat) (hr : r < m) (h1 : SZ ≤ 255) (h2 : PT ≤ SZ) : Calls Try.prog 37 #[.pointer (some ⟨Z, 0, none⟩), .agg #[.int .i64 kd, .int .i64 (r : Int), .int .i64 s, .int .i64 i, .int .i64 (SZ : Int), .int .i64 (PT : Int), .int .u64 v]] w (DeedOk S Z w 0 ⟨nodes.map NdV.nd ++ [gfresh SZ PT], roots.set r (n : Int)⟩) := by
  have HH := Lib.hid (show hright (SZ : Int) (PT : Int) by unfold hright; omega)
  obtain ⟨rb, rfl, hrb⟩ := root_at hO (by omega)
  have hr1 : (r : Int) < (m : Int) := by omega
  have HB := Lib.hid (ba0 w (.cells #[.int .i64 kd, .int .i64 (r : Int), .int .i64 s, .int .i64 i, .int .i64 (SZ : Int), .int .i64 (PT : Int), .int .u64 v] 31))
  have HB1 := Lib.hid (HB.out.mono hS)
  have HC := Lib.hid (Blk.new w [.int .i64 kd, .int .i64 (r : Int), .int .i64 s, .int .i64 i, .int .i64 (SZ : Int), .int .i64 (PT : Int), .int .u64 v] 31)
  have HZ := Lib.hid (hz.below HB.out)
  have HO := Lib.hid (hO.later HB.out)
  have hwr : w.heap.size ≠ rb := by have := (World.ownsRow.lt hO.ro rb rfl).2; omega
  have hzr : Z ≠ rb := hO.zr hz
  have hSZ : S ≤ w.heap.size := hS
  clear hz hO
  go_enter Try.func37, Try.ntmps37
  go_upto_region 1 with fail
  generalize w.alloc (.cells #[.int .i64 kd, .int .i64 (r : Int), .int .i64 s, .int .i64 i, .int .i64 (SZ : Int), .int .i64 (PT : Int), .int .u64 v] 31) = V at HB HB1 HC HZ HO ⊢
  have l4 : V.cell? ⟨w.heap.size, 4, none⟩ = some (.int .i64 (SZ : Int)) := HC.out.cell rfl
  have l5 : V.cell? ⟨w.heap.size, 5, none⟩ = some (.int .i64 (PT : Int)) := HC.out.cell rfl
  go_wp2_with fail
  refine (hRightYes _ _ _ HH.out).mono ?_
  rintro e V2 ⟨rfl, hb2⟩
  have HB2 := Lib.hid (HB1.out.trans (hb2.mono (Nat.le_trans hS HB.out.size)))
  have HC2 := Lib.hid (HC.out.below hb2)
  have HZ2 := Lib.hid (HZ.out.below hb2)
  have HO2 := Lib.hid (HO.out.later hb2)
  clear hb2 l4 l5 HB HB1 HC HZ HO HH
  have z0 : V2.cell? ⟨Z, 0, none⟩ = some (.slice na n cq) := HZ2.out.cell rfl
  have z1 : V2.cell? ⟨Z, 1, none⟩ = some (.slice (some ⟨rb, 0, none⟩) m rq) := HZ2.out.cell rfl
  have a1 : V2.cell? ⟨w.heap.size, 1, none⟩ = some (.int .i64 (r : Int)) := HC2.out.cell rfl
  obtain ⟨t1, t2⟩ := root_cell HO2.out (k := r) (v := roots[r]'(by have := HO2.out.rl; omega)) (List.getElem?_eq_getElem _)
  have hk : Hid (∀ w' : World, (w'.heap = V2.heap ∨ w'.heap = (V2.setCell ⟨rb, r, none⟩ (.int .i64 (n : Int))).heap) → w'.cell? ⟨Z, 1, none⟩ = some (.slice (some ⟨rb, 0, none⟩) m rq) ∧ w'.cell? ⟨w.heap.size, 1, none⟩ = some (.int .i64 (r : Int)) ∧ w'.cell? ⟨Z, 0, none⟩ = some (.slice na n cq)) := Lib.hid (fun w' h => by
    rcases h with h | h
    · exact ⟨(cell_heap h).trans z1, (cell_heap h).trans a1, (cell_heap h).trans z0⟩
    · exact ⟨cell_set_far h hzr z1, cell_set_far h hwr a1, cell_set_far h hzr z0⟩)
  go_upto_region 3 with fail
  go_region_held3 (fun w' => w'.cell? ⟨Z, 1, none⟩ = some (.slice (some ⟨rb, 0, none⟩) m rq) ∧ w'.cell? ⟨w.heap.size, 1, none⟩ = some (.int .i64 (r : Int)) ∧ w'.cell? ⟨Z, 0, none⟩ = some (.slice na n cq)) (exact hk.out _ (by first | exact Or.inl rfl | exact Or.inr rfl)) ((fail))
  have HO3 : Hid (GO S (V2.setCell ⟨rb, r, none⟩ (.int .i64 (n : Int))).drew na n cq (some ⟨rb, 0, none⟩) m rq nodes (roots.set r (n : Int))) := Lib.hid (HO2.out.rootset hr (by unfold ib; omega) rfl)
  have HZ3 : Hid (Blk (V2.setCell ⟨rb, r, none⟩ (.int .i64 (n : Int))).drew Z [.slice na n cq, .slice (some ⟨rb, 0, none⟩) m rq] 61) := Lib.hid (Blk.heap (HZ2.out.far hzr _) rfl)
  have HC3 : Hid (Blk (V2.setCell ⟨rb, r, none⟩ (.int .i64 (n : Int))).drew w.heap.size [.int .i64 kd, .int .i64 (r : Int), .int .i64 s, .int .i64 i, .int .i64 (SZ : Int), .int .i64 (PT : Int), .int .u64 v] 31) := Lib.hid (Blk.heap (HC2.out.far hwr _) rfl)
  have HB3 : Hid (Below S w (V2.setCell ⟨rb, r, none⟩ (.int .i64 (n : Int))).drew) := Lib.hid (HB2.out.setCell (p := ⟨rb, r, none⟩) (by show S ≤ rb; omega) _).drew
  rename_i hHeld
  clear hHeld hk t1 t2 z0 z1 a1 HB2 HC2 HZ2 HO2
  generalize (V2.setCell ⟨rb, r, none⟩ (.int .i64 (n : Int))).drew = W3 at HO3 HZ3 HC3 HB3 ⊢
  obtain ⟨DN, hdn⟩ : ∃ DN, SZ = PT + DN := ⟨SZ - PT, by omega⟩
  have HDN := Lib.hid hdn
  have u1 : (SZ : Int) - (PT : Int) = (DN : Int) := by omega
  have u2 : IntKind.i64.wrap (DN : Int) = (DN : Int) := IntWalk.i64_in _ (by omega)
  clear hdn
  have hSW : S ≤ W3.heap.size := by have := HB3.out.size; omega
  have hZS : S ≤ Z := hSz
  have HOD : Hid (GO S W3.drew na n cq (some ⟨rb, 0, none⟩) m rq nodes (roots.set r (n : Int))) := Lib.hid (HO3.out.heap rfl)
  have HZD : Hid (Blk W3.drew Z [.slice na n cq, .slice (some ⟨rb, 0, none⟩) m rq] 61) := Lib.hid (Blk.heap HZ3.out rfl)
  have HCD : Hid (Blk W3.drew w.heap.size [.int .i64 kd, .int .i64 (r : Int), .int .i64 s, .int .i64 i, .int .i64 (SZ : Int), .int .i64 (PT : Int), .int .u64 v] 31) := Lib.hid (Blk.heap HC3.out rfl)
  have HBD : Hid (Below S w W3.drew) := Lib.hid HB3.out.drew
  have hSD : W3.drew.cell? ⟨Z, 0, none⟩ = some (.slice na n cq) ∧ W3.drew.cell? ⟨w.heap.size, 4, none⟩ = some (.int .i64 (SZ : Int)) ∧ W3.drew.cell? ⟨w.heap.size, 5, none⟩ = some (.int .i64 (PT : Int)) := ⟨HZD.out.cell rfl, HCD.out.cell rfl, HCD.out.cell rfl⟩
  have hSD2 : S ≤ W3.drew.heap.size := hSW
  go_upto_region 4 with fail
  refine wp_region_part (fun w' => w'.cell? ⟨Z, 0, none⟩ = some (.slice na n cq) ∧ w'.cell? ⟨w.heap.size, 4, none⟩ = some (.int .i64 (SZ : Int)) ∧ w'.cell? ⟨w.heap.size, 5, none⟩ = some (.int .i64 (PT : Int))) 26 25 (by kernel_rfl) (by rfl) (fun hcl => ?_)
  generalize W3.drew = D at HOD HZD HCD HBD hSD hSD2 ⊢
  clear HO3 HZ3 HC3 HB3 hSW
  have HK : Hid (∀ w' : World, Below D.heap.size D w' → w'.cell? ⟨Z, 0, none⟩ = some (.slice na n cq) ∧ w'.cell? ⟨w.heap.size, 4, none⟩ = some (.int .i64 (SZ : Int)) ∧ w'.cell? ⟨w.heap.size, 5, none⟩ = some (.int .i64 (PT : Int))) := Lib.hid fun w' hb => ⟨(HZD.out.below hb).cell rfl, (HCD.out.below hb).cell rfl, (HCD.out.below hb).cell rfl⟩
  refine wpAnyB_take (i := 0) (v := ?_) hcl rfl (by kernel_rfl) (fun _ _ _ h => h) (Or.inl ⟨by rfl, ?_⟩) hSD ?_
  rotate_left
  · intro w' hSw; obtain ⟨q0, q1, q2⟩ := hSw; go_simp <;> (with_reducible rfl)
  intro hcl0
  simp only [Act.put, List.setIfInBounds_toArray, List.set_cons_zero, List.set_cons_succ]
  refine wpAnyB_take (i := 1) (v := ?_) hcl0 rfl (by kernel_rfl) (fun _ _ _ h => h) (Or.inl ⟨by rfl, ?_⟩) hSD ?_
  rotate_left
  · intro w' hSw; obtain ⟨q0, q1, q2⟩ := hSw; go_simp <;> (with_reducible rfl)
  intro hcl1
  clear hcl0
  simp only [Act.put, List.setIfInBounds_toArray, List.set_cons_zero, List.set_cons_succ]
  refine wpAnyB_take (i := 2) (v := ?_) hcl1 rfl (by kernel_rfl) (fun _ _ _ h => h) (Or.inl ⟨by rfl, ?_⟩) hSD ?_
  rotate_left
  · intro w' hSw; obtain ⟨q0, q1, q2⟩ := hSw; go_simp <;> (with_reducible rfl)
  intro hcl2
  clear hcl1
  simp only [Act.put, List.setIfInBounds_toArray, List.set_cons_zero, List.set_cons_succ]
  refine wpAnyB_take (i := 3) (v := ?_) hcl2 rfl (by kernel_rfl) (fun _ _ _ h => h) (Or.inl ⟨by rfl, ?_⟩) hSD ?_
  rotate_left
  · intro w' hSw; obtain ⟨q0, q1, q2⟩ := hSw; go_simp <;> (with_reducible rfl)
  intro hcl3
  clear hcl2
  simp only [Act.put, List.setIfInBounds_toArray, List.set_cons_zero, List.set_cons_succ]
  refine wpAnyB_take (i := 4) (v := ?_) hcl3 rfl (by kernel_rfl) (fun _ _ _ h => h) (Or.inl ⟨by rfl, ?_⟩) hSD ?_
  rotate_left
  · intro w' hSw; obtain ⟨q0, q1, q2⟩ := hSw; go_simp <;> (with_reducible rfl)
  intro hcl4
  clear hcl3
  simp only [Act.put, List.setIfInBounds_toArray, List.set_cons_zero, List.set_cons_succ]
  refine wpAnyB_take (i := 5) (v := ?_) hcl4 rfl (by kernel_rfl) (fun _ _ _ h => h) (Or.inl ⟨by rfl, ?_⟩) hSD ?_
  rotate_left
  · intro w' hSw; obtain ⟨q0, q1, q2⟩ := hSw; go_simp <;> (with_reducible rfl)
  intro hcl5
  clear hcl4
  simp only [Act.put, List.setIfInBounds_toArray, List.set_cons_zero, List.set_cons_succ]
  refine wpAnyB_take (i := 7) (v := ?_) hcl5 rfl (by kernel_rfl) (fun _ _ _ h => h) (Or.inl ⟨by rfl, ?_⟩) hSD ?_
  rotate_left
  · intro w' hSw; obtain ⟨q0, q1, q2⟩ := hSw; go_simp <;> (with_reducible rfl)
  intro hcl7
  clear hcl5
  simp only [Act.put, List.setIfInBounds_toArray, List.set_cons_zero, List.set_cons_succ]
  refine wpAnyB_take (i := 8) (v := ?_) hcl7 rfl (by kernel_rfl) (fun _ _ _ h => h) (Or.inl ⟨by rfl, ?_⟩) hSD ?_
  rotate_left
  · intro w' hSw; obtain ⟨q0, q1, q2⟩ := hSw; go_simp <;> (with_reducible rfl)
  intro hcl8
  clear hcl7
  simp only [Act.put, List.setIfInBounds_toArray, List.set_cons_zero, List.set_cons_succ]
  refine wpAnyB_take (i := 9) (v := ?_) hcl8 rfl (by kernel_rfl) (fun _ _ _ h => h) (Or.inl ⟨by rfl, ?_⟩) hSD ?_
  rotate_left
  · intro w' hSw; obtain ⟨q0, q1, q2⟩ := hSw; go_simp <;> (with_reducible rfl)
  intro hcl9
  clear hcl8
  simp only [Act.put, List.setIfInBounds_toArray, List.set_cons_zero, List.set_cons_succ]
  refine wpAnyB_take (i := 11) (v := ?_) hcl9 rfl (by kernel_rfl) (fun _ _ _ h => h) (Or.inl ⟨by rfl, ?_⟩) hSD ?_
  rotate_left
  · intro w' hSw; obtain ⟨q0, q1, q2⟩ := hSw; go_simp <;> (with_reducible rfl)
  intro hcl11
  clear hcl9
  simp only [Act.put, List.setIfInBounds_toArray, List.set_cons_zero, List.set_cons_succ]
  refine wpAnyB_take (i := 12) (v := ?_) hcl11 rfl (by kernel_rfl) (fun _ _ _ h => h) (Or.inl ⟨by rfl, ?_⟩) hSD ?_
  rotate_left
  · intro w' hSw; obtain ⟨q0, q1, q2⟩ := hSw; go_simp <;> (with_reducible rfl)
  intro hcl12
  clear hcl11
  simp only [Act.put, List.setIfInBounds_toArray, List.set_cons_zero, List.set_cons_succ]
  refine wpAnyB_take (i := 13) (v := ?_) hcl12 rfl (by kernel_rfl) (fun _ _ _ h => h) (Or.inl ⟨by rfl, ?_⟩) hSD ?_
  rotate_left
  · intro w' hSw; obtain ⟨q0, q1, q2⟩ := hSw; go_simp <;> (with_reducible rfl)
  intro hcl13
  clear hcl12
  simp only [Act.put, List.setIfInBounds_toArray, List.set_cons_zero, List.set_cons_succ]
  refine wpAnyB_take (i := 14) (v := ?_) hcl13 rfl (by kernel_rfl) (fun _ _ _ h => h) (Or.inl ⟨by rfl, ?_⟩) hSD ?_
  rotate_left
  · intro w' hSw; obtain ⟨q0, q1, q2⟩ := hSw; go_simp <;> (with_reducible rfl)
  intro hcl14
  clear hcl13
  simp only [Act.put, List.setIfInBounds_toArray, List.set_cons_zero, List.set_cons_succ]
  refine wpAnyB_take (i := 15) (v := ?_) hcl14 rfl (by kernel_rfl) (fun _ _ _ h => h) (Or.inl ⟨by rfl, ?_⟩) hSD ?_
  rotate_left
  · intro w' hSw; obtain ⟨q0, q1, q2⟩ := hSw; go_simp <;> (with_reducible rfl)
  intro hcl15
  clear hcl14
  simp only [Act.put, List.setIfInBounds_toArray, List.set_cons_zero, List.set_cons_succ]
  refine wpAnyB_take (i := 16) (v := ?_) hcl15 rfl (by kernel_rfl) (fun _ _ _ h => h) (Or.inl ⟨by rfl, ?_⟩) hSD ?_
  rotate_left
  · intro w' hSw; obtain ⟨q0, q1, q2⟩ := hSw; go_simp <;> (with_reducible rfl)
  intro hcl16
  clear hcl15
  simp only [Act.put, List.setIfInBounds_toArray, List.set_cons_zero, List.set_cons_succ]
  refine wpAnyB_take (i := 17) (v := ?_) hcl16 rfl (by kernel_rfl) (fun _ _ _ h => h) (Or.inl ⟨by rfl, ?_⟩) hSD ?_
  rotate_left
  · intro w' hSw; obtain ⟨q0, q1, q2⟩ := hSw; go_simp <;> (with_reducible rfl)
  intro hcl17
  clear hcl16
  simp only [Act.put, List.setIfInBounds_toArray, List.set_cons_zero, List.set_cons_succ]
  clear hcl17
  have HB := Lib.hid (Below.refl D.heap.size D)
  refine wpAnyB_two (i := 6) (j := 18) (by kernel_rfl) rfl rfl (fun K hK => ?_) (fun K hK => ?_)
  · go_simp
    have hb := ba0 D (.cells #[.int .i64 (-1)] 3)
    refine hK.out _ _ (fun _ => HK.out _ (bt HB.out hb)) ?_
    clear hK K
    try simp only [Act.put, List.setIfInBounds_toArray, List.set_cons_zero, List.set_cons_succ]
    have H6 := Lib.hid (show _ ∧ _ from ⟨(Blk.new D [.int .i64 (-1)] 3).cell (j := 0) rfl, (Blk.new D [.int .i64 (-1)] 3).lt⟩)
    have HB := Lib.hid (bt HB.out hb)
    clear hb
    generalize D.alloc (.cells #[.int .i64 (-1)] 3) = W1 at HB H6 ⊢
    generalize D.heap.size = g6 at H6 ⊢
    refine wpAnyB_two (i := 10) (j := 18) (by kernel_rfl) rfl rfl (fun K hK => ?_) (fun K hK => ?_)
    · go_simp
      go_at_call 49
      refine (oRepeat g6 PT (-1) W1 (by omega) H6.out.1 H6.out.2).mono ?_
      rintro e W2 ⟨gp, rfl, hgp, hgh, hb⟩
      refine hK.out _ _ (fun _ => HK.out _ (bt HB.out hb)) ?_
      clear hK K
      try simp only [Act.put, List.setIfInBounds_toArray, List.set_cons_zero, List.set_cons_succ]
      have H10 := Lib.hid (show _ ∧ S ≤ gp from ⟨hgh, by have := HB.out.size; omega⟩)
      have H6 := Lib.hid (show _ ∧ _ from ⟨cellS hb H6.out.2 H6.out.1, Nat.lt_of_lt_of_le H6.out.2 hb.size⟩)
      have HB := Lib.hid (bt HB.out hb)
      clear hb hgp hgh
      refine wpAnyB_one (i := 18) (by kernel_rfl) rfl (fun K hK => ?_)
      refine step_make_us W2 (by rfl) (.tmp 41) (.tmp 41) rfl DN rfl rfl (by omega) ?_
      intro W3 ho hb
      refine hK.out _ _ (fun _ => HK.out _ (bt HB.out hb)) ?_
      clear hK K
      try simp only [Act.put, List.setIfInBounds_toArray, List.set_cons_zero, List.set_cons_succ]
      have H18 := Lib.hid (OwnU.low ho (show S ≤ W2.heap.size by have := HB.out.size; omega))
      have H6 := Lib.hid (show _ ∧ _ from ⟨cellS hb H6.out.2 H6.out.1, Nat.lt_of_lt_of_le H6.out.2 hb.size⟩)
      have H10 := Lib.hid (show _ ∧ _ from ⟨(hb.block gp (heapLt H10.out.1)).trans H10.out.1, H10.out.2⟩)
      have HB := Lib.hid (bt HB.out hb)
      clear ho hb
      generalize W2.heap.size = gd at H18 ⊢
      refine wpAnyB_one (i := 19) (by kernel_rfl) rfl (fun K hK => ?_)
      go_simp
      refine hK.out _ _ (fun _ => HK.out _ HB.out) ?_
      clear hK K
      try simp only [Act.put, List.setIfInBounds_toArray, List.set_cons_zero, List.set_cons_succ]
      refine wpAnyB_one (i := 20) (by kernel_rfl) rfl (fun K hK => ?_)
      go_simp
      have hb := ba0 W3 (.cells #[.slice (some ⟨gp, 0, none⟩) PT PT, .slice (some ⟨gd, 0, none⟩) DN DN] 36)
      refine hK.out _ _ (fun _ => HK.out _ (bt HB.out hb)) ?_
      clear hK K
      try simp only [Act.put, List.setIfInBounds_toArray, List.set_cons_zero, List.set_cons_succ]
      obtain ⟨L, hL⟩ : ∃ L : NdV, L = ⟨some ⟨gp, 0, none⟩, PT, List.replicate PT (-1), some ⟨gd, 0, none⟩, DN, List.replicate DN 0⟩ := ⟨_, rfl⟩
      have hLp : ptrV L = .slice (some ⟨gp, 0, none⟩) PT PT := by rw [hL]; unfold ptrV; simp
      have hLd : datV L = .slice (some ⟨gd, 0, none⟩) DN DN := by rw [hL]; unfold datV; simp
      have hLO : NdO S W3 L := ⟨by rw [hLp, hL]; exact own_rep H10.out.1 H10.out.2 (by omega), by rw [hLd, hL]; exact H18.out⟩
      have HLO := Lib.hid (hLO.later hb)
      have HLB : Hid (ndb L) := Lib.hid (by
        rw [hL]
        refine ⟨fun p hp => ?_, fun q hq => ?_⟩
        · have := List.eq_of_mem_replicate hp; subst this; unfold ib; omega
        · have := List.eq_of_mem_replicate hq; subst this; decide)
      have HLN : Hid (L.nd = gfresh SZ PT) := Lib.hid (by
        rw [hL]; unfold gfresh NdV.nd
        have e1 : ((SZ : Int) - (PT : Int)).toNat = DN := by omega
        rw [e1, Int.toNat_natCast])
      have HLX : Hid (Blk (W3.alloc (.cells #[.slice (some ⟨gp, 0, none⟩) PT PT, .slice (some ⟨gd, 0, none⟩) DN DN] 36)) W3.heap.size [.slice L.pa L.ptrs.length L.pcap, .slice L.da L.data.length L.dcap] 36) := Lib.hid (by
        have e1 : Value.slice L.pa L.ptrs.length L.pcap = .slice (some ⟨gp, 0, none⟩) PT PT := hLp
        have e2 : Value.slice L.da L.data.length L.dcap = .slice (some ⟨gd, 0, none⟩) DN DN := hLd
        rw [e1, e2]
        exact Blk.new _ _ _)
      have HB := Lib.hid (bt HB.out hb)
      clear hb hLO hLp hLd hL H6 H10 H18
      generalize W3.alloc (.cells #[.slice (some ⟨gp, 0, none⟩) PT PT, .slice (some ⟨gd, 0, none⟩) DN DN] 36) = X at HB HLO HLX ⊢
      generalize W3.heap.size = gn at HLX ⊢
      have HOX := Lib.hid (HOD.out.later HB.out)
      have HZX := Lib.hid (HZD.out.below HB.out)
      have HCX := Lib.hid (HCD.out.below HB.out)
      refine wpAnyB_one (i := 21) (by kernel_rfl) rfl (fun K hK => ?_)
      refine step_append_rows 36 22 _ 48 info_nd Try.underlying22 rfl (by decide) (by decide) nc_len nc_one X (by rfl) (.tmp 29) (.tmp 44) rfl rfl S (.slice na n cq) nodes [L] rfl HOX.out.no (some ⟨gn, 0, none⟩) 1 1 rfl rfl (rw_lit_nd HLX.out) (fun h => by cases h) (by have := HOX.out.nl; simp; omega) (by have := HB.out.size; omega) (n + 1) (by rw [List.length_append, HOX.out.nl]; rfl) ?_
      intro ao11 cp11 w11 ho11 hl11 hc11 hn11 hg11
      have hzz : Blk w11 Z [.slice na n cq, .slice (some ⟨rb, 0, none⟩) m rq] 61 := HZX.out.grown hg11 (HOX.out.no.notblk HZX.out (by decide))
      have hcc := HCX.out.grown hg11 (HOX.out.no.notblk HCX.out (by decide))
      have hSX : w11.cell? ⟨Z, 0, none⟩ = some (.slice na n cq) ∧ w11.cell? ⟨w.heap.size, 4, none⟩ = some (.int .i64 (SZ : Int)) ∧ w11.cell? ⟨w.heap.size, 5, none⟩ = some (.int .i64 (PT : Int)) := ⟨hzz.cell rfl, hcc.cell rfl, hcc.cell rfl⟩
      have HEND := Lib.hid (fun w' h => add_end (w' := w') HOX.out HZX.out HLO.out HLB.out ho11 hg11 h)
      have HBE : Hid (Below S w w11) := Lib.hid ((HBD.out.trans (HB.out.mono hSD2)).grown hg11 (by have := HB.out.size; omega) (fun j hj => (World.ownsRow.lt HOX.out.no j hj).1))
      refine hK.out _ _ (fun _ => hSX) ?_
      clear hK K
      try simp only [Act.put, List.setIfInBounds_toArray, List.set_cons_zero, List.set_cons_succ]
      have c0 := hSX.1
      have f0 := hzz.frozen 0
      clear ho11 hl11 hc11 hn11 hg11 hzz hcc
      refine wpAnyB_one (i := 22) (by kernel_rfl) rfl (fun K hK => ?_)
      go_simp
      refine hK.out _ _ (fun _ => hSX) ?_
      clear hK K
      try simp only [Act.put, List.setIfInBounds_toArray, List.set_cons_zero, List.set_cons_succ]
      refine wpAnyB_one (i := 23) (by kernel_rfl) rfl (fun K hK => ?_)
      go_simp
      refine hK.out _ _ (fun _ => hSX) ?_
      clear hK K
      try simp only [Act.put, List.setIfInBounds_toArray, List.set_cons_zero, List.set_cons_succ]
      refine wpAnyB_one (i := 24) (by kernel_rfl) rfl (fun K hK => ?_)
      go_simp
      refine hK.out _ _ (fun _ => hSX) ?_
      clear hK K
      try simp only [Act.put, List.setIfInBounds_toArray, List.set_cons_zero, List.set_cons_succ]
      refine wpAnyB_one (i := 25) (by kernel_rfl) rfl (fun K hK => ?_)
      go_simp
      refine hK.out _ _ (fun h => absurd rfl h) ?_
      clear hK K
      try simp only [Act.put, List.setIfInBounds_toArray, List.set_cons_zero, List.set_cons_succ]
      refine wpAnyB_done (by kernel_rfl) ?_
      clear hSX c0 f0 HZD HOD HCD HBD HK HB HOX HZX HCX HLO HLX
      go_wp2_with fail
      go_ret2
      obtain ⟨e1, e2⟩ := HEND.out _ rfl
      rw [HLN.out] at e2
      exact ⟨_, _, _, _, _, _, rfl, e1, e2, HBE.out.setCell (p := ⟨Z, 0, none⟩) hZS _⟩
    · refine step_make_us W1 (by rfl) (.tmp 41) (.tmp 41) rfl DN rfl rfl (by omega) ?_
      intro W4 ho hb
      refine hK.out _ _ (fun _ => HK.out _ (bt HB.out hb)) ?_
      clear hK K
      try simp only [Act.put, List.setIfInBounds_toArray, List.set_cons_zero, List.set_cons_succ]
      have H18 := Lib.hid (OwnU.low ho (show S ≤ W1.heap.size by have := HB.out.size; omega))
      have H6 := Lib.hid (show _ ∧ _ from ⟨cellS hb H6.out.2 H6.out.1, Nat.lt_of_lt_of_le H6.out.2 hb.size⟩)
      have HB := Lib.hid (bt HB.out hb)
      clear ho hb
      generalize W1.heap.size = gd at H18 ⊢
      refine wpAnyB_one (i := 10) (by kernel_rfl) rfl (fun K hK => ?_)
      go_simp
      go_at_call 49
      refine (oRepeat g6 PT (-1) W4 (by omega) H6.out.1 H6.out.2).mono ?_
      rintro e W5 ⟨gp, rfl, hgp, hgh, hb⟩
      refine hK.out _ _ (fun _ => HK.out _ (bt HB.out hb)) ?_
      clear hK K
      try simp only [Act.put, List.setIfInBounds_toArray, List.set_cons_zero, List.set_cons_succ]
      have H10 := Lib.hid (show _ ∧ S ≤ gp from ⟨hgh, by have := HB.out.size; omega⟩)
      have H6 := Lib.hid (show _ ∧ _ from ⟨cellS hb H6.out.2 H6.out.1, Nat.lt_of_lt_of_le H6.out.2 hb.size⟩)
      have H18 := Lib.hid (OwnU.laterA H18.out hb)
      have HB := Lib.hid (bt HB.out hb)
      clear hb hgp hgh
      refine wpAnyB_one (i := 19) (by kernel_rfl) rfl (fun K hK => ?_)
      go_simp
      refine hK.out _ _ (fun _ => HK.out _ HB.out) ?_
      clear hK K
      try simp only [Act.put, List.setIfInBounds_toArray, List.set_cons_zero, List.set_cons_succ]
      refine wpAnyB_one (i := 20) (by kernel_rfl) rfl (fun K hK => ?_)
      go_simp
      have hb := ba0 W5 (.cells #[.slice (some ⟨gp, 0, none⟩) PT PT, .slice (some ⟨gd, 0, none⟩) DN DN] 36)
      refine hK.out _ _ (fun _ => HK.out _ (bt HB.out hb)) ?_
      clear hK K
      try simp only [Act.put, List.setIfInBounds_toArray, List.set_cons_zero, List.set_cons_succ]
      obtain ⟨L, hL⟩ : ∃ L : NdV, L = ⟨some ⟨gp, 0, none⟩, PT, List.replicate PT (-1), some ⟨gd, 0, none⟩, DN, List.replicate DN 0⟩ := ⟨_, rfl⟩
      have hLp : ptrV L = .slice (some ⟨gp, 0, none⟩) PT PT := by rw [hL]; unfold ptrV; simp
      have hLd : datV L = .slice (some ⟨gd, 0, none⟩) DN DN := by rw [hL]; unfold datV; simp
      have hLO : NdO S W5 L := ⟨by rw [hLp, hL]; exact own_rep H10.out.1 H10.out.2 (by omega), by rw [hLd, hL]; exact H18.out⟩
      have HLO := Lib.hid (hLO.later hb)
      have HLB : Hid (ndb L) := Lib.hid (by
        rw [hL]
        refine ⟨fun p hp => ?_, fun q hq => ?_⟩
        · have := List.eq_of_mem_replicate hp; subst this; unfold ib; omega
        · have := List.eq_of_mem_replicate hq; subst this; decide)
      have HLN : Hid (L.nd = gfresh SZ PT) := Lib.hid (by
        rw [hL]; unfold gfresh NdV.nd
        have e1 : ((SZ : Int) - (PT : Int)).toNat = DN := by omega
        rw [e1, Int.toNat_natCast])
      have HLX : Hid (Blk (W5.alloc (.cells #[.slice (some ⟨gp, 0, none⟩) PT PT, .slice (some ⟨gd, 0, none⟩) DN DN] 36)) W5.heap.size [.slice L.pa L.ptrs.length L.pcap, .slice L.da L.data.length L.dcap] 36) := Lib.hid (by
        have e1 : Value.slice L.pa L.ptrs.length L.pcap = .slice (some ⟨gp, 0, none⟩) PT PT := hLp
        have e2 : Value.slice L.da L.data.length L.dcap = .slice (some ⟨gd, 0, none⟩) DN DN := hLd
        rw [e1, e2]
        exact Blk.new _ _ _)
      have HB := Lib.hid (bt HB.out hb)
      clear hb hLO hLp hLd hL H6 H10 H18
      generalize W5.alloc (.cells #[.slice (some ⟨gp, 0, none⟩) PT PT, .slice (some ⟨gd, 0, none⟩) DN DN] 36) = X at HB HLO HLX ⊢
      generalize W5.heap.size = gn at HLX ⊢
      have HOX := Lib.hid (HOD.out.later HB.out)
      have HZX := Lib.hid (HZD.out.below HB.out)
      have HCX := Lib.hid (HCD.out.below HB.out)
      refine wpAnyB_one (i := 21) (by kernel_rfl) rfl (fun K hK => ?_)
      refine step_append_rows 36 22 _ 48 info_nd Try.underlying22 rfl (by decide) (by decide) nc_len nc_one X (by rfl) (.tmp 29) (.tmp 44) rfl rfl S (.slice na n cq) nodes [L] rfl HOX.out.no (some ⟨gn, 0, none⟩) 1 1 rfl rfl (rw_lit_nd HLX.out) (fun h => by cases h) (by have := HOX.out.nl; simp; omega) (by have := HB.out.size; omega) (n + 1) (by rw [List.length_append, HOX.out.nl]; rfl) ?_
      intro ao11 cp11 w11 ho11 hl11 hc11 hn11 hg11
      have hzz : Blk w11 Z [.slice na n cq, .slice (some ⟨rb, 0, none⟩) m rq] 61 := HZX.out.grown hg11 (HOX.out.no.notblk HZX.out (by decide))
      have hcc := HCX.out.grown hg11 (HOX.out.no.notblk HCX.out (by decide))
      have hSX : w11.cell? ⟨Z, 0, none⟩ = some (.slice na n cq) ∧ w11.cell? ⟨w.heap.size, 4, none⟩ = some (.int .i64 (SZ : Int)) ∧ w11.cell? ⟨w.heap.size, 5, none⟩ = some (.int .i64 (PT : Int)) := ⟨hzz.cell rfl, hcc.cell rfl, hcc.cell rfl⟩
      have HEND := Lib.hid (fun w' h => add_end (w' := w') HOX.out HZX.out HLO.out HLB.out ho11 hg11 h)
      have HBE : Hid (Below S w w11) := Lib.hid ((HBD.out.trans (HB.out.mono hSD2)).grown hg11 (by have := HB.out.size; omega) (fun j hj => (World.ownsRow.lt HOX.out.no j hj).1))
      refine hK.out _ _ (fun _ => hSX) ?_
      clear hK K
      try simp only [Act.put, List.setIfInBounds_toArray, List.set_cons_zero, List.set_cons_succ]
      have c0 := hSX.1
      have f0 := hzz.frozen 0
      clear ho11 hl11 hc11 hn11 hg11 hzz hcc
      refine wpAnyB_one (i := 22) (by kernel_rfl) rfl (fun K hK => ?_)
      go_simp
      refine hK.out _ _ (fun _ => hSX) ?_
      clear hK K
      try simp only [Act.put, List.setIfInBounds_toArray, List.set_cons_zero, List.set_cons_succ]
      refine wpAnyB_one (i := 23) (by kernel_rfl) rfl (fun K hK => ?_)
      go_simp
      refine hK.out _ _ (fun _ => hSX) ?_
      clear hK K
      try simp only [Act.put, List.setIfInBounds_toArray, List.set_cons_zero, List.set_cons_succ]
      refine wpAnyB_one (i := 24) (by kernel_rfl) rfl (fun K hK => ?_)
      go_simp
      refine hK.out _ _ (fun _ => hSX) ?_
      clear hK K
      try simp only [Act.put, List.setIfInBounds_toArray, List.set_cons_zero, List.set_cons_succ]
      refine wpAnyB_one (i := 25) (by kernel_rfl) rfl (fun K hK => ?_)
      go_simp
      refine hK.out _ _ (fun h => absurd rfl h) ?_
      clear hK K
      try simp only [Act.put, List.setIfInBounds_toArray, List.set_cons_zero, List.set_cons_succ]
      refine wpAnyB_done (by kernel_rfl) ?_
      clear hSX c0 f0 HZD HOD HCD HBD HK HB HOX HZX HCX HLO HLX
      go_wp2_with fail
      go_ret2
      obtain ⟨e1, e2⟩ := HEND.out _ rfl
      rw [HLN.out] at e2
      exact ⟨_, _, _, _, _, _, rfl, e1, e2, HBE.out.setCell (p := ⟨Z, 0, none⟩) hZS _⟩
  · refine step_make_us D (by rfl) (.tmp 41) (.tmp 41) rfl DN rfl rfl (by omega) ?_
    intro W6 ho hb
    refine hK.out _ _ (fun _ => HK.out _ (bt HB.out hb)) ?_
    clear hK K
    try simp only [Act.put, List.setIfInBounds_toArray, List.set_cons_zero, List.set_cons_succ]
    have H18 := Lib.hid (OwnU.low ho (show S ≤ D.heap.size by have := HB.out.size; omega))
    have HB := Lib.hid (bt HB.out hb)
    clear ho hb
    generalize D.heap.size = gd at H18 ⊢
    refine wpAnyB_one (i := 6) (by kernel_rfl) rfl (fun K hK => ?_)
    go_simp
    have hb := ba0 W6 (.cells #[.int .i64 (-1)] 3)
    refine hK.out _ _ (fun _ => HK.out _ (bt HB.out hb)) ?_
    clear hK K
    try simp only [Act.put, List.setIfInBounds_toArray, List.set_cons_zero, List.set_cons_succ]
    have H18 := Lib.hid (OwnU.laterA H18.out hb)
    have H6 := Lib.hid (show _ ∧ _ from ⟨(Blk.new W6 [.int .i64 (-1)] 3).cell (j := 0) rfl, (Blk.new W6 [.int .i64 (-1)] 3).lt⟩)
    have HB := Lib.hid (bt HB.out hb)
    clear hb
    generalize W6.alloc (.cells #[.int .i64 (-1)] 3) = W7 at HB H6 H18 ⊢
    generalize W6.heap.size = g6 at H6 ⊢
    refine wpAnyB_one (i := 10) (by kernel_rfl) rfl (fun K hK => ?_)
    go_simp
    go_at_call 49
    refine (oRepeat g6 PT (-1) W7 (by omega) H6.out.1 H6.out.2).mono ?_
    rintro e W8 ⟨gp, rfl, hgp, hgh, hb⟩
    refine hK.out _ _ (fun _ => HK.out _ (bt HB.out hb)) ?_
    clear hK K
    try simp only [Act.put, List.setIfInBounds_toArray, List.set_cons_zero, List.set_cons_succ]
    have H10 := Lib.hid (show _ ∧ S ≤ gp from ⟨hgh, by have := HB.out.size; omega⟩)
    have H6 := Lib.hid (show _ ∧ _ from ⟨cellS hb H6.out.2 H6.out.1, Nat.lt_of_lt_of_le H6.out.2 hb.size⟩)
    have H18 := Lib.hid (OwnU.laterA H18.out hb)
    have HB := Lib.hid (bt HB.out hb)
    clear hb hgp hgh
    refine wpAnyB_one (i := 19) (by kernel_rfl) rfl (fun K hK => ?_)
    go_simp
    refine hK.out _ _ (fun _ => HK.out _ HB.out) ?_
    clear hK K
    try simp only [Act.put, List.setIfInBounds_toArray, List.set_cons_zero, List.set_cons_succ]
    refine wpAnyB_one (i := 20) (by kernel_rfl) rfl (fun K hK => ?_)
    go_simp
    have hb := ba0 W8 (.cells #[.slice (some ⟨gp, 0, none⟩) PT PT, .slice (some ⟨gd, 0, none⟩) DN DN] 36)
    refine hK.out _ _ (fun _ => HK.out _ (bt HB.out hb)) ?_
    clear hK K
    try simp only [Act.put, List.setIfInBounds_toArray, List.set_cons_zero, List.set_cons_succ]
    obtain ⟨L, hL⟩ : ∃ L : NdV, L = ⟨some ⟨gp, 0, none⟩, PT, List.replicate PT (-1), some ⟨gd, 0, none⟩, DN, List.replicate DN 0⟩ := ⟨_, rfl⟩
    have hLp : ptrV L = .slice (some ⟨gp, 0, none⟩) PT PT := by rw [hL]; unfold ptrV; simp
    have hLd : datV L = .slice (some ⟨gd, 0, none⟩) DN DN := by rw [hL]; unfold datV; simp
    have hLO : NdO S W8 L := ⟨by rw [hLp, hL]; exact own_rep H10.out.1 H10.out.2 (by omega), by rw [hLd, hL]; exact H18.out⟩
    have HLO := Lib.hid (hLO.later hb)
    have HLB : Hid (ndb L) := Lib.hid (by
      rw [hL]
      refine ⟨fun p hp => ?_, fun q hq => ?_⟩
      · have := List.eq_of_mem_replicate hp; subst this; unfold ib; omega
      · have := List.eq_of_mem_replicate hq; subst this; decide)
    have HLN : Hid (L.nd = gfresh SZ PT) := Lib.hid (by
      rw [hL]; unfold gfresh NdV.nd
      have e1 : ((SZ : Int) - (PT : Int)).toNat = DN := by omega
      rw [e1, Int.toNat_natCast])
    have HLX : Hid (Blk (W8.alloc (.cells #[.slice (some ⟨gp, 0, none⟩) PT PT, .slice (some ⟨gd, 0, none⟩) DN DN] 36)) W8.heap.size [.slice L.pa L.ptrs.length L.pcap, .slice L.da L.data.length L.dcap] 36) := Lib.hid (by
      have e1 : Value.slice L.pa L.ptrs.length L.pcap = .slice (some ⟨gp, 0, none⟩) PT PT := hLp
      have e2 : Value.slice L.da L.data.length L.dcap = .slice (some ⟨gd, 0, none⟩) DN DN := hLd
      rw [e1, e2]
      exact Blk.new _ _ _)
    have HB := Lib.hid (bt HB.out hb)
    clear hb hLO hLp hLd hL H6 H10 H18
    generalize W8.alloc (.cells #[.slice (some ⟨gp, 0, none⟩) PT PT, .slice (some ⟨gd, 0, none⟩) DN DN] 36) = X at HB HLO HLX ⊢
    generalize W8.heap.size = gn at HLX ⊢
    have HOX := Lib.hid (HOD.out.later HB.out)
    have HZX := Lib.hid (HZD.out.below HB.out)
    have HCX := Lib.hid (HCD.out.below HB.out)
    refine wpAnyB_one (i := 21) (by kernel_rfl) rfl (fun K hK => ?_)
    refine step_append_rows 36 22 _ 48 info_nd Try.underlying22 rfl (by decide) (by decide) nc_len nc_one X (by rfl) (.tmp 29) (.tmp 44) rfl rfl S (.slice na n cq) nodes [L] rfl HOX.out.no (some ⟨gn, 0, none⟩) 1 1 rfl rfl (rw_lit_nd HLX.out) (fun h => by cases h) (by have := HOX.out.nl; simp; omega) (by have := HB.out.size; omega) (n + 1) (by rw [List.length_append, HOX.out.nl]; rfl) ?_
    intro ao11 cp11 w11 ho11 hl11 hc11 hn11 hg11
    have hzz : Blk w11 Z [.slice na n cq, .slice (some ⟨rb, 0, none⟩) m rq] 61 := HZX.out.grown hg11 (HOX.out.no.notblk HZX.out (by decide))
    have hcc := HCX.out.grown hg11 (HOX.out.no.notblk HCX.out (by decide))
    have hSX : w11.cell? ⟨Z, 0, none⟩ = some (.slice na n cq) ∧ w11.cell? ⟨w.heap.size, 4, none⟩ = some (.int .i64 (SZ : Int)) ∧ w11.cell? ⟨w.heap.size, 5, none⟩ = some (.int .i64 (PT : Int)) := ⟨hzz.cell rfl, hcc.cell rfl, hcc.cell rfl⟩
    have HEND := Lib.hid (fun w' h => add_end (w' := w') HOX.out HZX.out HLO.out HLB.out ho11 hg11 h)
    have HBE : Hid (Below S w w11) := Lib.hid ((HBD.out.trans (HB.out.mono hSD2)).grown hg11 (by have := HB.out.size; omega) (fun j hj => (World.ownsRow.lt HOX.out.no j hj).1))
    refine hK.out _ _ (fun _ => hSX) ?_
    clear hK K
    try simp only [Act.put, List.setIfInBounds_toArray, List.set_cons_zero, List.set_cons_succ]
    have c0 := hSX.1
    have f0 := hzz.frozen 0
    clear ho11 hl11 hc11 hn11 hg11 hzz hcc
    refine wpAnyB_one (i := 22) (by kernel_rfl) rfl (fun K hK => ?_)
    go_simp
    refine hK.out _ _ (fun _ => hSX) ?_
    clear hK K
    try simp only [Act.put, List.setIfInBounds_toArray, List.set_cons_zero, List.set_cons_succ]
    refine wpAnyB_one (i := 23) (by kernel_rfl) rfl (fun K hK => ?_)
    go_simp
    refine hK.out _ _ (fun _ => hSX) ?_
    clear hK K
    try simp only [Act.put, List.setIfInBounds_toArray, List.set_cons_zero, List.set_cons_succ]
    refine wpAnyB_one (i := 24) (by kernel_rfl) rfl (fun K hK => ?_)
    go_simp
    refine hK.out _ _ (fun _ => hSX) ?_
    clear hK K
    try simp only [Act.put, List.setIfInBounds_toArray, List.set_cons_zero, List.set_cons_succ]
    refine wpAnyB_one (i := 25) (by kernel_rfl) rfl (fun K hK => ?_)
    go_simp
    refine hK.out _ _ (fun h => absurd rfl h) ?_
    clear hK K
    try simp only [Act.put, List.setIfInBounds_toArray, List.set_cons_zero, List.set_cons_succ]
    refine wpAnyB_done (by kernel_rfl) ?_
    clear hSX c0 f0 HZD HOD HCD HBD HK HB HOX HZX HCX HLO HLX
    go_wp2_with fail
    go_ret2
    obtain ⟨e1, e2⟩ := HEND.out _ rfl
    rw [HLN.out] at e2
    exact ⟨_, _, _, _, _, _, rfl, e1, e2, HBE.out.setCell (p := ⟨Z, 0, none⟩) hZS _⟩

end Go.Proofs.Ytjoacfjbdpmgpaa.V
