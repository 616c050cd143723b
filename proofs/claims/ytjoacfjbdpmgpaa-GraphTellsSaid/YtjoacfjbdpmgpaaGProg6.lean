/-
  What an act does to a graph at work: refuse, drop, assign, load, get, store, set; walked.
-/
import Derived.Test.YtjoacfjbdpmgpaaGProg5
set_option linter.unusedVariables false
namespace Go.Proofs.Ytjoacfjbdpmgpaa.V
open Go.RowKit

/-- An act that tells no error: the graph at work is another one. -/
def DeedOk (S Z : Nat) (w : World) (V : Int) (X : Gr) (e : Ending) (w' : World) : Prop :=
  ∃ na' n' nq' ra' m' rq', e = .returned (.tuple #[.int .u64 V, .int .i64 0]) ∧ Blk w' Z [.slice na' n' nq', .slice ra' m' rq'] 61 ∧ GAt (fun b => S ≤ b) w' na' n' nq' ra' m' rq' X ∧ Below S w w'
/-- One that tells an error. -/
def DeedNo (S : Nat) (w : World) (E : Int) (e : Ending) (w' : World) : Prop := e = .returned (.tuple #[.int .u64 0, .int .i64 E]) ∧ Below S w w'
theorem GO.zr {S Z : Nat} {w : World} {na : Option Addr} {n nq rb m rq : Nat} {nodes : List NdV} {roots : List Int} (h : GO S w na n nq (some ⟨rb, 0, none⟩) m rq nodes roots) {cs : List Value} (hz : Blk w Z cs 61) : Z ≠ rb := fun e => (h.notblk hz (by decide) (by decide) (by decide)).2.1 (by rw [e]; rfl)
theorem root_cell {S : Nat} {w : World} {na : Option Addr} {n nq rb m rq : Nat} {nodes : List NdV} {roots : List Int} (h : GO S w na n nq (some ⟨rb, 0, none⟩) m rq nodes roots) {k : Nat} {v : Int} (hk : roots[k]? = some v) : w.cell? ⟨rb, k, none⟩ = some (.int .i64 v) ∧ w.frozen? ⟨rb, k, none⟩ = false := by
  obtain ⟨b, o, e, hb, hc⟩ := in_cells (own_caps ic_len h.ro).1 hk
  simp only [Option.some.injEq, Addr.mk.injEq, and_true] at e
  obtain ⟨rfl, rfl⟩ := e
  rw [Nat.zero_add] at hc
  exact ⟨hc, h.ro.fz h.rl k⟩
theorem ptr_cell {S : Nat} {w : World} {x : NdV} (h : NdO S w x) {pb I : Nat} {v : Int} (hpb : x.pa = some ⟨pb, 0, none⟩) (hk : x.ptrs[I]? = some v) : w.cell? ⟨pb, I, none⟩ = some (.int .i64 v) ∧ w.frozen? ⟨pb, I, none⟩ = false := by
  have hp := h.p
  unfold ptrV at hp
  rw [hpb] at hp
  obtain ⟨b, o, e, hb, hc⟩ := in_cells (own_caps ic_len hp).1 hk
  simp only [Option.some.injEq, Addr.mk.injEq, and_true] at e
  obtain ⟨rfl, rfl⟩ := e
  rw [Nat.zero_add] at hc
  exact ⟨hc, hp.fz rfl I⟩
theorem dat_cell {S : Nat} {w : World} {x : NdV} (h : NdO S w x) {pb I : Nat} {v : Nat} (hpb : x.da = some ⟨pb, 0, none⟩) (hk : x.data[I]? = some v) : w.cell? ⟨pb, I, none⟩ = some (.int .u64 (v : Int)) ∧ w.frozen? ⟨pb, I, none⟩ = false := by
  have hp := h.d
  unfold datV at hp
  rw [hpb] at hp
  obtain ⟨ao, cap, e, hu, _⟩ := own_u_caps hp
  simp only [Value.slice.injEq] at e
  obtain ⟨rfl, _, rfl⟩ := e
  obtain ⟨b, o, e, hb, hc⟩ := us_cell hu hk
  simp only [Option.some.injEq, Addr.mk.injEq, and_true] at e
  obtain ⟨rfl, rfl⟩ := e
  rw [Nat.zero_add] at hc
  exact ⟨hc, own_u_fz hp rfl I⟩
theorem ptr_at {S : Nat} {w : World} {x : NdV} (h : NdO S w x) (hl : 0 < x.ptrs.length) : ∃ pb, x.pa = some ⟨pb, 0, none⟩ ∧ S ≤ pb := by
  obtain ⟨g, e, h1, _⟩ := OwnR.at (h := h.p) hl rfl
  exact ⟨g, e, h1⟩
theorem dat_at {S : Nat} {w : World} {x : NdV} (h : NdO S w x) (hl : 0 < x.data.length) : ∃ pb, x.da = some ⟨pb, 0, none⟩ ∧ S ≤ pb := by
  obtain ⟨g, e, h1, _⟩ := own_u_at (h := h.d) hl rfl
  exact ⟨g, e, h1⟩
theorem root_at {S : Nat} {w : World} {na ra : Option Addr} {n nq m rq : Nat} {nodes : List NdV} {roots : List Int} (h : GO S w na n nq ra m rq nodes roots) (hm : 0 < m) : ∃ rb, ra = some ⟨rb, 0, none⟩ ∧ S ≤ rb := by
  obtain ⟨g, e, h1, _⟩ := h.ro.at hm h.rl
  exact ⟨g, e, h1⟩
theorem GO.zx {S Z : Nat} {w : World} {na ra : Option Addr} {n nq m rq : Nat} {nodes : List NdV} {roots : List Int} (h : GO S w na n nq ra m rq nodes roots) {cs : List Value} {x : NdV} (hx : x ∈ nodes) {pb : Nat} {u : TypeId} (hz : Blk w Z cs u) (h1 : u ≠ 3) (h2 : u ≠ 29) (hpb : x.pa = some ⟨pb, 0, none⟩ ∨ x.da = some ⟨pb, 0, none⟩) : Z ≠ pb := fun e => by
  have h9 := (h.xo x hx).notnd hz h1 h2
  rcases hpb with hpb | hpb
  · exact h9.1 (by unfold ptrV; rw [hpb, e]; rfl)
  · exact h9.2 (by unfold datV; rw [hpb, e]; rfl)
theorem GO.rx {S rb : Nat} {w : World} {na : Option Addr} {n nq m rq : Nat} {nodes : List NdV} {roots : List Int} (h : GO S w na n nq (some ⟨rb, 0, none⟩) m rq nodes roots) {x : NdV} (hx : x ∈ nodes) {pb : Nat} (hpb : x.pa = some ⟨pb, 0, none⟩) : rb ≠ pb := fun e => h.root_apart hx (Or.inl (by unfold ptrV; rw [hpb]; rfl)) (by rw [e]; rfl)
/-- A cell where one other cell is stored. -/
theorem cell_heap {w w' : World} {a : Addr} (h : w'.heap = w.heap) : w'.cell? a = w.cell? a := by simp [World.cell?, h]
theorem cell_set_far {w w' : World} {g j b i : Nat} {v u : Value} (hh : w'.heap = (w.setCell ⟨g, j, none⟩ v).heap) (hne : b ≠ g) (hc : w.cell? ⟨b, i, none⟩ = some u) : w'.cell? ⟨b, i, none⟩ = some u := by
  rw [cell_heap hh]
  rw [World.cell?_of_block (a := ⟨b, i, none⟩) (Deep.blk_setCell_other w _ v b hne)]
  exact hc

theorem gpRefuse (Z : Nat) (w : World) (kd r s i sz pt v : Int) : Calls Try.prog 45 #[.pointer (some ⟨Z, 0, none⟩), .agg #[.int .i64 kd, .int .i64 r, .int .i64 s, .int .i64 i, .int .i64 sz, .int .i64 pt, .int .u64 v]] w fun e w' => e = .returned (.tuple #[.int .u64 0, .int .i64 1]) ∧ Below w.heap.size w w' := by
  have HW := Lib.hid (ba0 w (.cells #[.int .i64 kd, .int .i64 r, .int .i64 s, .int .i64 i, .int .i64 sz, .int .i64 pt, .int .u64 v] 31))
  go_enter Try.func45, Try.ntmps45
  go_wp2_with fail
  go_ret2
  exact ⟨rfl, HW.out⟩
set_option maxRecDepth 100000 in
set_option maxHeartbeats 1000000 in
theorem gpDrop {S Z : Nat} {w : World} {na ra : Option Addr} {n cq m rq : Nat} {nodes : List NdV} {roots : List Int} (hz : Blk w Z [.slice na n cq, .slice ra m rq] 61) (hO : GO S w na n cq ra m rq nodes roots) (hS : S ≤ w.heap.size) (hn : n ≤ 1000000) (hm : m ≤ 1000000) (kd s i sz pt v : Int) (r : Nat) (hr : r < m) : Calls Try.prog 43 #[.pointer (some ⟨Z, 0, none⟩), .agg #[.int .i64 kd, .int .i64 (r : Int), .int .i64 s, .int .i64 i, .int .i64 sz, .int .i64 pt, .int .u64 v]] w (DeedOk S Z w 0 ⟨nodes.map NdV.nd, roots.set r (-1)⟩) := by
  obtain ⟨rb, rfl, hrb⟩ := root_at hO (by omega)
  have hr1 : (r : Int) < (m : Int) := by omega
  have HB := Lib.hid (ba0 w (.cells #[.int .i64 kd, .int .i64 (r : Int), .int .i64 s, .int .i64 i, .int .i64 sz, .int .i64 pt, .int .u64 v] 31))
  have HB1 := Lib.hid (HB.out.mono hS)
  have HC := Lib.hid (Blk.new w [.int .i64 kd, .int .i64 (r : Int), .int .i64 s, .int .i64 i, .int .i64 sz, .int .i64 pt, .int .u64 v] 31)
  have HZ := Lib.hid (hz.below HB.out)
  have HO := Lib.hid (hO.later HB.out)
  have hwr : w.heap.size ≠ rb := by have := (World.ownsRow.lt hO.ro rb rfl).2; omega
  have hzr : Z ≠ rb := hO.zr hz
  clear hz hO
  go_enter Try.func43, Try.ntmps43
  go_upto_region 1 with fail
  generalize w.alloc (.cells #[.int .i64 kd, .int .i64 (r : Int), .int .i64 s, .int .i64 i, .int .i64 sz, .int .i64 pt, .int .u64 v] 31) = V at HB HB1 HC HZ HO ⊢
  have z1 : V.cell? ⟨Z, 1, none⟩ = some (.slice (some ⟨rb, 0, none⟩) m rq) := HZ.out.cell rfl
  have a1 : V.cell? ⟨w.heap.size, 1, none⟩ = some (.int .i64 (r : Int)) := HC.out.cell rfl
  obtain ⟨t1, t2⟩ := root_cell HO.out (k := r) (v := roots[r]'(by have := HO.out.rl; omega)) (List.getElem?_eq_getElem _)
  have hk : Hid (∀ w' : World, (w'.heap = V.heap ∨ w'.heap = (V.setCell ⟨rb, r, none⟩ (.int .i64 (-1))).heap) → w'.cell? ⟨Z, 1, none⟩ = some (.slice (some ⟨rb, 0, none⟩) m rq) ∧ w'.cell? ⟨w.heap.size, 1, none⟩ = some (.int .i64 (r : Int))) := Lib.hid (fun w' h => by
    rcases h with h | h
    · exact ⟨(cell_heap h).trans z1, (cell_heap h).trans a1⟩
    · exact ⟨cell_set_far h hzr z1, cell_set_far h hwr a1⟩)
  go_region_held3 (fun w' => w'.cell? ⟨Z, 1, none⟩ = some (.slice (some ⟨rb, 0, none⟩) m rq) ∧ w'.cell? ⟨w.heap.size, 1, none⟩ = some (.int .i64 (r : Int))) (exact hk.out _ (by first | exact Or.inl rfl | exact Or.inr rfl)) ((fail))
  go_wp2_with fail
  go_ret2
  exact ⟨_, _, _, _, _, _, rfl, Blk.heap (HZ.out.far hzr _) rfl, GO.gat (HO.out.rootset hr (by unfold ib; omega) rfl), by first | exact (HB1.out.drew.setCell (p := ⟨rb, r, none⟩) (by show S ≤ rb; omega) _) | exact (HB1.out.setCell (p := ⟨rb, r, none⟩) (by show S ≤ rb; omega) _).drew | exact HB1.out.setCell (p := ⟨rb, r, none⟩) (by show S ≤ rb; omega) _⟩
set_option maxRecDepth 100000 in
set_option maxHeartbeats 1000000 in
theorem gpAssign {S Z : Nat} {w : World} {na ra : Option Addr} {n cq m rq : Nat} {nodes : List NdV} {roots : List Int} (hz : Blk w Z [.slice na n cq, .slice ra m rq] 61) (hO : GO S w na n cq ra m rq nodes roots) (hS : S ≤ w.heap.size) (hn : n ≤ 1000000) (hm : m ≤ 1000000) (kd i sz pt v : Int) (r s : Nat) (tv : Int) (hr : r < m) (hs : roots[s]? = some tv) : Calls Try.prog 42 #[.pointer (some ⟨Z, 0, none⟩), .agg #[.int .i64 kd, .int .i64 (r : Int), .int .i64 (s : Int), .int .i64 i, .int .i64 sz, .int .i64 pt, .int .u64 v]] w (DeedOk S Z w 0 ⟨nodes.map NdV.nd, roots.set r tv⟩) := by
  obtain ⟨rb, rfl, hrb⟩ := root_at hO (by omega)
  have hsm : s < m := by have := (List.getElem?_eq_some_iff.1 hs).1; have := hO.rl; omega
  have hr1 : (r : Int) < (m : Int) := by omega
  have hs1 : (s : Int) < (m : Int) := by omega
  have htb : ib tv := hO.rb tv (List.mem_of_getElem? hs)
  have HTB := Lib.hid htb
  have HB := Lib.hid (ba0 w (.cells #[.int .i64 kd, .int .i64 (r : Int), .int .i64 (s : Int), .int .i64 i, .int .i64 sz, .int .i64 pt, .int .u64 v] 31))
  have HB1 := Lib.hid (HB.out.mono hS)
  have HC := Lib.hid (Blk.new w [.int .i64 kd, .int .i64 (r : Int), .int .i64 (s : Int), .int .i64 i, .int .i64 sz, .int .i64 pt, .int .u64 v] 31)
  have HZ := Lib.hid (hz.below HB.out)
  have HO := Lib.hid (hO.later HB.out)
  have hwr : w.heap.size ≠ rb := by have := (World.ownsRow.lt hO.ro rb rfl).2; omega
  have hzr : Z ≠ rb := hO.zr hz
  clear hz hO htb
  go_enter Try.func42, Try.ntmps42
  go_upto_region 1 with fail
  generalize w.alloc (.cells #[.int .i64 kd, .int .i64 (r : Int), .int .i64 (s : Int), .int .i64 i, .int .i64 sz, .int .i64 pt, .int .u64 v] 31) = V at HB HB1 HC HZ HO ⊢
  have z1 : V.cell? ⟨Z, 1, none⟩ = some (.slice (some ⟨rb, 0, none⟩) m rq) := HZ.out.cell rfl
  have a1 : V.cell? ⟨w.heap.size, 1, none⟩ = some (.int .i64 (r : Int)) := HC.out.cell rfl
  have a2 : V.cell? ⟨w.heap.size, 2, none⟩ = some (.int .i64 (s : Int)) := HC.out.cell rfl
  obtain ⟨t1, t2⟩ := root_cell HO.out (k := r) (v := roots[r]'(by have := HO.out.rl; omega)) (List.getElem?_eq_getElem _)
  obtain ⟨t3, _⟩ := root_cell HO.out hs
  have hk : Hid (∀ w' : World, (w'.heap = V.heap ∨ w'.heap = (V.setCell ⟨rb, r, none⟩ (.int .i64 tv)).heap) → w'.cell? ⟨Z, 1, none⟩ = some (.slice (some ⟨rb, 0, none⟩) m rq) ∧ w'.cell? ⟨w.heap.size, 1, none⟩ = some (.int .i64 (r : Int)) ∧ w'.cell? ⟨w.heap.size, 2, none⟩ = some (.int .i64 (s : Int)) ∧ w'.cell? ⟨rb, s, none⟩ = some (.int .i64 tv)) := Lib.hid (fun w' h => by
    rcases h with h | h
    · exact ⟨(cell_heap h).trans z1, (cell_heap h).trans a1, (cell_heap h).trans a2, (cell_heap h).trans t3⟩
    · refine ⟨cell_set_far h hzr z1, cell_set_far h hwr a1, cell_set_far h hwr a2, ?_⟩
      rw [cell_heap h]
      by_cases e : s = r
      · subst e; exact setAt _ t3
      · exact (World.cell?_setCell_other (w := V) (a := ⟨rb, r, none⟩) (b := ⟨rb, s, none⟩) (v := .int .i64 tv) (h := by intro e; simp only [Addr.mk.injEq] at e; omega)).trans t3)
  clear hs
  go_region_held3 (fun w' => w'.cell? ⟨Z, 1, none⟩ = some (.slice (some ⟨rb, 0, none⟩) m rq) ∧ w'.cell? ⟨w.heap.size, 1, none⟩ = some (.int .i64 (r : Int)) ∧ w'.cell? ⟨w.heap.size, 2, none⟩ = some (.int .i64 (s : Int)) ∧ w'.cell? ⟨rb, s, none⟩ = some (.int .i64 tv)) (exact hk.out _ (by first | exact Or.inl rfl | exact Or.inr rfl)) ((fail))
  go_wp2_with fail
  go_ret2
  exact ⟨_, _, _, _, _, _, rfl, Blk.heap (HZ.out.far hzr _) rfl, GO.gat (HO.out.rootset hr HTB.out rfl), by first | exact (HB1.out.drew.setCell (p := ⟨rb, r, none⟩) (by show S ≤ rb; omega) _) | exact (HB1.out.setCell (p := ⟨rb, r, none⟩) (by show S ≤ rb; omega) _).drew | exact HB1.out.setCell (p := ⟨rb, r, none⟩) (by show S ≤ rb; omega) _⟩
set_option maxRecDepth 100000 in
set_option maxHeartbeats 1000000 in
theorem gpLoad_none {S Z : Nat} {w : World} {na ra : Option Addr} {n cq m rq : Nat} {nodes : List NdV} {roots : List Int} (hz : Blk w Z [.slice na n cq, .slice ra m rq] 61) (hO : GO S w na n cq ra m rq nodes roots) (hS : S ≤ w.heap.size) (hn : n ≤ 1000000) (hm : m ≤ 1000000) (kd r i sz pt v : Int) (s : Nat) (hs : roots[s]? = some (-1)) : Calls Try.prog 38 #[.pointer (some ⟨Z, 0, none⟩), .agg #[.int .i64 kd, .int .i64 r, .int .i64 (s : Int), .int .i64 i, .int .i64 sz, .int .i64 pt, .int .u64 v]] w (DeedNo S w 6) := by
  have HB := Lib.hid (ba0 w (.cells #[.int .i64 kd, .int .i64 r, .int .i64 (s : Int), .int .i64 i, .int .i64 sz, .int .i64 pt, .int .u64 v] 31))
  have HB1 := Lib.hid (HB.out.mono hS)
  have HZ := Lib.hid (hz.below HB.out)
  have HO := Lib.hid (hO.later HB.out)
  clear hz hO
  go_enter Try.func38, Try.ntmps38
  go_wp2_with fail
  refine (gpSlotI_none HZ.out HO.out hn hm kd r i sz pt v s hs).mono ?_
  rintro e V2 ⟨rfl, hb2⟩
  have HB2 := Lib.hid (HB1.out.trans (hb2.mono (Nat.le_trans hS HB.out.size)))
  clear hb2
  go_wp2_with fail
  go_ret2
  exact ⟨rfl, HB2.out⟩
set_option maxRecDepth 100000 in
set_option maxHeartbeats 1000000 in
theorem gpLoad_bad {S Z : Nat} {w : World} {na ra : Option Addr} {n cq m rq : Nat} {nodes : List NdV} {roots : List Int} (hz : Blk w Z [.slice na n cq, .slice ra m rq] 61) (hO : GO S w na n cq ra m rq nodes roots) (hS : S ≤ w.heap.size) (hn : n ≤ 1000000) (hm : m ≤ 1000000) (kd r i sz pt v : Int) (s : Nat) (k : Nat) (x : NdV) (hs : roots[s]? = some (k : Int)) (hx : nodes[k]? = some x) (hlm : x.ptrs.length ≤ 1000000) (hi : ¬ (0 ≤ i ∧ i < x.ptrs.length)) : Calls Try.prog 38 #[.pointer (some ⟨Z, 0, none⟩), .agg #[.int .i64 kd, .int .i64 r, .int .i64 (s : Int), .int .i64 i, .int .i64 sz, .int .i64 pt, .int .u64 v]] w (DeedNo S w 1) := by
  have HB := Lib.hid (ba0 w (.cells #[.int .i64 kd, .int .i64 r, .int .i64 (s : Int), .int .i64 i, .int .i64 sz, .int .i64 pt, .int .u64 v] 31))
  have HB1 := Lib.hid (HB.out.mono hS)
  have HZ := Lib.hid (hz.below HB.out)
  have HO := Lib.hid (hO.later HB.out)
  clear hz hO
  go_enter Try.func38, Try.ntmps38
  go_wp2_with fail
  refine (gpSlotI_bad HZ.out HO.out hn hm kd r i sz pt v s k x hs hx hlm hi).mono ?_
  rintro e V2 ⟨rfl, hb2⟩
  have HB2 := Lib.hid (HB1.out.trans (hb2.mono (Nat.le_trans hS HB.out.size)))
  clear hb2
  go_wp2_with fail
  go_ret2
  exact ⟨rfl, HB2.out⟩
set_option maxRecDepth 100000 in
set_option maxHeartbeats 1000000 in
theorem gpGet_none {S Z : Nat} {w : World} {na ra : Option Addr} {n cq m rq : Nat} {nodes : List NdV} {roots : List Int} (hz : Blk w Z [.slice na n cq, .slice ra m rq] 61) (hO : GO S w na n cq ra m rq nodes roots) (hS : S ≤ w.heap.size) (hn : n ≤ 1000000) (hm : m ≤ 1000000) (kd r i sz pt v : Int) (s : Nat) (hs : roots[s]? = some (-1)) : Calls Try.prog 39 #[.pointer (some ⟨Z, 0, none⟩), .agg #[.int .i64 kd, .int .i64 r, .int .i64 (s : Int), .int .i64 i, .int .i64 sz, .int .i64 pt, .int .u64 v]] w (DeedNo S w 6) := by
  have HB := Lib.hid (ba0 w (.cells #[.int .i64 kd, .int .i64 r, .int .i64 (s : Int), .int .i64 i, .int .i64 sz, .int .i64 pt, .int .u64 v] 31))
  have HB1 := Lib.hid (HB.out.mono hS)
  have HZ := Lib.hid (hz.below HB.out)
  have HO := Lib.hid (hO.later HB.out)
  clear hz hO
  go_enter Try.func39, Try.ntmps39
  go_wp2_with fail
  refine (gpSlotU_none HZ.out HO.out hn hm kd r i sz pt v s hs).mono ?_
  rintro e V2 ⟨rfl, hb2⟩
  have HB2 := Lib.hid (HB1.out.trans (hb2.mono (Nat.le_trans hS HB.out.size)))
  clear hb2
  go_wp2_with fail
  go_ret2
  exact ⟨rfl, HB2.out⟩
set_option maxRecDepth 100000 in
set_option maxHeartbeats 1000000 in
theorem gpGet_bad {S Z : Nat} {w : World} {na ra : Option Addr} {n cq m rq : Nat} {nodes : List NdV} {roots : List Int} (hz : Blk w Z [.slice na n cq, .slice ra m rq] 61) (hO : GO S w na n cq ra m rq nodes roots) (hS : S ≤ w.heap.size) (hn : n ≤ 1000000) (hm : m ≤ 1000000) (kd r i sz pt v : Int) (s : Nat) (k : Nat) (x : NdV) (hs : roots[s]? = some (k : Int)) (hx : nodes[k]? = some x) (hlm : x.data.length ≤ 1000000) (hi : ¬ (0 ≤ i ∧ i < x.data.length)) : Calls Try.prog 39 #[.pointer (some ⟨Z, 0, none⟩), .agg #[.int .i64 kd, .int .i64 r, .int .i64 (s : Int), .int .i64 i, .int .i64 sz, .int .i64 pt, .int .u64 v]] w (DeedNo S w 1) := by
  have HB := Lib.hid (ba0 w (.cells #[.int .i64 kd, .int .i64 r, .int .i64 (s : Int), .int .i64 i, .int .i64 sz, .int .i64 pt, .int .u64 v] 31))
  have HB1 := Lib.hid (HB.out.mono hS)
  have HZ := Lib.hid (hz.below HB.out)
  have HO := Lib.hid (hO.later HB.out)
  clear hz hO
  go_enter Try.func39, Try.ntmps39
  go_wp2_with fail
  refine (gpSlotU_bad HZ.out HO.out hn hm kd r i sz pt v s k x hs hx hlm hi).mono ?_
  rintro e V2 ⟨rfl, hb2⟩
  have HB2 := Lib.hid (HB1.out.trans (hb2.mono (Nat.le_trans hS HB.out.size)))
  clear hb2
  go_wp2_with fail
  go_ret2
  exact ⟨rfl, HB2.out⟩
set_option maxRecDepth 100000 in
set_option maxHeartbeats 1000000 in
theorem gpStore_none {S Z : Nat} {w : World} {na ra : Option Addr} {n cq m rq : Nat} {nodes : List NdV} {roots : List Int} (hz : Blk w Z [.slice na n cq, .slice ra m rq] 61) (hO : GO S w na n cq ra m rq nodes roots) (hS : S ≤ w.heap.size) (hn : n ≤ 1000000) (hm : m ≤ 1000000) (kd r i sz pt v : Int) (s : Nat) (hs : roots[s]? = some (-1)) : Calls Try.prog 40 #[.pointer (some ⟨Z, 0, none⟩), .agg #[.int .i64 kd, .int .i64 r, .int .i64 (s : Int), .int .i64 i, .int .i64 sz, .int .i64 pt, .int .u64 v]] w (DeedNo S w 6) := by
  have HB := Lib.hid (ba0 w (.cells #[.int .i64 kd, .int .i64 r, .int .i64 (s : Int), .int .i64 i, .int .i64 sz, .int .i64 pt, .int .u64 v] 31))
  have HB1 := Lib.hid (HB.out.mono hS)
  have HZ := Lib.hid (hz.below HB.out)
  have HO := Lib.hid (hO.later HB.out)
  clear hz hO
  go_enter Try.func40, Try.ntmps40
  go_wp2_with fail
  refine (gpSlotI_none HZ.out HO.out hn hm kd r i sz pt v s hs).mono ?_
  rintro e V2 ⟨rfl, hb2⟩
  have HB2 := Lib.hid (HB1.out.trans (hb2.mono (Nat.le_trans hS HB.out.size)))
  clear hb2
  go_wp2_with fail
  go_ret2
  exact ⟨rfl, HB2.out⟩
set_option maxRecDepth 100000 in
set_option maxHeartbeats 1000000 in
theorem gpStore_bad {S Z : Nat} {w : World} {na ra : Option Addr} {n cq m rq : Nat} {nodes : List NdV} {roots : List Int} (hz : Blk w Z [.slice na n cq, .slice ra m rq] 61) (hO : GO S w na n cq ra m rq nodes roots) (hS : S ≤ w.heap.size) (hn : n ≤ 1000000) (hm : m ≤ 1000000) (kd r i sz pt v : Int) (s : Nat) (k : Nat) (x : NdV) (hs : roots[s]? = some (k : Int)) (hx : nodes[k]? = some x) (hlm : x.ptrs.length ≤ 1000000) (hi : ¬ (0 ≤ i ∧ i < x.ptrs.length)) : Calls Try.prog 40 #[.pointer (some ⟨Z, 0, none⟩), .agg #[.int .i64 kd, .int .i64 r, .int .i64 (s : Int), .int .i64 i, .int .i64 sz, .int .i64 pt, .int .u64 v]] w (DeedNo S w 1) := by
  have HB := Lib.hid (ba0 w (.cells #[.int .i64 kd, .int .i64 r, .int .i64 (s : Int), .int .i64 i, .int .i64 sz, .int .i64 pt, .int .u64 v] 31))
  have HB1 := Lib.hid (HB.out.mono hS)
  have HZ := Lib.hid (hz.below HB.out)
  have HO := Lib.hid (hO.later HB.out)
  clear hz hO
  go_enter Try.func40, Try.ntmps40
  go_wp2_with fail
  refine (gpSlotI_bad HZ.out HO.out hn hm kd r i sz pt v s k x hs hx hlm hi).mono ?_
  rintro e V2 ⟨rfl, hb2⟩
  have HB2 := Lib.hid (HB1.out.trans (hb2.mono (Nat.le_trans hS HB.out.size)))
  clear hb2
  go_wp2_with fail
  go_ret2
  exact ⟨rfl, HB2.out⟩
set_option maxRecDepth 100000 in
set_option maxHeartbeats 1000000 in
theorem gpSet_none {S Z : Nat} {w : World} {na ra : Option Addr} {n cq m rq : Nat} {nodes : List NdV} {roots : List Int} (hz : Blk w Z [.slice na n cq, .slice ra m rq] 61) (hO : GO S w na n cq ra m rq nodes roots) (hS : S ≤ w.heap.size) (hn : n ≤ 1000000) (hm : m ≤ 1000000) (kd r i sz pt v : Int) (s : Nat) (hs : roots[s]? = some (-1)) : Calls Try.prog 41 #[.pointer (some ⟨Z, 0, none⟩), .agg #[.int .i64 kd, .int .i64 r, .int .i64 (s : Int), .int .i64 i, .int .i64 sz, .int .i64 pt, .int .u64 v]] w (DeedNo S w 6) := by
  have HB := Lib.hid (ba0 w (.cells #[.int .i64 kd, .int .i64 r, .int .i64 (s : Int), .int .i64 i, .int .i64 sz, .int .i64 pt, .int .u64 v] 31))
  have HB1 := Lib.hid (HB.out.mono hS)
  have HZ := Lib.hid (hz.below HB.out)
  have HO := Lib.hid (hO.later HB.out)
  clear hz hO
  go_enter Try.func41, Try.ntmps41
  go_wp2_with fail
  refine (gpSlotU_none HZ.out HO.out hn hm kd r i sz pt v s hs).mono ?_
  rintro e V2 ⟨rfl, hb2⟩
  have HB2 := Lib.hid (HB1.out.trans (hb2.mono (Nat.le_trans hS HB.out.size)))
  clear hb2
  go_wp2_with fail
  go_ret2
  exact ⟨rfl, HB2.out⟩
set_option maxRecDepth 100000 in
set_option maxHeartbeats 1000000 in
theorem gpSet_bad {S Z : Nat} {w : World} {na ra : Option Addr} {n cq m rq : Nat} {nodes : List NdV} {roots : List Int} (hz : Blk w Z [.slice na n cq, .slice ra m rq] 61) (hO : GO S w na n cq ra m rq nodes roots) (hS : S ≤ w.heap.size) (hn : n ≤ 1000000) (hm : m ≤ 1000000) (kd r i sz pt v : Int) (s : Nat) (k : Nat) (x : NdV) (hs : roots[s]? = some (k : Int)) (hx : nodes[k]? = some x) (hlm : x.data.length ≤ 1000000) (hi : ¬ (0 ≤ i ∧ i < x.data.length)) : Calls Try.prog 41 #[.pointer (some ⟨Z, 0, none⟩), .agg #[.int .i64 kd, .int .i64 r, .int .i64 (s : Int), .int .i64 i, .int .i64 sz, .int .i64 pt, .int .u64 v]] w (DeedNo S w 1) := by
  have HB := Lib.hid (ba0 w (.cells #[.int .i64 kd, .int .i64 r, .int .i64 (s : Int), .int .i64 i, .int .i64 sz, .int .i64 pt, .int .u64 v] 31))
  have HB1 := Lib.hid (HB.out.mono hS)
  have HZ := Lib.hid (hz.below HB.out)
  have HO := Lib.hid (hO.later HB.out)
  clear hz hO
  go_enter Try.func41, Try.ntmps41
  go_wp2_with fail
  refine (gpSlotU_bad HZ.out HO.out hn hm kd r i sz pt v s k x hs hx hlm hi).mono ?_
  rintro e V2 ⟨rfl, hb2⟩
  have HB2 := Lib.hid (HB1.out.trans (hb2.mono (Nat.le_trans hS HB.out.size)))
  clear hb2
  go_wp2_with fail
  go_ret2
  exact ⟨rfl, HB2.out⟩
set_option maxRecDepth 100000 in
set_option maxHeartbeats 1000000 in
theorem gpGet_ok {S Z : Nat} {w : World} {na ra : Option Addr} {n cq m rq : Nat} {nodes : List NdV} {roots : List Int} (hz : Blk w Z [.slice na n cq, .slice ra m rq] 61) (hO : GO S w na n cq ra m rq nodes roots) (hS : S ≤ w.heap.size) (hn : n ≤ 1000000) (hm : m ≤ 1000000) (kd r sz pt v : Int) (s I : Nat) (k : Nat) (x : NdV) (hs : roots[s]? = some (k : Int)) (hx : nodes[k]? = some x) (hlm : x.data.length ≤ 1000000) (hI : I < x.data.length) (y : Nat) (hy : x.data[I]? = some y): Calls Try.prog 39 #[.pointer (some ⟨Z, 0, none⟩), .agg #[.int .i64 kd, .int .i64 r, .int .i64 (s : Int), .int .i64 (I : Int), .int .i64 sz, .int .i64 pt, .int .u64 v]] w (DeedOk S Z w (y : Int) ⟨nodes.map NdV.nd, roots⟩) := by
  have HB := Lib.hid (ba0 w (.cells #[.int .i64 kd, .int .i64 r, .int .i64 (s : Int), .int .i64 (I : Int), .int .i64 sz, .int .i64 pt, .int .u64 v] 31))
  have HB1 := Lib.hid (HB.out.mono hS)
  have HC := Lib.hid (Blk.new w [.int .i64 kd, .int .i64 r, .int .i64 (s : Int), .int .i64 (I : Int), .int .i64 sz, .int .i64 pt, .int .u64 v] 31)
  have HZ := Lib.hid (hz.below HB.out)
  have HO := Lib.hid (hO.later HB.out)
  have hxm := List.mem_of_getElem? hx
  obtain ⟨pb, hpb, hSp⟩ := dat_at (hO.xo x hxm) (by omega)
  have hzp : Z ≠ pb := hO.zx hxm hz (by decide) (by decide) (Or.inr hpb)
  have hwp : w.heap.size ≠ pb := by
    have h1 := (hO.xo x hxm).lt
    have h2 : pb < w.heap.size := h1.2 pb (by unfold datV; rw [hpb]; rfl)
    omega
  clear hz hO
  go_enter Try.func39, Try.ntmps39
  go_upto_region 1 with fail
  generalize w.alloc (.cells #[.int .i64 kd, .int .i64 r, .int .i64 (s : Int), .int .i64 (I : Int), .int .i64 sz, .int .i64 pt, .int .u64 v] 31) = V0 at HB HB1 HC HZ HO ⊢
  obtain ⟨l0, l1, l2, l3, l4, l5, l6⟩ : V0.cell? ⟨w.heap.size, 0, none⟩ = some (.int .i64 kd) ∧ V0.cell? ⟨w.heap.size, 1, none⟩ = some (.int .i64 r) ∧ V0.cell? ⟨w.heap.size, 2, none⟩ = some (.int .i64 (s : Int)) ∧ V0.cell? ⟨w.heap.size, 3, none⟩ = some (.int .i64 (I : Int)) ∧ V0.cell? ⟨w.heap.size, 4, none⟩ = some (.int .i64 sz) ∧ V0.cell? ⟨w.heap.size, 5, none⟩ = some (.int .i64 pt) ∧ V0.cell? ⟨w.heap.size, 6, none⟩ = some (.int .u64 v) := ⟨HC.out.cell rfl, HC.out.cell rfl, HC.out.cell rfl, HC.out.cell rfl, HC.out.cell rfl, HC.out.cell rfl, HC.out.cell rfl⟩
  go_wp2_with fail
  refine (gpSlotU_ok HZ.out HO.out hn hm kd r (I : Int) sz pt v s k x hs hx hlm I pb hI hpb).mono ?_
  rintro e V ⟨rfl, hb2⟩
  have HB2 := Lib.hid (HB1.out.trans (hb2.mono (Nat.le_trans hS HB.out.size)))
  have HC2 := Lib.hid (HC.out.below hb2)
  have HZ2 := Lib.hid (HZ.out.below hb2)
  have HO2 := Lib.hid (HO.out.later hb2)
  clear hb2 l0 l1 l2 l3 l4 l5 l6 HB HB1 HC HZ HO
  obtain ⟨t1, _⟩ := dat_cell (HO2.out.xo x hxm) hpb hy
  clear hx hs hxm hpb hlm hI hy
  go_wp2_with fail
  go_ret2
  exact ⟨_, _, _, _, _, _, rfl, HZ2.out, HO2.out.gat, HB2.out⟩
set_option maxRecDepth 100000 in
set_option maxHeartbeats 1000000 in
theorem gpSet_ok {S Z : Nat} {w : World} {na ra : Option Addr} {n cq m rq : Nat} {nodes : List NdV} {roots : List Int} (hz : Blk w Z [.slice na n cq, .slice ra m rq] 61) (hO : GO S w na n cq ra m rq nodes roots) (hS : S ≤ w.heap.size) (hn : n ≤ 1000000) (hm : m ≤ 1000000) (kd r sz pt : Int) (v : Nat) (hv : v < 2 ^ 64) (s I : Nat) (k : Nat) (x : NdV) (hs : roots[s]? = some (k : Int)) (hx : nodes[k]? = some x) (hlm : x.data.length ≤ 1000000) (hI : I < x.data.length) : Calls Try.prog 41 #[.pointer (some ⟨Z, 0, none⟩), .agg #[.int .i64 kd, .int .i64 r, .int .i64 (s : Int), .int .i64 (I : Int), .int .i64 sz, .int .i64 pt, .int .u64 (v : Int)]] w (DeedOk S Z w 0 ⟨(nodes.map NdV.nd).set k ⟨x.ptrs, x.data.set I v⟩, roots⟩) := by
  have HB := Lib.hid (ba0 w (.cells #[.int .i64 kd, .int .i64 r, .int .i64 (s : Int), .int .i64 (I : Int), .int .i64 sz, .int .i64 pt, .int .u64 (v : Int)] 31))
  have HB1 := Lib.hid (HB.out.mono hS)
  have HC := Lib.hid (Blk.new w [.int .i64 kd, .int .i64 r, .int .i64 (s : Int), .int .i64 (I : Int), .int .i64 sz, .int .i64 pt, .int .u64 (v : Int)] 31)
  have HZ := Lib.hid (hz.below HB.out)
  have HO := Lib.hid (hO.later HB.out)
  have hxm := List.mem_of_getElem? hx
  obtain ⟨pb, hpb, hSp⟩ := dat_at (hO.xo x hxm) (by omega)
  have hzp : Z ≠ pb := hO.zx hxm hz (by decide) (by decide) (Or.inr hpb)
  have hwp : w.heap.size ≠ pb := by
    have h1 := (hO.xo x hxm).lt
    have h2 : pb < w.heap.size := h1.2 pb (by unfold datV; rw [hpb]; rfl)
    omega
  clear hz hO
  go_enter Try.func41, Try.ntmps41
  go_upto_region 1 with fail
  generalize w.alloc (.cells #[.int .i64 kd, .int .i64 r, .int .i64 (s : Int), .int .i64 (I : Int), .int .i64 sz, .int .i64 pt, .int .u64 (v : Int)] 31) = V0 at HB HB1 HC HZ HO ⊢
  obtain ⟨l0, l1, l2, l3, l4, l5, l6⟩ : V0.cell? ⟨w.heap.size, 0, none⟩ = some (.int .i64 kd) ∧ V0.cell? ⟨w.heap.size, 1, none⟩ = some (.int .i64 r) ∧ V0.cell? ⟨w.heap.size, 2, none⟩ = some (.int .i64 (s : Int)) ∧ V0.cell? ⟨w.heap.size, 3, none⟩ = some (.int .i64 (I : Int)) ∧ V0.cell? ⟨w.heap.size, 4, none⟩ = some (.int .i64 sz) ∧ V0.cell? ⟨w.heap.size, 5, none⟩ = some (.int .i64 pt) ∧ V0.cell? ⟨w.heap.size, 6, none⟩ = some (.int .u64 (v : Int)) := ⟨HC.out.cell rfl, HC.out.cell rfl, HC.out.cell rfl, HC.out.cell rfl, HC.out.cell rfl, HC.out.cell rfl, HC.out.cell rfl⟩
  go_wp2_with fail
  refine (gpSlotU_ok HZ.out HO.out hn hm kd r (I : Int) sz pt (v : Int) s k x hs hx hlm I pb hI hpb).mono ?_
  rintro e V ⟨rfl, hb2⟩
  have HB2 := Lib.hid (HB1.out.trans (hb2.mono (Nat.le_trans hS HB.out.size)))
  have HC2 := Lib.hid (HC.out.below hb2)
  have HZ2 := Lib.hid (HZ.out.below hb2)
  have HO2 := Lib.hid (HO.out.later hb2)
  clear hb2 l0 l1 l2 l3 l4 l5 l6 HB HB1 HC HZ HO
  have HSET := Lib.hid (fun w' h => HO2.out.datset (w' := w') hx hpb hI hv h)
  obtain ⟨t1, t2⟩ := dat_cell (HO2.out.xo x hxm) hpb (I := I) (List.getElem?_eq_getElem hI)
  have a6 : V.cell? ⟨w.heap.size, 6, none⟩ = some (.int .u64 (v : Int)) := HC2.out.cell rfl
  clear hx hs hxm hpb hlm
  go_wp2_with fail
  go_ret2
  exact ⟨_, _, _, _, _, _, rfl, Blk.heap (HZ2.out.far hzp _) rfl, HSET.out _ rfl, by first | exact (HB2.out.drew.setCell (p := ⟨pb, I, none⟩) (by show S ≤ pb; omega) _) | exact (HB2.out.setCell (p := ⟨pb, I, none⟩) (by show S ≤ pb; omega) _).drew | exact HB2.out.setCell (p := ⟨pb, I, none⟩) (by show S ≤ pb; omega) _⟩
set_option maxRecDepth 100000 in
set_option maxHeartbeats 1000000 in
theorem gpLoad_ok {S Z : Nat} {w : World} {na ra : Option Addr} {n cq m rq : Nat} {nodes : List NdV} {roots : List Int} (hz : Blk w Z [.slice na n cq, .slice ra m rq] 61) (hO : GO S w na n cq ra m rq nodes roots) (hS : S ≤ w.heap.size) (hn : n ≤ 1000000) (hm : m ≤ 1000000) (kd sz pt v : Int) (r : Nat) (hr : r < m) (s I : Nat) (k : Nat) (x : NdV) (hs : roots[s]? = some (k : Int)) (hx : nodes[k]? = some x) (hlm : x.ptrs.length ≤ 1000000) (hI : I < x.ptrs.length) (tv : Int) (ht : x.ptrs[I]? = some tv): Calls Try.prog 38 #[.pointer (some ⟨Z, 0, none⟩), .agg #[.int .i64 kd, .int .i64 (r : Int), .int .i64 (s : Int), .int .i64 (I : Int), .int .i64 sz, .int .i64 pt, .int .u64 v]] w (DeedOk S Z w 0 ⟨nodes.map NdV.nd, roots.set r tv⟩) := by
  have HB := Lib.hid (ba0 w (.cells #[.int .i64 kd, .int .i64 (r : Int), .int .i64 (s : Int), .int .i64 (I : Int), .int .i64 sz, .int .i64 pt, .int .u64 v] 31))
  have HB1 := Lib.hid (HB.out.mono hS)
  have HC := Lib.hid (Blk.new w [.int .i64 kd, .int .i64 (r : Int), .int .i64 (s : Int), .int .i64 (I : Int), .int .i64 sz, .int .i64 pt, .int .u64 v] 31)
  have HZ := Lib.hid (hz.below HB.out)
  have HO := Lib.hid (hO.later HB.out)
  obtain ⟨rb, rfl, hrb⟩ := root_at hO (by omega)
  have hr1 : (r : Int) < (m : Int) := by omega
  have hwr : w.heap.size ≠ rb := by have := (World.ownsRow.lt hO.ro rb rfl).2; omega
  have hzr : Z ≠ rb := hO.zr hz
  have hxm := List.mem_of_getElem? hx
  obtain ⟨pb, hpb, hSp⟩ := ptr_at (hO.xo x hxm) (by omega)
  have hzp : Z ≠ pb := hO.zx hxm hz (by decide) (by decide) (Or.inl hpb)
  have hwp : w.heap.size ≠ pb := by
    have h1 := (hO.xo x hxm).lt
    have h2 : pb < w.heap.size := h1.1 pb (by unfold ptrV; rw [hpb]; rfl)
    omega
  clear hz hO
  go_enter Try.func38, Try.ntmps38
  go_upto_region 1 with fail
  generalize w.alloc (.cells #[.int .i64 kd, .int .i64 (r : Int), .int .i64 (s : Int), .int .i64 (I : Int), .int .i64 sz, .int .i64 pt, .int .u64 v] 31) = V0 at HB HB1 HC HZ HO ⊢
  obtain ⟨l0, l1, l2, l3, l4, l5, l6⟩ : V0.cell? ⟨w.heap.size, 0, none⟩ = some (.int .i64 kd) ∧ V0.cell? ⟨w.heap.size, 1, none⟩ = some (.int .i64 (r : Int)) ∧ V0.cell? ⟨w.heap.size, 2, none⟩ = some (.int .i64 (s : Int)) ∧ V0.cell? ⟨w.heap.size, 3, none⟩ = some (.int .i64 (I : Int)) ∧ V0.cell? ⟨w.heap.size, 4, none⟩ = some (.int .i64 sz) ∧ V0.cell? ⟨w.heap.size, 5, none⟩ = some (.int .i64 pt) ∧ V0.cell? ⟨w.heap.size, 6, none⟩ = some (.int .u64 v) := ⟨HC.out.cell rfl, HC.out.cell rfl, HC.out.cell rfl, HC.out.cell rfl, HC.out.cell rfl, HC.out.cell rfl, HC.out.cell rfl⟩
  go_wp2_with fail
  refine (gpSlotI_ok HZ.out HO.out hn hm kd (r : Int) (I : Int) sz pt v s k x hs hx hlm I pb hI hpb).mono ?_
  rintro e V ⟨rfl, hb2⟩
  have HB2 := Lib.hid (HB1.out.trans (hb2.mono (Nat.le_trans hS HB.out.size)))
  have HC2 := Lib.hid (HC.out.below hb2)
  have HZ2 := Lib.hid (HZ.out.below hb2)
  have HO2 := Lib.hid (HO.out.later hb2)
  clear hb2 l0 l1 l2 l3 l4 l5 l6 HB HB1 HC HZ HO
  have htb : Hid (ib tv) := Lib.hid ((HO2.out.xb x hxm).1 tv (List.mem_of_getElem? ht))
  have hpr : pb ≠ rb := fun e => HO2.out.rx hxm hpb e.symm
  obtain ⟨t1, _⟩ := ptr_cell (HO2.out.xo x hxm) hpb ht
  obtain ⟨t2, t3⟩ := root_cell HO2.out (k := r) (v := roots[r]'(by have := HO2.out.rl; omega)) (List.getElem?_eq_getElem _)
  have z1 : V.cell? ⟨Z, 1, none⟩ = some (.slice (some ⟨rb, 0, none⟩) m rq) := HZ2.out.cell rfl
  have a1 : V.cell? ⟨w.heap.size, 1, none⟩ = some (.int .i64 (r : Int)) := HC2.out.cell rfl
  have hk : Hid (∀ w' : World, (w'.heap = V.heap ∨ w'.heap = (V.setCell ⟨rb, r, none⟩ (.int .i64 tv)).heap) → w'.cell? ⟨Z, 1, none⟩ = some (.slice (some ⟨rb, 0, none⟩) m rq) ∧ w'.cell? ⟨w.heap.size, 1, none⟩ = some (.int .i64 (r : Int)) ∧ w'.cell? ⟨pb, I, none⟩ = some (.int .i64 tv)) := Lib.hid (fun w' h => by
    rcases h with h | h
    · exact ⟨(cell_heap h).trans z1, (cell_heap h).trans a1, (cell_heap h).trans t1⟩
    · exact ⟨cell_set_far h hzr z1, cell_set_far h hwr a1, cell_set_far h hpr t1⟩)
  clear hx hs hxm hpb hlm hI ht
  go_upto_region 4 with fail
  go_region_held3 (fun w' => w'.cell? ⟨Z, 1, none⟩ = some (.slice (some ⟨rb, 0, none⟩) m rq) ∧ w'.cell? ⟨w.heap.size, 1, none⟩ = some (.int .i64 (r : Int)) ∧ w'.cell? ⟨pb, I, none⟩ = some (.int .i64 tv)) (exact hk.out _ (by first | exact Or.inl rfl | exact Or.inr rfl)) ((fail))
  go_wp2_with fail
  go_ret2
  exact ⟨_, _, _, _, _, _, rfl, Blk.heap (HZ2.out.far hzr _) rfl, GO.gat (HO2.out.rootset hr htb.out rfl), by first | exact (HB2.out.drew.setCell (p := ⟨rb, r, none⟩) (by show S ≤ rb; omega) _) | exact (HB2.out.setCell (p := ⟨rb, r, none⟩) (by show S ≤ rb; omega) _).drew | exact HB2.out.setCell (p := ⟨rb, r, none⟩) (by show S ≤ rb; omega) _⟩
set_option maxRecDepth 100000 in
set_option maxHeartbeats 1000000 in
theorem gpStore_ok {S Z : Nat} {w : World} {na ra : Option Addr} {n cq m rq : Nat} {nodes : List NdV} {roots : List Int} (hz : Blk w Z [.slice na n cq, .slice ra m rq] 61) (hO : GO S w na n cq ra m rq nodes roots) (hS : S ≤ w.heap.size) (hn : n ≤ 1000000) (hm : m ≤ 1000000) (kd sz pt v : Int) (r : Nat) (s I : Nat) (k : Nat) (x : NdV) (hs : roots[s]? = some (k : Int)) (hx : nodes[k]? = some x) (hlm : x.ptrs.length ≤ 1000000) (hI : I < x.ptrs.length) (tv : Int) (ht : roots[r]? = some tv): Calls Try.prog 40 #[.pointer (some ⟨Z, 0, none⟩), .agg #[.int .i64 kd, .int .i64 (r : Int), .int .i64 (s : Int), .int .i64 (I : Int), .int .i64 sz, .int .i64 pt, .int .u64 v]] w (DeedOk S Z w 0 ⟨(nodes.map NdV.nd).set k ⟨x.ptrs.set I tv, x.data⟩, roots⟩) := by
  have HB := Lib.hid (ba0 w (.cells #[.int .i64 kd, .int .i64 (r : Int), .int .i64 (s : Int), .int .i64 (I : Int), .int .i64 sz, .int .i64 pt, .int .u64 v] 31))
  have HB1 := Lib.hid (HB.out.mono hS)
  have HC := Lib.hid (Blk.new w [.int .i64 kd, .int .i64 (r : Int), .int .i64 (s : Int), .int .i64 (I : Int), .int .i64 sz, .int .i64 pt, .int .u64 v] 31)
  have HZ := Lib.hid (hz.below HB.out)
  have HO := Lib.hid (hO.later HB.out)
  have hr : r < m := by have := (List.getElem?_eq_some_iff.1 ht).1; have := hO.rl; omega
  obtain ⟨rb, rfl, hrb⟩ := root_at hO (by omega)
  have hr1 : (r : Int) < (m : Int) := by omega
  have hxm := List.mem_of_getElem? hx
  obtain ⟨pb, hpb, hSp⟩ := ptr_at (hO.xo x hxm) (by omega)
  have hzp : Z ≠ pb := hO.zx hxm hz (by decide) (by decide) (Or.inl hpb)
  have hwp : w.heap.size ≠ pb := by
    have h1 := (hO.xo x hxm).lt
    have h2 : pb < w.heap.size := h1.1 pb (by unfold ptrV; rw [hpb]; rfl)
    omega
  clear hz hO
  go_enter Try.func40, Try.ntmps40
  go_upto_region 1 with fail
  generalize w.alloc (.cells #[.int .i64 kd, .int .i64 (r : Int), .int .i64 (s : Int), .int .i64 (I : Int), .int .i64 sz, .int .i64 pt, .int .u64 v] 31) = V0 at HB HB1 HC HZ HO ⊢
  obtain ⟨l0, l1, l2, l3, l4, l5, l6⟩ : V0.cell? ⟨w.heap.size, 0, none⟩ = some (.int .i64 kd) ∧ V0.cell? ⟨w.heap.size, 1, none⟩ = some (.int .i64 (r : Int)) ∧ V0.cell? ⟨w.heap.size, 2, none⟩ = some (.int .i64 (s : Int)) ∧ V0.cell? ⟨w.heap.size, 3, none⟩ = some (.int .i64 (I : Int)) ∧ V0.cell? ⟨w.heap.size, 4, none⟩ = some (.int .i64 sz) ∧ V0.cell? ⟨w.heap.size, 5, none⟩ = some (.int .i64 pt) ∧ V0.cell? ⟨w.heap.size, 6, none⟩ = some (.int .u64 v) := ⟨HC.out.cell rfl, HC.out.cell rfl, HC.out.cell rfl, HC.out.cell rfl, HC.out.cell rfl, HC.out.cell rfl, HC.out.cell rfl⟩
  go_wp2_with fail
  refine (gpSlotI_ok HZ.out HO.out hn hm kd (r : Int) (I : Int) sz pt v s k x hs hx hlm I pb hI hpb).mono ?_
  rintro e V ⟨rfl, hb2⟩
  have HB2 := Lib.hid (HB1.out.trans (hb2.mono (Nat.le_trans hS HB.out.size)))
  have HC2 := Lib.hid (HC.out.below hb2)
  have HZ2 := Lib.hid (HZ.out.below hb2)
  have HO2 := Lib.hid (HO.out.later hb2)
  clear hb2 l0 l1 l2 l3 l4 l5 l6 HB HB1 HC HZ HO
  have htb : ib tv := HO2.out.rb tv (List.mem_of_getElem? ht)
  have HSET := Lib.hid (fun w' h => HO2.out.ptrset (w' := w') hx hpb hI htb h)
  have hrp : rb ≠ pb := HO2.out.rx hxm hpb
  obtain ⟨t1, t4⟩ := ptr_cell (HO2.out.xo x hxm) hpb (I := I) (List.getElem?_eq_getElem hI)
  obtain ⟨t2, _⟩ := root_cell HO2.out ht
  have z1 : V.cell? ⟨Z, 1, none⟩ = some (.slice (some ⟨rb, 0, none⟩) m rq) := HZ2.out.cell rfl
  have a1 : V.cell? ⟨w.heap.size, 1, none⟩ = some (.int .i64 (r : Int)) := HC2.out.cell rfl
  have hk : Hid (∀ w' : World, (w'.heap = V.heap ∨ w'.heap = (V.setCell ⟨pb, I, none⟩ (.int .i64 tv)).heap) → w'.cell? ⟨Z, 1, none⟩ = some (.slice (some ⟨rb, 0, none⟩) m rq) ∧ w'.cell? ⟨w.heap.size, 1, none⟩ = some (.int .i64 (r : Int)) ∧ w'.cell? ⟨rb, r, none⟩ = some (.int .i64 tv)) := Lib.hid (fun w' h => by
    rcases h with h | h
    · exact ⟨(cell_heap h).trans z1, (cell_heap h).trans a1, (cell_heap h).trans t2⟩
    · exact ⟨cell_set_far h hzp z1, cell_set_far h hwp a1, cell_set_far h hrp t2⟩)
  clear hx hs hxm hpb hlm ht htb
  go_upto_region 4 with fail
  go_region_held3 (fun w' => w'.cell? ⟨Z, 1, none⟩ = some (.slice (some ⟨rb, 0, none⟩) m rq) ∧ w'.cell? ⟨w.heap.size, 1, none⟩ = some (.int .i64 (r : Int)) ∧ w'.cell? ⟨rb, r, none⟩ = some (.int .i64 tv)) (exact hk.out _ (by first | exact Or.inl rfl | exact Or.inr rfl)) ((fail))
  go_wp2_with fail
  go_ret2
  exact ⟨_, _, _, _, _, _, rfl, Blk.heap (HZ2.out.far hzp _) rfl, HSET.out _ rfl, by first | exact (HB2.out.drew.setCell (p := ⟨pb, I, none⟩) (by show S ≤ pb; omega) _) | exact (HB2.out.setCell (p := ⟨pb, I, none⟩) (by show S ≤ pb; omega) _).drew | exact HB2.out.setCell (p := ⟨pb, I, none⟩) (by show S ≤ pb; omega) _⟩
end Go.Proofs.Ytjoacfjbdpmgpaa.V
