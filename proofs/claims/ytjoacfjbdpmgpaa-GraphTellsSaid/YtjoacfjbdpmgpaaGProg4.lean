/-
  The program's slot: where slot I of a root's node lies; walked, at pointers and at scalars.
-/
import Derived.Test.YtjoacfjbdpmgpaaGProg3
import Derived.BigQuiet
set_option linter.unusedVariables false
namespace Go.Proofs.Ytjoacfjbdpmgpaa.V
open Go.RowKit

/-- A graph at work, in block Z. -/
def WkAt (S Z : Nat) (w : World) (na : Option Addr) (n nq : Nat) (ra : Option Addr) (m rq : Nat) (nodes : List NdV) (roots : List Int) : Prop :=
  Blk w Z [.slice na n nq, .slice ra m rq] 61 ∧ GO S w na n nq ra m rq nodes roots
theorem gpPtrs (pa da : Option Addr) (pl pq dl dq : Nat) (w : World) : Calls Try.prog 51 #[.agg #[.slice pa pl pq, .slice da dl dq]] w fun e w' => e = .returned (.slice pa pl pq) ∧ Below w.heap.size w w' := by
  have HW := Lib.hid (ba0 w (.cells #[.slice pa pl pq, .slice da dl dq] 36))
  go_enter Try.func51, Try.ntmps51
  go_wp2_with fail
  go_ret
  exact ⟨rfl, HW.out⟩
theorem gpData (pa da : Option Addr) (pl pq dl dq : Nat) (w : World) : Calls Try.prog 53 #[.agg #[.slice pa pl pq, .slice da dl dq]] w fun e w' => e = .returned (.slice da dl dq) ∧ Below w.heap.size w w' := by
  have HW := Lib.hid (ba0 w (.cells #[.slice pa pl pq, .slice da dl dq] 36))
  go_enter Try.func53, Try.ntmps53
  go_wp2_with fail
  go_ret
  exact ⟨rfl, HW.out⟩
set_option maxRecDepth 100000 in
set_option maxHeartbeats 1000000 in
theorem gpSlotI_none {S Z : Nat} {w : World} {na ra : Option Addr} {n cq m rq : Nat} {nodes : List NdV} {roots : List Int} (hz : Blk w Z [.slice na n cq, .slice ra m rq] 61) (hO : GO S w na n cq ra m rq nodes roots) (hn : n ≤ 1000000) (hm : m ≤ 1000000) (kd r i sz pt v : Int) (s : Nat) (hs : roots[s]? = some (-1)) :
    Calls Try.prog 50 #[.pointer (some ⟨Z, 0, none⟩), .agg #[.int .i64 kd, .int .i64 r, .int .i64 (s : Int), .int .i64 i, .int .i64 sz, .int .i64 pt, .int .u64 v], .func (.func 51) #[] #[]] w fun e w' => e = .returned (.tuple #[.pointer none, .int .i64 6]) ∧ Below w.heap.size w w' := by
  have hsm : s < m := by have := (List.getElem?_eq_some_iff.1 hs).1; have := hO.rl; omega
  have hs1 : (s : Int) < (m : Int) := by omega
  obtain ⟨hro, _, _, _⟩ := own_caps ic_len hO.ro
  obtain ⟨b1, o1, rfl, hb1, hc1⟩ := in_cells hro hs
  have HB := Lib.hid (ba0 w (.cells #[.int .i64 kd, .int .i64 r, .int .i64 (s : Int), .int .i64 i, .int .i64 sz, .int .i64 pt, .int .u64 v] 31))
  have HC := Lib.hid (Blk.new w [.int .i64 kd, .int .i64 r, .int .i64 (s : Int), .int .i64 i, .int .i64 sz, .int .i64 pt, .int .u64 v] 31)
  have HZ := Lib.hid (hz.below HB.out)
  have c1 := cellS HB.out hb1 hc1
  clear hz hO hro hb1 hc1 hs
  go_enter Try.func50, Try.ntmps50
  go_upto_region 1 with fail
  generalize w.alloc (.cells #[.int .i64 kd, .int .i64 r, .int .i64 (s : Int), .int .i64 i, .int .i64 sz, .int .i64 pt, .int .u64 v] 31) = V at HB HC HZ c1  ⊢
  have z1 : V.cell? ⟨Z, 1, none⟩ = some (.slice (some ⟨b1, o1, none⟩) m rq) := HZ.out.cell rfl
  have a2 : V.cell? ⟨w.heap.size, 2, none⟩ = some (.int .i64 (s : Int)) := HC.out.cell rfl
  go_quiet ((fail))
  have hd9 : Below V.heap.size V (V.drewN nq) := Below.drewN (Below.refl _ V) nq
  have HB1 := Lib.hid (bt HB.out hd9)
  have HC1 := Lib.hid (HC.out.below hd9)
  have HZ1 := Lib.hid (HZ.out.below hd9)
  clear z1 a2 c1 HB HC HZ hd9
  dsimp only [Exit.then]
  generalize V.drewN nq = V1 at HB1 HC1 HZ1 ⊢
  go_wp2_with fail
  go_ret2
  exact ⟨rfl, HB1.out⟩
set_option maxRecDepth 100000 in
set_option maxHeartbeats 1000000 in
theorem gpSlotI_bad {S Z : Nat} {w : World} {na ra : Option Addr} {n cq m rq : Nat} {nodes : List NdV} {roots : List Int} (hz : Blk w Z [.slice na n cq, .slice ra m rq] 61) (hO : GO S w na n cq ra m rq nodes roots) (hn : n ≤ 1000000) (hm : m ≤ 1000000) (kd r i sz pt v : Int) (s : Nat) (k : Nat) (x : NdV) (hs : roots[s]? = some (k : Int)) (hx : nodes[k]? = some x) (hlm : x.ptrs.length ≤ 1000000) (hi : ¬ (0 ≤ i ∧ i < x.ptrs.length)) :
    Calls Try.prog 50 #[.pointer (some ⟨Z, 0, none⟩), .agg #[.int .i64 kd, .int .i64 r, .int .i64 (s : Int), .int .i64 i, .int .i64 sz, .int .i64 pt, .int .u64 v], .func (.func 51) #[] #[]] w fun e w' => e = .returned (.tuple #[.pointer none, .int .i64 1]) ∧ Below w.heap.size w w' := by
  have hsm : s < m := by have := (List.getElem?_eq_some_iff.1 hs).1; have := hO.rl; omega
  have hs1 : (s : Int) < (m : Int) := by omega
  obtain ⟨hro, _, _, _⟩ := own_caps ic_len hO.ro
  obtain ⟨b1, o1, rfl, hb1, hc1⟩ := in_cells hro hs
  have hkn : k < n := by have := (List.getElem?_eq_some_iff.1 hx).1; have := hO.nl; omega
  have hkn1 : (k : Int) < (n : Int) := by omega
  have dk0 : ((k : Int) == -1) = false := by simp
  obtain ⟨hno, _, _, _⟩ := own_caps nc_len hO.no
  obtain ⟨b2, o2, rfl, hb2, x0, x1⟩ := nd_cells hno hx
  have HB := Lib.hid (ba0 w (.cells #[.int .i64 kd, .int .i64 r, .int .i64 (s : Int), .int .i64 i, .int .i64 sz, .int .i64 pt, .int .u64 v] 31))
  have HC := Lib.hid (Blk.new w [.int .i64 kd, .int .i64 r, .int .i64 (s : Int), .int .i64 i, .int .i64 sz, .int .i64 pt, .int .u64 v] 31)
  have HZ := Lib.hid (hz.below HB.out)
  have c1 := cellS HB.out hb1 hc1
  have y0 := cellS HB.out hb2 x0
  have y1 := cellS HB.out hb2 x1
  have HX := Lib.hid (hO.xo x (List.mem_of_getElem? hx))
  clear hb2 x0 x1 hno hx
  obtain ⟨pa, pq, ptrs, da, dq, data⟩ := x
  dsimp only at y0 y1 hi hlm
  obtain ⟨pl, hpl⟩ : ∃ pl, ptrs.length = pl := ⟨_, rfl⟩
  obtain ⟨dl, hdl⟩ : ∃ dl, data.length = dl := ⟨_, rfl⟩
  rw [hpl] at y0 hi hlm
  rw [hdl] at y1
  clear hpl hdl HX
  clear hz hO hro hb1 hc1 hs
  go_enter Try.func50, Try.ntmps50
  go_upto_region 1 with fail
  generalize w.alloc (.cells #[.int .i64 kd, .int .i64 r, .int .i64 (s : Int), .int .i64 i, .int .i64 sz, .int .i64 pt, .int .u64 v] 31) = V at HB HC HZ c1 y0 y1 ⊢
  have z1 : V.cell? ⟨Z, 1, none⟩ = some (.slice (some ⟨b1, o1, none⟩) m rq) := HZ.out.cell rfl
  have a2 : V.cell? ⟨w.heap.size, 2, none⟩ = some (.int .i64 (s : Int)) := HC.out.cell rfl
  go_quiet ((fail))
  have hd9 : Below V.heap.size V (V.drewN nq) := Below.drewN (Below.refl _ V) nq
  have HB1 := Lib.hid (bt HB.out hd9)
  have HC1 := Lib.hid (HC.out.below hd9)
  have HZ1 := Lib.hid (HZ.out.below hd9)
  have u0 : (V.drewN nq).cell? ⟨b2, o2 + k * 2, none⟩ = some (.slice pa pl pq) := y0
  have u1 : (V.drewN nq).cell? ⟨b2, o2 + k * 2 + 1, none⟩ = some (.slice da dl dq) := y1
  clear z1 a2 c1 HB HC HZ hd9 y0 y1
  dsimp only [Exit.then]
  generalize V.drewN nq = V1 at HB1 HC1 HZ1 u0 u1 ⊢
  have z0 : V1.cell? ⟨Z, 0, none⟩ = some (.slice (some ⟨b2, o2, none⟩) n cq) := HZ1.out.cell rfl
  go_wp2_with fail
  refine (gpPtrs pa da pl pq dl dq _).mono ?_
  rintro e V2 ⟨rfl, hb2⟩
  have HB2 := Lib.hid (bt HB1.out hb2)
  have HC2 := Lib.hid (HC1.out.below hb2)
  clear hb2 z0 u0 u1 HB1 HC1 HZ1
  have a3 : V2.cell? ⟨w.heap.size, 3, none⟩ = some (.int .i64 i) := HC2.out.cell rfl
  go_wp2_with fail
  refine (gpWithinI i pa pl pq false _ hlm (by simp; omega)).mono ?_
  rintro e V3 ⟨rfl, rfl⟩
  go_wp2_with fail
  go_ret2
  exact ⟨rfl, HB2.out⟩
set_option maxRecDepth 100000 in
set_option maxHeartbeats 1000000 in
theorem gpSlotI_ok {S Z : Nat} {w : World} {na ra : Option Addr} {n cq m rq : Nat} {nodes : List NdV} {roots : List Int} (hz : Blk w Z [.slice na n cq, .slice ra m rq] 61) (hO : GO S w na n cq ra m rq nodes roots) (hn : n ≤ 1000000) (hm : m ≤ 1000000) (kd r i sz pt v : Int) (s : Nat) (k : Nat) (x : NdV) (hs : roots[s]? = some (k : Int)) (hx : nodes[k]? = some x) (hlm : x.ptrs.length ≤ 1000000) (I pb : Nat) (hi : I < x.ptrs.length) (hpb : x.pa = some ⟨pb, 0, none⟩) :
    Calls Try.prog 50 #[.pointer (some ⟨Z, 0, none⟩), .agg #[.int .i64 kd, .int .i64 r, .int .i64 (s : Int), .int .i64 (I : Int), .int .i64 sz, .int .i64 pt, .int .u64 v], .func (.func 51) #[] #[]] w fun e w' => e = .returned (.tuple #[.pointer (some ⟨pb, I, none⟩), .int .i64 0]) ∧ Below w.heap.size w w' := by
  have hsm : s < m := by have := (List.getElem?_eq_some_iff.1 hs).1; have := hO.rl; omega
  have hs1 : (s : Int) < (m : Int) := by omega
  obtain ⟨hro, _, _, _⟩ := own_caps ic_len hO.ro
  obtain ⟨b1, o1, rfl, hb1, hc1⟩ := in_cells hro hs
  have hkn : k < n := by have := (List.getElem?_eq_some_iff.1 hx).1; have := hO.nl; omega
  have hkn1 : (k : Int) < (n : Int) := by omega
  have dk0 : ((k : Int) == -1) = false := by simp
  obtain ⟨hno, _, _, _⟩ := own_caps nc_len hO.no
  obtain ⟨b2, o2, rfl, hb2, x0, x1⟩ := nd_cells hno hx
  have HB := Lib.hid (ba0 w (.cells #[.int .i64 kd, .int .i64 r, .int .i64 (s : Int), .int .i64 (I : Int), .int .i64 sz, .int .i64 pt, .int .u64 v] 31))
  have HC := Lib.hid (Blk.new w [.int .i64 kd, .int .i64 r, .int .i64 (s : Int), .int .i64 (I : Int), .int .i64 sz, .int .i64 pt, .int .u64 v] 31)
  have HZ := Lib.hid (hz.below HB.out)
  have c1 := cellS HB.out hb1 hc1
  have y0 := cellS HB.out hb2 x0
  have y1 := cellS HB.out hb2 x1
  have HX := Lib.hid (hO.xo x (List.mem_of_getElem? hx))
  clear hb2 x0 x1 hno hx
  obtain ⟨pa, pq, ptrs, da, dq, data⟩ := x
  dsimp only at y0 y1 hi hlm hpb
  obtain ⟨pl, hpl⟩ : ∃ pl, ptrs.length = pl := ⟨_, rfl⟩
  obtain ⟨dl, hdl⟩ : ∃ dl, data.length = dl := ⟨_, rfl⟩
  rw [hpl] at y0 hi hlm
  rw [hdl] at y1
  clear hpl hdl HX
  subst hpb
  have hi1 : (I : Int) < (pl : Int) := by omega
  clear hz hO hro hb1 hc1 hs
  go_enter Try.func50, Try.ntmps50
  go_upto_region 1 with fail
  generalize w.alloc (.cells #[.int .i64 kd, .int .i64 r, .int .i64 (s : Int), .int .i64 (I : Int), .int .i64 sz, .int .i64 pt, .int .u64 v] 31) = V at HB HC HZ c1 y0 y1 ⊢
  have z1 : V.cell? ⟨Z, 1, none⟩ = some (.slice (some ⟨b1, o1, none⟩) m rq) := HZ.out.cell rfl
  have a2 : V.cell? ⟨w.heap.size, 2, none⟩ = some (.int .i64 (s : Int)) := HC.out.cell rfl
  go_quiet ((fail))
  have hd9 : Below V.heap.size V (V.drewN nq) := Below.drewN (Below.refl _ V) nq
  have HB1 := Lib.hid (bt HB.out hd9)
  have HC1 := Lib.hid (HC.out.below hd9)
  have HZ1 := Lib.hid (HZ.out.below hd9)
  have u0 : (V.drewN nq).cell? ⟨b2, o2 + k * 2, none⟩ = some (.slice (some ⟨pb, 0, none⟩) pl pq) := y0
  have u1 : (V.drewN nq).cell? ⟨b2, o2 + k * 2 + 1, none⟩ = some (.slice da dl dq) := y1
  clear z1 a2 c1 HB HC HZ hd9 y0 y1
  dsimp only [Exit.then]
  generalize V.drewN nq = V1 at HB1 HC1 HZ1 u0 u1 ⊢
  have z0 : V1.cell? ⟨Z, 0, none⟩ = some (.slice (some ⟨b2, o2, none⟩) n cq) := HZ1.out.cell rfl
  go_wp2_with fail
  refine (gpPtrs (some ⟨pb, 0, none⟩) da pl pq dl dq _).mono ?_
  rintro e V2 ⟨rfl, hb2⟩
  have HB2 := Lib.hid (bt HB1.out hb2)
  have HC2 := Lib.hid (HC1.out.below hb2)
  clear hb2 z0 u0 u1 HB1 HC1 HZ1
  have a3 : V2.cell? ⟨w.heap.size, 3, none⟩ = some (.int .i64 (I : Int)) := HC2.out.cell rfl
  go_wp2_with fail
  refine (gpWithinI (I : Int) (some ⟨pb, 0, none⟩) pl pq true _ hlm (by simp; omega)).mono ?_
  rintro e V3 ⟨rfl, rfl⟩
  go_wp2_with fail
  go_ret2
  exact ⟨rfl, HB2.out⟩
set_option maxRecDepth 100000 in
set_option maxHeartbeats 1000000 in
theorem gpSlotU_none {S Z : Nat} {w : World} {na ra : Option Addr} {n cq m rq : Nat} {nodes : List NdV} {roots : List Int} (hz : Blk w Z [.slice na n cq, .slice ra m rq] 61) (hO : GO S w na n cq ra m rq nodes roots) (hn : n ≤ 1000000) (hm : m ≤ 1000000) (kd r i sz pt v : Int) (s : Nat) (hs : roots[s]? = some (-1)) :
    Calls Try.prog 52 #[.pointer (some ⟨Z, 0, none⟩), .agg #[.int .i64 kd, .int .i64 r, .int .i64 (s : Int), .int .i64 i, .int .i64 sz, .int .i64 pt, .int .u64 v], .func (.func 53) #[] #[]] w fun e w' => e = .returned (.tuple #[.pointer none, .int .i64 6]) ∧ Below w.heap.size w w' := by
  have hsm : s < m := by have := (List.getElem?_eq_some_iff.1 hs).1; have := hO.rl; omega
  have hs1 : (s : Int) < (m : Int) := by omega
  obtain ⟨hro, _, _, _⟩ := own_caps ic_len hO.ro
  obtain ⟨b1, o1, rfl, hb1, hc1⟩ := in_cells hro hs
  have HB := Lib.hid (ba0 w (.cells #[.int .i64 kd, .int .i64 r, .int .i64 (s : Int), .int .i64 i, .int .i64 sz, .int .i64 pt, .int .u64 v] 31))
  have HC := Lib.hid (Blk.new w [.int .i64 kd, .int .i64 r, .int .i64 (s : Int), .int .i64 i, .int .i64 sz, .int .i64 pt, .int .u64 v] 31)
  have HZ := Lib.hid (hz.below HB.out)
  have c1 := cellS HB.out hb1 hc1
  clear hz hO hro hb1 hc1 hs
  go_enter Try.func52, Try.ntmps52
  go_upto_region 1 with fail
  generalize w.alloc (.cells #[.int .i64 kd, .int .i64 r, .int .i64 (s : Int), .int .i64 i, .int .i64 sz, .int .i64 pt, .int .u64 v] 31) = V at HB HC HZ c1  ⊢
  have z1 : V.cell? ⟨Z, 1, none⟩ = some (.slice (some ⟨b1, o1, none⟩) m rq) := HZ.out.cell rfl
  have a2 : V.cell? ⟨w.heap.size, 2, none⟩ = some (.int .i64 (s : Int)) := HC.out.cell rfl
  go_quiet ((fail))
  have hd9 : Below V.heap.size V (V.drewN nq) := Below.drewN (Below.refl _ V) nq
  have HB1 := Lib.hid (bt HB.out hd9)
  have HC1 := Lib.hid (HC.out.below hd9)
  have HZ1 := Lib.hid (HZ.out.below hd9)
  clear z1 a2 c1 HB HC HZ hd9
  dsimp only [Exit.then]
  generalize V.drewN nq = V1 at HB1 HC1 HZ1 ⊢
  go_wp2_with fail
  go_ret2
  exact ⟨rfl, HB1.out⟩
set_option maxRecDepth 100000 in
set_option maxHeartbeats 1000000 in
theorem gpSlotU_bad {S Z : Nat} {w : World} {na ra : Option Addr} {n cq m rq : Nat} {nodes : List NdV} {roots : List Int} (hz : Blk w Z [.slice na n cq, .slice ra m rq] 61) (hO : GO S w na n cq ra m rq nodes roots) (hn : n ≤ 1000000) (hm : m ≤ 1000000) (kd r i sz pt v : Int) (s : Nat) (k : Nat) (x : NdV) (hs : roots[s]? = some (k : Int)) (hx : nodes[k]? = some x) (hlm : x.data.length ≤ 1000000) (hi : ¬ (0 ≤ i ∧ i < x.data.length)) :
    Calls Try.prog 52 #[.pointer (some ⟨Z, 0, none⟩), .agg #[.int .i64 kd, .int .i64 r, .int .i64 (s : Int), .int .i64 i, .int .i64 sz, .int .i64 pt, .int .u64 v], .func (.func 53) #[] #[]] w fun e w' => e = .returned (.tuple #[.pointer none, .int .i64 1]) ∧ Below w.heap.size w w' := by
  have hsm : s < m := by have := (List.getElem?_eq_some_iff.1 hs).1; have := hO.rl; omega
  have hs1 : (s : Int) < (m : Int) := by omega
  obtain ⟨hro, _, _, _⟩ := own_caps ic_len hO.ro
  obtain ⟨b1, o1, rfl, hb1, hc1⟩ := in_cells hro hs
  have hkn : k < n := by have := (List.getElem?_eq_some_iff.1 hx).1; have := hO.nl; omega
  have hkn1 : (k : Int) < (n : Int) := by omega
  have dk0 : ((k : Int) == -1) = false := by simp
  obtain ⟨hno, _, _, _⟩ := own_caps nc_len hO.no
  obtain ⟨b2, o2, rfl, hb2, x0, x1⟩ := nd_cells hno hx
  have HB := Lib.hid (ba0 w (.cells #[.int .i64 kd, .int .i64 r, .int .i64 (s : Int), .int .i64 i, .int .i64 sz, .int .i64 pt, .int .u64 v] 31))
  have HC := Lib.hid (Blk.new w [.int .i64 kd, .int .i64 r, .int .i64 (s : Int), .int .i64 i, .int .i64 sz, .int .i64 pt, .int .u64 v] 31)
  have HZ := Lib.hid (hz.below HB.out)
  have c1 := cellS HB.out hb1 hc1
  have y0 := cellS HB.out hb2 x0
  have y1 := cellS HB.out hb2 x1
  have HX := Lib.hid (hO.xo x (List.mem_of_getElem? hx))
  clear hb2 x0 x1 hno hx
  obtain ⟨pa, pq, ptrs, da, dq, data⟩ := x
  dsimp only at y0 y1 hi hlm
  obtain ⟨pl, hpl⟩ : ∃ pl, ptrs.length = pl := ⟨_, rfl⟩
  obtain ⟨dl, hdl⟩ : ∃ dl, data.length = dl := ⟨_, rfl⟩
  rw [hpl] at y0
  rw [hdl] at y1 hi hlm
  clear hpl hdl HX
  clear hz hO hro hb1 hc1 hs
  go_enter Try.func52, Try.ntmps52
  go_upto_region 1 with fail
  generalize w.alloc (.cells #[.int .i64 kd, .int .i64 r, .int .i64 (s : Int), .int .i64 i, .int .i64 sz, .int .i64 pt, .int .u64 v] 31) = V at HB HC HZ c1 y0 y1 ⊢
  have z1 : V.cell? ⟨Z, 1, none⟩ = some (.slice (some ⟨b1, o1, none⟩) m rq) := HZ.out.cell rfl
  have a2 : V.cell? ⟨w.heap.size, 2, none⟩ = some (.int .i64 (s : Int)) := HC.out.cell rfl
  go_quiet ((fail))
  have hd9 : Below V.heap.size V (V.drewN nq) := Below.drewN (Below.refl _ V) nq
  have HB1 := Lib.hid (bt HB.out hd9)
  have HC1 := Lib.hid (HC.out.below hd9)
  have HZ1 := Lib.hid (HZ.out.below hd9)
  have u0 : (V.drewN nq).cell? ⟨b2, o2 + k * 2, none⟩ = some (.slice pa pl pq) := y0
  have u1 : (V.drewN nq).cell? ⟨b2, o2 + k * 2 + 1, none⟩ = some (.slice da dl dq) := y1
  clear z1 a2 c1 HB HC HZ hd9 y0 y1
  dsimp only [Exit.then]
  generalize V.drewN nq = V1 at HB1 HC1 HZ1 u0 u1 ⊢
  have z0 : V1.cell? ⟨Z, 0, none⟩ = some (.slice (some ⟨b2, o2, none⟩) n cq) := HZ1.out.cell rfl
  go_wp2_with fail
  refine (gpData pa da pl pq dl dq _).mono ?_
  rintro e V2 ⟨rfl, hb2⟩
  have HB2 := Lib.hid (bt HB1.out hb2)
  have HC2 := Lib.hid (HC1.out.below hb2)
  clear hb2 z0 u0 u1 HB1 HC1 HZ1
  have a3 : V2.cell? ⟨w.heap.size, 3, none⟩ = some (.int .i64 i) := HC2.out.cell rfl
  go_wp2_with fail
  refine (gpWithinU i da dl dq false _ hlm (by simp; omega)).mono ?_
  rintro e V3 ⟨rfl, rfl⟩
  go_wp2_with fail
  go_ret2
  exact ⟨rfl, HB2.out⟩
set_option maxRecDepth 100000 in
set_option maxHeartbeats 1000000 in
theorem gpSlotU_ok {S Z : Nat} {w : World} {na ra : Option Addr} {n cq m rq : Nat} {nodes : List NdV} {roots : List Int} (hz : Blk w Z [.slice na n cq, .slice ra m rq] 61) (hO : GO S w na n cq ra m rq nodes roots) (hn : n ≤ 1000000) (hm : m ≤ 1000000) (kd r i sz pt v : Int) (s : Nat) (k : Nat) (x : NdV) (hs : roots[s]? = some (k : Int)) (hx : nodes[k]? = some x) (hlm : x.data.length ≤ 1000000) (I pb : Nat) (hi : I < x.data.length) (hpb : x.da = some ⟨pb, 0, none⟩) :
    Calls Try.prog 52 #[.pointer (some ⟨Z, 0, none⟩), .agg #[.int .i64 kd, .int .i64 r, .int .i64 (s : Int), .int .i64 (I : Int), .int .i64 sz, .int .i64 pt, .int .u64 v], .func (.func 53) #[] #[]] w fun e w' => e = .returned (.tuple #[.pointer (some ⟨pb, I, none⟩), .int .i64 0]) ∧ Below w.heap.size w w' := by
  have hsm : s < m := by have := (List.getElem?_eq_some_iff.1 hs).1; have := hO.rl; omega
  have hs1 : (s : Int) < (m : Int) := by omega
  obtain ⟨hro, _, _, _⟩ := own_caps ic_len hO.ro
  obtain ⟨b1, o1, rfl, hb1, hc1⟩ := in_cells hro hs
  have hkn : k < n := by have := (List.getElem?_eq_some_iff.1 hx).1; have := hO.nl; omega
  have hkn1 : (k : Int) < (n : Int) := by omega
  have dk0 : ((k : Int) == -1) = false := by simp
  obtain ⟨hno, _, _, _⟩ := own_caps nc_len hO.no
  obtain ⟨b2, o2, rfl, hb2, x0, x1⟩ := nd_cells hno hx
  have HB := Lib.hid (ba0 w (.cells #[.int .i64 kd, .int .i64 r, .int .i64 (s : Int), .int .i64 (I : Int), .int .i64 sz, .int .i64 pt, .int .u64 v] 31))
  have HC := Lib.hid (Blk.new w [.int .i64 kd, .int .i64 r, .int .i64 (s : Int), .int .i64 (I : Int), .int .i64 sz, .int .i64 pt, .int .u64 v] 31)
  have HZ := Lib.hid (hz.below HB.out)
  have c1 := cellS HB.out hb1 hc1
  have y0 := cellS HB.out hb2 x0
  have y1 := cellS HB.out hb2 x1
  have HX := Lib.hid (hO.xo x (List.mem_of_getElem? hx))
  clear hb2 x0 x1 hno hx
  obtain ⟨pa, pq, ptrs, da, dq, data⟩ := x
  dsimp only at y0 y1 hi hlm hpb
  obtain ⟨pl, hpl⟩ : ∃ pl, ptrs.length = pl := ⟨_, rfl⟩
  obtain ⟨dl, hdl⟩ : ∃ dl, data.length = dl := ⟨_, rfl⟩
  rw [hpl] at y0
  rw [hdl] at y1 hi hlm
  clear hpl hdl HX
  subst hpb
  have hi1 : (I : Int) < (dl : Int) := by omega
  clear hz hO hro hb1 hc1 hs
  go_enter Try.func52, Try.ntmps52
  go_upto_region 1 with fail
  generalize w.alloc (.cells #[.int .i64 kd, .int .i64 r, .int .i64 (s : Int), .int .i64 (I : Int), .int .i64 sz, .int .i64 pt, .int .u64 v] 31) = V at HB HC HZ c1 y0 y1 ⊢
  have z1 : V.cell? ⟨Z, 1, none⟩ = some (.slice (some ⟨b1, o1, none⟩) m rq) := HZ.out.cell rfl
  have a2 : V.cell? ⟨w.heap.size, 2, none⟩ = some (.int .i64 (s : Int)) := HC.out.cell rfl
  go_quiet ((fail))
  have hd9 : Below V.heap.size V (V.drewN nq) := Below.drewN (Below.refl _ V) nq
  have HB1 := Lib.hid (bt HB.out hd9)
  have HC1 := Lib.hid (HC.out.below hd9)
  have HZ1 := Lib.hid (HZ.out.below hd9)
  have u0 : (V.drewN nq).cell? ⟨b2, o2 + k * 2, none⟩ = some (.slice pa pl pq) := y0
  have u1 : (V.drewN nq).cell? ⟨b2, o2 + k * 2 + 1, none⟩ = some (.slice (some ⟨pb, 0, none⟩) dl dq) := y1
  clear z1 a2 c1 HB HC HZ hd9 y0 y1
  dsimp only [Exit.then]
  generalize V.drewN nq = V1 at HB1 HC1 HZ1 u0 u1 ⊢
  have z0 : V1.cell? ⟨Z, 0, none⟩ = some (.slice (some ⟨b2, o2, none⟩) n cq) := HZ1.out.cell rfl
  go_wp2_with fail
  refine (gpData pa (some ⟨pb, 0, none⟩) pl pq dl dq _).mono ?_
  rintro e V2 ⟨rfl, hb2⟩
  have HB2 := Lib.hid (bt HB1.out hb2)
  have HC2 := Lib.hid (HC1.out.below hb2)
  clear hb2 z0 u0 u1 HB1 HC1 HZ1
  have a3 : V2.cell? ⟨w.heap.size, 3, none⟩ = some (.int .i64 (I : Int)) := HC2.out.cell rfl
  go_wp2_with fail
  refine (gpWithinU (I : Int) (some ⟨pb, 0, none⟩) dl dq true _ hlm (by simp; omega)).mono ?_
  rintro e V3 ⟨rfl, rfl⟩
  go_wp2_with fail
  go_ret2
  exact ⟨rfl, HB2.out⟩
end Go.Proofs.Ytjoacfjbdpmgpaa.V
