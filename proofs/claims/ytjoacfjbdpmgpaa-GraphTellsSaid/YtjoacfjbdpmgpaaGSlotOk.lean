/-
  The document's own slot, where it tells no error: Get, Load, Store, Set; walked.
-/
import Derived.Test.YtjoacfjbdpmgpaaGBut
import Derived.Deep.RegionHeld3
set_option linter.unusedVariables false
namespace Go.Proofs.Ytjoacfjbdpmgpaa.V
open Go.RowKit

set_option maxRecDepth 100000 in
set_option maxHeartbeats 2000000 in
theorem gSlotGet {g : Gr} {na ra : Option Addr} {n nq m rq : Nat} {w : World} {P : Nat → Prop} (hA : GAt P w na n nq ra m rq g) (hg : gright g) (hn1 : n ≤ 1000000) (r : Int) (s : Nat) (i : Nat) (sz pt : Int) (v : Nat) (hs : s < m) (h0 : 0 ≤ gat g (s : Int)) (y : Nat) (hy : (gnode g (s : Int)).data[i]? = some y) :
    Calls Try.prog 29 #[.agg #[.slice na n nq, .slice ra m rq], .agg #[.int .i64 3, .int .i64 r, .int .i64 (s : Int), .int .i64 (i : Int), .int .i64 sz, .int .i64 pt, .int .u64 (v : Int)]] w (DoR P w y g 0) := by
  have HA := Lib.hid hA
  obtain ⟨p1, p2, p3, p4, p5, p6, p7, p8, p9, p10⟩ := hA.parts
  have hm16 : m ≤ 16 := by have := hg.1; omega
  obtain ⟨at', hat⟩ : ∃ a, g.roots[s]? = some a := ⟨_, List.getElem?_eq_getElem (by omega)⟩
  have hga : gat g (s : Int) = at' := by unfold gat; rw [Int.toNat_natCast, List.getD, hat]; rfl
  have HGA := Lib.hid hga
  obtain ⟨b1, o1, rfl, hb1, hc1⟩ := in_cells p3 hat
  have HH := Lib.hid hg
  clear hA hg p1 p2 p3 p8 p9 p10 hat hga
  have HB := Lib.hid (ba (ba (ba0 w (.cells #[.slice na n nq, .slice (some ⟨b1, o1, none⟩) m rq] 25)) (.cells #[.int .i64 3, .int .i64 r, .int .i64 (s : Int), .int .i64 (i : Int), .int .i64 sz, .int .i64 pt, .int .u64 (v : Int)] 31)) (.cells #[.slice none 0 0, .slice none 0 0] 25))
  have HG : Hid (Blk (((w.alloc (.cells #[.slice na n nq, .slice (some ⟨b1, o1, none⟩) m rq] 25)).alloc (.cells #[.int .i64 3, .int .i64 r, .int .i64 (s : Int), .int .i64 (i : Int), .int .i64 sz, .int .i64 pt, .int .u64 (v : Int)] 31)).alloc (.cells #[.slice none 0 0, .slice none 0 0] 25)) w.heap.size [.slice na n nq, .slice (some ⟨b1, o1, none⟩) m rq] 25) := Lib.hid (((Blk.new w [.slice na n nq, .slice (some ⟨b1, o1, none⟩) m rq] 25).below (ba0 _ _)).below (ba0 _ _))
  have HC : Hid (Blk (((w.alloc (.cells #[.slice na n nq, .slice (some ⟨b1, o1, none⟩) m rq] 25)).alloc (.cells #[.int .i64 3, .int .i64 r, .int .i64 (s : Int), .int .i64 (i : Int), .int .i64 sz, .int .i64 pt, .int .u64 (v : Int)] 31)).alloc (.cells #[.slice none 0 0, .slice none 0 0] 25)) (w.heap.size + 1) [.int .i64 3, .int .i64 r, .int .i64 (s : Int), .int .i64 (i : Int), .int .i64 sz, .int .i64 pt, .int .u64 (v : Int)] 31) := Lib.hid blk2
  have HZ : Hid (Blk (((w.alloc (.cells #[.slice na n nq, .slice (some ⟨b1, o1, none⟩) m rq] 25)).alloc (.cells #[.int .i64 3, .int .i64 r, .int .i64 (s : Int), .int .i64 (i : Int), .int .i64 sz, .int .i64 pt, .int .u64 (v : Int)] 31)).alloc (.cells #[.slice none 0 0, .slice none 0 0] 25)) (w.heap.size + 1 + 1) [.slice none 0 0, .slice none 0 0] 25) := Lib.hid blk3
  go_enter Try.func29, Try.ntmps29
  go_upto_region 1 with fail
  generalize ((w.alloc (.cells #[.slice na n nq, .slice (some ⟨b1, o1, none⟩) m rq] 25)).alloc (.cells #[.int .i64 3, .int .i64 r, .int .i64 (s : Int), .int .i64 (i : Int), .int .i64 sz, .int .i64 pt, .int .u64 (v : Int)] 31)).alloc (.cells #[.slice none 0 0, .slice none 0 0] 25) = V at HB HG HC HZ ⊢
  have hZl := HZ.out.lt
  have g0 : V.cell? ⟨w.heap.size, 0, none⟩ = some (.slice na n nq) := HG.out.cell rfl
  have g1 : V.cell? ⟨w.heap.size, 1, none⟩ = some (.slice (some ⟨b1, o1, none⟩) m rq) := HG.out.cell rfl
  have a0 : V.cell? ⟨w.heap.size + 1, 0, none⟩ = some (.int .i64 3) := HC.out.cell rfl
  have a2 : V.cell? ⟨w.heap.size + 1, 2, none⟩ = some (.int .i64 (s : Int)) := HC.out.cell rfl
  have a3 : V.cell? ⟨w.heap.size + 1, 3, none⟩ = some (.int .i64 i) := HC.out.cell rfl
  have cs1 : V.cell? ⟨b1, o1 + s, none⟩ = some (.int .i64 at') := cellS HB.out hb1 hc1
  have hs1 : (s : Int) < (m : Int) := by omega
  clear hc1
  obtain ⟨k, rfl⟩ : ∃ k : Nat, at' = (k : Int) := ⟨at'.toNat, by have := HGA.out; omega⟩
  have d0 : decide ((k : Int) < 0) = false := by simp
  obtain ⟨nodes, k1, k2, k3, k4, k5, k6, k7, k8, k9, k10, k11, k12, k13, k14, k15, k16⟩ := HA.out
  have hkn : k < n := by
    have h1 := (gat_in HH.out (r := (s : Int)) ⟨by omega, by rw [k3]; omega⟩).2
    rw [HGA.out, ← k1, List.length_map, k2] at h1
    omega
  obtain ⟨x, hx, hxm⟩ := getq k2 hkn
  obtain ⟨b2, o2, rfl, hb2, x0, x1⟩ := nd_cells k4 hx
  have y0 := cellS HB.out hb2 x0
  have y1 := cellS HB.out hb2 x1
  have hnode : gnode g (s : Int) = x.nd := by
    unfold gnode
    rw [HGA.out, Int.toNat_natCast, ← k1, List.getD, List.getElem?_map, hx]; rfl
  have HND := Lib.hid hnode
  have HXO := Lib.hid (k5 x hxm)
  have HXP := Lib.hid (k16 x hxm)
  have HSZ := Lib.hid (HH.out.2.2 x.nd (by rw [← k1]; exact List.mem_map.2 ⟨x, hxm, rfl⟩))
  clear hnode k1 k2 k3 k4 k5 k6 k7 k8 k9 k10 k11 k12 k13 k14 k15 k16 hx hxm x0 x1 hb2
  obtain ⟨X, hX⟩ : ∃ X, X = x := ⟨_, rfl⟩
  have HX := Lib.hid hX
  clear hX
  obtain ⟨pl, hpl⟩ : ∃ pl, x.ptrs.length = pl := ⟨_, rfl⟩
  obtain ⟨dl, hdl⟩ : ∃ dl, x.data.length = dl := ⟨_, rfl⟩
  obtain ⟨pa, hpa⟩ : ∃ pa, x.pa = pa := ⟨_, rfl⟩
  obtain ⟨da, hda⟩ : ∃ da, x.da = da := ⟨_, rfl⟩
  obtain ⟨pq, hpq⟩ : ∃ pq, x.pcap = pq := ⟨_, rfl⟩
  obtain ⟨dq, hdq⟩ : ∃ dq, x.dcap = dq := ⟨_, rfl⟩
  rw [hpl, hpa, hpq] at y0
  rw [hdl, hda, hdq] at y1
  have HPL := Lib.hid hpl
  have HDL := Lib.hid hdl
  have HPA := Lib.hid hpa
  have HDA := Lib.hid hda
  have HPQ := Lib.hid hpq
  have HDQ := Lib.hid hdq
  have hsz : pl + dl ≤ 255 := by have := HSZ.out.1; simp only [NdV.nd] at this; omega
  clear hpl hdl hpa hda hpq hdq
  have hkn1 : (k : Int) < (n : Int) := by omega
  have HN : Hid (Blk (V.alloc (.cells #[.slice pa pl pq, .slice da dl dq] 36)) V.heap.size [.slice pa pl pq, .slice da dl dq] 36) := Lib.hid (Blk.new V _ _)
  have HV := Lib.hid (ba0 V (.cells #[.slice pa pl pq, .slice da dl dq] 36))
  have HB2 := Lib.hid (ba HB.out (.cells #[.slice pa pl pq, .slice da dl dq] 36))
  go_upto_region 5 with fail
  generalize V.alloc (.cells #[.slice pa pl pq, .slice da dl dq] 36) = W at HN HV HB2 ⊢
  have HZ2 := Lib.hid (HZ.out.below HV.out)
  have HC2 := Lib.hid (HC.out.below HV.out)
  have HG2 := Lib.hid (HG.out.below HV.out)
  clear g0 g1 a0 a2 a3 cs1 y0 y1
  have a0 : W.cell? ⟨w.heap.size + 1, 0, none⟩ = some (.int .i64 3) := HC2.out.cell rfl
  have a3 : W.cell? ⟨w.heap.size + 1, 3, none⟩ = some (.int .i64 i) := HC2.out.cell rfl
  have n0 : W.cell? ⟨V.heap.size, 0, none⟩ = some (.slice pa pl pq) := HN.out.cell rfl
  have n1 : W.cell? ⟨V.heap.size, 1, none⟩ = some (.slice da dl dq) := HN.out.cell rfl
  have hy2 : x.data[i]? = some y := by rw [HND.out] at hy; exact hy
  obtain ⟨b3, o3, he, hb3, hc3⟩ := us_cell HXO.out.d hy2
  obtain rfl : da = some ⟨b3, o3, none⟩ := HDA.out.symm.trans he
  have hil : i < dl := by have := (List.getElem?_eq_some_iff.1 hy2).1; rw [HDL.out] at this; exact this
  have hil1 : (i : Int) < (dl : Int) := by omega
  have d2 : decide ((dl : Int) ≤ (i : Int)) = false := by simp; omega
  clear hy hy2 he h0
  have HY := Lib.hid (cellS HB2.out hb3 hc3)
  have hWl := HN.out.lt
  have hsB := HB2.out.size
  have hkeep : Hid (∀ w', But (w.heap.size + 1 + 1) W w' → w'.cell? ⟨w.heap.size, 0, none⟩ = some (.slice (some ⟨b2, o2, none⟩) n nq) ∧ w'.cell? ⟨w.heap.size, 1, none⟩ = some (.slice (some ⟨b1, o1, none⟩) m rq) ∧ w'.cell? ⟨w.heap.size + 1, 3, none⟩ = some (.int .i64 (i : Int)) ∧ w'.cell? ⟨V.heap.size, 1, none⟩ = some (.slice (some ⟨b3, o3, none⟩) dl dq) ∧ w'.cell? ⟨b3, o3 + i, none⟩ = some (.int .u64 (y : Int))) := Lib.hid fun w' hk => ⟨(HG2.out.but hk (by omega)).cell rfl, (HG2.out.but hk (by omega)).cell rfl, (HC2.out.but hk (by omega)).cell rfl, (HN.out.but hk (by omega)).cell rfl, hk.cell (by omega) (by omega) HY.out⟩
  go_upto_region 14 with fail
  clear a0 a3 n0 n1 d0 d2 hc3
  obtain ⟨z0, z1, f0, f1⟩ := blk_two HZ2.out
  go_region_held3 (fun w' => w'.cell? ⟨w.heap.size, 0, none⟩ = some (.slice (some ⟨b2, o2, none⟩) n nq) ∧ w'.cell? ⟨w.heap.size, 1, none⟩ = some (.slice (some ⟨b1, o1, none⟩) m rq) ∧ w'.cell? ⟨w.heap.size + 1, 3, none⟩ = some (.int .i64 (i : Int)) ∧ w'.cell? ⟨V.heap.size, 1, none⟩ = some (.slice (some ⟨b3, o3, none⟩) dl dq) ∧ w'.cell? ⟨b3, o3 + i, none⟩ = some (.int .u64 (y : Int))) (exact hkeep.out _ (by first | exact (But.refl _ W).drew | exact But.refl _ W | exact (((But.refl _ W).drew).set _ _).set _ _)) ((fail))
  have HZ5 := Lib.hid (show Blk ((W.setCell ⟨w.heap.size + 1 + 1, 0, none⟩ (.slice (some ⟨b2, o2, none⟩) n nq)).setCell ⟨w.heap.size + 1 + 1, 1, none⟩ (.slice (some ⟨b1, o1, none⟩) m rq)).drew (w.heap.size + 1 + 1) [.slice (some ⟨b2, o2, none⟩) n nq, .slice (some ⟨b1, o1, none⟩) m rq] 25 from blk_set (blk_set HZ2.out 0 (.slice (some ⟨b2, o2, none⟩) n nq)) 1 (.slice (some ⟨b1, o1, none⟩) m rq))
  have HB5 := Lib.hid ((HB2.out.setCell (p := ⟨w.heap.size + 1 + 1, 0, none⟩) (by show w.heap.size ≤ w.heap.size + 1 + 1; omega) (.slice (some ⟨b2, o2, none⟩) n nq)).setCell (p := ⟨w.heap.size + 1 + 1, 1, none⟩) (by show w.heap.size ≤ w.heap.size + 1 + 1; omega) (.slice (some ⟨b1, o1, none⟩) m rq)).drew
  generalize ((W.setCell ⟨w.heap.size + 1 + 1, 0, none⟩ (.slice (some ⟨b2, o2, none⟩) n nq)).setCell ⟨w.heap.size + 1 + 1, 1, none⟩ (.slice (some ⟨b1, o1, none⟩) m rq)).drew = w5 at HZ5 HB5 ⊢
  go_wp2_with fail
  refine bodyPost_ret (res_mid3 rfl _ _ _ (w.heap.size + 1 + 1) _ rfl (load_two HZ5.out)) rfl ?_
  exact ⟨_, _, _, _, _, _, rfl, (HA.out.below HB5.out).imp (fun b hb => Or.inl hb), HB5.out⟩
set_option maxRecDepth 100000 in
set_option maxHeartbeats 2000000 in
theorem gSlotLoad {g : Gr} {na ra : Option Addr} {n nq m rq : Nat} {w : World} {P : Nat → Prop} (hA : GAt P w na n nq ra m rq g) (hg : gright g) (hn1 : n ≤ 1000000) (r : Nat) (s : Nat) (i : Nat) (sz pt : Int) (v : Nat) (hs : s < m) (h0 : 0 ≤ gat g (s : Int)) (hr : r < m) (y : Int) (hy : (gnode g (s : Int)).ptrs[i]? = some y) :
    Calls Try.prog 29 #[.agg #[.slice na n nq, .slice ra m rq], .agg #[.int .i64 2, .int .i64 (r : Int), .int .i64 (s : Int), .int .i64 (i : Int), .int .i64 sz, .int .i64 pt, .int .u64 (v : Int)]] w (DoR P w 0 (grooted g (r : Int) y) 0) := by
  have HA := Lib.hid hA
  obtain ⟨p1, p2, p3, p4, p5, p6, p7, p8, p9, p10⟩ := hA.parts
  have hm16 : m ≤ 16 := by have := hg.1; omega
  obtain ⟨at', hat⟩ : ∃ a, g.roots[s]? = some a := ⟨_, List.getElem?_eq_getElem (by omega)⟩
  have hga : gat g (s : Int) = at' := by unfold gat; rw [Int.toNat_natCast, List.getD, hat]; rfl
  have HGA := Lib.hid hga
  obtain ⟨b1, o1, rfl, hb1, hc1⟩ := in_cells p3 hat
  have HH := Lib.hid hg
  clear hA hg p1 p2 p3 p8 p9 p10 hat hga
  have HB := Lib.hid (ba (ba (ba0 w (.cells #[.slice na n nq, .slice (some ⟨b1, o1, none⟩) m rq] 25)) (.cells #[.int .i64 2, .int .i64 (r : Int), .int .i64 (s : Int), .int .i64 (i : Int), .int .i64 sz, .int .i64 pt, .int .u64 (v : Int)] 31)) (.cells #[.slice none 0 0, .slice none 0 0] 25))
  have HG : Hid (Blk (((w.alloc (.cells #[.slice na n nq, .slice (some ⟨b1, o1, none⟩) m rq] 25)).alloc (.cells #[.int .i64 2, .int .i64 (r : Int), .int .i64 (s : Int), .int .i64 (i : Int), .int .i64 sz, .int .i64 pt, .int .u64 (v : Int)] 31)).alloc (.cells #[.slice none 0 0, .slice none 0 0] 25)) w.heap.size [.slice na n nq, .slice (some ⟨b1, o1, none⟩) m rq] 25) := Lib.hid (((Blk.new w [.slice na n nq, .slice (some ⟨b1, o1, none⟩) m rq] 25).below (ba0 _ _)).below (ba0 _ _))
  have HC : Hid (Blk (((w.alloc (.cells #[.slice na n nq, .slice (some ⟨b1, o1, none⟩) m rq] 25)).alloc (.cells #[.int .i64 2, .int .i64 (r : Int), .int .i64 (s : Int), .int .i64 (i : Int), .int .i64 sz, .int .i64 pt, .int .u64 (v : Int)] 31)).alloc (.cells #[.slice none 0 0, .slice none 0 0] 25)) (w.heap.size + 1) [.int .i64 2, .int .i64 (r : Int), .int .i64 (s : Int), .int .i64 (i : Int), .int .i64 sz, .int .i64 pt, .int .u64 (v : Int)] 31) := Lib.hid blk2
  have HZ : Hid (Blk (((w.alloc (.cells #[.slice na n nq, .slice (some ⟨b1, o1, none⟩) m rq] 25)).alloc (.cells #[.int .i64 2, .int .i64 (r : Int), .int .i64 (s : Int), .int .i64 (i : Int), .int .i64 sz, .int .i64 pt, .int .u64 (v : Int)] 31)).alloc (.cells #[.slice none 0 0, .slice none 0 0] 25)) (w.heap.size + 1 + 1) [.slice none 0 0, .slice none 0 0] 25) := Lib.hid blk3
  go_enter Try.func29, Try.ntmps29
  go_upto_region 1 with fail
  generalize ((w.alloc (.cells #[.slice na n nq, .slice (some ⟨b1, o1, none⟩) m rq] 25)).alloc (.cells #[.int .i64 2, .int .i64 (r : Int), .int .i64 (s : Int), .int .i64 (i : Int), .int .i64 sz, .int .i64 pt, .int .u64 (v : Int)] 31)).alloc (.cells #[.slice none 0 0, .slice none 0 0] 25) = V at HB HG HC HZ ⊢
  have hZl := HZ.out.lt
  have g0 : V.cell? ⟨w.heap.size, 0, none⟩ = some (.slice na n nq) := HG.out.cell rfl
  have g1 : V.cell? ⟨w.heap.size, 1, none⟩ = some (.slice (some ⟨b1, o1, none⟩) m rq) := HG.out.cell rfl
  have a0 : V.cell? ⟨w.heap.size + 1, 0, none⟩ = some (.int .i64 2) := HC.out.cell rfl
  have a2 : V.cell? ⟨w.heap.size + 1, 2, none⟩ = some (.int .i64 (s : Int)) := HC.out.cell rfl
  have a3 : V.cell? ⟨w.heap.size + 1, 3, none⟩ = some (.int .i64 i) := HC.out.cell rfl
  have cs1 : V.cell? ⟨b1, o1 + s, none⟩ = some (.int .i64 at') := cellS HB.out hb1 hc1
  have hs1 : (s : Int) < (m : Int) := by omega
  clear hc1
  obtain ⟨k, rfl⟩ : ∃ k : Nat, at' = (k : Int) := ⟨at'.toNat, by have := HGA.out; omega⟩
  have d0 : decide ((k : Int) < 0) = false := by simp
  obtain ⟨nodes, k1, k2, k3, k4, k5, k6, k7, k8, k9, k10, k11, k12, k13, k14, k15, k16⟩ := HA.out
  have hkn : k < n := by
    have h1 := (gat_in HH.out (r := (s : Int)) ⟨by omega, by rw [k3]; omega⟩).2
    rw [HGA.out, ← k1, List.length_map, k2] at h1
    omega
  obtain ⟨x, hx, hxm⟩ := getq k2 hkn
  obtain ⟨b2, o2, rfl, hb2, x0, x1⟩ := nd_cells k4 hx
  have y0 := cellS HB.out hb2 x0
  have y1 := cellS HB.out hb2 x1
  have hnode : gnode g (s : Int) = x.nd := by
    unfold gnode
    rw [HGA.out, Int.toNat_natCast, ← k1, List.getD, List.getElem?_map, hx]; rfl
  have HND := Lib.hid hnode
  have HXO := Lib.hid (k5 x hxm)
  have HXP := Lib.hid (k16 x hxm)
  have HSZ := Lib.hid (HH.out.2.2 x.nd (by rw [← k1]; exact List.mem_map.2 ⟨x, hxm, rfl⟩))
  clear hnode k1 k2 k3 k4 k5 k6 k7 k8 k9 k10 k11 k12 k13 k14 k15 k16 hx hxm x0 x1 hb2
  obtain ⟨X, hX⟩ : ∃ X, X = x := ⟨_, rfl⟩
  have HX := Lib.hid hX
  clear hX
  obtain ⟨pl, hpl⟩ : ∃ pl, x.ptrs.length = pl := ⟨_, rfl⟩
  obtain ⟨dl, hdl⟩ : ∃ dl, x.data.length = dl := ⟨_, rfl⟩
  obtain ⟨pa, hpa⟩ : ∃ pa, x.pa = pa := ⟨_, rfl⟩
  obtain ⟨da, hda⟩ : ∃ da, x.da = da := ⟨_, rfl⟩
  obtain ⟨pq, hpq⟩ : ∃ pq, x.pcap = pq := ⟨_, rfl⟩
  obtain ⟨dq, hdq⟩ : ∃ dq, x.dcap = dq := ⟨_, rfl⟩
  rw [hpl, hpa, hpq] at y0
  rw [hdl, hda, hdq] at y1
  have HPL := Lib.hid hpl
  have HDL := Lib.hid hdl
  have HPA := Lib.hid hpa
  have HDA := Lib.hid hda
  have HPQ := Lib.hid hpq
  have HDQ := Lib.hid hdq
  have hsz : pl + dl ≤ 255 := by have := HSZ.out.1; simp only [NdV.nd] at this; omega
  clear hpl hdl hpa hda hpq hdq
  have hkn1 : (k : Int) < (n : Int) := by omega
  have HN : Hid (Blk (V.alloc (.cells #[.slice pa pl pq, .slice da dl dq] 36)) V.heap.size [.slice pa pl pq, .slice da dl dq] 36) := Lib.hid (Blk.new V _ _)
  have HV := Lib.hid (ba0 V (.cells #[.slice pa pl pq, .slice da dl dq] 36))
  have HB2 := Lib.hid (ba HB.out (.cells #[.slice pa pl pq, .slice da dl dq] 36))
  go_upto_region 5 with fail
  generalize V.alloc (.cells #[.slice pa pl pq, .slice da dl dq] 36) = W at HN HV HB2 ⊢
  have HZ2 := Lib.hid (HZ.out.below HV.out)
  have HC2 := Lib.hid (HC.out.below HV.out)
  have HG2 := Lib.hid (HG.out.below HV.out)
  clear g0 g1 a0 a2 a3 cs1 y0 y1
  have a0 : W.cell? ⟨w.heap.size + 1, 0, none⟩ = some (.int .i64 2) := HC2.out.cell rfl
  have a3 : W.cell? ⟨w.heap.size + 1, 3, none⟩ = some (.int .i64 i) := HC2.out.cell rfl
  have n0 : W.cell? ⟨V.heap.size, 0, none⟩ = some (.slice pa pl pq) := HN.out.cell rfl
  have n1 : W.cell? ⟨V.heap.size, 1, none⟩ = some (.slice da dl dq) := HN.out.cell rfl
  have hy2 : x.ptrs[i]? = some y := by rw [HND.out] at hy; exact hy
  have hyb : ib y := HXO.out.pb y (by obtain ⟨hk, rfl⟩ := List.getElem?_eq_some_iff.1 hy2; exact List.getElem_mem hk)
  obtain ⟨b3, o3, he, hb3, hc3⟩ := in_cells HXO.out.p hy2
  obtain rfl : pa = some ⟨b3, o3, none⟩ := HPA.out.symm.trans he
  have hil : i < pl := by have := (List.getElem?_eq_some_iff.1 hy2).1; rw [HPL.out] at this; exact this
  have hil1 : (i : Int) < (pl : Int) := by omega
  have d2 : decide ((pl : Int) ≤ (i : Int)) = false := by simp; omega
  clear hy hy2 he h0
  have HY := Lib.hid (cellS HB2.out hb3 hc3)
  have hWl := HN.out.lt
  have hsB := HB2.out.size
  have hkeep : Hid (∀ w', But (w.heap.size + 1 + 1) W w' → w'.cell? ⟨w.heap.size, 0, none⟩ = some (.slice (some ⟨b2, o2, none⟩) n nq) ∧ w'.cell? ⟨w.heap.size, 1, none⟩ = some (.slice (some ⟨b1, o1, none⟩) m rq) ∧ w'.cell? ⟨w.heap.size + 1, 1, none⟩ = some (.int .i64 (r : Int)) ∧ w'.cell? ⟨w.heap.size + 1, 3, none⟩ = some (.int .i64 (i : Int)) ∧ w'.cell? ⟨V.heap.size, 0, none⟩ = some (.slice (some ⟨b3, o3, none⟩) pl pq) ∧ w'.cell? ⟨b3, o3 + i, none⟩ = some (.int .i64 y)) := Lib.hid fun w' hk => ⟨(HG2.out.but hk (by omega)).cell rfl, (HG2.out.but hk (by omega)).cell rfl, (HC2.out.but hk (by omega)).cell rfl, (HC2.out.but hk (by omega)).cell rfl, (HN.out.but hk (by omega)).cell rfl, hk.cell (by omega) (by omega) HY.out⟩
  have HAW := Lib.hid (HA.out.both.below HB2.out)
  go_upto_region 12 with fail
  clear a0 a3 n0 n1 d0 d2 hc3
  go_region_held3 (fun w' => w'.cell? ⟨w.heap.size, 0, none⟩ = some (.slice (some ⟨b2, o2, none⟩) n nq) ∧ w'.cell? ⟨w.heap.size, 1, none⟩ = some (.slice (some ⟨b1, o1, none⟩) m rq) ∧ w'.cell? ⟨w.heap.size + 1, 1, none⟩ = some (.int .i64 (r : Int)) ∧ w'.cell? ⟨w.heap.size + 1, 3, none⟩ = some (.int .i64 (i : Int)) ∧ w'.cell? ⟨V.heap.size, 0, none⟩ = some (.slice (some ⟨b3, o3, none⟩) pl pq) ∧ w'.cell? ⟨b3, o3 + i, none⟩ = some (.int .i64 y)) (exact hkeep.out _ (by first | exact (But.refl _ W).drew | exact But.refl _ W | exact (But.refl _ W).drew.below hb9 | exact (((But.refl _ W).drew.below hb9).set _ _).set _ _)) ((first
    | (go_at_call 27; refine (gRooted (HAW.out.below (Below.refl _ W).drew) (by omega) r y hr hyb).mono ?_; rintro e w9 ⟨ra9, rq9, rfl, hA9, hb9⟩; obtain ⟨q0, q1, f0, f1⟩ := blk_two (HZ2.out.below (bt (Below.refl _ W).drew hb9)))))
  have hZl2 := HZ2.out.lt
  have hfin : But (w.heap.size + 1 + 1) w9 ((w9.setCell ⟨w.heap.size + 1 + 1, 0, none⟩ (.slice (some ⟨b2, o2, none⟩) n nq)).setCell ⟨w.heap.size + 1 + 1, 1, none⟩ (.slice ra9 m rq9)) := ((But.refl _ w9).set _ _).set _ _
  have HZ5 := Lib.hid (show Blk ((w9.setCell ⟨w.heap.size + 1 + 1, 0, none⟩ (.slice (some ⟨b2, o2, none⟩) n nq)).setCell ⟨w.heap.size + 1 + 1, 1, none⟩ (.slice ra9 m rq9)) (w.heap.size + 1 + 1) [.slice (some ⟨b2, o2, none⟩) n nq, .slice ra9 m rq9] 25 from blk_set (blk_set (HZ2.out.below (bt (Below.refl _ W).drew hb9)) 0 (.slice (some ⟨b2, o2, none⟩) n nq)) 1 (.slice ra9 m rq9))
  have HB5 := Lib.hid (((bt HB2.out (bt (Below.refl _ W).drew hb9)).setCell (p := ⟨w.heap.size + 1 + 1, 0, none⟩) (by show w.heap.size ≤ w.heap.size + 1 + 1; omega) (.slice (some ⟨b2, o2, none⟩) n nq)).setCell (p := ⟨w.heap.size + 1 + 1, 1, none⟩) (by show w.heap.size ≤ w.heap.size + 1 + 1; omega) (.slice ra9 m rq9))
  have HA5 := Lib.hid (hA9.but (fun b hb => by
    rcases hb with ⟨_, hb⟩ | hb
    · omega
    · have : W.heap.size ≤ b := hb
      omega) hfin)
  generalize (w9.setCell ⟨w.heap.size + 1 + 1, 0, none⟩ (.slice (some ⟨b2, o2, none⟩) n nq)).setCell ⟨w.heap.size + 1 + 1, 1, none⟩ (.slice ra9 m rq9) = w5 at HZ5 HB5 HA5 ⊢
  go_wp2_with fail
  refine bodyPost_ret (res_mid3 rfl _ _ _ (w.heap.size + 1 + 1) _ rfl (load_two HZ5.out)) rfl ?_
  exact ⟨_, _, _, _, _, _, rfl, HA5.out.imp (fun b hb => by
    rcases hb with ⟨hb, _⟩ | hb
    · exact Or.inl hb
    · have : W.heap.size ≤ b := hb
      exact Or.inr (by omega)), HB5.out⟩
theorem gTurnedX {g : Gr} {na ra : Option Addr} {n nq m rq : Nat} {w : World} {P : Nat → Prop} (hA : GAt P w na n nq ra m rq g) (hm1 : n ≤ 1000000) (r : Nat) (x : NdV) (hr : r < n) (hx : x.ok w) (hxp : NdP P x) (pa da : Option Addr) (pl pq dl dq : Nat)
    (h1 : x.pa = pa) (h2 : x.ptrs.length = pl) (h3 : x.pcap = pq) (h4 : x.da = da) (h5 : x.data.length = dl) (h6 : x.dcap = dq) :
    Calls Try.prog 46 #[.agg #[.slice na n nq, .slice ra m rq], .int .i64 (r : Int), .agg #[.slice pa pl pq, .slice da dl dq]] w fun e w' => ∃ na' nq', e = .returned (.agg #[.slice na' n nq', .slice ra m rq]) ∧ GAt (fun b => P b ∨ w.heap.size ≤ b) w' na' n nq' ra m rq ⟨g.nodes.set r x.nd, g.roots⟩ ∧ Below w.heap.size w w' := by
  subst h1 h2 h3 h4 h5 h6
  exact gTurned hA hm1 r x hr hx hxp

set_option maxRecDepth 100000 in
set_option maxHeartbeats 2000000 in
theorem gSlotStore {g : Gr} {na ra : Option Addr} {n nq m rq : Nat} {w : World} {P : Nat → Prop} (hA : GAt P w na n nq ra m rq g) (hg : gright g) (hn1 : n ≤ 1000000) (r : Nat) (s : Nat) (i : Nat) (sz pt : Int) (v : Nat) (hs : s < m) (h0 : 0 ≤ gat g (s : Int)) (hr : r < m) (hi : i < (gnode g (s : Int)).ptrs.length) :
    Calls Try.prog 29 #[.agg #[.slice na n nq, .slice ra m rq], .agg #[.int .i64 4, .int .i64 (r : Int), .int .i64 (s : Int), .int .i64 (i : Int), .int .i64 sz, .int .i64 pt, .int .u64 (v : Int)]] w (DoR P w 0 (gturned g (gat g (s : Int)) ⟨(gnode g (s : Int)).ptrs.set i (gat g (r : Int)), (gnode g (s : Int)).data⟩) 0) := by
  obtain ⟨y, hyr⟩ : ∃ y, g.roots[r]? = some y := ⟨_, List.getElem?_eq_getElem (by have := hA.parts.2.1; omega)⟩
  have hgy : gat g (r : Int) = y := by unfold gat; rw [Int.toNat_natCast, List.getD, hyr]; rfl
  have hyb : ib y := hA.parts.2.2.2.2.2.2.2.2.2 y (by obtain ⟨hk, rfl⟩ := List.getElem?_eq_some_iff.1 hyr; exact List.getElem_mem hk)
  rw [hgy]
  obtain ⟨b7, o7, he7, hb7, hc7⟩ := in_cells hA.parts.2.2.1 hyr
  have HE7 := Lib.hid he7
  have HC7 := Lib.hid hc7
  clear hgy he7 hc7
  have HA := Lib.hid hA
  obtain ⟨p1, p2, p3, p4, p5, p6, p7, p8, p9, p10⟩ := hA.parts
  have hm16 : m ≤ 16 := by have := hg.1; omega
  obtain ⟨at', hat⟩ : ∃ a, g.roots[s]? = some a := ⟨_, List.getElem?_eq_getElem (by omega)⟩
  have hga : gat g (s : Int) = at' := by unfold gat; rw [Int.toNat_natCast, List.getD, hat]; rfl
  have HGA := Lib.hid hga
  obtain ⟨b1, o1, rfl, hb1, hc1⟩ := in_cells p3 hat
  have HH := Lib.hid hg
  clear hA hg p1 p2 p3 p8 p9 p10 hat hga
  have HB := Lib.hid (ba (ba (ba0 w (.cells #[.slice na n nq, .slice (some ⟨b1, o1, none⟩) m rq] 25)) (.cells #[.int .i64 4, .int .i64 (r : Int), .int .i64 (s : Int), .int .i64 (i : Int), .int .i64 sz, .int .i64 pt, .int .u64 (v : Int)] 31)) (.cells #[.slice none 0 0, .slice none 0 0] 25))
  have HG : Hid (Blk (((w.alloc (.cells #[.slice na n nq, .slice (some ⟨b1, o1, none⟩) m rq] 25)).alloc (.cells #[.int .i64 4, .int .i64 (r : Int), .int .i64 (s : Int), .int .i64 (i : Int), .int .i64 sz, .int .i64 pt, .int .u64 (v : Int)] 31)).alloc (.cells #[.slice none 0 0, .slice none 0 0] 25)) w.heap.size [.slice na n nq, .slice (some ⟨b1, o1, none⟩) m rq] 25) := Lib.hid (((Blk.new w [.slice na n nq, .slice (some ⟨b1, o1, none⟩) m rq] 25).below (ba0 _ _)).below (ba0 _ _))
  have HC : Hid (Blk (((w.alloc (.cells #[.slice na n nq, .slice (some ⟨b1, o1, none⟩) m rq] 25)).alloc (.cells #[.int .i64 4, .int .i64 (r : Int), .int .i64 (s : Int), .int .i64 (i : Int), .int .i64 sz, .int .i64 pt, .int .u64 (v : Int)] 31)).alloc (.cells #[.slice none 0 0, .slice none 0 0] 25)) (w.heap.size + 1) [.int .i64 4, .int .i64 (r : Int), .int .i64 (s : Int), .int .i64 (i : Int), .int .i64 sz, .int .i64 pt, .int .u64 (v : Int)] 31) := Lib.hid blk2
  have HZ : Hid (Blk (((w.alloc (.cells #[.slice na n nq, .slice (some ⟨b1, o1, none⟩) m rq] 25)).alloc (.cells #[.int .i64 4, .int .i64 (r : Int), .int .i64 (s : Int), .int .i64 (i : Int), .int .i64 sz, .int .i64 pt, .int .u64 (v : Int)] 31)).alloc (.cells #[.slice none 0 0, .slice none 0 0] 25)) (w.heap.size + 1 + 1) [.slice none 0 0, .slice none 0 0] 25) := Lib.hid blk3
  go_enter Try.func29, Try.ntmps29
  go_upto_region 1 with fail
  generalize ((w.alloc (.cells #[.slice na n nq, .slice (some ⟨b1, o1, none⟩) m rq] 25)).alloc (.cells #[.int .i64 4, .int .i64 (r : Int), .int .i64 (s : Int), .int .i64 (i : Int), .int .i64 sz, .int .i64 pt, .int .u64 (v : Int)] 31)).alloc (.cells #[.slice none 0 0, .slice none 0 0] 25) = V at HB HG HC HZ ⊢
  have hZl := HZ.out.lt
  have g0 : V.cell? ⟨w.heap.size, 0, none⟩ = some (.slice na n nq) := HG.out.cell rfl
  have g1 : V.cell? ⟨w.heap.size, 1, none⟩ = some (.slice (some ⟨b1, o1, none⟩) m rq) := HG.out.cell rfl
  have a0 : V.cell? ⟨w.heap.size + 1, 0, none⟩ = some (.int .i64 4) := HC.out.cell rfl
  have a2 : V.cell? ⟨w.heap.size + 1, 2, none⟩ = some (.int .i64 (s : Int)) := HC.out.cell rfl
  have a3 : V.cell? ⟨w.heap.size + 1, 3, none⟩ = some (.int .i64 i) := HC.out.cell rfl
  have cs1 : V.cell? ⟨b1, o1 + s, none⟩ = some (.int .i64 at') := cellS HB.out hb1 hc1
  have hs1 : (s : Int) < (m : Int) := by omega
  clear hc1
  obtain ⟨k, rfl⟩ : ∃ k : Nat, at' = (k : Int) := ⟨at'.toNat, by have := HGA.out; omega⟩
  have d0 : decide ((k : Int) < 0) = false := by simp
  obtain ⟨nodes, k1, k2, k3, k4, k5, k6, k7, k8, k9, k10, k11, k12, k13, k14, k15, k16⟩ := HA.out
  have hkn : k < n := by
    have h1 := (gat_in HH.out (r := (s : Int)) ⟨by omega, by rw [k3]; omega⟩).2
    rw [HGA.out, ← k1, List.length_map, k2] at h1
    omega
  obtain ⟨x, hx, hxm⟩ := getq k2 hkn
  obtain ⟨b2, o2, rfl, hb2, x0, x1⟩ := nd_cells k4 hx
  have y0 := cellS HB.out hb2 x0
  have y1 := cellS HB.out hb2 x1
  have hnode : gnode g (s : Int) = x.nd := by
    unfold gnode
    rw [HGA.out, Int.toNat_natCast, ← k1, List.getD, List.getElem?_map, hx]; rfl
  have HND := Lib.hid hnode
  have HXO := Lib.hid (k5 x hxm)
  have HXP := Lib.hid (k16 x hxm)
  have HSZ := Lib.hid (HH.out.2.2 x.nd (by rw [← k1]; exact List.mem_map.2 ⟨x, hxm, rfl⟩))
  clear hnode k1 k2 k3 k4 k5 k6 k7 k8 k9 k10 k11 k12 k13 k14 k15 k16 hx hxm x0 x1 hb2
  obtain ⟨X, hX⟩ : ∃ X, X = x := ⟨_, rfl⟩
  have HX := Lib.hid hX
  clear hX
  obtain ⟨pl, hpl⟩ : ∃ pl, x.ptrs.length = pl := ⟨_, rfl⟩
  obtain ⟨dl, hdl⟩ : ∃ dl, x.data.length = dl := ⟨_, rfl⟩
  obtain ⟨pa, hpa⟩ : ∃ pa, x.pa = pa := ⟨_, rfl⟩
  obtain ⟨da, hda⟩ : ∃ da, x.da = da := ⟨_, rfl⟩
  obtain ⟨pq, hpq⟩ : ∃ pq, x.pcap = pq := ⟨_, rfl⟩
  obtain ⟨dq, hdq⟩ : ∃ dq, x.dcap = dq := ⟨_, rfl⟩
  rw [hpl, hpa, hpq] at y0
  rw [hdl, hda, hdq] at y1
  have HPL := Lib.hid hpl
  have HDL := Lib.hid hdl
  have HPA := Lib.hid hpa
  have HDA := Lib.hid hda
  have HPQ := Lib.hid hpq
  have HDQ := Lib.hid hdq
  have hsz : pl + dl ≤ 255 := by have := HSZ.out.1; simp only [NdV.nd] at this; omega
  clear hpl hdl hpa hda hpq hdq
  have hkn1 : (k : Int) < (n : Int) := by omega
  have HN : Hid (Blk (V.alloc (.cells #[.slice pa pl pq, .slice da dl dq] 36)) V.heap.size [.slice pa pl pq, .slice da dl dq] 36) := Lib.hid (Blk.new V _ _)
  have HV := Lib.hid (ba0 V (.cells #[.slice pa pl pq, .slice da dl dq] 36))
  have HB2 := Lib.hid (ba HB.out (.cells #[.slice pa pl pq, .slice da dl dq] 36))
  go_upto_region 5 with fail
  generalize V.alloc (.cells #[.slice pa pl pq, .slice da dl dq] 36) = W at HN HV HB2 ⊢
  have HZ2 := Lib.hid (HZ.out.below HV.out)
  have HC2 := Lib.hid (HC.out.below HV.out)
  have HG2 := Lib.hid (HG.out.below HV.out)
  clear g0 g1 a0 a2 a3 cs1 y0 y1
  have a0 : W.cell? ⟨w.heap.size + 1, 0, none⟩ = some (.int .i64 4) := HC2.out.cell rfl
  have a3 : W.cell? ⟨w.heap.size + 1, 3, none⟩ = some (.int .i64 i) := HC2.out.cell rfl
  have n0 : W.cell? ⟨V.heap.size, 0, none⟩ = some (.slice pa pl pq) := HN.out.cell rfl
  have n1 : W.cell? ⟨V.heap.size, 1, none⟩ = some (.slice da dl dq) := HN.out.cell rfl
  have he7 := HE7.out
  have hc7 := HC7.out
  simp only [Option.some.injEq, Addr.mk.injEq, and_true] at he7
  obtain ⟨rfl, rfl⟩ := he7
  have hil : i < pl := by rw [HND.out] at hi; have := HPL.out; simp only [NdV.nd] at hi; omega
  have hil1 : (i : Int) < (pl : Int) := by omega
  have hri1 : (r : Int) < (m : Int) := by omega
  have d2 : decide ((pl : Int) ≤ (i : Int)) = false := by simp; omega
  have HY := Lib.hid (cellS HB2.out hb7 hc7)
  have hWl := HN.out.lt
  have hsB := HB2.out.size
  have HXPW := Lib.hid (show Rw ic 1 W pa x.ptrs by rw [← HPA.out]; exact HXO.out.p.below (Nat.le_refl _) HB2.out)
  have HPN := Lib.hid (show pa = none → pq = 0 by have := HXO.out.pn; rw [HPA.out, HPQ.out] at this; exact this)
  clear hi h0 hyr hc7
  go_upto_region 17 with (refine wp_copy_rows 3 23 _ 8 info_in Try.underlying23 rfl (by decide) (by decide) ic_len ic_one W (by rfl) (.const (.slice none 0 0)) (.tmp 76) rfl rfl rfl pa pl pq rfl x.ptrs HPL.out HXPW.out HPN.out (by omega) ?_; intro ao9 cp9 w9 ho9 hr9 hl9 hc9 hn9 hb9)
  clear a0 a3 n0 n1 d0 d2
  obtain ⟨gg, rfl, hg1, hg2, hg3⟩ := ho9.at (by omega) HPL.out
  obtain ⟨old, hold⟩ : ∃ z, x.ptrs[i]? = some z := ⟨_, List.getElem?_eq_getElem (by have := HPL.out; omega)⟩
  obtain ⟨b8, o8, he8, _, cr⟩ := in_cells (ho9.rows ic_len) hold
  simp only [Option.some.injEq, Addr.mk.injEq, and_true] at he8
  obtain ⟨rfl, rfl⟩ := he8
  rw [Nat.zero_add] at cr
  have fr : w9.frozen? ⟨gg, i, none⟩ = false := ho9.fz HPL.out i
  obtain ⟨ho10, _⟩ := ho9.stored1 HPL.out i hil y
  have HO10 := Lib.hid (show OwnR 3 ic 1 (w9.setCell ⟨gg, i, none⟩ (.int .i64 y)).drew W.heap.size (.slice (some ⟨gg, 0, none⟩) pl cp9) (x.ptrs.set i y) from ho10)
  have HG9 := Lib.hid (HG2.out.below hb9)
  have HC9 := Lib.hid (HC2.out.below hb9)
  have HN9 := Lib.hid (HN.out.below hb9)
  have HZ9 := Lib.hid (HZ2.out.below hb9)
  have HY9 := Lib.hid (cellS hb9 (by omega) HY.out)
  have hl9s := hb9.size
  have hkeep : Hid (∀ w', But gg w9 w' → w'.cell? ⟨w.heap.size, 1, none⟩ = some (.slice (some ⟨b1, o1, none⟩) m rq) ∧ w'.cell? ⟨w.heap.size + 1, 1, none⟩ = some (.int .i64 (r : Int)) ∧ w'.cell? ⟨w.heap.size + 1, 3, none⟩ = some (.int .i64 (i : Int)) ∧ w'.cell? ⟨b1, o1 + r, none⟩ = some (.int .i64 y)) := Lib.hid fun w' hk => ⟨(HG9.out.but hk (by omega)).cell rfl, (HC9.out.but hk (by omega)).cell rfl, (HC9.out.but hk (by omega)).cell rfl, hk.cell (by omega) (by omega) HY9.out⟩
  have HBX := Lib.hid ((bt HB2.out hb9).setCell (p := ⟨gg, i, none⟩) (by show w.heap.size ≤ gg; omega) (.int .i64 y)).drew
  have HBG := Lib.hid (((But.refl gg w9).set i (.int .i64 y)).drew)
  have HAX := Lib.hid (((HA.out.both.below HBX.out)).imp (fun b hb => (Or.inl hb : (P b ∧ b < w.heap.size) ∨ W.heap.size ≤ b)))
  go_region_held3 (fun w' => w'.cell? ⟨w.heap.size, 1, none⟩ = some (.slice (some ⟨b1, o1, none⟩) m rq) ∧ w'.cell? ⟨w.heap.size + 1, 1, none⟩ = some (.int .i64 (r : Int)) ∧ w'.cell? ⟨w.heap.size + 1, 3, none⟩ = some (.int .i64 (i : Int)) ∧ w'.cell? ⟨b1, o1 + r, none⟩ = some (.int .i64 y)) (exact hkeep.out _ (by first | exact (But.refl _ _).drew | exact But.refl _ _ | exact ((But.refl _ w9).drew).set _ _ | exact ((But.refl _ w9).set _ _).drew)) ((fail))
  generalize (w9.setCell ⟨gg, i, none⟩ (.int .i64 y)).drew = X at HO10 HBX HBG HAX ⊢
  have HGX := Lib.hid (HG9.out.but HBG.out (by omega))
  have HNX := Lib.hid (HN9.out.but HBG.out (by omega))
  have HZX := Lib.hid (HZ9.out.but HBG.out (by omega))
  have x0 : X.cell? ⟨w.heap.size, 0, none⟩ = some (.slice (some ⟨b2, o2, none⟩) n nq) := HGX.out.cell rfl
  have x1 : X.cell? ⟨w.heap.size, 1, none⟩ = some (.slice (some ⟨b1, o1, none⟩) m rq) := HGX.out.cell rfl
  have x2 : X.cell? ⟨V.heap.size, 1, none⟩ = some (.slice da dl dq) := HNX.out.cell rfl
  have hsX := HBX.out.size
  have hXl := HZX.out.lt
  have hXW := HBG.out.1
  have HXok := Lib.hid (show NdV.ok X ⟨some ⟨gg, 0, none⟩, cp9, x.ptrs.set i y, x.da, x.dcap, x.data⟩ from
    ⟨HO10.out.rows ic_len, HXO.out.d.below (Nat.le_refl _) HBX.out, by simp only [List.length_set]; have := HPL.out; omega, HXO.out.dl, hc9, HXO.out.dc, (fun h => by cases h), HXO.out.dn, (fun p hp => by
      rcases List.mem_or_eq_of_mem_set hp with hp | rfl
      · exact HXO.out.pb p hp
      · exact hyb), HXO.out.db⟩)
  have HXpl := Lib.hid (show NdP (fun b => (P b ∧ b < w.heap.size) ∨ W.heap.size ≤ b) ⟨some ⟨gg, 0, none⟩, cp9, x.ptrs.set i y, x.da, x.dcap, x.data⟩ from
    ⟨fun _ => ⟨gg, 0, rfl, Or.inr hg1⟩, ((HXP.out.d.and HXO.out.d.pl)).imp (fun b hb => Or.inl hb)⟩)
  clear hg3 cr fr hold ho9 ho10 hr9 hb9 hkeep
  go_wp2_with fail
  refine (gTurnedX HAX.out hn1 k ⟨some ⟨gg, 0, none⟩, cp9, x.ptrs.set i y, x.da, x.dcap, x.data⟩ hkn HXok.out HXpl.out (some ⟨gg, 0, none⟩) da pl cp9 dl dq rfl (by simp only [List.length_set]; exact HPL.out) rfl HDA.out HDL.out HDQ.out).mono ?_
  rintro e w10 ⟨na9, nq9, rfl, hA9, hb10⟩
  have HZ10 := Lib.hid (HZX.out.below hb10)
  have HB10 := Lib.hid (bt HBX.out hb10)
  have HA10 := Lib.hid hA9
  clear hA9 hb10 x0 x1 x2
  go_wp2_with (refine wp_store_but rfl 25 (.tmp 5) (.tmp 94) rfl (w.heap.size + 1 + 1) _ [.slice na9 n nq9, .slice (some ⟨b1, o1, none⟩) m rq] rfl rfl _ HZ10.out rfl (by kernel_rfl) (by simp [Value.oneCell']) ?_; intro w5 hz5 hf5 hb5; have HZ5 := Lib.hid hz5; have HB5 := Lib.hid (hb5 _ _ (by omega) HB10.out); have HF5 := Lib.hid hf5; clear hz5 hb5 hf5)
  refine bodyPost_ret (res_mid3 rfl _ _ _ (w.heap.size + 1 + 1) _ rfl (load_two HZ5.out)) rfl ?_
  refine ⟨_, _, _, _, _, _, rfl, ?_, HB5.out⟩
  have h9 := (HA10.out.but (Z := w.heap.size + 1 + 1) (fun b hb => by omega) HF5.out).imp (Q := fun b => P b ∨ w.heap.size ≤ b) (fun b hb => by
    rcases hb with (⟨hb, _⟩ | hb) | hb
    · exact Or.inl hb
    · exact Or.inr (by omega)
    · exact Or.inr (by omega))
  rw [HGA.out, HND.out]
  unfold gturned NdV.nd
  rw [Int.toNat_natCast]
  exact h9
set_option maxRecDepth 100000 in
set_option maxHeartbeats 2000000 in
theorem gSlotSet {g : Gr} {na ra : Option Addr} {n nq m rq : Nat} {w : World} {P : Nat → Prop} (hA : GAt P w na n nq ra m rq g) (hg : gright g) (hn1 : n ≤ 1000000) (r : Int) (s : Nat) (i : Nat) (sz pt : Int) (v : Nat) (hs : s < m) (h0 : 0 ≤ gat g (s : Int)) (hv : v < 2 ^ 64) (hi : i < (gnode g (s : Int)).data.length) :
    Calls Try.prog 29 #[.agg #[.slice na n nq, .slice ra m rq], .agg #[.int .i64 5, .int .i64 r, .int .i64 (s : Int), .int .i64 (i : Int), .int .i64 sz, .int .i64 pt, .int .u64 (v : Int)]] w (DoR P w 0 (gturned g (gat g (s : Int)) ⟨(gnode g (s : Int)).ptrs, (gnode g (s : Int)).data.set i v⟩) 0) := by
  have HA := Lib.hid hA
  obtain ⟨p1, p2, p3, p4, p5, p6, p7, p8, p9, p10⟩ := hA.parts
  have hm16 : m ≤ 16 := by have := hg.1; omega
  obtain ⟨at', hat⟩ : ∃ a, g.roots[s]? = some a := ⟨_, List.getElem?_eq_getElem (by omega)⟩
  have hga : gat g (s : Int) = at' := by unfold gat; rw [Int.toNat_natCast, List.getD, hat]; rfl
  have HGA := Lib.hid hga
  obtain ⟨b1, o1, rfl, hb1, hc1⟩ := in_cells p3 hat
  have HH := Lib.hid hg
  clear hA hg p1 p2 p3 p8 p9 p10 hat hga
  have HB := Lib.hid (ba (ba (ba0 w (.cells #[.slice na n nq, .slice (some ⟨b1, o1, none⟩) m rq] 25)) (.cells #[.int .i64 5, .int .i64 r, .int .i64 (s : Int), .int .i64 (i : Int), .int .i64 sz, .int .i64 pt, .int .u64 (v : Int)] 31)) (.cells #[.slice none 0 0, .slice none 0 0] 25))
  have HG : Hid (Blk (((w.alloc (.cells #[.slice na n nq, .slice (some ⟨b1, o1, none⟩) m rq] 25)).alloc (.cells #[.int .i64 5, .int .i64 r, .int .i64 (s : Int), .int .i64 (i : Int), .int .i64 sz, .int .i64 pt, .int .u64 (v : Int)] 31)).alloc (.cells #[.slice none 0 0, .slice none 0 0] 25)) w.heap.size [.slice na n nq, .slice (some ⟨b1, o1, none⟩) m rq] 25) := Lib.hid (((Blk.new w [.slice na n nq, .slice (some ⟨b1, o1, none⟩) m rq] 25).below (ba0 _ _)).below (ba0 _ _))
  have HC : Hid (Blk (((w.alloc (.cells #[.slice na n nq, .slice (some ⟨b1, o1, none⟩) m rq] 25)).alloc (.cells #[.int .i64 5, .int .i64 r, .int .i64 (s : Int), .int .i64 (i : Int), .int .i64 sz, .int .i64 pt, .int .u64 (v : Int)] 31)).alloc (.cells #[.slice none 0 0, .slice none 0 0] 25)) (w.heap.size + 1) [.int .i64 5, .int .i64 r, .int .i64 (s : Int), .int .i64 (i : Int), .int .i64 sz, .int .i64 pt, .int .u64 (v : Int)] 31) := Lib.hid blk2
  have HZ : Hid (Blk (((w.alloc (.cells #[.slice na n nq, .slice (some ⟨b1, o1, none⟩) m rq] 25)).alloc (.cells #[.int .i64 5, .int .i64 r, .int .i64 (s : Int), .int .i64 (i : Int), .int .i64 sz, .int .i64 pt, .int .u64 (v : Int)] 31)).alloc (.cells #[.slice none 0 0, .slice none 0 0] 25)) (w.heap.size + 1 + 1) [.slice none 0 0, .slice none 0 0] 25) := Lib.hid blk3
  go_enter Try.func29, Try.ntmps29
  go_upto_region 1 with fail
  generalize ((w.alloc (.cells #[.slice na n nq, .slice (some ⟨b1, o1, none⟩) m rq] 25)).alloc (.cells #[.int .i64 5, .int .i64 r, .int .i64 (s : Int), .int .i64 (i : Int), .int .i64 sz, .int .i64 pt, .int .u64 (v : Int)] 31)).alloc (.cells #[.slice none 0 0, .slice none 0 0] 25) = V at HB HG HC HZ ⊢
  have hZl := HZ.out.lt
  have g0 : V.cell? ⟨w.heap.size, 0, none⟩ = some (.slice na n nq) := HG.out.cell rfl
  have g1 : V.cell? ⟨w.heap.size, 1, none⟩ = some (.slice (some ⟨b1, o1, none⟩) m rq) := HG.out.cell rfl
  have a0 : V.cell? ⟨w.heap.size + 1, 0, none⟩ = some (.int .i64 5) := HC.out.cell rfl
  have a2 : V.cell? ⟨w.heap.size + 1, 2, none⟩ = some (.int .i64 (s : Int)) := HC.out.cell rfl
  have a3 : V.cell? ⟨w.heap.size + 1, 3, none⟩ = some (.int .i64 i) := HC.out.cell rfl
  have cs1 : V.cell? ⟨b1, o1 + s, none⟩ = some (.int .i64 at') := cellS HB.out hb1 hc1
  have hs1 : (s : Int) < (m : Int) := by omega
  clear hc1
  obtain ⟨k, rfl⟩ : ∃ k : Nat, at' = (k : Int) := ⟨at'.toNat, by have := HGA.out; omega⟩
  have d0 : decide ((k : Int) < 0) = false := by simp
  obtain ⟨nodes, k1, k2, k3, k4, k5, k6, k7, k8, k9, k10, k11, k12, k13, k14, k15, k16⟩ := HA.out
  have hkn : k < n := by
    have h1 := (gat_in HH.out (r := (s : Int)) ⟨by omega, by rw [k3]; omega⟩).2
    rw [HGA.out, ← k1, List.length_map, k2] at h1
    omega
  obtain ⟨x, hx, hxm⟩ := getq k2 hkn
  obtain ⟨b2, o2, rfl, hb2, x0, x1⟩ := nd_cells k4 hx
  have y0 := cellS HB.out hb2 x0
  have y1 := cellS HB.out hb2 x1
  have hnode : gnode g (s : Int) = x.nd := by
    unfold gnode
    rw [HGA.out, Int.toNat_natCast, ← k1, List.getD, List.getElem?_map, hx]; rfl
  have HND := Lib.hid hnode
  have HXO := Lib.hid (k5 x hxm)
  have HXP := Lib.hid (k16 x hxm)
  have HSZ := Lib.hid (HH.out.2.2 x.nd (by rw [← k1]; exact List.mem_map.2 ⟨x, hxm, rfl⟩))
  clear hnode k1 k2 k3 k4 k5 k6 k7 k8 k9 k10 k11 k12 k13 k14 k15 k16 hx hxm x0 x1 hb2
  obtain ⟨X, hX⟩ : ∃ X, X = x := ⟨_, rfl⟩
  have HX := Lib.hid hX
  clear hX
  obtain ⟨pl, hpl⟩ : ∃ pl, x.ptrs.length = pl := ⟨_, rfl⟩
  obtain ⟨dl, hdl⟩ : ∃ dl, x.data.length = dl := ⟨_, rfl⟩
  obtain ⟨pa, hpa⟩ : ∃ pa, x.pa = pa := ⟨_, rfl⟩
  obtain ⟨da, hda⟩ : ∃ da, x.da = da := ⟨_, rfl⟩
  obtain ⟨pq, hpq⟩ : ∃ pq, x.pcap = pq := ⟨_, rfl⟩
  obtain ⟨dq, hdq⟩ : ∃ dq, x.dcap = dq := ⟨_, rfl⟩
  rw [hpl, hpa, hpq] at y0
  rw [hdl, hda, hdq] at y1
  have HPL := Lib.hid hpl
  have HDL := Lib.hid hdl
  have HPA := Lib.hid hpa
  have HDA := Lib.hid hda
  have HPQ := Lib.hid hpq
  have HDQ := Lib.hid hdq
  have hsz : pl + dl ≤ 255 := by have := HSZ.out.1; simp only [NdV.nd] at this; omega
  clear hpl hdl hpa hda hpq hdq
  have hkn1 : (k : Int) < (n : Int) := by omega
  have HN : Hid (Blk (V.alloc (.cells #[.slice pa pl pq, .slice da dl dq] 36)) V.heap.size [.slice pa pl pq, .slice da dl dq] 36) := Lib.hid (Blk.new V _ _)
  have HV := Lib.hid (ba0 V (.cells #[.slice pa pl pq, .slice da dl dq] 36))
  have HB2 := Lib.hid (ba HB.out (.cells #[.slice pa pl pq, .slice da dl dq] 36))
  go_upto_region 5 with fail
  generalize V.alloc (.cells #[.slice pa pl pq, .slice da dl dq] 36) = W at HN HV HB2 ⊢
  have HZ2 := Lib.hid (HZ.out.below HV.out)
  have HC2 := Lib.hid (HC.out.below HV.out)
  have HG2 := Lib.hid (HG.out.below HV.out)
  clear g0 g1 a0 a2 a3 cs1 y0 y1
  have a0 : W.cell? ⟨w.heap.size + 1, 0, none⟩ = some (.int .i64 5) := HC2.out.cell rfl
  have a3 : W.cell? ⟨w.heap.size + 1, 3, none⟩ = some (.int .i64 i) := HC2.out.cell rfl
  have n0 : W.cell? ⟨V.heap.size, 0, none⟩ = some (.slice pa pl pq) := HN.out.cell rfl
  have n1 : W.cell? ⟨V.heap.size, 1, none⟩ = some (.slice da dl dq) := HN.out.cell rfl
  have hil : i < dl := by rw [HND.out] at hi; have := HDL.out; simp only [NdV.nd] at hi; omega
  have hil1 : (i : Int) < (dl : Int) := by omega
  have d2 : decide ((dl : Int) ≤ (i : Int)) = false := by simp; omega
  have hWl := HN.out.lt
  have hsB := HB2.out.size
  have HXDW := Lib.hid (show Us W da x.data by rw [← HDA.out]; exact HXO.out.d.below (Nat.le_refl _) HB2.out)
  have HDN := Lib.hid (show da = none → dq = 0 by have := HXO.out.dn; rw [HDA.out, HDQ.out] at this; exact this)
  clear hi h0
  go_upto_region 20 with (refine wp_copy_us W (by rfl) (.const (.slice none 0 0)) (.tmp 96) rfl rfl rfl da dl dq rfl x.data HDL.out HXDW.out HDN.out (by omega) ?_; intro ao9 cp9 w9 ho9 hr9 hl9 hc9 hn9 hb9)
  clear a0 a3 n0 n1 d0 d2
  obtain ⟨gg, rfl, hg1, hg2, hg3⟩ := own_u_at ho9 (by omega) HDL.out
  obtain ⟨old, hold⟩ : ∃ z, x.data[i]? = some z := ⟨_, List.getElem?_eq_getElem (by have := HDL.out; omega)⟩
  obtain ⟨b8, o8, he8, _, cr⟩ := us_cell hr9 hold
  simp only [Option.some.injEq, Addr.mk.injEq, and_true] at he8
  obtain ⟨rfl, rfl⟩ := he8
  rw [Nat.zero_add] at cr
  have fr : w9.frozen? ⟨gg, i, none⟩ = false := own_u_fz ho9 HDL.out i
  obtain ⟨ho10, _⟩ := own_u_stored ho9 HDL.out i hil v
  have HO10 := Lib.hid ho10
  have HG9 := Lib.hid (HG2.out.below hb9)
  have HC9 := Lib.hid (HC2.out.below hb9)
  have HN9 := Lib.hid (HN.out.below hb9)
  have HZ9 := Lib.hid (HZ2.out.below hb9)
  have hl9s := hb9.size
  have c3 : w9.cell? ⟨w.heap.size + 1, 3, none⟩ = some (.int .i64 (i : Int)) := HC9.out.cell rfl
  have c6 : w9.cell? ⟨w.heap.size + 1, 6, none⟩ = some (.int .u64 (v : Int)) := HC9.out.cell rfl
  have HBX := Lib.hid ((bt HB2.out hb9).setCell (p := ⟨gg, i, none⟩) (by show w.heap.size ≤ gg; omega) (.int .u64 (v : Int)))
  have HBG := Lib.hid ((But.refl gg w9).set i (.int .u64 (v : Int)))
  have HAX := Lib.hid (((HA.out.both.below HBX.out)).imp (fun b hb => (Or.inl hb : (P b ∧ b < w.heap.size) ∨ W.heap.size ≤ b)))
  go_upto_region 21 with fail
  generalize w9.setCell ⟨gg, i, none⟩ (.int .u64 (v : Int)) = X at HO10 HBX HBG HAX ⊢
  have HGX := Lib.hid (HG9.out.but HBG.out (by omega))
  have HNX := Lib.hid (HN9.out.but HBG.out (by omega))
  have HZX := Lib.hid (HZ9.out.but HBG.out (by omega))
  have x0 : X.cell? ⟨w.heap.size, 0, none⟩ = some (.slice (some ⟨b2, o2, none⟩) n nq) := HGX.out.cell rfl
  have x1 : X.cell? ⟨w.heap.size, 1, none⟩ = some (.slice (some ⟨b1, o1, none⟩) m rq) := HGX.out.cell rfl
  have x2 : X.cell? ⟨V.heap.size, 0, none⟩ = some (.slice pa pl pq) := HNX.out.cell rfl
  have hsX := HBX.out.size
  have hXl := HZX.out.lt
  have hXW := HBG.out.1
  have HXok := Lib.hid (show NdV.ok X ⟨x.pa, x.pcap, x.ptrs, some ⟨gg, 0, none⟩, cp9, x.data.set i v⟩ from
    ⟨HXO.out.p.below (Nat.le_refl _) HBX.out, by
      obtain ⟨ao, cap, hv, hu, _⟩ := own_u_caps HO10.out
      simp only [Value.slice.injEq] at hv
      rw [hv.1]; exact hu, HXO.out.pl, by simp only [List.length_set]; have := HDL.out; omega, HXO.out.pc, hc9, HXO.out.pn, (fun h => by cases h), HXO.out.pb, (fun z hz => by
      rcases List.mem_or_eq_of_mem_set hz with hz | rfl
      · exact HXO.out.db z hz
      · exact hv)⟩)
  have HXpl := Lib.hid (show NdP (fun b => (P b ∧ b < w.heap.size) ∨ W.heap.size ≤ b) ⟨x.pa, x.pcap, x.ptrs, some ⟨gg, 0, none⟩, cp9, x.data.set i v⟩ from
    ⟨((HXP.out.p.and HXO.out.p.pl)).imp (fun b hb => Or.inl hb), fun _ => ⟨gg, 0, rfl, Or.inr hg1⟩⟩)
  clear hg3 cr fr hold ho9 ho10 hr9 hb9 c3 c6
  go_wp2_with fail
  refine (gTurnedX HAX.out hn1 k ⟨x.pa, x.pcap, x.ptrs, some ⟨gg, 0, none⟩, cp9, x.data.set i v⟩ hkn HXok.out HXpl.out pa (some ⟨gg, 0, none⟩) pl pq dl cp9 HPA.out HPL.out HPQ.out rfl (by simp only [List.length_set]; exact HDL.out) rfl).mono ?_
  rintro e w10 ⟨na9, nq9, rfl, hA9, hb10⟩
  have HZ10 := Lib.hid (HZX.out.below hb10)
  have HB10 := Lib.hid (bt HBX.out hb10)
  have HA10 := Lib.hid hA9
  clear hA9 hb10 x0 x1 x2
  go_wp2_with (refine wp_store_but rfl 25 (.tmp 5) (.tmp 110) rfl (w.heap.size + 1 + 1) _ [.slice na9 n nq9, .slice (some ⟨b1, o1, none⟩) m rq] rfl rfl _ HZ10.out rfl (by kernel_rfl) (by simp [Value.oneCell']) ?_; intro w5 hz5 hf5 hb5; have HZ5 := Lib.hid hz5; have HB5 := Lib.hid (hb5 _ _ (by omega) HB10.out); have HF5 := Lib.hid hf5; clear hz5 hb5 hf5)
  refine bodyPost_ret (res_mid3 rfl _ _ _ (w.heap.size + 1 + 1) _ rfl (load_two HZ5.out)) rfl ?_
  refine ⟨_, _, _, _, _, _, rfl, ?_, HB5.out⟩
  have h9 := (HA10.out.but (Z := w.heap.size + 1 + 1) (fun b hb => by omega) HF5.out).imp (Q := fun b => P b ∨ w.heap.size ≤ b) (fun b hb => by
    rcases hb with (⟨hb, _⟩ | hb) | hb
    · exact Or.inl hb
    · exact Or.inr (by omega)
    · exact Or.inr (by omega))
  rw [HGA.out, HND.out]
  unfold gturned NdV.nd
  rw [Int.toNat_natCast]
  exact h9
end Go.Proofs.Ytjoacfjbdpmgpaa.V
