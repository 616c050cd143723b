/-
  The document's own slot: the rows of an act's slots, walked.
-/
import Derived.Test.YtjoacfjbdpmgpaaGFresh
set_option linter.unusedVariables false
namespace Go.Proofs.Ytjoacfjbdpmgpaa.V
open Go.RowKit

theorem res_mid3 {fn : Func} {q p u : Tmp} {ty : TypeId} (h : fn.results = #[.tmp q, .cell p ty, .tmp u]) (tmps : Array Value) (P : Program) (w : World) (g : Nat) (r : Value)
    (hp : tmps.getD p undef = .pointer (some ⟨g, 0, none⟩)) (hr : (loadVar ty ⟨g, 0, none⟩).run P w = .ok r w) : (results fn tmps).run P w = .ok (.tuple #[tmps.getD q undef, r, tmps.getD u undef]) w := by
  have hp' : tmps[p]?.getD undef = .pointer (some ⟨g, 0, none⟩) := by simpa using hp
  simp [results, h, hp', asAddr, Result.andThen, hr]
theorem GAt.nil (P : Nat → Prop) (w : World) : GAt P w none 0 0 none 0 0 ⟨[], []⟩ :=
  ⟨[], rfl, rfl, rfl, Rw.nil _ _, (by simp), Rw.nil _ _, by omega, by omega, by omega, by omega, fun _ => rfl, fun _ => rfl, by simp, fun h => absurd rfl h, fun h => absurd rfl h, by simp⟩
/-- What an act answers, in memory. -/
def DoR (P : Nat → Prop) (w : World) (v : Nat) (x : Gr) (E : Int) (e : Ending) (w' : World) : Prop :=
  ∃ na' n' nq' ra' m' rq', e = .returned (.tuple #[.int .u64 (v : Int), .agg #[.slice na' n' nq', .slice ra' m' rq'], .int .i64 E]) ∧ GAt (fun b => P b ∨ w.heap.size ≤ b) w' na' n' nq' ra' m' rq' x ∧ Below w.heap.size w w'
theorem load_two {w : World} {b : Nat} {x y : Value} (h : Blk w b [x, y] 25) : (loadVar 25 ⟨b, 0, none⟩).run Try.prog w = .ok (.agg #[x, y]) w :=
  run_loadVar_mid _ _ _ _ [x, y] _ (fun j v hj => by rw [Nat.zero_add]; exact Blk.cell h hj) Try.underlying25 rfl (by kernel_rfl)

set_option maxRecDepth 100000 in
set_option maxHeartbeats 2000000 in
theorem gSlotNone {g : Gr} {na ra : Option Addr} {n nq m rq : Nat} {w : World} {P : Nat → Prop} (hA : GAt P w na n nq ra m rq g) (hg : gright g) (hn1 : n ≤ 1000000) (kd : Int) (r : Int) (s : Nat) (i sz pt : Int) (v : Nat) (hs : s < m) (h0 : gat g (s : Int) < 0) :
    Calls Try.prog 29 #[.agg #[.slice na n nq, .slice ra m rq], .agg #[.int .i64 kd, .int .i64 r, .int .i64 (s : Int), .int .i64 i, .int .i64 sz, .int .i64 pt, .int .u64 (v : Int)]] w (DoR P w 0 ⟨[], []⟩ 6) := by
  have HA := Lib.hid hA
  obtain ⟨p1, p2, p3, p4, p5, p6, p7, p8, p9, p10⟩ := hA.parts
  have hm16 : m ≤ 16 := by have := hg.1; omega
  obtain ⟨at', hat⟩ : ∃ a, g.roots[s]? = some a := ⟨_, List.getElem?_eq_getElem (by omega)⟩
  have hga : gat g (s : Int) = at' := by unfold gat; rw [Int.toNat_natCast, List.getD, hat]; rfl
  have HGA := Lib.hid hga
  obtain ⟨b1, o1, rfl, hb1, hc1⟩ := in_cells p3 hat
  have HH := Lib.hid hg
  clear hA hg p1 p2 p3 p8 p9 p10 hat hga
  have HB := Lib.hid (ba (ba (ba0 w (.cells #[.slice na n nq, .slice (some ⟨b1, o1, none⟩) m rq] 25)) (.cells #[.int .i64 kd, .int .i64 r, .int .i64 (s : Int), .int .i64 i, .int .i64 sz, .int .i64 pt, .int .u64 (v : Int)] 31)) (.cells #[.slice none 0 0, .slice none 0 0] 25))
  have HG : Hid (Blk (((w.alloc (.cells #[.slice na n nq, .slice (some ⟨b1, o1, none⟩) m rq] 25)).alloc (.cells #[.int .i64 kd, .int .i64 r, .int .i64 (s : Int), .int .i64 i, .int .i64 sz, .int .i64 pt, .int .u64 (v : Int)] 31)).alloc (.cells #[.slice none 0 0, .slice none 0 0] 25)) w.heap.size [.slice na n nq, .slice (some ⟨b1, o1, none⟩) m rq] 25) := Lib.hid (((Blk.new w [.slice na n nq, .slice (some ⟨b1, o1, none⟩) m rq] 25).below (ba0 _ _)).below (ba0 _ _))
  have HC : Hid (Blk (((w.alloc (.cells #[.slice na n nq, .slice (some ⟨b1, o1, none⟩) m rq] 25)).alloc (.cells #[.int .i64 kd, .int .i64 r, .int .i64 (s : Int), .int .i64 i, .int .i64 sz, .int .i64 pt, .int .u64 (v : Int)] 31)).alloc (.cells #[.slice none 0 0, .slice none 0 0] 25)) (w.heap.size + 1) [.int .i64 kd, .int .i64 r, .int .i64 (s : Int), .int .i64 i, .int .i64 sz, .int .i64 pt, .int .u64 (v : Int)] 31) := Lib.hid blk2
  have HZ : Hid (Blk (((w.alloc (.cells #[.slice na n nq, .slice (some ⟨b1, o1, none⟩) m rq] 25)).alloc (.cells #[.int .i64 kd, .int .i64 r, .int .i64 (s : Int), .int .i64 i, .int .i64 sz, .int .i64 pt, .int .u64 (v : Int)] 31)).alloc (.cells #[.slice none 0 0, .slice none 0 0] 25)) (w.heap.size + 1 + 1) [.slice none 0 0, .slice none 0 0] 25) := Lib.hid blk3
  go_enter Try.func29, Try.ntmps29
  go_upto_region 1 with fail
  generalize ((w.alloc (.cells #[.slice na n nq, .slice (some ⟨b1, o1, none⟩) m rq] 25)).alloc (.cells #[.int .i64 kd, .int .i64 r, .int .i64 (s : Int), .int .i64 i, .int .i64 sz, .int .i64 pt, .int .u64 (v : Int)] 31)).alloc (.cells #[.slice none 0 0, .slice none 0 0] 25) = V at HB HG HC HZ ⊢
  have hZl := HZ.out.lt
  have g0 : V.cell? ⟨w.heap.size, 0, none⟩ = some (.slice na n nq) := HG.out.cell rfl
  have g1 : V.cell? ⟨w.heap.size, 1, none⟩ = some (.slice (some ⟨b1, o1, none⟩) m rq) := HG.out.cell rfl
  have a0 : V.cell? ⟨w.heap.size + 1, 0, none⟩ = some (.int .i64 kd) := HC.out.cell rfl
  have a2 : V.cell? ⟨w.heap.size + 1, 2, none⟩ = some (.int .i64 (s : Int)) := HC.out.cell rfl
  have a3 : V.cell? ⟨w.heap.size + 1, 3, none⟩ = some (.int .i64 i) := HC.out.cell rfl
  have cs1 : V.cell? ⟨b1, o1 + s, none⟩ = some (.int .i64 at') := cellS HB.out hb1 hc1
  have hs1 : (s : Int) < (m : Int) := by omega
  clear hc1
  have d0 : decide (at' < 0) = true := by have := HGA.out; simp; omega
  clear h0
  go_wp2_with (refine wp_store_whole rfl 25 (.tmp 5) (.tmp 20) rfl (w.heap.size + 1 + 1) _ [.slice none 0 0, .slice none 0 0] rfl rfl _ HZ.out rfl (by kernel_rfl) (by simp [Value.oneCell']) ?_; intro w5 hz5 hf5 hb5; have HZ5 := Lib.hid hz5; have HB5 := Lib.hid (hb5 _ _ (by omega) HB.out); clear hz5 hb5 hf5)
  refine bodyPost_ret (res_mid3 rfl _ _ _ (w.heap.size + 1 + 1) _ rfl (load_two HZ5.out)) rfl ?_
  exact ⟨none, 0, 0, none, 0, 0, rfl, GAt.nil _ _, HB5.out⟩
set_option maxRecDepth 100000 in
set_option maxHeartbeats 2000000 in
theorem gSlotBad2 {g : Gr} {na ra : Option Addr} {n nq m rq : Nat} {w : World} {P : Nat → Prop} (hA : GAt P w na n nq ra m rq g) (hg : gright g) (hn1 : n ≤ 1000000) (r : Int) (s : Nat) (i sz pt : Int) (v : Nat) (hs : s < m) (h0 : 0 ≤ gat g (s : Int)) (hi : ¬ (0 ≤ i ∧ i < ((gnode g (s : Int)).ptrs.length : Int))) :
    Calls Try.prog 29 #[.agg #[.slice na n nq, .slice ra m rq], .agg #[.int .i64 2, .int .i64 r, .int .i64 (s : Int), .int .i64 i, .int .i64 sz, .int .i64 pt, .int .u64 (v : Int)]] w (DoR P w 0 ⟨[], []⟩ 1) := by
  have HA := Lib.hid hA
  obtain ⟨p1, p2, p3, p4, p5, p6, p7, p8, p9, p10⟩ := hA.parts
  have hm16 : m ≤ 16 := by have := hg.1; omega
  obtain ⟨at', hat⟩ : ∃ a, g.roots[s]? = some a := ⟨_, List.getElem?_eq_getElem (by omega)⟩
  have hga : gat g (s : Int) = at' := by unfold gat; rw [Int.toNat_natCast, List.getD, hat]; rfl
  have HGA := Lib.hid hga
  obtain ⟨b1, o1, rfl, hb1, hc1⟩ := in_cells p3 hat
  have HH := Lib.hid hg
  clear hA hg p1 p2 p3 p8 p9 p10 hat hga
  have HB := Lib.hid (ba (ba (ba0 w (.cells #[.slice na n nq, .slice (some ⟨b1, o1, none⟩) m rq] 25)) (.cells #[.int .i64 2, .int .i64 r, .int .i64 (s : Int), .int .i64 i, .int .i64 sz, .int .i64 pt, .int .u64 (v : Int)] 31)) (.cells #[.slice none 0 0, .slice none 0 0] 25))
  have HG : Hid (Blk (((w.alloc (.cells #[.slice na n nq, .slice (some ⟨b1, o1, none⟩) m rq] 25)).alloc (.cells #[.int .i64 2, .int .i64 r, .int .i64 (s : Int), .int .i64 i, .int .i64 sz, .int .i64 pt, .int .u64 (v : Int)] 31)).alloc (.cells #[.slice none 0 0, .slice none 0 0] 25)) w.heap.size [.slice na n nq, .slice (some ⟨b1, o1, none⟩) m rq] 25) := Lib.hid (((Blk.new w [.slice na n nq, .slice (some ⟨b1, o1, none⟩) m rq] 25).below (ba0 _ _)).below (ba0 _ _))
  have HC : Hid (Blk (((w.alloc (.cells #[.slice na n nq, .slice (some ⟨b1, o1, none⟩) m rq] 25)).alloc (.cells #[.int .i64 2, .int .i64 r, .int .i64 (s : Int), .int .i64 i, .int .i64 sz, .int .i64 pt, .int .u64 (v : Int)] 31)).alloc (.cells #[.slice none 0 0, .slice none 0 0] 25)) (w.heap.size + 1) [.int .i64 2, .int .i64 r, .int .i64 (s : Int), .int .i64 i, .int .i64 sz, .int .i64 pt, .int .u64 (v : Int)] 31) := Lib.hid blk2
  have HZ : Hid (Blk (((w.alloc (.cells #[.slice na n nq, .slice (some ⟨b1, o1, none⟩) m rq] 25)).alloc (.cells #[.int .i64 2, .int .i64 r, .int .i64 (s : Int), .int .i64 i, .int .i64 sz, .int .i64 pt, .int .u64 (v : Int)] 31)).alloc (.cells #[.slice none 0 0, .slice none 0 0] 25)) (w.heap.size + 1 + 1) [.slice none 0 0, .slice none 0 0] 25) := Lib.hid blk3
  go_enter Try.func29, Try.ntmps29
  go_upto_region 1 with fail
  generalize ((w.alloc (.cells #[.slice na n nq, .slice (some ⟨b1, o1, none⟩) m rq] 25)).alloc (.cells #[.int .i64 2, .int .i64 r, .int .i64 (s : Int), .int .i64 i, .int .i64 sz, .int .i64 pt, .int .u64 (v : Int)] 31)).alloc (.cells #[.slice none 0 0, .slice none 0 0] 25) = V at HB HG HC HZ ⊢
  have hZl := HZ.out.lt
  have g0 : V.cell? ⟨w.heap.size, 0, none⟩ = some (.slice na n nq) := HG.out.cell rfl
  have g1 : V.cell? ⟨w.heap.size, 1, none⟩ = some (.slice (some ⟨b1, o1, none⟩) m rq) := HG.out.cell rfl
  have a0 : V.cell? ⟨w.heap.size + 1, 0, none⟩ = some (.int .i64 2) := HC.out.cell rfl
  have a2 : V.cell? ⟨w.heap.size + 1, 2, none⟩ = some (.int .i64 (s : Int)) := HC.out.cell rfl
  have a3 : V.cell? ⟨w.heap.size + 1, 3, none⟩ = some (.int .i64 i) := HC.out.cell rfl
  have cs1 : V.cell? ⟨b1, o1 + s, none⟩ = some (.int .i64 at') := cellS HB.out hb1 hc1
  have hs1 : (s : Int) < (m : Int) := by omega
  clear hc1
  obtain ⟨k, rfl⟩ : ∃ k : Nat, at' = (k : Int) := ⟨at'.toNat, by have := HGA.out; omega⟩
  have d0 : decide ((k : Int) < 0) = false := by simp
  obtain ⟨nodes, k1, k2, k3, k4, k5, k6, k7, k8, k9, k10, k11, k12, k13, k14, k15, k16⟩ := HA.out
  have hkn : k < n := by
    have h1 := (gat_in HH.out (r := (s : Int)) ⟨by omega, by rw [k3]; omega⟩).2
    rw [HGA.out, ← k1, List.length_map, k2] at h1
    omega
  obtain ⟨x, hx, hxm⟩ := getq k2 hkn
  obtain ⟨b2, o2, rfl, hb2, x0, x1⟩ := nd_cells k4 hx
  have y0 := cellS HB.out hb2 x0
  have y1 := cellS HB.out hb2 x1
  have hnode : gnode g (s : Int) = x.nd := by
    unfold gnode
    rw [HGA.out, Int.toNat_natCast, ← k1, List.getD, List.getElem?_map, hx]; rfl
  have HND := Lib.hid hnode
  have HXO := Lib.hid (k5 x hxm)
  have HXP := Lib.hid (k16 x hxm)
  have HSZ := Lib.hid (HH.out.2.2 x.nd (by rw [← k1]; exact List.mem_map.2 ⟨x, hxm, rfl⟩))
  clear hnode k1 k2 k3 k4 k5 k6 k7 k8 k9 k10 k11 k12 k13 k14 k15 k16 hx hxm x0 x1 hb2
  obtain ⟨X, hX⟩ : ∃ X, X = x := ⟨_, rfl⟩
  have HX := Lib.hid hX
  clear hX
  obtain ⟨pl, hpl⟩ : ∃ pl, x.ptrs.length = pl := ⟨_, rfl⟩
  obtain ⟨dl, hdl⟩ : ∃ dl, x.data.length = dl := ⟨_, rfl⟩
  obtain ⟨pa, hpa⟩ : ∃ pa, x.pa = pa := ⟨_, rfl⟩
  obtain ⟨da, hda⟩ : ∃ da, x.da = da := ⟨_, rfl⟩
  obtain ⟨pq, hpq⟩ : ∃ pq, x.pcap = pq := ⟨_, rfl⟩
  obtain ⟨dq, hdq⟩ : ∃ dq, x.dcap = dq := ⟨_, rfl⟩
  rw [hpl, hpa, hpq] at y0
  rw [hdl, hda, hdq] at y1
  have HPL := Lib.hid hpl
  have HDL := Lib.hid hdl
  have HPA := Lib.hid hpa
  have HDA := Lib.hid hda
  have HPQ := Lib.hid hpq
  have HDQ := Lib.hid hdq
  have hsz : pl + dl ≤ 255 := by have := HSZ.out.1; simp only [NdV.nd] at this; omega
  clear hpl hdl hpa hda hpq hdq
  have hkn1 : (k : Int) < (n : Int) := by omega
  have HN : Hid (Blk (V.alloc (.cells #[.slice pa pl pq, .slice da dl dq] 36)) V.heap.size [.slice pa pl pq, .slice da dl dq] 36) := Lib.hid (Blk.new V _ _)
  have HV := Lib.hid (ba0 V (.cells #[.slice pa pl pq, .slice da dl dq] 36))
  have HB2 := Lib.hid (ba HB.out (.cells #[.slice pa pl pq, .slice da dl dq] 36))
  go_upto_region 5 with fail
  generalize V.alloc (.cells #[.slice pa pl pq, .slice da dl dq] 36) = W at HN HV HB2 ⊢
  have HZ2 := Lib.hid (HZ.out.below HV.out)
  have HC2 := Lib.hid (HC.out.below HV.out)
  have HG2 := Lib.hid (HG.out.below HV.out)
  clear g0 g1 a0 a2 a3 cs1 y0 y1
  have a0 : W.cell? ⟨w.heap.size + 1, 0, none⟩ = some (.int .i64 2) := HC2.out.cell rfl
  have a3 : W.cell? ⟨w.heap.size + 1, 3, none⟩ = some (.int .i64 i) := HC2.out.cell rfl
  have n0 : W.cell? ⟨V.heap.size, 0, none⟩ = some (.slice pa pl pq) := HN.out.cell rfl
  have n1 : W.cell? ⟨V.heap.size, 1, none⟩ = some (.slice da dl dq) := HN.out.cell rfl
  have hi2 : ¬ (0 ≤ i ∧ i < (pl : Int)) := by
    intro h
    apply hi
    rw [HND.out]
    show 0 ≤ i ∧ i < ((x.ptrs.length : Nat) : Int)
    rw [HPL.out]; exact h
  clear hi h0
  have HI := Lib.hid hi2
  clear hi2
  by_cases i0 : 0 ≤ i
  · have d1 : decide (i < 0) = false := by simp; omega
    have d2 : decide ((pl : Int) ≤ i) = true := by have := HI.out; simp; omega
    go_wp2_with (refine wp_store_whole rfl 25 (.tmp 5) (.tmp 49) rfl (w.heap.size + 1 + 1) _ [.slice none 0 0, .slice none 0 0] rfl rfl _ HZ2.out rfl (by kernel_rfl) (by simp [Value.oneCell']) ?_; intro w5 hz5 hf5 hb5; have HZ5 := Lib.hid hz5; have HB5 := Lib.hid (hb5 _ _ (by omega) HB2.out); clear hz5 hb5 hf5)
    refine bodyPost_ret (res_mid3 rfl _ _ _ (w.heap.size + 1 + 1) _ rfl (load_two HZ5.out)) rfl ?_
    exact ⟨none, 0, 0, none, 0, 0, rfl, GAt.nil _ _, HB5.out⟩
  · have d1 : decide (i < 0) = true := by simp; omega
    go_wp2_with (refine wp_store_whole rfl 25 (.tmp 5) (.tmp 49) rfl (w.heap.size + 1 + 1) _ [.slice none 0 0, .slice none 0 0] rfl rfl _ HZ2.out rfl (by kernel_rfl) (by simp [Value.oneCell']) ?_; intro w5 hz5 hf5 hb5; have HZ5 := Lib.hid hz5; have HB5 := Lib.hid (hb5 _ _ (by omega) HB2.out); clear hz5 hb5 hf5)
    refine bodyPost_ret (res_mid3 rfl _ _ _ (w.heap.size + 1 + 1) _ rfl (load_two HZ5.out)) rfl ?_
    exact ⟨none, 0, 0, none, 0, 0, rfl, GAt.nil _ _, HB5.out⟩
set_option maxRecDepth 100000 in
set_option maxHeartbeats 2000000 in
theorem gSlotBad4 {g : Gr} {na ra : Option Addr} {n nq m rq : Nat} {w : World} {P : Nat → Prop} (hA : GAt P w na n nq ra m rq g) (hg : gright g) (hn1 : n ≤ 1000000) (r : Int) (s : Nat) (i sz pt : Int) (v : Nat) (hs : s < m) (h0 : 0 ≤ gat g (s : Int)) (hi : ¬ (0 ≤ i ∧ i < ((gnode g (s : Int)).ptrs.length : Int))) :
    Calls Try.prog 29 #[.agg #[.slice na n nq, .slice ra m rq], .agg #[.int .i64 4, .int .i64 r, .int .i64 (s : Int), .int .i64 i, .int .i64 sz, .int .i64 pt, .int .u64 (v : Int)]] w (DoR P w 0 ⟨[], []⟩ 1) := by
  have HA := Lib.hid hA
  obtain ⟨p1, p2, p3, p4, p5, p6, p7, p8, p9, p10⟩ := hA.parts
  have hm16 : m ≤ 16 := by have := hg.1; omega
  obtain ⟨at', hat⟩ : ∃ a, g.roots[s]? = some a := ⟨_, List.getElem?_eq_getElem (by omega)⟩
  have hga : gat g (s : Int) = at' := by unfold gat; rw [Int.toNat_natCast, List.getD, hat]; rfl
  have HGA := Lib.hid hga
  obtain ⟨b1, o1, rfl, hb1, hc1⟩ := in_cells p3 hat
  have HH := Lib.hid hg
  clear hA hg p1 p2 p3 p8 p9 p10 hat hga
  have HB := Lib.hid (ba (ba (ba0 w (.cells #[.slice na n nq, .slice (some ⟨b1, o1, none⟩) m rq] 25)) (.cells #[.int .i64 4, .int .i64 r, .int .i64 (s : Int), .int .i64 i, .int .i64 sz, .int .i64 pt, .int .u64 (v : Int)] 31)) (.cells #[.slice none 0 0, .slice none 0 0] 25))
  have HG : Hid (Blk (((w.alloc (.cells #[.slice na n nq, .slice (some ⟨b1, o1, none⟩) m rq] 25)).alloc (.cells #[.int .i64 4, .int .i64 r, .int .i64 (s : Int), .int .i64 i, .int .i64 sz, .int .i64 pt, .int .u64 (v : Int)] 31)).alloc (.cells #[.slice none 0 0, .slice none 0 0] 25)) w.heap.size [.slice na n nq, .slice (some ⟨b1, o1, none⟩) m rq] 25) := Lib.hid (((Blk.new w [.slice na n nq, .slice (some ⟨b1, o1, none⟩) m rq] 25).below (ba0 _ _)).below (ba0 _ _))
  have HC : Hid (Blk (((w.alloc (.cells #[.slice na n nq, .slice (some ⟨b1, o1, none⟩) m rq] 25)).alloc (.cells #[.int .i64 4, .int .i64 r, .int .i64 (s : Int), .int .i64 i, .int .i64 sz, .int .i64 pt, .int .u64 (v : Int)] 31)).alloc (.cells #[.slice none 0 0, .slice none 0 0] 25)) (w.heap.size + 1) [.int .i64 4, .int .i64 r, .int .i64 (s : Int), .int .i64 i, .int .i64 sz, .int .i64 pt, .int .u64 (v : Int)] 31) := Lib.hid blk2
  have HZ : Hid (Blk (((w.alloc (.cells #[.slice na n nq, .slice (some ⟨b1, o1, none⟩) m rq] 25)).alloc (.cells #[.int .i64 4, .int .i64 r, .int .i64 (s : Int), .int .i64 i, .int .i64 sz, .int .i64 pt, .int .u64 (v : Int)] 31)).alloc (.cells #[.slice none 0 0, .slice none 0 0] 25)) (w.heap.size + 1 + 1) [.slice none 0 0, .slice none 0 0] 25) := Lib.hid blk3
  go_enter Try.func29, Try.ntmps29
  go_upto_region 1 with fail
  generalize ((w.alloc (.cells #[.slice na n nq, .slice (some ⟨b1, o1, none⟩) m rq] 25)).alloc (.cells #[.int .i64 4, .int .i64 r, .int .i64 (s : Int), .int .i64 i, .int .i64 sz, .int .i64 pt, .int .u64 (v : Int)] 31)).alloc (.cells #[.slice none 0 0, .slice none 0 0] 25) = V at HB HG HC HZ ⊢
  have hZl := HZ.out.lt
  have g0 : V.cell? ⟨w.heap.size, 0, none⟩ = some (.slice na n nq) := HG.out.cell rfl
  have g1 : V.cell? ⟨w.heap.size, 1, none⟩ = some (.slice (some ⟨b1, o1, none⟩) m rq) := HG.out.cell rfl
  have a0 : V.cell? ⟨w.heap.size + 1, 0, none⟩ = some (.int .i64 4) := HC.out.cell rfl
  have a2 : V.cell? ⟨w.heap.size + 1, 2, none⟩ = some (.int .i64 (s : Int)) := HC.out.cell rfl
  have a3 : V.cell? ⟨w.heap.size + 1, 3, none⟩ = some (.int .i64 i) := HC.out.cell rfl
  have cs1 : V.cell? ⟨b1, o1 + s, none⟩ = some (.int .i64 at') := cellS HB.out hb1 hc1
  have hs1 : (s : Int) < (m : Int) := by omega
  clear hc1
  obtain ⟨k, rfl⟩ : ∃ k : Nat, at' = (k : Int) := ⟨at'.toNat, by have := HGA.out; omega⟩
  have d0 : decide ((k : Int) < 0) = false := by simp
  obtain ⟨nodes, k1, k2, k3, k4, k5, k6, k7, k8, k9, k10, k11, k12, k13, k14, k15, k16⟩ := HA.out
  have hkn : k < n := by
    have h1 := (gat_in HH.out (r := (s : Int)) ⟨by omega, by rw [k3]; omega⟩).2
    rw [HGA.out, ← k1, List.length_map, k2] at h1
    omega
  obtain ⟨x, hx, hxm⟩ := getq k2 hkn
  obtain ⟨b2, o2, rfl, hb2, x0, x1⟩ := nd_cells k4 hx
  have y0 := cellS HB.out hb2 x0
  have y1 := cellS HB.out hb2 x1
  have hnode : gnode g (s : Int) = x.nd := by
    unfold gnode
    rw [HGA.out, Int.toNat_natCast, ← k1, List.getD, List.getElem?_map, hx]; rfl
  have HND := Lib.hid hnode
  have HXO := Lib.hid (k5 x hxm)
  have HXP := Lib.hid (k16 x hxm)
  have HSZ := Lib.hid (HH.out.2.2 x.nd (by rw [← k1]; exact List.mem_map.2 ⟨x, hxm, rfl⟩))
  clear hnode k1 k2 k3 k4 k5 k6 k7 k8 k9 k10 k11 k12 k13 k14 k15 k16 hx hxm x0 x1 hb2
  obtain ⟨X, hX⟩ : ∃ X, X = x := ⟨_, rfl⟩
  have HX := Lib.hid hX
  clear hX
  obtain ⟨pl, hpl⟩ : ∃ pl, x.ptrs.length = pl := ⟨_, rfl⟩
  obtain ⟨dl, hdl⟩ : ∃ dl, x.data.length = dl := ⟨_, rfl⟩
  obtain ⟨pa, hpa⟩ : ∃ pa, x.pa = pa := ⟨_, rfl⟩
  obtain ⟨da, hda⟩ : ∃ da, x.da = da := ⟨_, rfl⟩
  obtain ⟨pq, hpq⟩ : ∃ pq, x.pcap = pq := ⟨_, rfl⟩
  obtain ⟨dq, hdq⟩ : ∃ dq, x.dcap = dq := ⟨_, rfl⟩
  rw [hpl, hpa, hpq] at y0
  rw [hdl, hda, hdq] at y1
  have HPL := Lib.hid hpl
  have HDL := Lib.hid hdl
  have HPA := Lib.hid hpa
  have HDA := Lib.hid hda
  have HPQ := Lib.hid hpq
  have HDQ := Lib.hid hdq
  have hsz : pl + dl ≤ 255 := by have := HSZ.out.1; simp only [NdV.nd] at this; omega
  clear hpl hdl hpa hda hpq hdq
  have hkn1 : (k : Int) < (n : Int) := by omega
  have HN : Hid (Blk (V.alloc (.cells #[.slice pa pl pq, .slice da dl dq] 36)) V.heap.size [.slice pa pl pq, .slice da dl dq] 36) := Lib.hid (Blk.new V _ _)
  have HV := Lib.hid (ba0 V (.cells #[.slice pa pl pq, .slice da dl dq] 36))
  have HB2 := Lib.hid (ba HB.out (.cells #[.slice pa pl pq, .slice da dl dq] 36))
  go_upto_region 5 with fail
  generalize V.alloc (.cells #[.slice pa pl pq, .slice da dl dq] 36) = W at HN HV HB2 ⊢
  have HZ2 := Lib.hid (HZ.out.below HV.out)
  have HC2 := Lib.hid (HC.out.below HV.out)
  have HG2 := Lib.hid (HG.out.below HV.out)
  clear g0 g1 a0 a2 a3 cs1 y0 y1
  have a0 : W.cell? ⟨w.heap.size + 1, 0, none⟩ = some (.int .i64 4) := HC2.out.cell rfl
  have a3 : W.cell? ⟨w.heap.size + 1, 3, none⟩ = some (.int .i64 i) := HC2.out.cell rfl
  have n0 : W.cell? ⟨V.heap.size, 0, none⟩ = some (.slice pa pl pq) := HN.out.cell rfl
  have n1 : W.cell? ⟨V.heap.size, 1, none⟩ = some (.slice da dl dq) := HN.out.cell rfl
  have hi2 : ¬ (0 ≤ i ∧ i < (pl : Int)) := by
    intro h
    apply hi
    rw [HND.out]
    show 0 ≤ i ∧ i < ((x.ptrs.length : Nat) : Int)
    rw [HPL.out]; exact h
  clear hi h0
  have HI := Lib.hid hi2
  clear hi2
  by_cases i0 : 0 ≤ i
  · have d1 : decide (i < 0) = false := by simp; omega
    have d2 : decide ((pl : Int) ≤ i) = true := by have := HI.out; simp; omega
    go_wp2_with (refine wp_store_whole rfl 25 (.tmp 5) (.tmp 49) rfl (w.heap.size + 1 + 1) _ [.slice none 0 0, .slice none 0 0] rfl rfl _ HZ2.out rfl (by kernel_rfl) (by simp [Value.oneCell']) ?_; intro w5 hz5 hf5 hb5; have HZ5 := Lib.hid hz5; have HB5 := Lib.hid (hb5 _ _ (by omega) HB2.out); clear hz5 hb5 hf5)
    refine bodyPost_ret (res_mid3 rfl _ _ _ (w.heap.size + 1 + 1) _ rfl (load_two HZ5.out)) rfl ?_
    exact ⟨none, 0, 0, none, 0, 0, rfl, GAt.nil _ _, HB5.out⟩
  · have d1 : decide (i < 0) = true := by simp; omega
    go_wp2_with (refine wp_store_whole rfl 25 (.tmp 5) (.tmp 49) rfl (w.heap.size + 1 + 1) _ [.slice none 0 0, .slice none 0 0] rfl rfl _ HZ2.out rfl (by kernel_rfl) (by simp [Value.oneCell']) ?_; intro w5 hz5 hf5 hb5; have HZ5 := Lib.hid hz5; have HB5 := Lib.hid (hb5 _ _ (by omega) HB2.out); clear hz5 hb5 hf5)
    refine bodyPost_ret (res_mid3 rfl _ _ _ (w.heap.size + 1 + 1) _ rfl (load_two HZ5.out)) rfl ?_
    exact ⟨none, 0, 0, none, 0, 0, rfl, GAt.nil _ _, HB5.out⟩
set_option maxRecDepth 100000 in
set_option maxHeartbeats 2000000 in
theorem gSlotBad3 {g : Gr} {na ra : Option Addr} {n nq m rq : Nat} {w : World} {P : Nat → Prop} (hA : GAt P w na n nq ra m rq g) (hg : gright g) (hn1 : n ≤ 1000000) (r : Int) (s : Nat) (i sz pt : Int) (v : Nat) (hs : s < m) (h0 : 0 ≤ gat g (s : Int)) (hi : ¬ (0 ≤ i ∧ i < ((gnode g (s : Int)).data.length : Int))) :
    Calls Try.prog 29 #[.agg #[.slice na n nq, .slice ra m rq], .agg #[.int .i64 3, .int .i64 r, .int .i64 (s : Int), .int .i64 i, .int .i64 sz, .int .i64 pt, .int .u64 (v : Int)]] w (DoR P w 0 ⟨[], []⟩ 1) := by
  have HA := Lib.hid hA
  obtain ⟨p1, p2, p3, p4, p5, p6, p7, p8, p9, p10⟩ := hA.parts
  have hm16 : m ≤ 16 := by have := hg.1; omega
  obtain ⟨at', hat⟩ : ∃ a, g.roots[s]? = some a := ⟨_, List.getElem?_eq_getElem (by omega)⟩
  have hga : gat g (s : Int) = at' := by unfold gat; rw [Int.toNat_natCast, List.getD, hat]; rfl
  have HGA := Lib.hid hga
  obtain ⟨b1, o1, rfl, hb1, hc1⟩ := in_cells p3 hat
  have HH := Lib.hid hg
  clear hA hg p1 p2 p3 p8 p9 p10 hat hga
  have HB := Lib.hid (ba (ba (ba0 w (.cells #[.slice na n nq, .slice (some ⟨b1, o1, none⟩) m rq] 25)) (.cells #[.int .i64 3, .int .i64 r, .int .i64 (s : Int), .int .i64 i, .int .i64 sz, .int .i64 pt, .int .u64 (v : Int)] 31)) (.cells #[.slice none 0 0, .slice none 0 0] 25))
  have HG : Hid (Blk (((w.alloc (.cells #[.slice na n nq, .slice (some ⟨b1, o1, none⟩) m rq] 25)).alloc (.cells #[.int .i64 3, .int .i64 r, .int .i64 (s : Int), .int .i64 i, .int .i64 sz, .int .i64 pt, .int .u64 (v : Int)] 31)).alloc (.cells #[.slice none 0 0, .slice none 0 0] 25)) w.heap.size [.slice na n nq, .slice (some ⟨b1, o1, none⟩) m rq] 25) := Lib.hid (((Blk.new w [.slice na n nq, .slice (some ⟨b1, o1, none⟩) m rq] 25).below (ba0 _ _)).below (ba0 _ _))
  have HC : Hid (Blk (((w.alloc (.cells #[.slice na n nq, .slice (some ⟨b1, o1, none⟩) m rq] 25)).alloc (.cells #[.int .i64 3, .int .i64 r, .int .i64 (s : Int), .int .i64 i, .int .i64 sz, .int .i64 pt, .int .u64 (v : Int)] 31)).alloc (.cells #[.slice none 0 0, .slice none 0 0] 25)) (w.heap.size + 1) [.int .i64 3, .int .i64 r, .int .i64 (s : Int), .int .i64 i, .int .i64 sz, .int .i64 pt, .int .u64 (v : Int)] 31) := Lib.hid blk2
  have HZ : Hid (Blk (((w.alloc (.cells #[.slice na n nq, .slice (some ⟨b1, o1, none⟩) m rq] 25)).alloc (.cells #[.int .i64 3, .int .i64 r, .int .i64 (s : Int), .int .i64 i, .int .i64 sz, .int .i64 pt, .int .u64 (v : Int)] 31)).alloc (.cells #[.slice none 0 0, .slice none 0 0] 25)) (w.heap.size + 1 + 1) [.slice none 0 0, .slice none 0 0] 25) := Lib.hid blk3
  go_enter Try.func29, Try.ntmps29
  go_upto_region 1 with fail
  generalize ((w.alloc (.cells #[.slice na n nq, .slice (some ⟨b1, o1, none⟩) m rq] 25)).alloc (.cells #[.int .i64 3, .int .i64 r, .int .i64 (s : Int), .int .i64 i, .int .i64 sz, .int .i64 pt, .int .u64 (v : Int)] 31)).alloc (.cells #[.slice none 0 0, .slice none 0 0] 25) = V at HB HG HC HZ ⊢
  have hZl := HZ.out.lt
  have g0 : V.cell? ⟨w.heap.size, 0, none⟩ = some (.slice na n nq) := HG.out.cell rfl
  have g1 : V.cell? ⟨w.heap.size, 1, none⟩ = some (.slice (some ⟨b1, o1, none⟩) m rq) := HG.out.cell rfl
  have a0 : V.cell? ⟨w.heap.size + 1, 0, none⟩ = some (.int .i64 3) := HC.out.cell rfl
  have a2 : V.cell? ⟨w.heap.size + 1, 2, none⟩ = some (.int .i64 (s : Int)) := HC.out.cell rfl
  have a3 : V.cell? ⟨w.heap.size + 1, 3, none⟩ = some (.int .i64 i) := HC.out.cell rfl
  have cs1 : V.cell? ⟨b1, o1 + s, none⟩ = some (.int .i64 at') := cellS HB.out hb1 hc1
  have hs1 : (s : Int) < (m : Int) := by omega
  clear hc1
  obtain ⟨k, rfl⟩ : ∃ k : Nat, at' = (k : Int) := ⟨at'.toNat, by have := HGA.out; omega⟩
  have d0 : decide ((k : Int) < 0) = false := by simp
  obtain ⟨nodes, k1, k2, k3, k4, k5, k6, k7, k8, k9, k10, k11, k12, k13, k14, k15, k16⟩ := HA.out
  have hkn : k < n := by
    have h1 := (gat_in HH.out (r := (s : Int)) ⟨by omega, by rw [k3]; omega⟩).2
    rw [HGA.out, ← k1, List.length_map, k2] at h1
    omega
  obtain ⟨x, hx, hxm⟩ := getq k2 hkn
  obtain ⟨b2, o2, rfl, hb2, x0, x1⟩ := nd_cells k4 hx
  have y0 := cellS HB.out hb2 x0
  have y1 := cellS HB.out hb2 x1
  have hnode : gnode g (s : Int) = x.nd := by
    unfold gnode
    rw [HGA.out, Int.toNat_natCast, ← k1, List.getD, List.getElem?_map, hx]; rfl
  have HND := Lib.hid hnode
  have HXO := Lib.hid (k5 x hxm)
  have HXP := Lib.hid (k16 x hxm)
  have HSZ := Lib.hid (HH.out.2.2 x.nd (by rw [← k1]; exact List.mem_map.2 ⟨x, hxm, rfl⟩))
  clear hnode k1 k2 k3 k4 k5 k6 k7 k8 k9 k10 k11 k12 k13 k14 k15 k16 hx hxm x0 x1 hb2
  obtain ⟨X, hX⟩ : ∃ X, X = x := ⟨_, rfl⟩
  have HX := Lib.hid hX
  clear hX
  obtain ⟨pl, hpl⟩ : ∃ pl, x.ptrs.length = pl := ⟨_, rfl⟩
  obtain ⟨dl, hdl⟩ : ∃ dl, x.data.length = dl := ⟨_, rfl⟩
  obtain ⟨pa, hpa⟩ : ∃ pa, x.pa = pa := ⟨_, rfl⟩
  obtain ⟨da, hda⟩ : ∃ da, x.da = da := ⟨_, rfl⟩
  obtain ⟨pq, hpq⟩ : ∃ pq, x.pcap = pq := ⟨_, rfl⟩
  obtain ⟨dq, hdq⟩ : ∃ dq, x.dcap = dq := ⟨_, rfl⟩
  rw [hpl, hpa, hpq] at y0
  rw [hdl, hda, hdq] at y1
  have HPL := Lib.hid hpl
  have HDL := Lib.hid hdl
  have HPA := Lib.hid hpa
  have HDA := Lib.hid hda
  have HPQ := Lib.hid hpq
  have HDQ := Lib.hid hdq
  have hsz : pl + dl ≤ 255 := by have := HSZ.out.1; simp only [NdV.nd] at this; omega
  clear hpl hdl hpa hda hpq hdq
  have hkn1 : (k : Int) < (n : Int) := by omega
  have HN : Hid (Blk (V.alloc (.cells #[.slice pa pl pq, .slice da dl dq] 36)) V.heap.size [.slice pa pl pq, .slice da dl dq] 36) := Lib.hid (Blk.new V _ _)
  have HV := Lib.hid (ba0 V (.cells #[.slice pa pl pq, .slice da dl dq] 36))
  have HB2 := Lib.hid (ba HB.out (.cells #[.slice pa pl pq, .slice da dl dq] 36))
  go_upto_region 5 with fail
  generalize V.alloc (.cells #[.slice pa pl pq, .slice da dl dq] 36) = W at HN HV HB2 ⊢
  have HZ2 := Lib.hid (HZ.out.below HV.out)
  have HC2 := Lib.hid (HC.out.below HV.out)
  have HG2 := Lib.hid (HG.out.below HV.out)
  clear g0 g1 a0 a2 a3 cs1 y0 y1
  have a0 : W.cell? ⟨w.heap.size + 1, 0, none⟩ = some (.int .i64 3) := HC2.out.cell rfl
  have a3 : W.cell? ⟨w.heap.size + 1, 3, none⟩ = some (.int .i64 i) := HC2.out.cell rfl
  have n0 : W.cell? ⟨V.heap.size, 0, none⟩ = some (.slice pa pl pq) := HN.out.cell rfl
  have n1 : W.cell? ⟨V.heap.size, 1, none⟩ = some (.slice da dl dq) := HN.out.cell rfl
  have hi2 : ¬ (0 ≤ i ∧ i < (dl : Int)) := by
    intro h
    apply hi
    rw [HND.out]
    show 0 ≤ i ∧ i < ((x.data.length : Nat) : Int)
    rw [HDL.out]; exact h
  clear hi h0
  have HI := Lib.hid hi2
  clear hi2
  by_cases i0 : 0 ≤ i
  · have d1 : decide (i < 0) = false := by simp; omega
    have d2 : decide ((dl : Int) ≤ i) = true := by have := HI.out; simp; omega
    go_wp2_with (refine wp_store_whole rfl 25 (.tmp 5) (.tmp 49) rfl (w.heap.size + 1 + 1) _ [.slice none 0 0, .slice none 0 0] rfl rfl _ HZ2.out rfl (by kernel_rfl) (by simp [Value.oneCell']) ?_; intro w5 hz5 hf5 hb5; have HZ5 := Lib.hid hz5; have HB5 := Lib.hid (hb5 _ _ (by omega) HB2.out); clear hz5 hb5 hf5)
    refine bodyPost_ret (res_mid3 rfl _ _ _ (w.heap.size + 1 + 1) _ rfl (load_two HZ5.out)) rfl ?_
    exact ⟨none, 0, 0, none, 0, 0, rfl, GAt.nil _ _, HB5.out⟩
  · have d1 : decide (i < 0) = true := by simp; omega
    go_wp2_with (refine wp_store_whole rfl 25 (.tmp 5) (.tmp 49) rfl (w.heap.size + 1 + 1) _ [.slice none 0 0, .slice none 0 0] rfl rfl _ HZ2.out rfl (by kernel_rfl) (by simp [Value.oneCell']) ?_; intro w5 hz5 hf5 hb5; have HZ5 := Lib.hid hz5; have HB5 := Lib.hid (hb5 _ _ (by omega) HB2.out); clear hz5 hb5 hf5)
    refine bodyPost_ret (res_mid3 rfl _ _ _ (w.heap.size + 1 + 1) _ rfl (load_two HZ5.out)) rfl ?_
    exact ⟨none, 0, 0, none, 0, 0, rfl, GAt.nil _ _, HB5.out⟩
set_option maxRecDepth 100000 in
set_option maxHeartbeats 2000000 in
theorem gSlotBad5 {g : Gr} {na ra : Option Addr} {n nq m rq : Nat} {w : World} {P : Nat → Prop} (hA : GAt P w na n nq ra m rq g) (hg : gright g) (hn1 : n ≤ 1000000) (r : Int) (s : Nat) (i sz pt : Int) (v : Nat) (hs : s < m) (h0 : 0 ≤ gat g (s : Int)) (hi : ¬ (0 ≤ i ∧ i < ((gnode g (s : Int)).data.length : Int))) :
    Calls Try.prog 29 #[.agg #[.slice na n nq, .slice ra m rq], .agg #[.int .i64 5, .int .i64 r, .int .i64 (s : Int), .int .i64 i, .int .i64 sz, .int .i64 pt, .int .u64 (v : Int)]] w (DoR P w 0 ⟨[], []⟩ 1) := by
  have HA := Lib.hid hA
  obtain ⟨p1, p2, p3, p4, p5, p6, p7, p8, p9, p10⟩ := hA.parts
  have hm16 : m ≤ 16 := by have := hg.1; omega
  obtain ⟨at', hat⟩ : ∃ a, g.roots[s]? = some a := ⟨_, List.getElem?_eq_getElem (by omega)⟩
  have hga : gat g (s : Int) = at' := by unfold gat; rw [Int.toNat_natCast, List.getD, hat]; rfl
  have HGA := Lib.hid hga
  obtain ⟨b1, o1, rfl, hb1, hc1⟩ := in_cells p3 hat
  have HH := Lib.hid hg
  clear hA hg p1 p2 p3 p8 p9 p10 hat hga
  have HB := Lib.hid (ba (ba (ba0 w (.cells #[.slice na n nq, .slice (some ⟨b1, o1, none⟩) m rq] 25)) (.cells #[.int .i64 5, .int .i64 r, .int .i64 (s : Int), .int .i64 i, .int .i64 sz, .int .i64 pt, .int .u64 (v : Int)] 31)) (.cells #[.slice none 0 0, .slice none 0 0] 25))
  have HG : Hid (Blk (((w.alloc (.cells #[.slice na n nq, .slice (some ⟨b1, o1, none⟩) m rq] 25)).alloc (.cells #[.int .i64 5, .int .i64 r, .int .i64 (s : Int), .int .i64 i, .int .i64 sz, .int .i64 pt, .int .u64 (v : Int)] 31)).alloc (.cells #[.slice none 0 0, .slice none 0 0] 25)) w.heap.size [.slice na n nq, .slice (some ⟨b1, o1, none⟩) m rq] 25) := Lib.hid (((Blk.new w [.slice na n nq, .slice (some ⟨b1, o1, none⟩) m rq] 25).below (ba0 _ _)).below (ba0 _ _))
  have HC : Hid (Blk (((w.alloc (.cells #[.slice na n nq, .slice (some ⟨b1, o1, none⟩) m rq] 25)).alloc (.cells #[.int .i64 5, .int .i64 r, .int .i64 (s : Int), .int .i64 i, .int .i64 sz, .int .i64 pt, .int .u64 (v : Int)] 31)).alloc (.cells #[.slice none 0 0, .slice none 0 0] 25)) (w.heap.size + 1) [.int .i64 5, .int .i64 r, .int .i64 (s : Int), .int .i64 i, .int .i64 sz, .int .i64 pt, .int .u64 (v : Int)] 31) := Lib.hid blk2
  have HZ : Hid (Blk (((w.alloc (.cells #[.slice na n nq, .slice (some ⟨b1, o1, none⟩) m rq] 25)).alloc (.cells #[.int .i64 5, .int .i64 r, .int .i64 (s : Int), .int .i64 i, .int .i64 sz, .int .i64 pt, .int .u64 (v : Int)] 31)).alloc (.cells #[.slice none 0 0, .slice none 0 0] 25)) (w.heap.size + 1 + 1) [.slice none 0 0, .slice none 0 0] 25) := Lib.hid blk3
  go_enter Try.func29, Try.ntmps29
  go_upto_region 1 with fail
  generalize ((w.alloc (.cells #[.slice na n nq, .slice (some ⟨b1, o1, none⟩) m rq] 25)).alloc (.cells #[.int .i64 5, .int .i64 r, .int .i64 (s : Int), .int .i64 i, .int .i64 sz, .int .i64 pt, .int .u64 (v : Int)] 31)).alloc (.cells #[.slice none 0 0, .slice none 0 0] 25) = V at HB HG HC HZ ⊢
  have hZl := HZ.out.lt
  have g0 : V.cell? ⟨w.heap.size, 0, none⟩ = some (.slice na n nq) := HG.out.cell rfl
  have g1 : V.cell? ⟨w.heap.size, 1, none⟩ = some (.slice (some ⟨b1, o1, none⟩) m rq) := HG.out.cell rfl
  have a0 : V.cell? ⟨w.heap.size + 1, 0, none⟩ = some (.int .i64 5) := HC.out.cell rfl
  have a2 : V.cell? ⟨w.heap.size + 1, 2, none⟩ = some (.int .i64 (s : Int)) := HC.out.cell rfl
  have a3 : V.cell? ⟨w.heap.size + 1, 3, none⟩ = some (.int .i64 i) := HC.out.cell rfl
  have cs1 : V.cell? ⟨b1, o1 + s, none⟩ = some (.int .i64 at') := cellS HB.out hb1 hc1
  have hs1 : (s : Int) < (m : Int) := by omega
  clear hc1
  obtain ⟨k, rfl⟩ : ∃ k : Nat, at' = (k : Int) := ⟨at'.toNat, by have := HGA.out; omega⟩
  have d0 : decide ((k : Int) < 0) = false := by simp
  obtain ⟨nodes, k1, k2, k3, k4, k5, k6, k7, k8, k9, k10, k11, k12, k13, k14, k15, k16⟩ := HA.out
  have hkn : k < n := by
    have h1 := (gat_in HH.out (r := (s : Int)) ⟨by omega, by rw [k3]; omega⟩).2
    rw [HGA.out, ← k1, List.length_map, k2] at h1
    omega
  obtain ⟨x, hx, hxm⟩ := getq k2 hkn
  obtain ⟨b2, o2, rfl, hb2, x0, x1⟩ := nd_cells k4 hx
  have y0 := cellS HB.out hb2 x0
  have y1 := cellS HB.out hb2 x1
  have hnode : gnode g (s : Int) = x.nd := by
    unfold gnode
    rw [HGA.out, Int.toNat_natCast, ← k1, List.getD, List.getElem?_map, hx]; rfl
  have HND := Lib.hid hnode
  have HXO := Lib.hid (k5 x hxm)
  have HXP := Lib.hid (k16 x hxm)
  have HSZ := Lib.hid (HH.out.2.2 x.nd (by rw [← k1]; exact List.mem_map.2 ⟨x, hxm, rfl⟩))
  clear hnode k1 k2 k3 k4 k5 k6 k7 k8 k9 k10 k11 k12 k13 k14 k15 k16 hx hxm x0 x1 hb2
  obtain ⟨X, hX⟩ : ∃ X, X = x := ⟨_, rfl⟩
  have HX := Lib.hid hX
  clear hX
  obtain ⟨pl, hpl⟩ : ∃ pl, x.ptrs.length = pl := ⟨_, rfl⟩
  obtain ⟨dl, hdl⟩ : ∃ dl, x.data.length = dl := ⟨_, rfl⟩
  obtain ⟨pa, hpa⟩ : ∃ pa, x.pa = pa := ⟨_, rfl⟩
  obtain ⟨da, hda⟩ : ∃ da, x.da = da := ⟨_, rfl⟩
  obtain ⟨pq, hpq⟩ : ∃ pq, x.pcap = pq := ⟨_, rfl⟩
  obtain ⟨dq, hdq⟩ : ∃ dq, x.dcap = dq := ⟨_, rfl⟩
  rw [hpl, hpa, hpq] at y0
  rw [hdl, hda, hdq] at y1
  have HPL := Lib.hid hpl
  have HDL := Lib.hid hdl
  have HPA := Lib.hid hpa
  have HDA := Lib.hid hda
  have HPQ := Lib.hid hpq
  have HDQ := Lib.hid hdq
  have hsz : pl + dl ≤ 255 := by have := HSZ.out.1; simp only [NdV.nd] at this; omega
  clear hpl hdl hpa hda hpq hdq
  have hkn1 : (k : Int) < (n : Int) := by omega
  have HN : Hid (Blk (V.alloc (.cells #[.slice pa pl pq, .slice da dl dq] 36)) V.heap.size [.slice pa pl pq, .slice da dl dq] 36) := Lib.hid (Blk.new V _ _)
  have HV := Lib.hid (ba0 V (.cells #[.slice pa pl pq, .slice da dl dq] 36))
  have HB2 := Lib.hid (ba HB.out (.cells #[.slice pa pl pq, .slice da dl dq] 36))
  go_upto_region 5 with fail
  generalize V.alloc (.cells #[.slice pa pl pq, .slice da dl dq] 36) = W at HN HV HB2 ⊢
  have HZ2 := Lib.hid (HZ.out.below HV.out)
  have HC2 := Lib.hid (HC.out.below HV.out)
  have HG2 := Lib.hid (HG.out.below HV.out)
  clear g0 g1 a0 a2 a3 cs1 y0 y1
  have a0 : W.cell? ⟨w.heap.size + 1, 0, none⟩ = some (.int .i64 5) := HC2.out.cell rfl
  have a3 : W.cell? ⟨w.heap.size + 1, 3, none⟩ = some (.int .i64 i) := HC2.out.cell rfl
  have n0 : W.cell? ⟨V.heap.size, 0, none⟩ = some (.slice pa pl pq) := HN.out.cell rfl
  have n1 : W.cell? ⟨V.heap.size, 1, none⟩ = some (.slice da dl dq) := HN.out.cell rfl
  have hi2 : ¬ (0 ≤ i ∧ i < (dl : Int)) := by
    intro h
    apply hi
    rw [HND.out]
    show 0 ≤ i ∧ i < ((x.data.length : Nat) : Int)
    rw [HDL.out]; exact h
  clear hi h0
  have HI := Lib.hid hi2
  clear hi2
  by_cases i0 : 0 ≤ i
  · have d1 : decide (i < 0) = false := by simp; omega
    have d2 : decide ((dl : Int) ≤ i) = true := by have := HI.out; simp; omega
    go_wp2_with (refine wp_store_whole rfl 25 (.tmp 5) (.tmp 49) rfl (w.heap.size + 1 + 1) _ [.slice none 0 0, .slice none 0 0] rfl rfl _ HZ2.out rfl (by kernel_rfl) (by simp [Value.oneCell']) ?_; intro w5 hz5 hf5 hb5; have HZ5 := Lib.hid hz5; have HB5 := Lib.hid (hb5 _ _ (by omega) HB2.out); clear hz5 hb5 hf5)
    refine bodyPost_ret (res_mid3 rfl _ _ _ (w.heap.size + 1 + 1) _ rfl (load_two HZ5.out)) rfl ?_
    exact ⟨none, 0, 0, none, 0, 0, rfl, GAt.nil _ _, HB5.out⟩
  · have d1 : decide (i < 0) = true := by simp; omega
    go_wp2_with (refine wp_store_whole rfl 25 (.tmp 5) (.tmp 49) rfl (w.heap.size + 1 + 1) _ [.slice none 0 0, .slice none 0 0] rfl rfl _ HZ2.out rfl (by kernel_rfl) (by simp [Value.oneCell']) ?_; intro w5 hz5 hf5 hb5; have HZ5 := Lib.hid hz5; have HB5 := Lib.hid (hb5 _ _ (by omega) HB2.out); clear hz5 hb5 hf5)
    refine bodyPost_ret (res_mid3 rfl _ _ _ (w.heap.size + 1 + 1) _ rfl (load_two HZ5.out)) rfl ?_
    exact ⟨none, 0, 0, none, 0, 0, rfl, GAt.nil _ _, HB5.out⟩
end Go.Proofs.Ytjoacfjbdpmgpaa.V
