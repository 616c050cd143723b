/-
  GraphTells, walked under what is asked of the program's functions.
-/
import Derived.Test.YtjoacfjbdpmgpaaGRunsW
import Derived.Test.YtjoacfjbdpmgpaaGProg9
import Derived.Deep.CutBlock
set_option linter.unusedVariables false
namespace Go.Proofs.Ytjoacfjbdpmgpaa.V
open Go.RowKit

def cutNd (x : NdV) : NdV := ⟨x.pa, x.pcap, x.ptrs.take 6, x.da, x.dcap, x.data.take 6⟩
theorem cutNd_ok {w : World} {x : NdV} (h : x.ok w) : (cutNd x).ok w :=
  ⟨h.p.take 6, h.d.take 6, by have := h.pl; simp only [cutNd, List.length_take]; omega, by have := h.dl; simp only [cutNd, List.length_take]; omega, h.pc, h.dc, h.pn, h.dn, fun p hp => h.pb p (List.mem_of_mem_take hp), fun v hv => h.db v (List.mem_of_mem_take hv)⟩
theorem few_sm (nodes : List NdV) (roots : List Int) (k m : Nat) (hk : k ≤ 6) (hm : m ≤ 20) : gsm ⟨((nodes.map cutNd).take k).map NdV.nd, roots.take m⟩ := by
  refine ⟨by simp only [List.length_map, List.length_take]; omega, by simp only [List.length_take]; omega, fun x hx => ?_⟩
  obtain ⟨y, hy, rfl⟩ := List.mem_map.1 hx
  obtain ⟨z, hz, rfl⟩ := List.mem_map.1 (List.mem_of_mem_take hy)
  simp only [NdV.nd, cutNd, List.length_take]
  omega
theorem do_gsm {g x : Gr} {A : Ac} {v : Nat} {E : Int} (hn : g.nodes.length ≤ 1000) (hd : gdo g A = (v, x, E)) : gsm x := by
  have h := gdo_err g A
  rw [hd] at h
  rcases h with h | ⟨_, h, _⟩
  · dsimp only at h
    subst h
    by_cases hg : gright g
    · exact (do_small hg hn hd).2.1
    · rw [gdo_bad (fun hh => hg hh.1)] at hd; simp at hd
  · dsimp only at h
    subst h
    exact ⟨by simp, by simp, by simp⟩
/-- The load of a part of a variable at a step of a region that draws its order. -/
theorem wpQ_load_off {ops : Array Oper} {C : World → Prop} {Q : Act → Prop} {rest : List Oper} {o : Oper} {a : Act} (hw : Region.wanted o (yielded ops a.tmps) = true) (ty : TypeId) (x : Operand) (ho : o.op = .load ty x)
    (g off : Nat) (hx : a.eval x = .pointer (some ⟨g, off, none⟩)) (cs : List Value) (d : TypeDesc) (hl : ∀ w, C w → ∀ j v, cs[j]? = some v → w.cell? ⟨g, off + j, none⟩ = some v) (hu : Try.prog.underlying ty = some d) (hd : d.isRow = true) (hi : (Try.prog.info? ty).map (·.size) = some cs.length)
    (h : wpQuiet Try.prog ops C Q rest (a.put o.dst (.agg cs.toArray))) : wpQuiet Try.prog ops C Q (o :: rest) a := by
  refine BigFrame.wpQuiet_want hw fun K hK => ⟨_, fun w hc => ?_, hK _ h⟩
  unfold Oper.quietAt execOp
  simp only [ho, hx, Sem.run_bind, run_loadAt_mid w g off ty cs d (hl w hc) hu hd hi, Result.andThen_ok, Sem.run_pure]
  exact ⟨rfl, rfl⟩
set_option maxRecDepth 100000 in
set_option maxHeartbeats 4000000 in
theorem graphTells_try (C : GrC) (oa sa : Option Addr) (N oq M sq : Nat) (odd : List NdV) (sroots : List Int) (lo ro : Option Addr) (ln lc rn rc : Nat) (raws : List NdV) (roots : List Int) (a : Ac) (p : I5) (v : Nat) (w : World)
    (hN : odd.length = N) (hM : sroots.length = M) (hOR : Rw nc 2 w oa odd) (hOK : ∀ x ∈ odd, x.ok w) (hSR : Rw ic 1 w sa sroots) (hSB : ∀ p ∈ sroots, ib p) (hNq : N ≤ oq) (hoq : oq ≤ 9223372036854775807) (hon : oa = none → oq = 0) (hMq : M ≤ sq) (hsq : sq ≤ 9223372036854775807) (hsn : sa = none → sq = 0)
    (hln : raws.length = ln) (hrn : roots.length = rn) (hlm : ln ≤ lc) (hlc : lc ≤ 9223372036854775807) (hrm : rn ≤ rc) (hrc : rc ≤ 9223372036854775807)
    (hL : Rw nc 2 w lo raws) (hK : ∀ x ∈ raws, x.ok w) (hR : Rw ic 1 w ro roots) (hRb : ∀ p ∈ roots, ib p) (hab : ib a.kind ∧ ib a.r ∧ ib a.s ∧ ib a.i ∧ ib a.size ∧ ib a.ptrs) (hav : a.v < 2 ^ 64) (hp : p.ok) (hv : v < 2 ^ 64) :
    Calls Try.prog 3 #[.agg #[.slice oa N oq, .slice sa M sq], .slice lo ln lc, .slice ro rn rc, .agg #[.int .i64 a.kind, .int .i64 a.r, .int .i64 a.s, .int .i64 a.i, .int .i64 a.size, .int .i64 a.ptrs, .int .u64 (a.v : Int)], .agg #[.int .i64 p.n0, .int .i64 p.n1, .int .i64 p.n2, .int .i64 p.n3, .int .i64 p.n4], .int .u64 (v : Int)] w fun e w' => e = .returned (.bool true) ∧ Below w.heap.size w w' := by
  have HB0 : Hid (Below w.heap.size w (((w.alloc (.cells #[.slice oa N oq, .slice sa M sq] 25)).alloc (.cells #[.int .i64 a.kind, .int .i64 a.r, .int .i64 a.s, .int .i64 a.i, .int .i64 a.size, .int .i64 a.ptrs, .int .u64 (a.v : Int)] 31)).alloc (.cells #[.int .i64 p.n0, .int .i64 p.n1, .int .i64 p.n2, .int .i64 p.n3, .int .i64 p.n4] 32))) := Lib.hid (ba (ba (ba0 w _) _) _)
  have HG0 : Hid (Blk (((w.alloc (.cells #[.slice oa N oq, .slice sa M sq] 25)).alloc (.cells #[.int .i64 a.kind, .int .i64 a.r, .int .i64 a.s, .int .i64 a.i, .int .i64 a.size, .int .i64 a.ptrs, .int .u64 (a.v : Int)] 31)).alloc (.cells #[.int .i64 p.n0, .int .i64 p.n1, .int .i64 p.n2, .int .i64 p.n3, .int .i64 p.n4] 32)) w.heap.size [.slice oa N oq, .slice sa M sq] 25) := Lib.hid (((Blk.new w [.slice oa N oq, .slice sa M sq] 25).below (ba0 _ _)).below (ba0 _ _))
  have HA0 : Hid (Blk (((w.alloc (.cells #[.slice oa N oq, .slice sa M sq] 25)).alloc (.cells #[.int .i64 a.kind, .int .i64 a.r, .int .i64 a.s, .int .i64 a.i, .int .i64 a.size, .int .i64 a.ptrs, .int .u64 (a.v : Int)] 31)).alloc (.cells #[.int .i64 p.n0, .int .i64 p.n1, .int .i64 p.n2, .int .i64 p.n3, .int .i64 p.n4] 32)) (w.heap.size + 1) [.int .i64 a.kind, .int .i64 a.r, .int .i64 a.s, .int .i64 a.i, .int .i64 a.size, .int .i64 a.ptrs, .int .u64 (a.v : Int)] 31) := Lib.hid blk2
  have HP0 : Hid (Blk (((w.alloc (.cells #[.slice oa N oq, .slice sa M sq] 25)).alloc (.cells #[.int .i64 a.kind, .int .i64 a.r, .int .i64 a.s, .int .i64 a.i, .int .i64 a.size, .int .i64 a.ptrs, .int .u64 (a.v : Int)] 31)).alloc (.cells #[.int .i64 p.n0, .int .i64 p.n1, .int .i64 p.n2, .int .i64 p.n3, .int .i64 p.n4] 32)) (w.heap.size + 1 + 1) [.int .i64 p.n0, .int .i64 p.n1, .int .i64 p.n2, .int .i64 p.n3, .int .i64 p.n4] 32) := Lib.hid blk3
  have HOR := Lib.hid hOR
  have HOK := Lib.hid hOK
  have HSR := Lib.hid hSR
  have HL := Lib.hid hL
  have HK := Lib.hid hK
  have HR := Lib.hid hR
  have HNL := Lib.hid hN
  have HML := Lib.hid hM
  clear hOR hOK hSR hL hK hR hN hM
  go_enter Try.func3, Try.ntmps3
  go_upto_region 1 with fail
  generalize ((w.alloc (.cells #[.slice oa N oq, .slice sa M sq] 25)).alloc (.cells #[.int .i64 a.kind, .int .i64 a.r, .int .i64 a.s, .int .i64 a.i, .int .i64 a.size, .int .i64 a.ptrs, .int .u64 (a.v : Int)] 31)).alloc (.cells #[.int .i64 p.n0, .int .i64 p.n1, .int .i64 p.n2, .int .i64 p.n3, .int .i64 p.n4] 32) = V0 at HB0 HG0 HA0 HP0 ⊢
  go_wp2_with fail
  refine (awake08 C _).mono ?_
  rintro e w1 ⟨rfl, hb1⟩
  have hb := ba hb1 (.cells #[.slice none 0 0, .slice none 0 0] 25)
  have HF1 := Lib.hid (Blk.new w1 [.slice none 0 0, .slice none 0 0] 25)
  have HG1 := Lib.hid (HG0.out.below hb)
  have HA1 := Lib.hid (HA0.out.below hb)
  have HP1 := Lib.hid (HP0.out.below hb)
  have HB1 := Lib.hid (bt HB0.out hb)
  have hwF : w.heap.size + 1 + 1 < w1.heap.size := Nat.lt_of_lt_of_le HP0.out.lt hb1.size
  clear hb hb1 HB0 HG0 HA0 HP0
  go_upto_region 3 with fail
  generalize w1.alloc (.cells #[.slice none 0 0, .slice none 0 0] 25) = V1 at HF1 HG1 HA1 HP1 HB1 ⊢
  generalize w1.heap.size = F at HF1 hwF ⊢
  have hF1 := HF1.out.lt
  go_upto_block 0 with fail
  go_cut [15] from 27 (fun iv wx => ∃ k : Nat, ∃ ao : Option Addr, ∃ cp : Nat, k = min N 6 ∧ Hid (Blk wx F [.slice ao k cp, .slice none 0 0] 25) ∧ Hid (OwnR 36 nc 2 wx V1.heap.size (.slice ao k cp) ((odd.map cutNd).take k)) ∧ Hid (Below F V1 wx))
  case first =>
    go_wp2_with fail
    go_loopw [15] (fun iv wr => ∃ k : Nat, ∃ ao : Option Addr, ∃ cp : Nat, k ≤ 6 ∧ k ≤ N ∧ iv = .int .i64 (k : Int) ∧ Hid (Blk wr F [.slice ao k cp, .slice none 0 0] 25) ∧ Hid (OwnR 36 nc 2 wr V1.heap.size (.slice ao k cp) ((odd.map cutNd).take k)) ∧ Hid (Below F V1 wr)) (fun iv _ => 6 - (intOf iv).toNat)
    case atStart => exact ⟨0, none, 0, by omega, by omega, rfl, HF1, Lib.hid (OwnR.nil _ _ _), Lib.hid (Below.refl _ _)⟩
    case round =>
      obtain ⟨k, ao, cp, hk6, hkN, rfl, HF, HO, HB⟩ := hrel
      have hBw : Hid (Below w.heap.size w wr) := Lib.hid (HB1.out.trans (HB.out.mono (by omega)))
      have hwr : V1.heap.size ≤ wr.heap.size := HB.out.size
      have HG := Lib.hid (HG1.out.belowS HB.out (by omega))
      have g0 : wr.cell? ⟨w.heap.size, 0, none⟩ = some (.slice oa N oq) := HG.out.cell rfl
      by_cases hlt : k < N ∧ k < 6
      · obtain ⟨hlN, hl6⟩ := hlt
        have hlNi : (k : Int) < (N : Int) := by omega
        have hl6i : (k : Int) < 6 := by omega
        obtain ⟨x, hx, hxm⟩ := getq HNL.out hlN
        have hxok := (HOK.out x hxm).below (Nat.le_refl _) hBw.out
        obtain ⟨b2, o2, rfl, hb2, x0, x1⟩ := nd_cells HOR.out hx
        have y0 := cellS hBw.out hb2 x0
        have y1 := cellS hBw.out hb2 x1
        have hmx : (odd.map cutNd)[k]? = some (cutNd x) := by rw [List.getElem?_map, hx]; rfl
        have HTN := Lib.hid (show (odd.map cutNd).take k ++ [cutNd x] = (odd.map cutNd).take (k + 1) by rw [List.take_add_one, hmx]; rfl)
        have HTL := Lib.hid (show ((odd.map cutNd).take k).length = k by rw [List.length_take, List.length_map, HNL.out]; omega)
        obtain ⟨pl, hpl⟩ : ∃ pl, x.ptrs.length = pl := ⟨_, rfl⟩
        obtain ⟨dl, hdl⟩ : ∃ dl, x.data.length = dl := ⟨_, rfl⟩
        obtain ⟨pa, hpa⟩ : ∃ pa, x.pa = pa := ⟨_, rfl⟩
        obtain ⟨da, hda⟩ : ∃ da, x.da = da := ⟨_, rfl⟩
        obtain ⟨pq, hpq⟩ : ∃ pq, x.pcap = pq := ⟨_, rfl⟩
        obtain ⟨dq, hdq⟩ : ∃ dq, x.dcap = dq := ⟨_, rfl⟩
        obtain ⟨pm, hpm⟩ : ∃ pm, min pl 6 = pm := ⟨_, rfl⟩
        obtain ⟨dm, hdm⟩ : ∃ dm, min dl 6 = dm := ⟨_, rfl⟩
        have hpmi : min (pl : Int) 6 = (pm : Int) := by omega
        have hdmi : min (dl : Int) 6 = (dm : Int) := by omega
        have hplq : pl ≤ pq := by rw [← hpl, ← hpq]; exact hxok.pl
        have hdlq : dl ≤ dq := by rw [← hdl, ← hdq]; exact hxok.dl
        have r1 : pm ≤ pq := by omega
        have r2 : dm ≤ dq := by omega
        have r3 : (pm : Int) ≤ (pq : Int) := by omega
        have r4 : (dm : Int) ≤ (dq : Int) := by omega
        have r5 : (0 : Int) ≤ (pm : Int) := by omega
        have r6 : (0 : Int) ≤ (dm : Int) := by omega
        rw [hpl, hpa, hpq] at y0
        rw [hdl, hda, hdq] at y1
        have HCV := Lib.hid (show [Value.slice pa pm pq, Value.slice da dm dq] = [.slice (cutNd x).pa (cutNd x).ptrs.length (cutNd x).pcap, .slice (cutNd x).da (cutNd x).data.length (cutNd x).dcap] by
          simp only [cutNd, List.length_take]
          rw [hpa, hda, hpq, hdq, hpl, hdl]
          congr 2 <;> (try congr 2) <;> omega)
        have HSW : Hid (wr.drew.cell? ⟨F, 0, none⟩ = some (.slice ao k cp) ∧ wr.drew.cell? ⟨w.heap.size, 0, none⟩ = some (.slice (some ⟨b2, o2, none⟩) N oq) ∧ wr.drew.cell? ⟨b2, o2 + k * 2, none⟩ = some (.slice pa pl pq) ∧ wr.drew.cell? ⟨b2, o2 + k * 2 + 1, none⟩ = some (.slice da dl dq)) := Lib.hid ⟨HF.out.cell rfl, g0, y0, y1⟩
        have hb2w : b2 < w.heap.size := hb2
        have HX0 := Lib.hid (show w.cell? ⟨b2, o2 + k * 2, none⟩ = some (.slice pa pl pq) by rw [← hpa, ← hpl, ← hpq]; exact x0)
        have HX1 := Lib.hid (show w.cell? ⟨b2, o2 + k * 2 + 1, none⟩ = some (.slice da dl dq) by rw [← hda, ← hdl, ← hdq]; exact x1)
        have HFD : Hid (Blk wr.drew F [.slice ao k cp, .slice none 0 0] 25) := Lib.hid (Blk.heap HF.out rfl)
        have HGD : Hid (Blk wr.drew w.heap.size [.slice (some ⟨b2, o2, none⟩) N oq, .slice sa M sq] 25) := Lib.hid (Blk.heap HG.out rfl)
        have HOD : Hid (OwnR 36 nc 2 wr.drew V1.heap.size (.slice ao k cp) ((odd.map cutNd).take k)) := Lib.hid (HO.out.heap rfl)
        have HBD : Hid (Below F V1 wr.drew) := Lib.hid HB.out.drew
        have HBWD : Hid (Below w.heap.size w wr.drew) := Lib.hid hBw.out.drew
        have hwD : V1.heap.size ≤ wr.drew.heap.size := hwr
        clear hx hxm hmx x0 x1 hxok hpl hdl hpa hda hpq hdq hpm hdm hb2
        go_upto_region 6 with fail
        clear y0 y1 g0
        refine wp_region_part (fun w' => w'.cell? ⟨F, 0, none⟩ = some (.slice ao k cp) ∧ w'.cell? ⟨w.heap.size, 0, none⟩ = some (.slice (some ⟨b2, o2, none⟩) N oq) ∧ w'.cell? ⟨b2, o2 + k * 2, none⟩ = some (.slice pa pl pq) ∧ w'.cell? ⟨b2, o2 + k * 2 + 1, none⟩ = some (.slice da dl dq)) 37 36 (by kernel_rfl) (by rfl) (fun hcl => ?_)
        generalize wr.drew = D at HSW HFD HGD HOD HBD HBWD hwD ⊢
        have hSD := HSW.out
        clear HSW HF HG HO HB hBw hwr
        refine wpAnyB_take (i := 0) (v := ?_) hcl rfl (by kernel_rfl) (fun _ _ _ h => h) (Or.inl ⟨by rfl, ?_⟩) hSD ?_
        rotate_left
        · intro w' hSw; obtain ⟨q0, q1, q2, q3⟩ := hSw; go_simp <;> (with_reducible rfl)
        intro hcl0
        try simp only [Act.put, List.setIfInBounds_toArray, List.set_cons_zero, List.set_cons_succ]
        refine wpAnyB_take (i := 1) (v := ?_) hcl0 rfl (by kernel_rfl) (fun _ _ _ h => h) (Or.inl ⟨by rfl, ?_⟩) hSD ?_
        rotate_left
        · intro w' hSw; obtain ⟨q0, q1, q2, q3⟩ := hSw; go_simp <;> (with_reducible rfl)
        intro hcl1
        clear hcl0
        try simp only [Act.put, List.setIfInBounds_toArray, List.set_cons_zero, List.set_cons_succ]
        refine wpAnyB_take (i := 2) (v := ?_) hcl1 rfl (by kernel_rfl) (fun _ _ _ h => h) (Or.inl ⟨by rfl, ?_⟩) hSD ?_
        rotate_left
        · intro w' hSw; obtain ⟨q0, q1, q2, q3⟩ := hSw; go_simp <;> (with_reducible rfl)
        intro hcl2
        clear hcl1
        try simp only [Act.put, List.setIfInBounds_toArray, List.set_cons_zero, List.set_cons_succ]
        refine wpAnyB_take (i := 3) (v := ?_) hcl2 rfl (by kernel_rfl) (fun _ _ _ h => h) (Or.inl ⟨by rfl, ?_⟩) hSD ?_
        rotate_left
        · intro w' hSw; obtain ⟨q0, q1, q2, q3⟩ := hSw; go_simp <;> (with_reducible rfl)
        intro hcl3
        clear hcl2
        try simp only [Act.put, List.setIfInBounds_toArray, List.set_cons_zero, List.set_cons_succ]
        refine wpAnyB_take (i := 4) (v := ?_) hcl3 rfl (by kernel_rfl) (fun _ _ _ h => h) (Or.inl ⟨by rfl, ?_⟩) hSD ?_
        rotate_left
        · intro w' hSw; obtain ⟨q0, q1, q2, q3⟩ := hSw; go_simp <;> (with_reducible rfl)
        intro hcl4
        clear hcl3
        try simp only [Act.put, List.setIfInBounds_toArray, List.set_cons_zero, List.set_cons_succ]
        refine wpAnyB_take (i := 5) (v := ?_) hcl4 rfl (by kernel_rfl) (fun _ _ _ h => h) (Or.inl ⟨by rfl, ?_⟩) hSD ?_
        rotate_left
        · intro w' hSw; obtain ⟨q0, q1, q2, q3⟩ := hSw; go_simp <;> (with_reducible rfl)
        intro hcl5
        clear hcl4
        try simp only [Act.put, List.setIfInBounds_toArray, List.set_cons_zero, List.set_cons_succ]
        refine wpAnyB_take (i := 6) (v := ?_) hcl5 rfl (by kernel_rfl) (fun _ _ _ h => h) (Or.inl ⟨by rfl, ?_⟩) hSD ?_
        rotate_left
        · intro w' hSw; obtain ⟨q0, q1, q2, q3⟩ := hSw; go_simp <;> (with_reducible rfl)
        intro hcl6
        clear hcl5
        try simp only [Act.put, List.setIfInBounds_toArray, List.set_cons_zero, List.set_cons_succ]
        refine wpAnyB_take (i := 7) (v := ?_) hcl6 rfl (by kernel_rfl) (fun _ _ _ h => h) (Or.inl ⟨by rfl, ?_⟩) hSD ?_
        rotate_left
        · intro w' hSw; obtain ⟨q0, q1, q2, q3⟩ := hSw; go_simp <;> (with_reducible rfl)
        intro hcl7
        clear hcl6
        try simp only [Act.put, List.setIfInBounds_toArray, List.set_cons_zero, List.set_cons_succ]
        refine wpAnyB_take (i := 8) (v := ?_) hcl7 rfl (by kernel_rfl) (fun _ _ _ h => h) (Or.inl ⟨by rfl, ?_⟩) hSD ?_
        rotate_left
        · intro w' hSw; obtain ⟨q0, q1, q2, q3⟩ := hSw; go_simp <;> (with_reducible rfl)
        intro hcl8
        clear hcl7
        try simp only [Act.put, List.setIfInBounds_toArray, List.set_cons_zero, List.set_cons_succ]
        refine wpAnyB_take (i := 9) (v := ?_) hcl8 rfl (by kernel_rfl) (fun _ _ _ h => h) (Or.inl ⟨by rfl, ?_⟩) hSD ?_
        rotate_left
        · intro w' hSw; obtain ⟨q0, q1, q2, q3⟩ := hSw; go_simp <;> (with_reducible rfl)
        intro hcl9
        clear hcl8
        try simp only [Act.put, List.setIfInBounds_toArray, List.set_cons_zero, List.set_cons_succ]
        refine wpAnyB_take (i := 10) (v := ?_) hcl9 rfl (by kernel_rfl) (fun _ _ _ h => h) (Or.inl ⟨by rfl, ?_⟩) hSD ?_
        rotate_left
        · intro w' hSw; obtain ⟨q0, q1, q2, q3⟩ := hSw; go_simp <;> (with_reducible rfl)
        intro hcl10
        clear hcl9
        try simp only [Act.put, List.setIfInBounds_toArray, List.set_cons_zero, List.set_cons_succ]
        refine wpAnyB_take (i := 11) (v := ?_) hcl10 rfl (by kernel_rfl) (fun _ _ _ h => h) (Or.inl ⟨by rfl, ?_⟩) hSD ?_
        rotate_left
        · intro w' hSw; obtain ⟨q0, q1, q2, q3⟩ := hSw; go_simp <;> (with_reducible rfl)
        intro hcl11
        clear hcl10
        try simp only [Act.put, List.setIfInBounds_toArray, List.set_cons_zero, List.set_cons_succ]
        refine wpAnyB_take (i := 12) (v := ?_) hcl11 rfl (by kernel_rfl) (fun _ _ _ h => h) (Or.inl ⟨by rfl, ?_⟩) hSD ?_
        rotate_left
        · intro w' hSw; obtain ⟨q0, q1, q2, q3⟩ := hSw; go_simp <;> (with_reducible rfl)
        intro hcl12
        clear hcl11
        try simp only [Act.put, List.setIfInBounds_toArray, List.set_cons_zero, List.set_cons_succ]
        refine wpAnyB_take (i := 13) (v := ?_) hcl12 rfl (by kernel_rfl) (fun _ _ _ h => h) (Or.inl ⟨by rfl, ?_⟩) hSD ?_
        rotate_left
        · intro w' hSw; obtain ⟨q0, q1, q2, q3⟩ := hSw; go_simp <;> (with_reducible rfl)
        intro hcl13
        clear hcl12
        try simp only [Act.put, List.setIfInBounds_toArray, List.set_cons_zero, List.set_cons_succ]
        refine wpAnyB_take (i := 14) (v := ?_) hcl13 rfl (by kernel_rfl) (fun _ _ _ h => h) (Or.inl ⟨by rfl, ?_⟩) hSD ?_
        rotate_left
        · intro w' hSw; obtain ⟨q0, q1, q2, q3⟩ := hSw; go_simp <;> (with_reducible rfl)
        intro hcl14
        clear hcl13
        try simp only [Act.put, List.setIfInBounds_toArray, List.set_cons_zero, List.set_cons_succ]
        refine wpAnyB_take (i := 15) (v := ?_) hcl14 rfl (by kernel_rfl) (fun _ _ _ h => h) (Or.inl ⟨by rfl, ?_⟩) hSD ?_
        rotate_left
        · intro w' hSw; obtain ⟨q0, q1, q2, q3⟩ := hSw; go_simp <;> (with_reducible rfl)
        intro hcl15
        clear hcl14
        try simp only [Act.put, List.setIfInBounds_toArray, List.set_cons_zero, List.set_cons_succ]
        refine wpAnyB_take (i := 16) (v := ?_) hcl15 rfl (by kernel_rfl) (fun _ _ _ h => h) (Or.inl ⟨by rfl, ?_⟩) hSD ?_
        rotate_left
        · intro w' hSw; obtain ⟨q0, q1, q2, q3⟩ := hSw; go_simp <;> (with_reducible rfl)
        intro hcl16
        clear hcl15
        try simp only [Act.put, List.setIfInBounds_toArray, List.set_cons_zero, List.set_cons_succ]
        refine wpAnyB_take (i := 17) (v := ?_) hcl16 rfl (by kernel_rfl) (fun _ _ _ h => h) (Or.inl ⟨by rfl, ?_⟩) hSD ?_
        rotate_left
        · intro w' hSw; obtain ⟨q0, q1, q2, q3⟩ := hSw; go_simp <;> (with_reducible rfl)
        intro hcl17
        clear hcl16
        try simp only [Act.put, List.setIfInBounds_toArray, List.set_cons_zero, List.set_cons_succ]
        refine wpAnyB_take (i := 18) (v := ?_) hcl17 rfl (by kernel_rfl) (fun _ _ _ h => h) (Or.inl ⟨by rfl, ?_⟩) hSD ?_
        rotate_left
        · intro w' hSw; obtain ⟨q0, q1, q2, q3⟩ := hSw; go_simp <;> (with_reducible rfl)
        intro hcl18
        clear hcl17
        try simp only [Act.put, List.setIfInBounds_toArray, List.set_cons_zero, List.set_cons_succ]
        refine wpAnyB_take (i := 19) (v := ?_) hcl18 rfl (by kernel_rfl) (fun _ _ _ h => h) (Or.inl ⟨by rfl, ?_⟩) hSD ?_
        rotate_left
        · intro w' hSw; obtain ⟨q0, q1, q2, q3⟩ := hSw; go_simp <;> (with_reducible rfl)
        intro hcl19
        clear hcl18
        try simp only [Act.put, List.setIfInBounds_toArray, List.set_cons_zero, List.set_cons_succ]
        refine wpAnyB_take (i := 20) (v := ?_) hcl19 rfl (by kernel_rfl) (fun _ _ _ h => h) (Or.inl ⟨by rfl, ?_⟩) hSD ?_
        rotate_left
        · intro w' hSw; obtain ⟨q0, q1, q2, q3⟩ := hSw; go_simp <;> (with_reducible rfl)
        intro hcl20
        clear hcl19
        try simp only [Act.put, List.setIfInBounds_toArray, List.set_cons_zero, List.set_cons_succ]
        refine wpAnyB_take (i := 21) (v := ?_) hcl20 rfl (by kernel_rfl) (fun _ _ _ h => h) (Or.inl ⟨by rfl, ?_⟩) hSD ?_
        rotate_left
        · intro w' hSw; obtain ⟨q0, q1, q2, q3⟩ := hSw; go_simp <;> (with_reducible rfl)
        intro hcl21
        clear hcl20
        try simp only [Act.put, List.setIfInBounds_toArray, List.set_cons_zero, List.set_cons_succ]
        refine wpAnyB_take (i := 22) (v := ?_) hcl21 rfl (by kernel_rfl) (fun _ _ _ h => h) (Or.inl ⟨by rfl, ?_⟩) hSD ?_
        rotate_left
        · intro w' hSw; obtain ⟨q0, q1, q2, q3⟩ := hSw; go_simp <;> (with_reducible rfl)
        intro hcl22
        clear hcl21
        try simp only [Act.put, List.setIfInBounds_toArray, List.set_cons_zero, List.set_cons_succ]
        refine wpAnyB_take (i := 23) (v := ?_) hcl22 rfl (by kernel_rfl) (fun _ _ _ h => h) (Or.inl ⟨by rfl, ?_⟩) hSD ?_
        rotate_left
        · intro w' hSw; obtain ⟨q0, q1, q2, q3⟩ := hSw; go_simp <;> (with_reducible rfl)
        intro hcl23
        clear hcl22
        try simp only [Act.put, List.setIfInBounds_toArray, List.set_cons_zero, List.set_cons_succ]
        refine wpAnyB_take (i := 24) (v := ?_) hcl23 rfl (by kernel_rfl) (fun _ _ _ h => h) (Or.inl ⟨by rfl, ?_⟩) hSD ?_
        rotate_left
        · intro w' hSw; obtain ⟨q0, q1, q2, q3⟩ := hSw; go_simp <;> (with_reducible rfl)
        intro hcl24
        clear hcl23
        try simp only [Act.put, List.setIfInBounds_toArray, List.set_cons_zero, List.set_cons_succ]
        refine wpAnyB_take (i := 25) (v := ?_) hcl24 rfl (by kernel_rfl) (fun _ _ _ h => h) (Or.inl ⟨by rfl, ?_⟩) hSD ?_
        rotate_left
        · intro w' hSw; obtain ⟨q0, q1, q2, q3⟩ := hSw; go_simp <;> (with_reducible rfl)
        intro hcl25
        clear hcl24
        try simp only [Act.put, List.setIfInBounds_toArray, List.set_cons_zero, List.set_cons_succ]
        refine wpAnyB_take (i := 26) (v := ?_) hcl25 rfl (by kernel_rfl) (fun _ _ _ h => h) (Or.inl ⟨by rfl, ?_⟩) hSD ?_
        rotate_left
        · intro w' hSw; obtain ⟨q0, q1, q2, q3⟩ := hSw; go_simp <;> (with_reducible rfl)
        intro hcl26
        clear hcl25
        try simp only [Act.put, List.setIfInBounds_toArray, List.set_cons_zero, List.set_cons_succ]
        refine wpAnyB_take (i := 27) (v := ?_) hcl26 rfl (by kernel_rfl) (fun _ _ _ h => h) (Or.inl ⟨by rfl, ?_⟩) hSD ?_
        rotate_left
        · intro w' hSw; obtain ⟨q0, q1, q2, q3⟩ := hSw; go_simp <;> (with_reducible rfl)
        intro hcl27
        clear hcl26
        try simp only [Act.put, List.setIfInBounds_toArray, List.set_cons_zero, List.set_cons_succ]
        refine wpAnyB_take (i := 28) (v := ?_) hcl27 rfl (by kernel_rfl) (fun _ _ _ h => h) (Or.inl ⟨by rfl, ?_⟩) hSD ?_
        rotate_left
        · intro w' hSw; obtain ⟨q0, q1, q2, q3⟩ := hSw; go_simp <;> (with_reducible rfl)
        intro hcl28
        clear hcl27
        try simp only [Act.put, List.setIfInBounds_toArray, List.set_cons_zero, List.set_cons_succ]
        refine wpAnyB_take (i := 29) (v := ?_) hcl28 rfl (by kernel_rfl) (fun _ _ _ h => h) (Or.inl ⟨by rfl, ?_⟩) hSD ?_
        rotate_left
        · intro w' hSw; obtain ⟨q0, q1, q2, q3⟩ := hSw; go_simp <;> (with_reducible rfl)
        intro hcl29
        clear hcl28
        try simp only [Act.put, List.setIfInBounds_toArray, List.set_cons_zero, List.set_cons_succ]
        refine wpAnyB_take (i := 30) (v := ?_) hcl29 rfl (by kernel_rfl) (fun _ _ _ h => h) (Or.inl ⟨by rfl, ?_⟩) hSD ?_
        rotate_left
        · intro w' hSw; obtain ⟨q0, q1, q2, q3⟩ := hSw; go_simp <;> (with_reducible rfl)
        intro hcl30
        clear hcl29
        try simp only [Act.put, List.setIfInBounds_toArray, List.set_cons_zero, List.set_cons_succ]
        refine wpAnyB_take (i := 31) (v := ?_) hcl30 rfl (by kernel_rfl) (fun _ _ _ h => h) (Or.inl ⟨by rfl, ?_⟩) hSD ?_
        rotate_left
        · intro w' hSw; obtain ⟨q0, q1, q2, q3⟩ := hSw; go_simp <;> (with_reducible rfl)
        intro hcl31
        clear hcl30
        try simp only [Act.put, List.setIfInBounds_toArray, List.set_cons_zero, List.set_cons_succ]
        refine wpAnyB_take (i := 32) (v := ?_) hcl31 rfl (by kernel_rfl) (fun _ _ _ h => h) (Or.inl ⟨by rfl, ?_⟩) hSD ?_
        rotate_left
        · intro w' hSw; obtain ⟨q0, q1, q2, q3⟩ := hSw; go_simp <;> (with_reducible rfl)
        intro hcl32
        clear hcl31
        try simp only [Act.put, List.setIfInBounds_toArray, List.set_cons_zero, List.set_cons_succ]
        clear hcl32
        refine wpAnyB_one (i := 33) (by kernel_rfl) rfl (fun K hK => ?_)
        go_simp
        have hb := ba0 D (.cells #[.slice pa pm pq, .slice da dm dq] 36)
        have HLX := Lib.hid (Blk.new D [.slice pa pm pq, .slice da dm dq] 36)
        have HSX : Hid (∀ w', Below D.heap.size D w' → w'.cell? ⟨F, 0, none⟩ = some (.slice ao k cp) ∧ w'.cell? ⟨w.heap.size, 0, none⟩ = some (.slice (some ⟨b2, o2, none⟩) N oq) ∧ w'.cell? ⟨b2, o2 + k * 2, none⟩ = some (.slice pa pl pq) ∧ w'.cell? ⟨b2, o2 + k * 2 + 1, none⟩ = some (.slice da dl dq)) := Lib.hid fun w' h => ⟨(HFD.out.below h).cell rfl, (HGD.out.below h).cell rfl, cellS (bt HBWD.out h) hb2w HX0.out, cellS (bt HBWD.out h) hb2w HX1.out⟩
        refine hK.out _ _ (fun _ => HSX.out _ hb) ?_
        clear hK K
        try simp only [Act.put, List.setIfInBounds_toArray, List.set_cons_zero, List.set_cons_succ]
        have HFX := Lib.hid (HFD.out.below hb)
        have HGX := Lib.hid (HGD.out.below hb)
        have HOX := Lib.hid (HOD.out.later hb)
        have HBX := Lib.hid (HBD.out.trans (hb.mono (by have := HBD.out.size; omega)))
        have HBWX := Lib.hid (bt HBWD.out hb)
        have hwX : V1.heap.size ≤ (D.alloc (.cells #[.slice pa pm pq, .slice da dm dq] 36)).heap.size := by rw [World.size_alloc]; omega
        clear hb HFD HGD HOD HBD HBWD HSX
        generalize D.alloc (.cells #[.slice pa pm pq, .slice da dm dq] 36) = X at HLX HFX HGX HOX HBX HBWX hwX ⊢
        generalize D.heap.size = gn at HLX ⊢
        refine wpAnyB_one (i := 34) (by kernel_rfl) rfl (fun K hK => ?_)
        refine step_append_rows 36 22 _ 48 info_nd Try.underlying22 rfl (by decide) (by decide) nc_len nc_one X (by rfl) (.tmp 39) (.tmp 71) rfl rfl V1.heap.size (.slice ao k cp) ((odd.map cutNd).take k) [cutNd x] rfl HOX.out (some ⟨gn, 0, none⟩) 1 1 rfl rfl (rw_lit_nd (by have := HLX.out; rwa [HCV.out] at this)) (fun h => by cases h) (by rw [HTL.out]; simp; omega) hwX (k + 1) (by rw [List.length_append, HTL.out]; rfl) ?_
        intro ao11 cp11 w11 ho11 hl11 hc11 hn11 hg11
        have hff := HFX.out.grown hg11 (HOX.out.notblk HFX.out (by decide))
        have hgg := HGX.out.grown hg11 (HOX.out.notblk HGX.out (by decide))
        have hbb : Below F V1 w11 := HBX.out.grown hg11 (by omega) (fun j hj => by have := (World.ownsRow.lt HOX.out j hj).1; omega)
        have hbw : Below w.heap.size w w11 := HBWX.out.grown hg11 (by have := HBWX.out.size; omega) (fun j hj => by have := (World.ownsRow.lt HOX.out j hj).1; omega)
        have hSX : w11.cell? ⟨F, 0, none⟩ = some (.slice ao k cp) ∧ w11.cell? ⟨w.heap.size, 0, none⟩ = some (.slice (some ⟨b2, o2, none⟩) N oq) ∧ w11.cell? ⟨b2, o2 + k * 2, none⟩ = some (.slice pa pl pq) ∧ w11.cell? ⟨b2, o2 + k * 2 + 1, none⟩ = some (.slice da dl dq) := ⟨hff.cell rfl, hgg.cell rfl, cellS hbw hb2w HX0.out, cellS hbw hb2w HX1.out⟩
        refine hK.out _ _ (fun _ => hSX) ?_
        clear hK K
        try simp only [Act.put, List.setIfInBounds_toArray, List.set_cons_zero, List.set_cons_succ]
        refine wpAnyB_one (i := 35) (by kernel_rfl) rfl (fun K hK => ?_)
        go_simp
        refine hK.out _ _ (fun _ => hSX) ?_
        clear hK K
        try simp only [Act.put, List.setIfInBounds_toArray, List.set_cons_zero, List.set_cons_succ]
        have c0 := hSX.1
        have f0 := hff.frozen 0
        refine wpAnyB_one (i := 36) (by kernel_rfl) rfl (fun K hK => ?_)
        go_simp
        refine hK.out _ _ (fun h => absurd rfl h) ?_
        clear hK K
        try simp only [Act.put, List.setIfInBounds_toArray, List.set_cons_zero, List.set_cons_succ]
        refine wpAnyB_done (by kernel_rfl) ?_
        rw [HTN.out] at ho11
        have HF2 := Lib.hid (blk_set hff 0 (.slice ao11 (k + 1) cp11))
        have HO2 := Lib.hid (OwnR.far ho11 (g := F) (j := 0) hF1 (.slice ao11 (k + 1) cp11))
        have HB2 := Lib.hid (hbb.setCell (p := ⟨F, 0, none⟩) (Nat.le_refl _) (.slice ao11 (k + 1) cp11))
        clear c0 f0 hSX hff hgg hbb hbw ho11 hg11 hSD HFX HGX HOX HBX HBWX HLX
        generalize w11.setCell ⟨F, 0, none⟩ (.slice ao11 (k + 1) cp11) = W6 at HF2 HO2 HB2 ⊢
        go_wp2_with fail
        go_roundw
        case rel => (first | exact ⟨k + 1, ao11, cp11, by omega, by omega, by go_num, HF2, HO2, HB2⟩ | ((repeat apply Exists.intro); exact ⟨⟨k + 1, ao11, cp11, by omega, by omega, by go_num, HF2, HO2, HB2⟩, rfl⟩))
        case measure => simp [intOf]; omega
      · have hexit : decide (k < N) = false ∨ decide (k < N) = true ∧ decide ((k : Int) < 6) = false := by
          by_cases h : k < N
          · right; exact ⟨by simp; omega, by simp; omega⟩
          · left; simp; omega
        rcases hexit with h | ⟨h, h2⟩
        all_goals (
          go_wp2_with fail
          go_meet
          exact ⟨k, ao, cp, by omega, HF, HO, HB⟩)
  case rest =>
    obtain ⟨k, ao, cp, hk, HF, HO, HB⟩ := hcut
    have hk6 : k ≤ 6 := by omega
    have hkN : k ≤ N := by omega
    clear hk
    obtain ⟨sm, hsm⟩ : ∃ sm, min M 20 = sm := ⟨_, rfl⟩
    have hsmi : min (M : Int) 20 = (sm : Int) := by omega
    have s1 : sm ≤ sq := by omega
    have s2 : (sm : Int) ≤ (sq : Int) := by omega
    have s3 : (0 : Int) ≤ (sm : Int) := by omega
    have HBw := Lib.hid (HB1.out.trans (HB.out.mono (show w.heap.size ≤ F by omega)))
    have HGc := Lib.hid (HG1.out.belowS HB.out (by omega))
    have HAc := Lib.hid (HA1.out.belowS HB.out (by omega))
    have HPc := Lib.hid (HP1.out.belowS HB.out (by omega))
    have g1 : wc.cell? ⟨w.heap.size, 1, none⟩ = some (.slice sa M sq) := HGc.out.cell rfl
    have f1 : wc.cell? ⟨F, 1, none⟩ = some (.slice none 0 0) := HF.out.cell rfl
    have f2 := HF.out.frozen 1
    have HSL := Lib.hid (show (sroots.take sm).length = sm by rw [List.length_take, HML.out]; omega)
    have HOL := Lib.hid (show ((odd.map cutNd).take k).length = k by rw [List.length_take, List.length_map, HNL.out]; omega)
    have HSM := Lib.hid (few_sm odd sroots k sm (by omega) (by omega))
    have hF2 : F < wc.heap.size := HF.out.lt
    have HFX := Lib.hid (blk_set HF.out 1 (.slice sa sm sq))
    have HOX := Lib.hid (OwnR.far HO.out (g := F) (j := 1) hF1 (.slice sa sm sq))
    have HBX := Lib.hid (HBw.out.setCell (p := ⟨F, 1, none⟩) (by show w.heap.size ≤ F; omega) (.slice sa sm sq))
    have HAX := Lib.hid (HAc.out.far (show w.heap.size + 1 ≠ F by omega) (j := 1) (.slice sa sm sq))
    have HPX := Lib.hid (HPc.out.far (show w.heap.size + 1 + 1 ≠ F by omega) (j := 1) (.slice sa sm sq))
    clear HF1 HG1 HA1 HP1 HB1 HF HO HB HBw HGc HAc HPc
    go_upto_region 8 with fail
    clear g1 f1 f2
    generalize wc.setCell ⟨F, 1, none⟩ (.slice sa sm sq) = V2 at HFX HOX HBX HAX HPX ⊢
    obtain ⟨c1, c2, c3, c4⟩ := own_caps nc_len HOX.out
    rw [HOL.out] at c2
    have HFEW : Hid (GAt (fun _ => True) V2 ao k cp sa sm sq ⟨((odd.map cutNd).take k).map NdV.nd, sroots.take sm⟩) := Lib.hid
      ⟨(odd.map cutNd).take k, rfl, HOL.out, HSL.out, c1, fun x hx => by
        obtain ⟨y, hy, rfl⟩ := List.mem_map.1 (List.mem_of_mem_take hx)
        exact cutNd_ok ((HOK.out y hy).below (Nat.le_refl _) HBX.out), (HSR.out.below (Nat.le_refl _) HBX.out).take sm, c2, s1, c3, hsq, c4, hsn, fun p hp => hSB p (List.mem_of_mem_take hp), c1.pl.imp (fun _ _ => trivial), ((HSR.out.below (Nat.le_refl _) HBX.out).take sm).pl.imp (fun _ _ => trivial), fun x hx => by
        obtain ⟨y, hy, rfl⟩ := List.mem_map.1 (List.mem_of_mem_take hx)
        have h9 := cutNd_ok ((HOK.out y hy).below (Nat.le_refl _) HBX.out)
        exact ⟨h9.p.pl.imp (fun _ _ => trivial), h9.d.pl.imp (fun _ _ => trivial)⟩⟩
    have HLx := Lib.hid (HL.out.below (Nat.le_refl _) HBX.out)
    have HKx := Lib.hid (fun x hx => (HK.out x hx).below (Nat.le_refl _) HBX.out)
    have HRx := Lib.hid (HR.out.below (Nat.le_refl _) HBX.out)
    have hkeep : Hid (∀ w', Below V2.heap.size V2 w' → w'.cell? ⟨F, 0, none⟩ = some (.slice ao k cp) ∧ w'.cell? ⟨F, 1, none⟩ = some (.slice sa sm sq)) := Lib.hid fun w' h => ⟨(HFX.out.below h).cell rfl, (HFX.out.below h).cell rfl⟩
    clear c1 c2 c3 c4 HOX HL HK HR HOK HSR HOL HSL HNL HML HOR
    go_region_held3 (fun w' => w'.cell? ⟨F, 0, none⟩ = some (.slice ao k cp) ∧ w'.cell? ⟨F, 1, none⟩ = some (.slice sa sm sq)) (exact hkeep.out _ (by first
      | exact (Below.refl _ V2).drew
      | exact Below.refl _ V2
      | exact bt (Below.refl _ V2).drew hb4
      | exact ba (bt (Below.refl _ V2).drew hb4) _)) ((first
      | (go_at_call 10; refine (gGraph lo ro ln lc rn rc raws roots _ hln hrn hlm hlc hrm hrc (HLx.out.below (Nat.le_refl _) (Below.refl _ V2).drew) (fun x hx => (HKx.out x hx).below (Nat.le_refl _) (Below.refl _ V2).drew) (HRx.out.below (Nat.le_refl _) (Below.refl _ V2).drew) hRb).mono ?_; rintro e w4 ⟨na, n, nq, ra, m, rq, rfl, hA4, hb4⟩)))
    rename_i hHeld
    clear hHeld
    have hb5 := bt (Below.refl _ V2).drew hb4
    have HLB := Lib.hid (Blk.new w4 [.slice ao k cp, .slice sa sm sq, .slice na n nq, .slice ra m rq] 25)
    have hb6 := ba hb5 (.cells #[.slice ao k cp, .slice sa sm sq, .slice na n nq, .slice ra m rq] 25)
    have HBY := Lib.hid (bt HBX.out hb6)
    have HAY := Lib.hid (HAX.out.below hb6)
    have HPY := Lib.hid (HPX.out.below hb6)
    have HG1Y := Lib.hid (HFEW.out.below hb6)
    generalize hg : gof (raws.map NdV.nd) roots = g at hA4
    have HG2Y := Lib.hid ((hA4.imp (Q := fun _ => True) (fun _ _ => trivial)).below (ba0 w4 (.cells #[.slice ao k cp, .slice sa sm sq, .slice na n nq, .slice ra m rq] 25)))
    obtain ⟨hgr, hgn, _⟩ : gright g ∧ g.nodes.length ≤ 10 ∧ True := by rw [← hg]; exact ⟨(gof_right _ _).1, (gof_right _ _).2.1, trivial⟩
    have HGS2 := Lib.hid (gsm_right hgr (by omega))
    have hfn : (⟨((odd.map cutNd).take k).map NdV.nd, sroots.take sm⟩ : Gr).nodes.length ≤ 10 := by simp only [List.length_map, List.length_take]; omega
    clear hb4 hb5 hb6 hA4 hkeep HLx HKx HRx HFEW HFX HBX HAX HPX hgr hg
    generalize (⟨((odd.map cutNd).take k).map NdV.nd, sroots.take sm⟩ : Gr) = fg at HSM HG1Y hfn
    generalize w4.alloc (.cells #[.slice ao k cp, .slice sa sm sq, .slice na n nq, .slice ra m rq] 25) = Y at HLB HBY HAY HPY HG1Y HG2Y ⊢
    generalize w4.heap.size = LB at HLB ⊢
    dsimp only [Exit.then]
    go_wp2_with fail
    go_loopw [88] (fun jv wr => ∃ j : Nat, j ≤ 2 ∧ jv = .int .i64 (j : Int) ∧ Hid (Below Y.heap.size Y wr)) (fun jv _ => 2 - (intOf jv).toNat)
    case atStart => exact ⟨0, by omega, rfl, Lib.hid (Below.refl _ _)⟩
    case round =>
      obtain ⟨j, hj, rfl, HBR⟩ := hrel
      by_cases hj2 : j < 2
      · have hj2i : (j : Int) < 2 := by omega
        obtain ⟨xa, xn, xq, ya, yn, yq, gg, e0, e1, hGG, hGS, hGN⟩ : ∃ (xa : Option Addr) (xn xq : Nat) (ya : Option Addr) (yn yq : Nat) (gg : Gr), wr.cell? ⟨LB, j * 2, none⟩ = some (.slice xa xn xq) ∧ wr.cell? ⟨LB, j * 2 + 1, none⟩ = some (.slice ya yn yq) ∧ GAt (fun _ => True) wr xa xn xq ya yn yq gg ∧ gsm gg ∧ gg.nodes.length ≤ 10 := by
          have hl := HLB.out.below HBR.out
          rcases (show j = 0 ∨ j = 1 by omega) with rfl | rfl
          · exact ⟨ao, k, cp, sa, sm, sq, fg, hl.cell rfl, hl.cell rfl, HG1Y.out.below HBR.out, HSM.out, hfn⟩
          · exact ⟨na, n, nq, ra, m, rq, g, hl.cell rfl, hl.cell rfl, HG2Y.out.below HBR.out, HGS2.out, hgn⟩
        have hb := ba0 wr (.cells #[.slice xa xn xq, .slice ya yn yq] 25)
        have HQB := Lib.hid (Blk.new wr [.slice xa xn xq, .slice ya yn yq] 25)
        have HQA := Lib.hid (hGG.below hb)
        have HQS := Lib.hid hGS
        have HBQ := Lib.hid (bt HBR.out hb)
        clear hGG hGS hb HBR
        go_upto_region 11 with fail
        clear e0 e1
        generalize wr.alloc (.cells #[.slice xa xn xq, .slice ya yn yq] 25) = V5 at HQB HQA HBQ ⊢
        generalize wr.heap.size = GG at HQB ⊢
        obtain ⟨RR, hRR⟩ : ∃ RR : Bool, decide (gright gg) = RR := ⟨_, rfl⟩
        obtain ⟨WN, hWN⟩ : ∃ WN : Nat, gwords gg = WN := ⟨_, rfl⟩
        have HRR := Lib.hid hRR
        have HWN := Lib.hid hWN
        have HWI := Lib.hid (show (gwords gg : Int) = (WN : Int) by rw [hWN])
        have hbx : ∀ w', (∃ x : GW V5, w' = x.w') → Blk w' GG [.slice xa xn xq, .slice ya yn yq] 25 := fun w' ⟨x, hx⟩ => by rw [hx]; exact HQB.out.below x.h
        have hne : (RR != RR) = false := by simp
        clear hRR hWN
        refine wp_region_grow (by kernel_rfl) (by kernel_rfl) ?_
        repeat (first
          | (refine wpQ_load_any (by rfl) 25 (.tmp 17) rfl GG rfl [.slice xa xn xq, .slice ya yn yq] _ _ hbx Try.underlying25 rfl (by kernel_rfl) ?_; simp [Act.put])
          | go_big_quiet_step ((first
            | (go_at_call 11; exact grow_call (C.right (HQA.out.below (GW.h _)) HQS.out _ HRR.out))
            | (go_at_call 12; exact grow_call (gRightA (HQA.out.below (GW.h _)) HQS.out _ HRR.out))
            | (go_at_call 13; exact grow_call (C.words (HQA.out.below (GW.h _)) HQS.out _ HWI.out))
            | (go_at_call 14; exact grow_call (gWordsA (HQA.out.below (GW.h _)) HQS.out _ HWN.out)))))
        refine wpQuiet_nil ?_
        first | rintro _ ⟨w6, rfl⟩ | intro w6
        have HQB6 := Lib.hid (HQB.out.below w6.h)
        have HQA6 := Lib.hid (HQA.out.below w6.h)
        have HB6 := Lib.hid (bt HBQ.out w6.h)
        clear hbx HQB HQA HBQ HRR HWN HWI
        dsimp only [Exit.then]
        generalize w6.w' = V6 at HQB6 HQA6 HB6 ⊢
        clear w6
        go_upto_region 13 with fail
        have HA6 := Lib.hid (HAY.out.below HB6.out)
        have HP6 := Lib.hid (HPY.out.below HB6.out)
        obtain ⟨A2, hA2⟩ : ∃ A2, actof p.n0 p.n1 p.n2 p.n3 p.n4 v = A2 := ⟨_, rfl⟩
        obtain ⟨t0, t1, t2, t3, t4, t5, t6⟩ := actof_ib _ _ _ _ _ _ A2 hA2
        obtain ⟨k1, hk1, hk1b⟩ := pkN a.r 5 (by omega)
        obtain ⟨k2, hk2, hk2b⟩ := pkN a.s 5 (by omega)
        have HAE := Lib.hid hA2
        have HAB := Lib.hid hab
        have HPO := Lib.hid hp
        have HPK := Lib.hid (show ∀ (y : GW V6) (c r : Int), ((c = a.r ∧ r = (k1 : Int)) ∨ (c = a.s ∧ r = (k2 : Int))) → Calls Try.prog 16 #[.int .i64 c, .int .i64 5] y.w' fun e w' => e = .returned (.int .i64 r) ∧ y.w' = w' from by
          rintro y c r (⟨rfl, rfl⟩ | ⟨rfl, rfl⟩)
          · exact pick08_int _ 5 (k1 : Int) _ HAB.out.2.1.1 HAB.out.2.1.2 (by omega) (by omega) hk1
          · exact pick08_int _ 5 (k2 : Int) _ HAB.out.2.2.1.1 HAB.out.2.2.1.2 (by omega) (by omega) hk2)
        have HACT := Lib.hid (show ∀ y : GW V6, Calls Try.prog 15 #[.agg #[.int .i64 p.n0, .int .i64 p.n1, .int .i64 p.n2, .int .i64 p.n3, .int .i64 p.n4], .int .u64 (v : Int)] y.w' fun e w' => e = .returned (.agg #[.int .i64 A2.kind, .int .i64 A2.r, .int .i64 A2.s, .int .i64 A2.i, .int .i64 A2.size, .int .i64 A2.ptrs, .int .u64 (A2.v : Int)]) ∧ Below y.w'.heap.size y.w' w' from fun y => gAct p.n0 p.n1 p.n2 p.n3 p.n4 v _ hv HPO.out.1 HPO.out.2.1 HPO.out.2.2.1 HPO.out.2.2.2.1 HPO.out.2.2.2.2 A2 HAE.out)
        have ha1 : ∀ w', (∃ x : GW V6, w' = x.w') → Blk w' (w.heap.size + 1) [.int .i64 a.kind, .int .i64 a.r, .int .i64 a.s, .int .i64 a.i, .int .i64 a.size, .int .i64 a.ptrs, .int .u64 (a.v : Int)] 31 := fun w' ⟨x, hx⟩ => by rw [hx]; exact HA6.out.below x.h
        have hp1 : ∀ w', (∃ x : GW V6, w' = x.w') → Blk w' (w.heap.size + 1 + 1) [.int .i64 p.n0, .int .i64 p.n1, .int .i64 p.n2, .int .i64 p.n3, .int .i64 p.n4] 32 := fun w' ⟨x, hx⟩ => by rw [hx]; exact HP6.out.below x.h
        have ha2 : ∀ w', (∃ x : GW V6, w' = x.w') → ∀ j v, ([.int .i64 a.size, .int .i64 a.ptrs] : List Value)[j]? = some v → w'.cell? ⟨w.heap.size + 1, 4 + j, none⟩ = some v := fun w' hx j v hj => by
          match j, hj with
          | 0, hj => simp at hj; subst hj; exact (ha1 w' hx).cell rfl
          | 1, hj => simp at hj; subst hj; exact (ha1 w' hx).cell rfl
        have d0 : ∀ x : GW V6, x.w'.cell? ⟨w.heap.size + 1, 0, none⟩ = some (.int .i64 a.kind) := fun x => (HA6.out.below x.h).cell rfl
        have d1 : ∀ x : GW V6, x.w'.cell? ⟨w.heap.size + 1, 1, none⟩ = some (.int .i64 a.r) := fun x => (HA6.out.below x.h).cell rfl
        have d2 : ∀ x : GW V6, x.w'.cell? ⟨w.heap.size + 1, 2, none⟩ = some (.int .i64 a.s) := fun x => (HA6.out.below x.h).cell rfl
        have d3 : ∀ x : GW V6, x.w'.cell? ⟨w.heap.size + 1, 3, none⟩ = some (.int .i64 a.i) := fun x => (HA6.out.below x.h).cell rfl
        have HT := Lib.hid (show (ib A2.kind ∧ ib A2.r ∧ ib A2.s ∧ ib A2.i ∧ ib A2.size ∧ ib A2.ptrs) ∧ A2.v < 2 ^ 64 from ⟨⟨t0, t1, t2, t3, t4, t5⟩, by rw [t6]; exact hv⟩)
        clear hk1 hk2 hA2 t0 t1 t2 t3 t4 t5 t6
        refine wp_region_mover [0, 1, 2, 3, 4, 5, 6, 7, 8, 9, 10, 11, 12, 13, 14, 15, 16, 17, 20] 18 [19] _ (fun w' => ∃ x : GW V6, w' = x.w') (by kernel_rfl) (by kernel_rfl) rfl ⟨⟨_, (Below.refl _ V6).drew⟩, rfl⟩ ?_
        simp only [opsAt, List.filterMap_cons, List.filterMap_nil, List.getElem?_toArray, List.getElem?_cons_succ, List.getElem?_cons_zero, List.getElem_toArray, List.getElem_cons_succ, List.getElem_cons_zero]
        refine wpQ_load_any (by rfl) 31 (.tmp 9) rfl (w.heap.size + 1) rfl [.int .i64 a.kind, .int .i64 a.r, .int .i64 a.s, .int .i64 a.i, .int .i64 a.size, .int .i64 a.ptrs, .int .u64 (a.v : Int)] _ _ ha1 Try.underlying31 rfl (by kernel_rfl) ?_
        simp [Act.put]
        refine wpQ_load_any (by rfl) 32 (.tmp 10) rfl (w.heap.size + 1 + 1) rfl [.int .i64 p.n0, .int .i64 p.n1, .int .i64 p.n2, .int .i64 p.n3, .int .i64 p.n4] _ _ hp1 Try.underlying32 rfl (by kernel_rfl) ?_
        simp [Act.put]
        show wpQuiet _ _ _ _ [_, _, _, _, _, _, _, _, _, _, _, _, _, _, _, _, _] _
        repeat (first
          | (refine wpQ_load_off (by rfl) 28 (.tmp 118) rfl (w.heap.size + 1) 4 rfl [.int .i64 a.size, .int .i64 a.ptrs] _ ha2 Try.underlying28 rfl (by kernel_rfl) ?_; simp [Act.put])
          | go_big_quiet_step ((first
            | (go_at_call 15; exact grow_call (HACT.out _))
            | (go_at_call 16; exact grow_same (HPK.out _ _ _ (by first | exact Or.inl ⟨rfl, rfl⟩ | exact Or.inr ⟨rfl, rfl⟩))))))
        refine wpQuiet_nil ?_
        rintro ⟨W1, hz1⟩
        have HB7 := Lib.hid (bt HB6.out hz1)
        have HQB7 := Lib.hid (HQB6.out.below hz1)
        have HQA7 := Lib.hid (HQA6.out.below hz1)
        show wpList _ _ _ [_] _ W1
        clear hz1 ha1 hp1 ha2 d0 d1 d2 d3 HPK HACT HA6 HP6 HB6 HQB6 HQA6
        go_wp2_with fail
        show wpQuiet _ _ _ _ [_] _
        repeat (go_big_quiet_step ((fail)))
        refine wpQuiet_nil ?_
        dsimp only [Exit.then]
        have HAL := Lib.hid (Blk.new W1 [.int .i64 a.kind, .int .i64 a.r, .int .i64 a.s, .int .i64 a.i, .int .i64 a.size, .int .i64 a.ptrs, .int .u64 (a.v : Int), .int .i64 A2.kind, .int .i64 A2.r, .int .i64 A2.s, .int .i64 A2.i, .int .i64 A2.size, .int .i64 A2.ptrs, .int .u64 (A2.v : Int), .int .i64 a.kind, .int .i64 (k1 : Int), .int .i64 (k2 : Int), .int .i64 a.i, .int .i64 a.size, .int .i64 a.ptrs, .int .u64 (v : Int)] 31)
        have hb := ba0 W1 (.cells #[.int .i64 a.kind, .int .i64 a.r, .int .i64 a.s, .int .i64 a.i, .int .i64 a.size, .int .i64 a.ptrs, .int .u64 (a.v : Int), .int .i64 A2.kind, .int .i64 A2.r, .int .i64 A2.s, .int .i64 A2.i, .int .i64 A2.size, .int .i64 A2.ptrs, .int .u64 (A2.v : Int), .int .i64 a.kind, .int .i64 (k1 : Int), .int .i64 (k2 : Int), .int .i64 a.i, .int .i64 a.size, .int .i64 a.ptrs, .int .u64 (v : Int)] 31)
        have HB8 := Lib.hid (bt HB7.out hb)
        have HQB8 := Lib.hid (HQB7.out.below hb)
        have HQA8 := Lib.hid (HQA7.out.below hb)
        clear hb HB7 HQB7 HQA7
        generalize W1.alloc (.cells #[.int .i64 a.kind, .int .i64 a.r, .int .i64 a.s, .int .i64 a.i, .int .i64 a.size, .int .i64 a.ptrs, .int .u64 (a.v : Int), .int .i64 A2.kind, .int .i64 A2.r, .int .i64 A2.s, .int .i64 A2.i, .int .i64 A2.size, .int .i64 A2.ptrs, .int .u64 (A2.v : Int), .int .i64 a.kind, .int .i64 (k1 : Int), .int .i64 (k2 : Int), .int .i64 a.i, .int .i64 a.size, .int .i64 a.ptrs, .int .u64 (v : Int)] 31) = V8 at HAL HB8 HQB8 HQA8 ⊢
        generalize W1.heap.size = AL at HAL ⊢
        go_wp2_with fail
        go_loopw [124] (fun qv wr => ∃ q : Nat, q ≤ 3 ∧ qv = .int .i64 (q : Int) ∧ Hid (Below V8.heap.size V8 wr)) (fun qv _ => 3 - (intOf qv).toNat)
        case atStart => exact ⟨0, by omega, rfl, Lib.hid (Below.refl _ _)⟩
        case round =>
          obtain ⟨q, hq, rfl, HBR⟩ := hrel
          by_cases hq3 : q < 3
          · have hq3i : (q : Int) < 3 := by omega
            obtain ⟨b, hbi, hbv, e0, e1, e2, e3, e4, e5, e6⟩ : ∃ b : Ac, (ib b.kind ∧ ib b.r ∧ ib b.s ∧ ib b.i ∧ ib b.size ∧ ib b.ptrs) ∧ b.v < 2 ^ 64 ∧ wr.cell? ⟨AL, q * 7, none⟩ = some (.int .i64 b.kind) ∧ wr.cell? ⟨AL, q * 7 + 1, none⟩ = some (.int .i64 b.r) ∧ wr.cell? ⟨AL, q * 7 + 2, none⟩ = some (.int .i64 b.s) ∧ wr.cell? ⟨AL, q * 7 + 3, none⟩ = some (.int .i64 b.i) ∧ wr.cell? ⟨AL, q * 7 + 4, none⟩ = some (.int .i64 b.size) ∧ wr.cell? ⟨AL, q * 7 + 5, none⟩ = some (.int .i64 b.ptrs) ∧ wr.cell? ⟨AL, q * 7 + 6, none⟩ = some (.int .u64 (b.v : Int)) := by
              have hl := HAL.out.below HBR.out
              rcases (show q = 0 ∨ q = 1 ∨ q = 2 by omega) with rfl | rfl | rfl
              · exact ⟨a, HAB.out, hav, hl.cell rfl, hl.cell rfl, hl.cell rfl, hl.cell rfl, hl.cell rfl, hl.cell rfl, hl.cell rfl⟩
              · exact ⟨A2, HT.out.1, HT.out.2, hl.cell rfl, hl.cell rfl, hl.cell rfl, hl.cell rfl, hl.cell rfl, hl.cell rfl, hl.cell rfl⟩
              · exact ⟨⟨a.kind, (k1 : Int), (k2 : Int), a.i, a.size, a.ptrs, v⟩, ⟨HAB.out.1, (show ib (k1 : Int) from ibL (by omega)), (show ib (k2 : Int) from ibL (by omega)), HAB.out.2.2.2.1, HAB.out.2.2.2.2.1, HAB.out.2.2.2.2.2⟩, hv, hl.cell rfl, hl.cell rfl, hl.cell rfl, hl.cell rfl, hl.cell rfl, hl.cell rfl, hl.cell rfl⟩
            have hb := ba0 wr (.cells #[.int .i64 b.kind, .int .i64 b.r, .int .i64 b.s, .int .i64 b.i, .int .i64 b.size, .int .i64 b.ptrs, .int .u64 (b.v : Int)] 31)
            have HBB := Lib.hid (Blk.new wr [.int .i64 b.kind, .int .i64 b.r, .int .i64 b.s, .int .i64 b.i, .int .i64 b.size, .int .i64 b.ptrs, .int .u64 (b.v : Int)] 31)
            have HB9 := Lib.hid (bt HBR.out hb)
            have HQB9 := Lib.hid ((HQB8.out.below HBR.out).below hb)
            have HQA9 := Lib.hid ((HQA8.out.below HBR.out).below hb)
            clear hb HBR
            go_upto_region 16 with fail
            clear e0 e1 e2 e3 e4 e5 e6
            generalize wr.alloc (.cells #[.int .i64 b.kind, .int .i64 b.r, .int .i64 b.s, .int .i64 b.i, .int .i64 b.size, .int .i64 b.ptrs, .int .u64 (b.v : Int)] 31) = V9 at HBB HB9 HQB9 HQA9 ⊢
            generalize wr.heap.size = AX at HBB ⊢
            obtain ⟨VV, X, E, hdo⟩ : ∃ VV X E, gdo gg b = (VV, X, E) := ⟨_, _, _, rfl⟩
            have HDO := Lib.hid hdo
            have HXS := Lib.hid (do_gsm (by omega) hdo)
            have HBI := Lib.hid hbi
            clear hdo hbi
            have c0 : V9.cell? ⟨GG, 0, none⟩ = some (.slice xa xn xq) := HQB9.out.cell rfl
            have c1 : V9.cell? ⟨GG, 1, none⟩ = some (.slice ya yn yq) := HQB9.out.cell rfl
            obtain ⟨a0, a1, a2, a3, a4, a5, a6⟩ : V9.cell? ⟨AX, 0, none⟩ = some (.int .i64 b.kind) ∧ V9.cell? ⟨AX, 1, none⟩ = some (.int .i64 b.r) ∧ V9.cell? ⟨AX, 2, none⟩ = some (.int .i64 b.s) ∧ V9.cell? ⟨AX, 3, none⟩ = some (.int .i64 b.i) ∧ V9.cell? ⟨AX, 4, none⟩ = some (.int .i64 b.size) ∧ V9.cell? ⟨AX, 5, none⟩ = some (.int .i64 b.ptrs) ∧ V9.cell? ⟨AX, 6, none⟩ = some (.int .u64 (b.v : Int)) := ⟨HBB.out.cell rfl, HBB.out.cell rfl, HBB.out.cell rfl, HBB.out.cell rfl, HBB.out.cell rfl, HBB.out.cell rfl, HBB.out.cell rfl⟩
            go_wp2_with fail
            refine (C.act HQA9.out HQS.out b.kind b.r b.s b.i b.size b.ptrs b.v b.v HBI.out.1 HBI.out.2.1 HBI.out.2.2.1 HBI.out.2.2.2.1 HBI.out.2.2.2.2.1 HBI.out.2.2.2.2.2 hbv rfl VV (VV : Int) X E HDO.out rfl).mono ?_
            rintro e W4 ⟨za, zn, zq, ta, tn, tq, rfl, hX, hb⟩
            have hb := ba hb (.cells #[.slice za zn zq, .slice ta tn tq] 25)
            have HX1 := Lib.hid (Blk.new W4 [.slice za zn zq, .slice ta tn tq] 25)
            have HX2 := Lib.hid ((hX.imp (Q := fun _ => True) (fun _ _ => trivial)).below (ba0 W4 (.cells #[.slice za zn zq, .slice ta tn tq] 25)))
            have HBBa := Lib.hid (HBB.out.below hb)
            have HB9a := Lib.hid (bt HB9.out hb)
            have HQB9a := Lib.hid (HQB9.out.below hb)
            have HQA9a := Lib.hid (HQA9.out.below hb)
            clear hb hX c0 c1 a0 a1 a2 a3 a4 a5 a6 HBB HB9 HQB9 HQA9
            go_upto_region 17 with fail
            generalize W4.alloc (.cells #[.slice za zn zq, .slice ta tn tq] 25) = VA at HX1 HX2 HBBa HB9a HQB9a HQA9a ⊢
            generalize W4.heap.size = BX at HX1 ⊢
            have c0 : VA.cell? ⟨GG, 0, none⟩ = some (.slice xa xn xq) := HQB9a.out.cell rfl
            have c1 : VA.cell? ⟨GG, 1, none⟩ = some (.slice ya yn yq) := HQB9a.out.cell rfl
            obtain ⟨a0, a1, a2, a3, a4, a5, a6⟩ : VA.cell? ⟨AX, 0, none⟩ = some (.int .i64 b.kind) ∧ VA.cell? ⟨AX, 1, none⟩ = some (.int .i64 b.r) ∧ VA.cell? ⟨AX, 2, none⟩ = some (.int .i64 b.s) ∧ VA.cell? ⟨AX, 3, none⟩ = some (.int .i64 b.i) ∧ VA.cell? ⟨AX, 4, none⟩ = some (.int .i64 b.size) ∧ VA.cell? ⟨AX, 5, none⟩ = some (.int .i64 b.ptrs) ∧ VA.cell? ⟨AX, 6, none⟩ = some (.int .u64 (b.v : Int)) := ⟨HBBa.out.cell rfl, HBBa.out.cell rfl, HBBa.out.cell rfl, HBBa.out.cell rfl, HBBa.out.cell rfl, HBBa.out.cell rfl, HBBa.out.cell rfl⟩
            go_wp2_with fail
            refine (gDo HQA9a.out HQS.out b.kind b.r b.s b.i b.size b.ptrs b.v hbv VV X E HDO.out).mono ?_
            rintro e W5 ⟨za2, zn2, zq2, ta2, tn2, tq2, rfl, hX, hb⟩
            have hb := ba hb (.cells #[.slice za2 zn2 zq2, .slice ta2 tn2 tq2] 25)
            have HX3 := Lib.hid (Blk.new W5 [.slice za2 zn2 zq2, .slice ta2 tn2 tq2] 25)
            have HX4 := Lib.hid ((hX.imp (Q := fun _ => True) (fun _ _ => trivial)).below (ba0 W5 (.cells #[.slice za2 zn2 zq2, .slice ta2 tn2 tq2] 25)))
            have HX5 := Lib.hid (HX1.out.below hb)
            have HX6 := Lib.hid (HX2.out.below hb)
            have HB9b := Lib.hid (bt HB9a.out hb)
            clear hb hX c0 c1 a0 a1 a2 a3 a4 a5 a6 HBBa HB9a HQB9a HQA9a HX1 HX2
            go_upto_region 18 with fail
            generalize W5.alloc (.cells #[.slice za2 zn2 zq2, .slice ta2 tn2 tq2] 25) = VB at HX3 HX4 HX5 HX6 HB9b ⊢
            generalize W5.heap.size = BY at HX3 ⊢
            obtain ⟨c0, c1⟩ : VB.cell? ⟨BX, 0, none⟩ = some (.slice za zn zq) ∧ VB.cell? ⟨BX, 1, none⟩ = some (.slice ta tn tq) := ⟨HX5.out.cell rfl, HX5.out.cell rfl⟩
            obtain ⟨c2, c3⟩ : VB.cell? ⟨BY, 0, none⟩ = some (.slice za2 zn2 zq2) ∧ VB.cell? ⟨BY, 1, none⟩ = some (.slice ta2 tn2 tq2) := ⟨HX3.out.cell rfl, HX3.out.cell rfl⟩
            go_wp2_with fail
            refine (gSame HX6.out HX4.out HXS.out HXS.out true (decide_eq_true rfl)).mono ?_
            rintro e W6 ⟨rfl, hb⟩
            have HBZ := Lib.hid (bt HB9b.out hb)
            clear hb c0 c1 c2 c3 HX3 HX4 HX5 HX6 HB9b
            go_wp2_with fail
            go_roundw
            case rel => (first | exact ⟨q + 1, by omega, by go_num, HBZ⟩ | ((repeat apply Exists.intro); exact ⟨⟨q + 1, by omega, by go_num, HBZ⟩, rfl⟩))
            case measure => simp [intOf]; omega
          · have hexit : decide (q < 3) = false := by simp; omega
            have hexit2 : decide ((q : Int) < 3) = false := by simp; omega
            have HBZ := Lib.hid (bt HB8.out HBR.out)
            go_wp2_with fail
            go_roundw
            case rel => (first | exact ⟨j + 1, by omega, by go_num, HBZ⟩ | ((repeat apply Exists.intro); exact ⟨⟨j + 1, by omega, by go_num, HBZ⟩, rfl⟩))
            case measure => simp [intOf]; omega
      · have hexit : decide (j < 2) = false := by simp; omega
        have hexit2 : decide ((j : Int) < 2) = false := by simp; omega
        have HBF := Lib.hid (bt HBY.out HBR.out)
        go_wp2_with fail
        go_ret
        exact ⟨rfl, HBF.out⟩
end Go.Proofs.Ytjoacfjbdpmgpaa.V
