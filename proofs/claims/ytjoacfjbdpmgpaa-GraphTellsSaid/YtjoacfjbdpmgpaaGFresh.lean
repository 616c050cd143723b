/-
  The document's own fresh: a node of a shape; walked. make of numbers, whole; own slices and blocks apart.
-/
import Derived.Test.YtjoacfjbdpmgpaaGTurned
set_option linter.unusedVariables false
namespace Go.Proofs.Ytjoacfjbdpmgpaa.V
open Go.RowKit

theorem OwnR.notblk {α : Type} {c : α → List Value} {n : Nat} {e : TypeId} {w : World} {S : Nat} {v : Value} {l : List α} (h : OwnR e c n w S v l) {b : Nat} {ds : List Value} {u : TypeId} (hb : Blk w b ds u) (hu : u ≠ e) : v.ownBlock ≠ some b := by
  intro hv
  obtain ⟨_, ⟨rfl, h0⟩ | ⟨g, cap', cur, rfl, h3, h4, _⟩⟩ := h
  · cases hv
  · simp only [Value.ownBlock, Option.some.injEq] at hv
    subst hv
    unfold Blk at hb
    rw [hb] at h4
    simp only [Option.some.injEq, Obj.cells.injEq] at h4
    exact hu h4.2.1
theorem Blk.grown {w w' : World} {g : Nat} {cs : List Value} {t : TypeId} {row : Option Nat} (h : Blk w g cs t) (hg : w.grownBy w' row) (hne : row ≠ some g) : Blk w' g cs t := by
  unfold Blk at *
  rw [hg.block g (heapLt h) (fun e => hne e.symm)]
  exact h
theorem own_u_blk {w : World} {S g n : Nat} {l : List Nat} (h : OwnU w S (.slice (some ⟨g, 0, none⟩) n n) l) (hl : l.length = n) : Blk w g (l.map U) 29 := by
  obtain ⟨_, ⟨h2, h0⟩ | ⟨g0, cap', cur, h2, h3, h4, h5, h6, h7, h8⟩⟩ := h
  · cases h2
  · simp only [Value.slice.injEq, Option.some.injEq, Addr.mk.injEq, and_true] at h2
    obtain ⟨rfl, h21, rfl⟩ := h2
    unfold Blk
    rw [h4, ← h8, List.take_of_length_le (by simp; omega)]
theorem blk_us {w : World} {g : Nat} {l : List Nat} (h : Blk w g (l.map U) 29) : Us w (some ⟨g, 0, none⟩) l := by
  intro j hj
  refine ⟨g, 0, rfl, h.lt, ?_⟩
  rw [Nat.zero_add, h.cell (j := j) (v := U (l.getD j 0)) (by simp [hj, List.getD])]
  rfl
/-- make([]uint64, n) -/
theorem wp_make_us (w : World) {ops : Array Oper} {rest : List Oper} {o : Oper} {a : Act} {Q : Exit → Act → World → Prop} (hg : o.guard = none) (l c : Operand)
    (hop : o.op = Op.makeSlice 34 l c) (n : Nat) (hl : a.eval l = .int .i64 (n : Int)) (hc : a.eval c = .int .i64 (n : Int)) (b2 : n ≤ 1000000000)
    (hK : ∀ w', Blk w' w.heap.size ((List.replicate n 0).map U) 29 → w.heap.size < w'.heap.size → Below w.heap.size w w' → wpList Try.prog ops Q rest (a.put o.dst (.slice (some ⟨w.heap.size, 0, none⟩) n n)) w') : wpList Try.prog ops Q (o :: rest) a w := by
  obtain ⟨i0, hi, hz0, hz1, hz2⟩ := info_parts info_u64
  obtain ⟨w', hrun, ho, hgr⟩ := run_make_full w (P := Try.prog) w.heap.size 34 29 i0 (.int .u64 0) 1 Try.underlying34 hi hz0 hz1 .i64 .i64 n (by rw [hz2]; omega) (by unfold maxLen; omega) (Nat.le_refl _)
  have ho2 : OwnU w' w.heap.size (.slice (some ⟨w.heap.size, 0, none⟩) n n) (List.replicate n 0) := by
    unfold OwnU
    rw [List.length_replicate]
    have e : (madeCells (Value.int .u64 0).cells (n * 1)).toList = (List.replicate n 0).map U := by
      show (madeCells #[Value.int .u64 0] (n * 1)).toList = _
      rw [Nat.mul_one, toList_madeCells_one, List.map_replicate]
      rfl
    rw [e] at ho
    exact ho
  have hb := own_u_blk ho2 (by simp)
  refine wpList_plain hg fun _ hK' => ?_
  unfold Oper.wp execOp
  simp only [hop, hl, hc, Sem.run_bind, hrun, Result.andThen_ok, Sem.run_pure]
  exact hK' _ _ (hK w' hb hb.lt ((Below.refl _ w).grown hgr (Nat.le_refl _) (fun k hk => by cases hk)))

set_option maxRecDepth 100000 in
set_option maxHeartbeats 1000000 in
theorem gFresh (sz pt : Nat) (w : World) (h1 : sz ≤ 255) (h2 : pt ≤ sz) :
    Calls Try.prog 28 #[.agg #[.int .i64 (sz : Int), .int .i64 (pt : Int)]] w fun e w' => ∃ x : NdV, e = .returned (.agg #[.slice x.pa x.ptrs.length x.pcap, .slice x.da x.data.length x.dcap]) ∧ x.ok w' ∧ NdP (fun b => w.heap.size ≤ b) x ∧ x.nd = gfresh sz pt ∧ Below w.heap.size w w' := by
  obtain ⟨dn, hdn⟩ : ∃ dn, sz = pt + dn := ⟨sz - pt, by omega⟩
  have hsub : (sz : Int) - (pt : Int) = (dn : Int) := by omega
  have HDN := Lib.hid hdn
  clear hdn
  have HZ : Hid (Blk ((w.alloc (.cells #[.int .i64 (sz : Int), .int .i64 (pt : Int)] 28)).alloc (.cells #[.slice none 0 0, .slice none 0 0] 36)) (w.heap.size + 1) [.slice none 0 0, .slice none 0 0] 36) := Lib.hid (by
    have := Blk.new (w.alloc (.cells #[.int .i64 (sz : Int), .int .i64 (pt : Int)] 28)) [.slice none 0 0, .slice none 0 0] 36
    rwa [World.size_alloc] at this)
  have HS : Hid (Blk ((w.alloc (.cells #[.int .i64 (sz : Int), .int .i64 (pt : Int)] 28)).alloc (.cells #[.slice none 0 0, .slice none 0 0] 36)) w.heap.size [.int .i64 (sz : Int), .int .i64 (pt : Int)] 28) := Lib.hid ((Blk.new w [.int .i64 (sz : Int), .int .i64 (pt : Int)] 28).below (ba0 _ _))
  have HB := Lib.hid (ba (ba0 w (.cells #[.int .i64 (sz : Int), .int .i64 (pt : Int)] 28)) (.cells #[.slice none 0 0, .slice none 0 0] 36))
  go_enter Try.func28, Try.ntmps28
  go_upto_region 1 with fail
  generalize (w.alloc (.cells #[.int .i64 (sz : Int), .int .i64 (pt : Int)] 28)).alloc (.cells #[.slice none 0 0, .slice none 0 0] 36) = V at HZ HS HB ⊢
  have s0 : V.cell? ⟨w.heap.size, 0, none⟩ = some (.int .i64 (sz : Int)) := HS.out.cell rfl
  have s1 : V.cell? ⟨w.heap.size, 1, none⟩ = some (.int .i64 (pt : Int)) := HS.out.cell rfl
  go_upto_region 2 with (refine wp_make_us V rfl (.tmp 9) (.tmp 9) rfl dn rfl rfl (by have := HDN.out; omega) ?_; intro w3 hb3 hl3 hv3; have HD3 := Lib.hid hb3; have HV3 := Lib.hid hv3; clear hb3 hv3)
  have HG4 := Lib.hid (Blk.new w3 [.slice none 0 0, .slice (some ⟨V.heap.size, 0, none⟩) dn dn] 36)
  have HD4 := Lib.hid (HD3.out.below (ba0 w3 (.cells #[.slice none 0 0, .slice (some ⟨V.heap.size, 0, none⟩) dn dn] 36)))
  have HV4 := Lib.hid (ba HV3.out (.cells #[.slice none 0 0, .slice (some ⟨V.heap.size, 0, none⟩) dn dn] 36))
  generalize w3.alloc (.cells #[.slice none 0 0, .slice (some ⟨V.heap.size, 0, none⟩) dn dn] 36) = W4 at HG4 HD4 HV4 ⊢
  generalize w3.heap.size = G at HG4 hl3 ⊢
  have HS4 := Lib.hid (HS.out.below HV4.out)
  have HZ4 := Lib.hid (HZ.out.below HV4.out)
  have HB4 := Lib.hid (bt HB.out HV4.out)
  have hZl := HZ.out.lt
  have hGl := HG4.out.lt
  have hDl := HD4.out.lt
  clear s0 s1 HS HZ HB HV4 HD3 HV3
  generalize V.heap.size = gd at HG4 HD4 hl3 hZl hDl ⊢
  go_wp2_with fail
  go_loopw [4] (fun i wr => ∃ k : Nat, ∃ ao : Option Addr, ∃ cp : Nat, k ≤ pt ∧ i = .int .i64 k ∧ Hid (Blk wr G [.slice ao k cp, .slice (some ⟨gd, 0, none⟩) dn dn] 36) ∧ Hid (OwnR 3 ic 1 wr W4.heap.size (.slice ao k cp) (List.replicate k (-1))) ∧ Hid (Blk wr gd ((List.replicate dn 0).map U) 29) ∧ Hid (Blk wr w.heap.size [.int .i64 (sz : Int), .int .i64 (pt : Int)] 28) ∧ Hid (Blk wr (w.heap.size + 1) [.slice none 0 0, .slice none 0 0] 36) ∧ Hid (W4.heap.size ≤ wr.heap.size) ∧ Hid (Below w.heap.size w wr)) (fun i _ => pt - (intOf i).toNat)
  case atStart => exact ⟨0, none, 0, by omega, rfl, HG4, Lib.hid (OwnR.nil _ _ _), HD4, HS4, HZ4, Lib.hid (Nat.le_refl _), HB4⟩
  case round =>
    obtain ⟨k, ao, cp, hk, rfl, HG, HO, HD, HS, HZ, HW, HB⟩ := hrel
    have s1 : wr.cell? ⟨w.heap.size, 1, none⟩ = some (.int .i64 (pt : Int)) := HS.out.cell rfl
    have g0 : wr.cell? ⟨G, 0, none⟩ = some (.slice ao k cp) := HG.out.cell rfl
    by_cases hlt : k < pt
    · have hk1 : (k : Int) < (pt : Int) := by omega
      have hG1 := HG.out.below (ba0 wr (.cells #[.int .i64 (-1)] 3))
      have hg1 : (wr.alloc (.cells #[.int .i64 (-1)] 3)).cell? ⟨G, 0, none⟩ = some (.slice ao k cp) := hG1.cell rfl
      go_wp2_with (refine wp_append_row 3 23 _ 8 info_in Try.underlying23 rfl (by decide) (by decide) ic_len ic_one (wr.alloc (.cells #[.int .i64 (-1)] 3)) rfl (.tmp 19) (.tmp 20) rfl W4.heap.size (.slice ao k cp) (List.replicate k (-1)) rfl (HO.out.alloc _) wr.heap.size (-1) rfl (fun i u hi => by match i, hi with | 0, hi => simp [ic] at hi; subst hi; simp) (by simp; omega) (by simp; have := HW.out; omega) ?_; intro v5 w5 ho5 hg5; obtain ⟨ao5, cp5, rfl, _, _, _, hn5⟩ := ho5.rw' ic_len; rw [List.length_append, List.length_replicate] at ho5; have HO5 := Lib.hid ho5; have HGR := Lib.hid hg5; have hG5 := hG1.grown hg5 ((HO.out.alloc (.cells #[.int .i64 (-1)] 3)).notblk hG1 (by decide)); have f5 := hG5.frozen 0; have c5 := hG5.cell (j := 0) (v := .slice ao k cp) rfl; clear ho5 hg5)
      have hON := HO.out.alloc (.cells #[.int .i64 (-1)] 3)
      have hD1 := HD.out.below (ba0 wr (.cells #[.int .i64 (-1)] 3))
      have hS1 := HS.out.below (ba0 wr (.cells #[.int .i64 (-1)] 3))
      have hZ1 := HZ.out.below (ba0 wr (.cells #[.int .i64 (-1)] 3))
      have hlen : Hid (W4.heap.size ≤ (w5.setCell ⟨G, 0, none⟩ (.slice ao5 (k + 1) cp5)).heap.size) := Lib.hid (by
        have h1 := HW.out
        have h2 := HGR.out.size
        rw [World.size_alloc] at h2
        rw [Deep.nblk_setCell]
        omega)
      refine ⟨⟨k + 1, ao5, cp5, by omega, by go_num, Lib.hid (blk_set hG5 0 _), Lib.hid (OwnR.far (by have := HO5.out; rwa [← List.replicate_succ'] at this) (by omega) _), Lib.hid ((hD1.grown HGR.out (hON.notblk hD1 (by decide))).far (by omega) _), Lib.hid ((hS1.grown HGR.out (hON.notblk hS1 (by decide))).far (by omega) _), Lib.hid ((hZ1.grown HGR.out (hON.notblk hZ1 (by decide))).far (by omega) _), hlen, Lib.hid (((ba HB.out _).grown HGR.out (by have := HB.out.size; rw [World.size_alloc]; omega) (fun j hj => ?_)).setCell (by show w.heap.size ≤ G; omega) _)⟩, ?_⟩
      · have h3 := (World.ownsRow.lt hON j hj).1
        have h4 := HB4.out.size
        omega
      · simp [intOf]; omega
    · obtain rfl : k = pt := by omega
      have dk : decide (k < k) = false := by simp
      have g1 : wr.cell? ⟨G, 1, none⟩ = some (.slice (some ⟨gd, 0, none⟩) dn dn) := HG.out.cell rfl
      have hzlt := HZ.out.lt
      go_wp2_with (refine wp_store_whole rfl 36 (.tmp 2) (.tmp 23) rfl (w.heap.size + 1) _ [.slice ao k cp, .slice (some ⟨gd, 0, none⟩) dn dn] rfl rfl _ HZ.out rfl (by kernel_rfl) (by simp [Value.oneCell']) ?_; intro w5 hz5 hf5 hb5; have HZ5 := Lib.hid hz5; have HB5 := Lib.hid (hb5 _ _ (by omega) HB.out); have HF5 := Lib.hid hf5; clear hz5 hb5 hf5)
      refine bodyPost_ret (res_cell1 rfl _ _ _ (w.heap.size + 1) _ rfl (run_loadVar_mid _ _ _ _ _ _ (fun j v hj => by rw [Nat.zero_add]; exact Blk.cell HZ5.out hj) Try.underlying36 rfl (by kernel_rfl))) rfl ?_
      have hD5 := HF5.out gd _ _ (by omega) HD.out
      obtain ⟨ao', cap', hv', hr', hle', hcap', hno'⟩ := HO.out.rw' ic_len
      simp only [Value.slice.injEq] at hv'
      obtain ⟨rfl, hv2, rfl⟩ := hv'
      rw [List.length_replicate] at hle'
      have hpp : Pl (fun b => w.heap.size ≤ b) ao (List.replicate k (-1 : Int)) := fun hne => by
        have h0 : 0 < k := by
          cases k with
          | zero => simp at hne
          | succ k => omega
        obtain ⟨gg, rfl, hg1, _⟩ := HO.out.at h0 (by simp)
        exact ⟨gg, 0, rfl, by have := HB4.out.size; omega⟩
      have hp5 : Rw ic 1 w5 ao (List.replicate k (-1)) := by
        by_cases h0 : 0 < k
        · obtain ⟨gg, rfl, hg1, hg2, hg3⟩ := HO.out.at h0 (by simp)
          exact (HO.out.keep (by have := HB4.out.size; omega) HF5.out).rows ic_len
        · obtain rfl : k = 0 := by omega
          exact Rw.nil _ _
      refine ⟨⟨ao, cp, List.replicate k (-1), some ⟨gd, 0, none⟩, dn, List.replicate dn 0⟩, ?_, ⟨hp5, blk_us hD5, by simpa using hle', by simp, hcap', (by simp only; have := HDN.out; omega), hno', (fun h => by cases h), ?_, ?_⟩, ⟨hpp, fun _ => ⟨gd, 0, rfl, by omega⟩⟩, ?_, HB5.out⟩
      · simp only [List.length_replicate]
      · intro p hp
        have := List.eq_of_mem_replicate hp
        subst this
        unfold ib; omega
      · intro v hv
        have := List.eq_of_mem_replicate hv
        subst this
        decide
      · unfold gfresh NdV.nd
        have e1 : ((sz : Int) - (k : Int)).toNat = dn := by have := HDN.out; omega
        rw [e1, Int.toNat_natCast]
end Go.Proofs.Ytjoacfjbdpmgpaa.V
