/-
  The document's own turned: a graph with one node that is another one; walked.
-/
import Derived.Test.YtjoacfjbdpmgpaaGRooted
set_option linter.unusedVariables false
namespace Go.Proofs.Ytjoacfjbdpmgpaa.V
open Go.RowKit

theorem flat_set : ∀ (l : List NdV) (k : Nat) (x : NdV), ((l.flatMap nc).set (k * 2) (.slice x.pa x.ptrs.length x.pcap)).set (k * 2 + 1) (.slice x.da x.data.length x.dcap) = if k < l.length then (l.set k x).flatMap nc else l.flatMap nc
  | [], k, x => by simp
  | y :: r, 0, x => by simp [nc]
  | y :: r, k + 1, x => by
    have ih := flat_set r k x
    have e : (y :: r).flatMap nc = (.slice y.pa y.ptrs.length y.pcap) :: (.slice y.da y.data.length y.dcap) :: r.flatMap nc := by simp [nc]
    rw [e, show (k + 1) * 2 = k * 2 + 1 + 1 by omega, List.set_cons_succ, List.set_cons_succ, List.set_cons_succ, List.set_cons_succ, ih]
    by_cases h : k < r.length
    · rw [if_pos h, if_pos (by simp; omega), List.set_cons_succ]; simp [nc]
    · rw [if_neg h, if_neg (by simp; omega)]
/-- One node of an own slice of nodes, stored. -/
theorem wp_store_nd {ops : Array Oper} {rest : List Oper} {op : Oper} {a : Act} {w : World} {Q : Exit → Act → World → Prop} (hgd : op.guard = none) (p y : Operand) (ho : op.op = .store 36 p y)
    (g k S m cap : Nat) (l : List NdV) (x : NdV) (hx : a.eval p = .pointer (some ⟨g, k * 2, none⟩)) (hy : a.eval y = .agg #[.slice x.pa x.ptrs.length x.pcap, .slice x.da x.data.length x.dcap]) (hl : l.length = m) (hk : k < m) (h0 : OwnR 36 nc 2 w S (.slice (some ⟨g, 0, none⟩) m cap) l)
    (h : ∀ w2, OwnR 36 nc 2 w2 S (.slice (some ⟨g, 0, none⟩) m cap) (l.set k x) → (∀ b ds u, b ≠ g → Blk w b ds u → Blk w2 b ds u) → (∀ S v, S ≤ g → Below S v w → Below S v w2) → wpList Try.prog ops Q rest (a.put op.dst undef) w2) : wpList Try.prog ops Q (op :: rest) a w := by
  have h0' := h0
  unfold OwnR at h0'
  rw [hl] at h0'
  have hf := flat_len nc_len l
  have ht : w.there g (k * 2) 2 := fun j hj => by
    refine ⟨?_, World.ownsRow.frozenAt h0' _⟩
    rw [World.ownsRow.cellAt h0' (k * 2 + j) (by omega), List.getElem?_eq_getElem (by omega)]
    rfl
  refine wpList_store_mid hgd 36 p y ho g (k * 2) #[.slice x.pa x.ptrs.length x.pcap, .slice x.da x.data.length x.dcap] hx hy ht (by kernel_rfl) (by simp [Value.oneCell']) ?_
  refine h _ ?_ ?_ ?_
  · obtain ⟨k1, _⟩ := World.ownsRow.stored h0' (k * 2) (.slice x.pa x.ptrs.length x.pcap)
    obtain ⟨k2, _⟩ := World.ownsRow.stored k1 (k * 2 + 1) (.slice x.da x.data.length x.dcap)
    rw [flat_set, if_pos (by omega)] at k2
    unfold OwnR
    rw [List.length_set, hl]
    exact k2
  · intro b ds u hne hd
    exact (hd.far hne _).far hne _
  · intro S v hS hb
    exact (hb.setCell hS _).setCell hS _
/-- Other nodes, in their own slice. -/
theorem GAt.renode {P : Nat → Prop} {w : World} {na na' ra : Option Addr} {n nq nq' m rq : Nat} {g : Gr} (h : GAt P w na n nq ra m rq g) {l : List NdV} {n' : Nat} (hl : l.length = n') (hr : Rw nc 2 w na' l) (hok : ∀ x ∈ l, x.ok w) (h1 : n' ≤ nq') (h2 : nq' ≤ 9223372036854775807) (h3 : na' = none → nq' = 0) (h4 : Pl P na' l) (h5 : ∀ x ∈ l, NdP P x) : GAt P w na' n' nq' ra m rq ⟨l.map NdV.nd, g.roots⟩ := by
  obtain ⟨nodes, k1, k2, k3, k4, k5, k6, k7, k8, k9, k10, k11, k12, k13, k14, k15, k16⟩ := h
  exact ⟨l, rfl, hl, k3, hr, hok, k6, h1, k8, h2, k10, h3, k12, k13, h4, k15, h5⟩

set_option maxRecDepth 100000 in
set_option maxHeartbeats 2000000 in
theorem gTurned {g : Gr} {na ra : Option Addr} {n nq m rq : Nat} {w : World} {P : Nat → Prop} (hA : GAt P w na n nq ra m rq g) (hm1 : n ≤ 1000000) (r : Nat) (x : NdV) (hr : r < n) (hx : x.ok w) (hxp : NdP P x) :
    Calls Try.prog 46 #[.agg #[.slice na n nq, .slice ra m rq], .int .i64 (r : Int), .agg #[.slice x.pa x.ptrs.length x.pcap, .slice x.da x.data.length x.dcap]] w fun e w' => ∃ na' nq', e = .returned (.agg #[.slice na' n nq', .slice ra m rq]) ∧ GAt (fun b => P b ∨ w.heap.size ≤ b) w' na' n nq' ra m rq ⟨g.nodes.set r x.nd, g.roots⟩ ∧ Below w.heap.size w w' := by
  have HA := Lib.hid hA
  obtain ⟨nodes, k1, k2, k3, k4, k5, k6, k7, k8, k9, k10, k11, k12, k13, k14, k15, k16⟩ := hA
  have HNP := Lib.hid k16
  have HXP := Lib.hid hxp
  have HT := Lib.hid k4
  have HOK := Lib.hid k5
  have HNL := Lib.hid k2
  have HNN := Lib.hid k11
  have HMP := Lib.hid k1
  have HX := Lib.hid hx
  clear k1 k2 k3 k4 k5 k6 k11 k12 k13 k14 k15 k16 hx hxp
  obtain ⟨nv, hnv⟩ : ∃ nv, nv = x := ⟨_, rfl⟩
  have HNV := Lib.hid hnv
  clear hnv
  obtain ⟨pl, hpl⟩ : ∃ pl, x.ptrs.length = pl := ⟨_, rfl⟩
  obtain ⟨dl, hdl⟩ : ∃ dl, x.data.length = dl := ⟨_, rfl⟩
  obtain ⟨pa, hpa⟩ : ∃ pa, x.pa = pa := ⟨_, rfl⟩
  obtain ⟨da, hda⟩ : ∃ da, x.da = da := ⟨_, rfl⟩
  obtain ⟨pq, hpq⟩ : ∃ pq, x.pcap = pq := ⟨_, rfl⟩
  obtain ⟨dq, hdq⟩ : ∃ dq, x.dcap = dq := ⟨_, rfl⟩
  have HPV := Lib.hid (show Value.agg #[.slice x.pa x.ptrs.length x.pcap, .slice x.da x.data.length x.dcap] = .agg #[.slice pa pl pq, .slice da dl dq] by rw [hpl, hdl, hpa, hda, hpq, hdq])
  rw [HPV.out]
  clear hpl hdl hpa hda hpq hdq
  have HV0 := Lib.hid (ba (ba (ba0 w (.cells #[.slice na n nq, .slice ra m rq] 25)) (.cells #[.slice pa pl pq, .slice da dl dq] 36)) (.cells #[.slice none 0 0, .slice none 0 0] 25))
  have HG : Hid (Blk (((w.alloc (.cells #[.slice na n nq, .slice ra m rq] 25)).alloc (.cells #[.slice pa pl pq, .slice da dl dq] 36)).alloc (.cells #[.slice none 0 0, .slice none 0 0] 25)) w.heap.size [.slice na n nq, .slice ra m rq] 25) := Lib.hid (((Blk.new w [.slice na n nq, .slice ra m rq] 25).below (ba0 _ _)).below (ba0 _ _))
  have HN0 : Hid (Blk (((w.alloc (.cells #[.slice na n nq, .slice ra m rq] 25)).alloc (.cells #[.slice pa pl pq, .slice da dl dq] 36)).alloc (.cells #[.slice none 0 0, .slice none 0 0] 25)) (w.heap.size + 1) [.slice pa pl pq, .slice da dl dq] 36) := Lib.hid blk2
  have HZ : Hid (Blk (((w.alloc (.cells #[.slice na n nq, .slice ra m rq] 25)).alloc (.cells #[.slice pa pl pq, .slice da dl dq] 36)).alloc (.cells #[.slice none 0 0, .slice none 0 0] 25)) (w.heap.size + 1 + 1) [.slice none 0 0, .slice none 0 0] 25) := Lib.hid blk3
  go_enter Try.func46, Try.ntmps46
  go_upto_region 1 with fail
  generalize ((w.alloc (.cells #[.slice na n nq, .slice ra m rq] 25)).alloc (.cells #[.slice pa pl pq, .slice da dl dq] 36)).alloc (.cells #[.slice none 0 0, .slice none 0 0] 25) = V at HV0 HG HN0 HZ ⊢
  have hkeep : Hid (∀ w', Below V.heap.size V w' → w'.cell? ⟨w.heap.size, 0, none⟩ = some (.slice na n nq) ∧ w'.cell? ⟨w.heap.size, 1, none⟩ = some (.slice ra m rq)) := Lib.hid fun w' h => ⟨(HG.out.below h).cell rfl, (HG.out.below h).cell rfl⟩
  have HTV := Lib.hid (HT.out.below (Nat.le_refl _) HV0.out)
  go_cut [7] from 8 (fun v wx => ∃ G : Nat, ∃ ao : Option Addr, ∃ cp : Nat, v = .pointer (some ⟨G, 0, none⟩) ∧ Hid (Blk wx G [.slice ao n cp, .slice ra m rq] 25) ∧ V.heap.size ≤ G ∧ Hid (OwnR 36 nc 2 wx V.heap.size (.slice ao n cp) nodes) ∧ n ≤ cp ∧ cp ≤ 9223372036854775807 ∧ Hid (ao = none → cp = 0) ∧ Hid (Below V.heap.size V wx))
  case first =>
    go_region_held3 (fun w' => w'.cell? ⟨w.heap.size, 0, none⟩ = some (.slice na n nq) ∧ w'.cell? ⟨w.heap.size, 1, none⟩ = some (.slice ra m rq)) (exact hkeep.out _ (by first | exact (Below.refl _ V).drew | exact Below.refl _ V | exact ba (Below.refl _ V).drew _ | exact ba0 V _ | exact bt (Below.refl _ V).drew hb9 | exact bt (ba0 V _).drew hb9 | exact ba (bt (Below.refl _ V).drew hb9) _ | exact ((bt (ba0 V _).drew hb9).setCell (Nat.le_refl _) _).setCell (Nat.le_refl _) _)) ((first
      | (refine step_copy_rows 36 22 _ 48 info_nd Try.underlying22 rfl (by decide) (by decide) nc_len nc_one (World.drew (World.alloc V _)) (by rfl) (.const (.slice none 0 0)) (.tmp 9) rfl rfl rfl na n nq rfl nodes HNL.out (HTV.out.below (Nat.le_refl _) (ba0 V _).drew) HNN.out (by omega) ?_; intro ao9 cp9 w9 ho9 _ hl9 hc9 hn9 hb9; obtain ⟨q0, q1, f0, f1⟩ := blk_two (blk_old [.slice none 0 0, .slice none 0 0] 25 hb9))
      | (refine step_copy_rows 36 22 _ 48 info_nd Try.underlying22 rfl (by decide) (by decide) nc_len nc_one _ (by rfl) (.const (.slice none 0 0)) (.tmp 9) rfl rfl rfl na n nq rfl nodes HNL.out (HTV.out.below (Nat.le_refl _) (Below.refl _ V).drew) HNN.out (by omega) ?_; intro ao9 cp9 w9 ho9 _ hl9 hc9 hn9 hb9)))
    all_goals (
      go_wp2_with fail
      go_meet
      first
        | exact ⟨_, ao9, cp9, rfl, Lib.hid (Blk.new w9 [.slice ao9 n cp9, .slice ra m rq] _), hb9.size, Lib.hid ((OwnR.alloc ho9 _).low (Nat.le_refl _)), hl9, hc9, Lib.hid hn9, Lib.hid (ba (bt (Below.refl _ V).drew hb9) _)⟩
        | exact ⟨_, ao9, cp9, rfl, Lib.hid (blk_set (blk_set (blk_old [.slice none 0 0, .slice none 0 0] 25 hb9) 0 _) 1 _), Nat.le_refl _, Lib.hid (OwnR.low (OwnR.far (OwnR.far ho9 (by show V.heap.size < _; simp) _) (by show V.heap.size < _; simp) _) (by simp)), hl9, hc9, Lib.hid hn9, Lib.hid (((bt (ba0 V _).drew hb9).setCell (Nat.le_refl _) _).setCell (Nat.le_refl _) _)⟩)
  case rest =>
    obtain ⟨G, ao, cp, rfl, HG2, hG, HO, hl, hc, HN2, HB2⟩ := hcut
    obtain ⟨gg, rfl, hg1, hg2, hg3⟩ := HO.out.at (by omega) HNL.out
    have hGg : G ≠ gg := hg3 G _ _ HG2.out (by decide)
    have c0 : wc.cell? ⟨G, 0, none⟩ = some (.slice (some ⟨gg, 0, none⟩) n cp) := HG2.out.cell rfl
    have hN1 := HN0.out.below HB2.out
    have x0 : wc.cell? ⟨w.heap.size + 1, 0, none⟩ = some (.slice pa pl pq) := hN1.cell rfl
    have x1 : wc.cell? ⟨w.heap.size + 1, 1, none⟩ = some (.slice da dl dq) := hN1.cell rfl
    have hGz : w.heap.size + 1 + 1 < V.heap.size := HZ.out.lt
    have hgz : gg ≠ w.heap.size + 1 + 1 := by omega
    have hwg : w.heap.size ≤ gg := by omega
    have hri : (r : Int) < (n : Int) := by omega
    have HZ2 := Lib.hid (HZ.out.below HB2.out)
    clear hkeep HG HN0 HZ hN1 hg3
    go_upto_region 3 with (refine wp_store_nd rfl (.tmp 18) (.tmp 17) rfl gg r V.heap.size n cp nodes x rfl HPV.out.symm HNL.out hr HO.out ?_; intro w4 ho4 hf4 hb4; have HO4 := Lib.hid ho4; have HG4 := Lib.hid (hf4 _ _ _ hGg HG2.out); have HZ4 := Lib.hid (hf4 _ _ _ (Ne.symm hgz) HZ2.out); have HB4 := Lib.hid (bt HV0.out (hb4 _ _ hg1 HB2.out)); have y0 : w4.cell? ⟨G, 0, none⟩ = some (.slice (some ⟨gg, 0, none⟩) n cp) := HG4.out.cell rfl; have y1 : w4.cell? ⟨G, 1, none⟩ = some (.slice ra m rq) := HG4.out.cell rfl; clear ho4 hf4 hb4 c0 x0 x1)
    go_wp2_with (refine wp_store_whole rfl 25 (.tmp 6) (.tmp 19) rfl (w.heap.size + 1 + 1) _ [.slice (some ⟨gg, 0, none⟩) n cp, .slice ra m rq] rfl rfl _ HZ4.out rfl (by kernel_rfl) (by simp [Value.oneCell']) ?_; intro w5 hz5 hf5 hb5; have HZ5 := Lib.hid hz5; have HB5 := Lib.hid (hb5 _ _ (by omega) HB4.out); have HO5 := Lib.hid (HO4.out.keep hgz hf5); clear hz5 hb5 hf5)
    refine bodyPost_ret (res_cell1 rfl _ _ _ (w.heap.size + 1 + 1) _ rfl (run_loadVar_mid _ _ _ _ _ _ (fun j v hj => by rw [Nat.zero_add]; exact Blk.cell HZ5.out hj) Try.underlying25 rfl (by kernel_rfl))) rfl ?_
    refine ⟨some ⟨gg, 0, none⟩, cp, rfl, ?_, HB5.out⟩
    have h9 := ((HA.out.below HB5.out).imp (fun b hb => (Or.inl hb : P b ∨ w.heap.size ≤ b))).renode (l := nodes.set r x) (by rw [List.length_set]; exact HNL.out) (HO5.out.rows nc_len) (fun y hy => by
      rcases List.mem_or_eq_of_mem_set hy with hy | rfl
      · exact (HOK.out y hy).below (Nat.le_refl _) HB5.out
      · exact HX.out.below (Nat.le_refl _) HB5.out) hl hc (fun h => by cases h) (fun _ => ⟨gg, 0, rfl, Or.inr hwg⟩) (fun y hy => by
      rcases List.mem_or_eq_of_mem_set hy with hy | rfl
      · exact (HNP.out y hy).imp (fun b hb => Or.inl hb)
      · exact HXP.out.imp (fun b hb => Or.inl hb))
    rw [List.map_set, HMP.out] at h9
    exact h9
end Go.Proofs.Ytjoacfjbdpmgpaa.V
