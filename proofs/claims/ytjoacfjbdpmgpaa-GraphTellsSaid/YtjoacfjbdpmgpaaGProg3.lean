/-
  The program's own: the graph whole; walked.
-/
import Derived.Test.YtjoacfjbdpmgpaaGProg2
import Derived.Deep.RegionHeld3
set_option linter.unusedVariables false
namespace Go.Proofs.Ytjoacfjbdpmgpaa.V
open Go.RowKit

theorem own_nd_stored {w : World} {g k S m cap : Nat} {l : List NdV} (x : NdV) (h0 : OwnR 36 nc 2 w S (.slice (some ⟨g, 0, none⟩) m cap) l) (hl : l.length = m) (hk : k < m) :
    OwnR 36 nc 2 ((w.setCell ⟨g, k * 2, none⟩ (ptrV x)).setCell ⟨g, k * 2 + 1, none⟩ (datV x)) S (.slice (some ⟨g, 0, none⟩) m cap) (l.set k x) := by
  unfold OwnR at h0 ⊢
  rw [hl] at h0
  rw [List.length_set, hl]
  obtain ⟨k1, _⟩ := World.ownsRow.stored h0 (k * 2) (ptrV x)
  obtain ⟨k2, _⟩ := World.ownsRow.stored k1 (k * 2 + 1) (datV x)
  unfold ptrV datV at k2
  rw [flat_set, if_pos (by omega)] at k2
  exact k2
theorem own_nd_there {w : World} {g S m cap k : Nat} {l : List NdV} (h0 : OwnR 36 nc 2 w S (.slice (some ⟨g, 0, none⟩) m cap) l) (hl : l.length = m) (hk : k < m) :
    (∃ u v, w.cell? ⟨g, k * 2, none⟩ = some u ∧ w.cell? ⟨g, k * 2 + 1, none⟩ = some v) ∧ w.frozen? ⟨g, k * 2, none⟩ = false ∧ w.frozen? ⟨g, k * 2 + 1, none⟩ = false := by
  have h0' := h0
  unfold OwnR at h0'
  rw [hl] at h0'
  have hf := flat_len nc_len l
  refine ⟨⟨(l.flatMap nc)[k * 2]'(by omega), (l.flatMap nc)[k * 2 + 1]'(by omega), ?_, ?_⟩, World.ownsRow.frozenAt h0' _, World.ownsRow.frozenAt h0' _⟩
  · rw [World.ownsRow.cellAt h0' (k * 2) (by omega), List.getElem?_eq_getElem (by omega)]
  · rw [World.ownsRow.cellAt h0' (k * 2 + 1) (by omega), List.getElem?_eq_getElem (by omega)]
theorem set_fill {α : Type} (d : List α) (k n : Nat) (x e : α) (hd : d.length = k) (hk : k < n) : (d ++ List.replicate (n - k) e).set k x = (d ++ [x]) ++ List.replicate (n - (k + 1)) e := by
  obtain ⟨q, hq⟩ : ∃ q, n - k = q + 1 := ⟨n - k - 1, by omega⟩
  rw [hq, List.replicate_succ, List.set_append_right _ _ (by omega), hd, Nat.sub_self, List.set_cons_zero, show n - (k + 1) = q by omega, List.append_assoc]
  rfl
theorem setRow_but {w : World} {g : Nat} (a b : Nat) (u v : Value) : But g w ((w.setCell ⟨g, a, none⟩ u).setCell ⟨g, b, none⟩ v) := ((But.refl g w).set a u).set b v
theorem But.trans {Z : Nat} {a b c : World} (h : But Z a b) (k : But Z b c) : But Z a c := ⟨Nat.le_trans h.1 k.1, fun x hx hz => (k.2 x (Nat.lt_of_lt_of_le hx h.1) hz).trans (h.2 x hx hz)⟩

set_option maxRecDepth 100000 in
set_option maxHeartbeats 2000000 in
theorem gpOwn {P : Nat → Prop} {g : Gr} {na ra : Option Addr} {n nq m rq : Nat} {w : World} (hA : GAt P w na n nq ra m rq g) (sm : gsm g) :
    Calls Try.prog 23 #[.agg #[.slice na n nq, .slice ra m rq]] w fun e w' => ∃ na' nq' ra' rq' nodes, e = .returned (.agg #[.slice na' n nq', .slice ra' m rq']) ∧ GO w.heap.size w' na' n nq' ra' m rq' nodes g.roots ∧ nodes.map NdV.nd = g.nodes ∧ Below w.heap.size w w' := by
  obtain ⟨nodes, k1, k2, k3, k4, k5, k6, k7, k8, k9, k10, k11, k12, k13, k14, k15, k16⟩ := hA
  have hlen : g.nodes.length = n := by rw [← k1, List.length_map]; exact k2
  have hn : n ≤ 1000000 := by have := sm.1; omega
  have hm : m ≤ 1000000 := by have := sm.2.1; omega
  have HN := Lib.hid k4
  have HK := Lib.hid k5
  have HS := Lib.hid (show ∀ x ∈ nodes, x.ptrs.length ≤ 1000000 ∧ x.data.length ≤ 1000000 from fun x hx => sm.2.2 x.nd (by rw [← k1]; exact List.mem_map.2 ⟨x, hx, rfl⟩))
  have HR := Lib.hid k6
  have HNL := Lib.hid k2
  have HML := Lib.hid k3
  have HGN := Lib.hid k1
  have HRN := Lib.hid k12
  have HRB := Lib.hid k13
  clear k1 k2 k3 k4 k5 k6 k7 k8 k9 k10 k11 k12 k13 k14 k15 k16 hlen sm
  have HW := Lib.hid (ba (ba0 w (.cells #[.slice na n nq, .slice ra m rq] 25)) (.cells #[.slice none 0 0, .slice none 0 0] 25))
  have HG : Hid (Blk ((w.alloc (.cells #[.slice na n nq, .slice ra m rq] 25)).alloc (.cells #[.slice none 0 0, .slice none 0 0] 25)) w.heap.size [.slice na n nq, .slice ra m rq] 25) := Lib.hid ((Blk.new w [.slice na n nq, .slice ra m rq] 25).below (ba0 _ _))
  have HZ : Hid (Blk ((w.alloc (.cells #[.slice na n nq, .slice ra m rq] 25)).alloc (.cells #[.slice none 0 0, .slice none 0 0] 25)) (w.heap.size + 1) [.slice none 0 0, .slice none 0 0] 25) := Lib.hid (by
    have := Blk.new (w.alloc (.cells #[.slice na n nq, .slice ra m rq] 25)) [.slice none 0 0, .slice none 0 0] 25
    rwa [World.size_alloc] at this)
  go_enter Try.func23, Try.ntmps23
  go_upto_region 1 with fail
  generalize (w.alloc (.cells #[.slice na n nq, .slice ra m rq] 25)).alloc (.cells #[.slice none 0 0, .slice none 0 0] 25) = V at HW HG HZ ⊢
  have c0 : V.cell? ⟨w.heap.size, 0, none⟩ = some (.slice na n nq) := HG.out.cell rfl
  go_upto_region 2 with (refine wp_make_nd V rfl (.tmp 8) (.tmp 8) rfl n rfl rfl (by omega) ?_; intro V1 ho1 hl1 hb1; have HO1 := Lib.hid ho1; have HB1 := Lib.hid hb1; clear ho1 hb1)
  have HG1 := Lib.hid (HG.out.below HB1.out)
  have HZ1 := Lib.hid (HZ.out.below HB1.out)
  have HW1 := Lib.hid (bt HW.out HB1.out)
  have hZV := HZ.out.lt
  clear c0 HG HZ HW HB1
  generalize V.heap.size = ng at HO1 hl1 hZV ⊢
  have c0 : V1.cell? ⟨w.heap.size, 0, none⟩ = some (.slice na n nq) := HG1.out.cell rfl
  go_wp2_with fail
  clear c0
  go_loopw [13] (fun i wr => ∃ k : Nat, ∃ done : List NdV, k ≤ n ∧ i = .int .i64 (k : Int) ∧ Hid (done.length = k) ∧ Hid (done.map NdV.nd = g.nodes.take k) ∧ Hid (OwnR 36 nc 2 wr w.heap.size (.slice (some ⟨ng, 0, none⟩) n n) (done ++ List.replicate (n - k) (default : NdV))) ∧ Hid (∀ x ∈ done, NdO w.heap.size wr x) ∧ Hid (∀ x ∈ done, ndb x) ∧ Hid (done.Pairwise Apart) ∧ Hid (But ng V1 wr) ∧ Hid (Below w.heap.size w wr)) (fun i _ => n - (intOf i).toNat)
  case atStart => exact ⟨0, [], by omega, rfl, Lib.hid rfl, Lib.hid (by simp), Lib.hid (by simpa using HO1.out.low (by omega)), Lib.hid (by simp), Lib.hid (by simp), Lib.hid List.Pairwise.nil, Lib.hid (But.refl _ _), HW1⟩
  case round =>
    obtain ⟨k, done, hk, rfl, HDL, HDM, HO, HX, HXB, HAP, HBU, HB⟩ := hrel
    have HG2 := Lib.hid (HG1.out.but HBU.out (by omega))
    have HZ2 := Lib.hid (HZ1.out.but HBU.out (by omega))
    by_cases hlt : k < n
    · obtain ⟨x, hx, hxm⟩ := getq HNL.out hlt
      have hgx : g.nodes[k]? = some x.nd := by rw [← HGN.out, List.getElem?_map, hx]; rfl
      have HTK := Lib.hid (show g.nodes.take (k + 1) = g.nodes.take k ++ [x.nd] by rw [List.take_add_one, hgx]; rfl)
      have hxok := (HK.out x hxm).below (Nat.le_refl _) HB.out
      obtain ⟨hs1, hs2⟩ := HS.out x hxm
      obtain ⟨b2, o2, rfl, hb2, x0, x1⟩ := nd_cells HN.out hx
      have y0 := cellS HB.out hb2 x0
      have y1 := cellS HB.out hb2 x1
      have hk1 : (k : Int) < (n : Int) := by omega
      obtain ⟨pa, pq, ptrs, da, dq, data⟩ := x
      obtain ⟨xp, xd, _, _, _, _, xpn, xdn, xpb, xdb⟩ := hxok
      dsimp only at y0 y1 hs1 hs2 xp xd xpn xdn xpb xdb
      obtain ⟨pl, hpl⟩ : ∃ pl, ptrs.length = pl := ⟨_, rfl⟩
      obtain ⟨dl, hdl⟩ : ∃ dl, data.length = dl := ⟨_, rfl⟩
      rw [hpl] at y0 hs1
      rw [hdl] at y1 hs2
      have HPL := Lib.hid hpl
      have HDL2 := Lib.hid hdl
      have HPN := Lib.hid xpn
      have HDN := Lib.hid xdn
      have HPB := Lib.hid xpb
      have HDB := Lib.hid xdb
      have HXP := Lib.hid (xp.below (Nat.le_refl _) (ba0 wr (.cells #[.slice pa pl pq, .slice da dl dq] 36)))
      have HXD := Lib.hid (xd.below (Nat.le_refl _) (ba0 wr (.cells #[.slice pa pl pq, .slice da dl dq] 36)))
      have HXBK := Lib.hid (Blk.new wr [.slice pa pl pq, .slice da dl dq] 36)
      have HBX := Lib.hid (ba0 wr (.cells #[.slice pa pl pq, .slice da dl dq] 36))
      have hngl : ng < wr.heap.size := Nat.lt_of_lt_of_le hl1 HBU.out.1
      clear hx hxm hgx x0 x1 hb2 hpl hdl xp xd xpn xdn xpb xdb
      go_upto_region 5 with fail
      clear y0 y1
      generalize wr.alloc (.cells #[.slice pa pl pq, .slice da dl dq] 36) = X at HXP HXD HXBK HBX ⊢
      generalize hgx : wr.heap.size = gx at HXBK hngl ⊢
      have HGX := Lib.hid hgx
      clear hgx
      have hkeep : Hid (∀ w', But ng X w' → w'.cell? ⟨gx, 0, none⟩ = some (.slice pa pl pq) ∧ w'.cell? ⟨gx, 1, none⟩ = some (.slice da dl dq)) := Lib.hid fun w' hk => ⟨(HXBK.out.but hk (by omega)).cell rfl, (HXBK.out.but hk (by omega)).cell rfl⟩
      go_region_held3 (fun w' => w'.cell? ⟨gx, 0, none⟩ = some (.slice pa pl pq) ∧ w'.cell? ⟨gx, 1, none⟩ = some (.slice da dl dq)) (exact hkeep.out _ (by first
        | exact (But.refl _ X).drew
        | exact But.refl _ X
        | exact (But.refl _ X).drew.below hb4
        | exact ((But.refl _ X).drew.below hb4).below hb5
        | exact (((But.refl _ X).drew.below hb4).below hb5).trans (setRow_but _ _ _ _))) ((first
        | (go_at_call 35; refine (gpFreshI pa pl pq ptrs _ HPL.out (HXP.out.below (Nat.le_refl _) (Below.refl _ X).drew) HPN.out hs1).mono ?_; rintro e w4 ⟨pa4, pq4, rfl, ho4, hb4⟩)
        | (go_at_call 36; refine (gpFreshU da dl dq data _ HDL2.out (HXD.out.below (Nat.le_refl _) (bt (Below.refl _ X).drew hb4)) HDN.out hs2).mono ?_; rintro e w5 ⟨da5, dq5, rfl, ho5, hb5⟩; obtain ⟨⟨q1, q2, hq1, hq2⟩, hq3, hq4⟩ := own_nd_there (k := k) (HO.out.later (bt (bt HBX.out (Below.refl _ X).drew) (bt hb4 hb5))) (by simp [HDL.out]; omega) hlt)))
      have hB45 : Below wr.heap.size wr w5 := bt (bt HBX.out (Below.refl _ X).drew) (bt hb4 hb5)
      obtain ⟨L, hL⟩ : ∃ L : NdV, L = ⟨pa4, pq4, ptrs, da5, dq5, data⟩ := ⟨_, rfl⟩
      have hLp : ptrV L = .slice pa4 pl pq4 := by rw [hL, ← HPL.out]; rfl
      have hLd : datV L = .slice da5 dl dq5 := by rw [hL, ← HDL2.out]; rfl
      have hXs : wr.heap.size ≤ X.drew.heap.size := HBX.out.size
      have hw4s : X.drew.heap.size ≤ w4.heap.size := hb4.size
      have hLO : NdO wr.heap.size w5 L := ⟨by rw [hLp, hL]; exact (ho4.later hb5).low hXs, by rw [hLd, hL]; exact ho5.low (by omega)⟩
      have hLb : ndb L := by rw [hL]; exact ⟨HPB.out, HDB.out⟩
      have hLn : L.nd = NdV.nd ⟨pa, pq, ptrs, da, dq, data⟩ := by rw [hL]; rfl
      have hO5 := HO.out.later hB45
      obtain ⟨cs, hcs⟩ := hO5.blkOf (k := ng) rfl
      have hO6 := own_nd_stored (k := k) L hO5 (by simp [HDL.out]; omega) hlt
      rw [set_fill _ _ _ _ _ HDL.out hlt, hLp, hLd] at hO6
      have hBW : w.heap.size ≤ wr.heap.size := HB.out.size
      have H1 := Lib.hid hO6
      have H2 : Hid (∀ x ∈ done ++ [L], NdO w.heap.size ((w5.setCell ⟨ng, k * 2, none⟩ (.slice pa4 pl pq4)).setCell ⟨ng, k * 2 + 1, none⟩ (.slice da5 dl dq5)) x) := Lib.hid (fun x hx => by
        rcases List.mem_append.1 hx with hx | hx
        · have h9 := (HX.out x hx).later hB45
          exact h9.but (setRow_but _ _ _ _) (h9.notnd hcs (by decide) (by decide)).1 (h9.notnd hcs (by decide) (by decide)).2
        · rw [List.mem_singleton] at hx; subst hx
          exact (hLO.low hBW).but (setRow_but _ _ _ _) (hLO.notnd hcs (by decide) (by decide)).1 (hLO.notnd hcs (by decide) (by decide)).2)
      have H3 : Hid (∀ x ∈ done ++ [L], ndb x) := Lib.hid (fun x hx => by
        rcases List.mem_append.1 hx with hx | hx
        · exact HXB.out x hx
        · rw [List.mem_singleton] at hx; subst hx; exact hLb)
      have H4 : Hid ((done ++ [L]).Pairwise Apart) := Lib.hid (List.pairwise_append.2 ⟨HAP.out, List.pairwise_singleton .., fun a ha b hb => by
        rw [List.mem_singleton] at hb; subst hb
        exact ⟨wr.heap.size, (HX.out a ha).lt, hLO.ge⟩⟩)
      have H5 : Hid (But ng V1 ((w5.setCell ⟨ng, k * 2, none⟩ (.slice pa4 pl pq4)).setCell ⟨ng, k * 2 + 1, none⟩ (.slice da5 dl dq5))) := Lib.hid (((HBU.out.below hB45).set _ _).set _ _)
      have H6 : Hid (Below w.heap.size w ((w5.setCell ⟨ng, k * 2, none⟩ (.slice pa4 pl pq4)).setCell ⟨ng, k * 2 + 1, none⟩ (.slice da5 dl dq5))) := Lib.hid (((bt HB.out hB45).setCell (p := ⟨ng, k * 2, none⟩) (by show w.heap.size ≤ ng; omega) _).setCell (p := ⟨ng, k * 2 + 1, none⟩) (by show w.heap.size ≤ ng; omega) _)
      have H7 : Hid ((done ++ [L]).length = k + 1) := Lib.hid (by rw [List.length_append, HDL.out]; rfl)
      have H8 : Hid ((done ++ [L]).map NdV.nd = g.nodes.take (k + 1)) := Lib.hid (by rw [List.map_append, HDM.out, HTK.out, List.map_singleton, hLn])
      rename_i hHeld
      clear hHeld hq1 hq2 hq3 hq4 hb5 ho5 hb4 ho4 hkeep HXBK HBX HXP HXD hB45 hL hLp hLd hXs hw4s hLO hLb hLn hO5 hcs hO6 hBW
      generalize (w5.setCell ⟨ng, k * 2, none⟩ (.slice pa4 pl pq4)).setCell ⟨ng, k * 2 + 1, none⟩ (.slice da5 dl dq5) = W6 at H1 H2 H5 H6 ⊢
      go_wp2_with fail
      go_roundw
      case rel => exact ⟨k + 1, done ++ [L], by omega, by go_num, H7, H8, H1, H2, H3, H4, H5, H6⟩
      case measure => simp [intOf]; omega
    · obtain rfl : k = n := by omega
      have dk : decide (k < k) = false := by simp
      have c1 : wr.cell? ⟨w.heap.size, 1, none⟩ = some (.slice ra m rq) := HG2.out.cell rfl
      have HRR := Lib.hid (HR.out.below (Nat.le_refl _) HB.out)
      have HO2 : Hid (OwnR 36 nc 2 wr w.heap.size (.slice (some ⟨ng, 0, none⟩) k k) done) := Lib.hid (by have := HO.out; rw [Nat.sub_self] at this; simpa using this)
      have HDM2 : Hid (done.map NdV.nd = g.nodes) := Lib.hid (by rw [HDM.out, List.take_of_length_le (by rw [← HGN.out, List.length_map, HNL.out]; exact Nat.le_refl _)])
      clear HO HDM
      go_wp2_with fail
      refine (gpFreshI ra m rq g.roots _ HML.out HRR.out HRN.out hm).mono ?_
      rintro e w4 ⟨ra4, rq4, rfl, ho4, hb4⟩
      have HZ4 := Lib.hid (HZ2.out.below hb4)
      have HB4 := Lib.hid (bt HB.out hb4)
      have hwl : w.heap.size ≤ wr.heap.size := HB.out.size
      have HGO : Hid (GO w.heap.size w4 (some ⟨ng, 0, none⟩) k k ra4 m rq4 done g.roots) := Lib.hid
        ⟨HDL.out, HML.out, HO2.out.later hb4, fun x hx => (HX.out x hx).later hb4, ho4.low hwl, HXB.out, HRB.out, HAP.out, wr.heap.size, fun x hx => (HX.out x hx).lt, fun j hj => (World.ownsRow.lt ho4 j hj).1⟩
      clear c1 dk ho4 hb4
      go_wp2_with (refine wp_store_but rfl 25 (.tmp 2) (.tmp 33) rfl (w.heap.size + 1) _ [.slice (some ⟨ng, 0, none⟩) k k, .slice ra4 m rq4] rfl rfl _ HZ4.out rfl (by kernel_rfl) (by simp [Value.oneCell']) ?_; intro w5 hz5 hf5 hb5; have HZ5 := Lib.hid hz5; have HF5 := Lib.hid hf5; have HB5 := Lib.hid (hb5 _ _ (by omega) HB4.out); clear hz5 hf5 hb5)
      refine bodyPost_ret (res_cell1 rfl _ _ _ (w.heap.size + 1) _ rfl (run_loadVar_mid _ _ _ _ _ _ (fun j v hj => by rw [Nat.zero_add]; exact Blk.cell HZ5.out hj) Try.underlying25 rfl (by kernel_rfl))) rfl ?_
      obtain ⟨n1, n2, n3⟩ := HGO.out.notblk HZ4.out (by decide) (by decide) (by decide)
      exact ⟨_, _, _, _, done, rfl, HGO.out.but HF5.out n1 n2 n3, HDM2.out, HB5.out⟩
end Go.Proofs.Ytjoacfjbdpmgpaa.V
