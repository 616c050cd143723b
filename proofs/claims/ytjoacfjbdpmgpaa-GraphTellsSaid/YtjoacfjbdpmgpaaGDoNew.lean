/-
  The document's own Do: New; and Do as a whole.
-/
import Derived.Test.YtjoacfjbdpmgpaaGDoRef
set_option linter.unusedVariables false
namespace Go.Proofs.Ytjoacfjbdpmgpaa.V
open Go.RowKit

theorem step_append_rows {α : Type} {c : α → List Value} {n : Nat} (e t : TypeId) (z : Value) (bytes : Nat) (hinfo : (Try.prog.info? e).map (fun i => (i.zero, i.size, i.bytes)) = some (some z, n, bytes)) (ht : Try.prog.underlying t = some (.slice e)) (hz : z.cells.size = n) (hn : 0 < n) (hby : bytes ≤ 100)
    (hc : ∀ x, (c x).length = n) (h1 : ∀ x, ∀ u ∈ c x, u.oneCell' = true) (w : World) {ops : Array Oper} {o : Oper} {a : Act} {K : Act → World → Prop} {Q : Exit → Act → World → Prop} {E : Prop} (hgd : Region.wanted o (yielded ops a.tmps) = true) (s x : Operand)
    (ho : o.op = .call { callee := .builtin .append, args := #[s, x], argTypes := #[t, t] }) (hty : o.type = t) (base : Nat) (v : Value) (l zs : List α) (hs : a.eval s = v) (hown : OwnR e c n w base v l) (ao : Option Addr) (m cap : Nat) (hx : a.eval x = .slice ao m cap) (hm : zs.length = m) (hu : Rw c n w ao zs) (hn0 : ao = none → cap = 0) (hl : l.length + m ≤ 1000000000) (hbase : base ≤ w.heap.size)
    (k : Nat) (hk : (l ++ zs).length = k) (h : ∀ ao' cap' w', OwnR e c n w' base (.slice ao' k cap') (l ++ zs) → k ≤ cap' → cap' ≤ 9223372036854775807 → (ao' = none → cap' = 0) → w.grownBy w' v.ownBlock → K (a.put o.dst (.slice ao' k cap')) w') :
    if Region.wanted o (yielded ops a.tmps) = true then Oper.wp Try.prog o a w K Q else E := by
  rw [if_pos hgd]
  obtain ⟨v', w', hrun, k1, k2⟩ := run_append_rows e t z bytes hinfo ht hz hn hby hc h1 hown hm hu hn0 hl hbase
  obtain ⟨ao', cap', rfl, _, k3, k4, k5⟩ := k1.rw' hc
  rw [hk] at k1 hrun k3
  unfold Oper.wp
  simp [execOp, ho, hty, resolve, invoke, builtin, hs, hx, hrun, Result.andThen]
  exact h ao' cap' w' k1 k3 k4 k5 k2
/-- A literal of one node. -/
theorem rw_lit_nd {w : World} {g : Nat} {x : NdV} (h : Blk w g [.slice x.pa x.ptrs.length x.pcap, .slice x.da x.data.length x.dcap] 36) : Rw nc 2 w (some ⟨g, 0, none⟩) [x] := by
  intro j y hj
  match j, hj with
  | 0, hj =>
    simp at hj
    subst hj
    refine ⟨g, 0, rfl, h.lt, fun i v hi => ?_⟩
    rw [Nat.zero_mul, Nat.zero_add, Nat.zero_add]
    exact h.cell hi

set_option maxRecDepth 100000 in
set_option maxHeartbeats 2000000 in
theorem gDoNew {g : Gr} {na ra : Option Addr} {n nq m rq : Nat} {w : World} {P : Nat → Prop} (hA : GAt P w na n nq ra m rq g) (sm : gsm g) (r : Nat) (s : Int) (i sz pt : Int) (v : Nat) (hg : gright g) (hr : r < g.roots.length) (hsh : hright sz pt) :
    Calls Try.prog 18 #[.agg #[.slice na n nq, .slice ra m rq], .agg #[.int .i64 1, .int .i64 (r : Int), .int .i64 s, .int .i64 i, .int .i64 sz, .int .i64 pt, .int .u64 (v : Int)]] w (DoR P w 0 ⟨g.nodes ++ [gfresh sz pt], g.roots.set r g.nodes.length⟩ 0) := by
  obtain ⟨SZ, rfl⟩ := Int.eq_ofNat_of_zero_le hsh.1
  obtain ⟨PT, rfl⟩ := Int.eq_ofNat_of_zero_le hsh.2.2.1
  have hz1 : SZ ≤ 255 := by have := hsh.2.1; omega
  have hz2 : PT ≤ SZ := by have := hsh.2.2.2; omega
  have HD := Lib.hid (decide_eq_true hg)
  have HN := Lib.hid (show decide (gnames g ⟨1, r, s, i, SZ, PT, v⟩) = true from decide_eq_true (Or.inl ⟨Or.inl rfl, ⟨by simp, by simp only; omega⟩⟩))
  have HSH := Lib.hid hsh
  rw [hA.parts.2.1] at hr
  clear hg hsh
  obtain ⟨sz, hsz⟩ : ∃ z : Int, z = (SZ : Int) := ⟨_, rfl⟩
  obtain ⟨pt, hpt⟩ : ∃ z : Int, z = (PT : Int) := ⟨_, rfl⟩
  rw [← hsz, ← hpt] at HN HSH ⊢
  have HSZ := Lib.hid hsz
  have HPT := Lib.hid hpt
  clear hsz hpt
  have HA := Lib.hid hA
  obtain ⟨p1, p2, p3, p4, p5, p6, p7, p8, p9, p10⟩ := hA.parts
  have HSM := Lib.hid sm
  have hn1 : n ≤ 1000000 := by have := sm.1; omega
  have hm1 : m ≤ 1000000 := by have := sm.2.1; omega
  have HNL := Lib.hid p1
  have HML := Lib.hid p2
  clear hA sm p1 p2 p3 p8 p9 p10
  have HB := Lib.hid (ba (ba (ba0 w (.cells #[.slice na n nq, .slice ra m rq] 25)) (.cells #[.int .i64 1, .int .i64 (r : Int), .int .i64 s, .int .i64 i, .int .i64 sz, .int .i64 pt, .int .u64 (v : Int)] 31)) (.cells #[.slice none 0 0, .slice none 0 0] 25))
  have HG : Hid (Blk (((w.alloc (.cells #[.slice na n nq, .slice ra m rq] 25)).alloc (.cells #[.int .i64 1, .int .i64 (r : Int), .int .i64 s, .int .i64 i, .int .i64 sz, .int .i64 pt, .int .u64 (v : Int)] 31)).alloc (.cells #[.slice none 0 0, .slice none 0 0] 25)) w.heap.size [.slice na n nq, .slice ra m rq] 25) := Lib.hid (((Blk.new w [.slice na n nq, .slice ra m rq] 25).below (ba0 _ _)).below (ba0 _ _))
  have HC : Hid (Blk (((w.alloc (.cells #[.slice na n nq, .slice ra m rq] 25)).alloc (.cells #[.int .i64 1, .int .i64 (r : Int), .int .i64 s, .int .i64 i, .int .i64 sz, .int .i64 pt, .int .u64 (v : Int)] 31)).alloc (.cells #[.slice none 0 0, .slice none 0 0] 25)) (w.heap.size + 1) [.int .i64 1, .int .i64 (r : Int), .int .i64 s, .int .i64 i, .int .i64 sz, .int .i64 pt, .int .u64 (v : Int)] 31) := Lib.hid blk2
  have HZ : Hid (Blk (((w.alloc (.cells #[.slice na n nq, .slice ra m rq] 25)).alloc (.cells #[.int .i64 1, .int .i64 (r : Int), .int .i64 s, .int .i64 i, .int .i64 sz, .int .i64 pt, .int .u64 (v : Int)] 31)).alloc (.cells #[.slice none 0 0, .slice none 0 0] 25)) (w.heap.size + 1 + 1) [.slice none 0 0, .slice none 0 0] 25) := Lib.hid blk3
  go_enter Try.func18, Try.ntmps18
  go_upto_region 1 with fail
  generalize ((w.alloc (.cells #[.slice na n nq, .slice ra m rq] 25)).alloc (.cells #[.int .i64 1, .int .i64 (r : Int), .int .i64 s, .int .i64 i, .int .i64 sz, .int .i64 pt, .int .u64 (v : Int)] 31)).alloc (.cells #[.slice none 0 0, .slice none 0 0] 25) = V at HB HG HC HZ ⊢
  have hZl := HZ.out.lt
  have g0 : V.cell? ⟨w.heap.size, 0, none⟩ = some (.slice na n nq) := HG.out.cell rfl
  have g1 : V.cell? ⟨w.heap.size, 1, none⟩ = some (.slice ra m rq) := HG.out.cell rfl
  have HAV := Lib.hid (HA.out.below HB.out)
  go_wp2_with fail
  refine (gRightA HAV.out HSM.out true HD.out).mono ?_
  rintro e w1 ⟨rfl, hb1⟩
  have HG1 := Lib.hid (HG.out.below hb1)
  have HC1 := Lib.hid (HC.out.below hb1)
  have HZ1 := Lib.hid (HZ.out.below hb1)
  have HB1 := Lib.hid (bt HB.out hb1)
  clear hb1 g0 g1 HG HC HZ HAV
  have g0 : w1.cell? ⟨w.heap.size, 0, none⟩ = some (.slice na n nq) := HG1.out.cell rfl
  have g1 : w1.cell? ⟨w.heap.size, 1, none⟩ = some (.slice ra m rq) := HG1.out.cell rfl
  have a0 : w1.cell? ⟨w.heap.size + 1, 0, none⟩ = some (.int .i64 1) := HC1.out.cell rfl
  have a1 : w1.cell? ⟨w.heap.size + 1, 1, none⟩ = some (.int .i64 r) := HC1.out.cell rfl
  have a2 : w1.cell? ⟨w.heap.size + 1, 2, none⟩ = some (.int .i64 s) := HC1.out.cell rfl
  have a3 : w1.cell? ⟨w.heap.size + 1, 3, none⟩ = some (.int .i64 i) := HC1.out.cell rfl
  have a4 : w1.cell? ⟨w.heap.size + 1, 4, none⟩ = some (.int .i64 sz) := HC1.out.cell rfl
  have a5 : w1.cell? ⟨w.heap.size + 1, 5, none⟩ = some (.int .i64 pt) := HC1.out.cell rfl
  have a6 : w1.cell? ⟨w.heap.size + 1, 6, none⟩ = some (.int .u64 (v : Int)) := HC1.out.cell rfl
  go_wp2_with fail
  refine (gNamesA (g := g) na ra n nq m rq 1 r s i sz pt v true _ HML.out hm1 HN.out).mono ?_
  rintro e w2 ⟨rfl, hb2⟩
  have HG2 := Lib.hid (HG1.out.below hb2)
  have HC2 := Lib.hid (HC1.out.below hb2)
  have HZ2 := Lib.hid (HZ1.out.below hb2)
  have HB2 := Lib.hid (bt HB1.out hb2)
  clear hb2 g0 g1 a0 a1 a2 a3 a4 a5 a6 HG1 HC1 HZ1 HB1
  have g0 : w2.cell? ⟨w.heap.size, 0, none⟩ = some (.slice na n nq) := HG2.out.cell rfl
  have g1 : w2.cell? ⟨w.heap.size, 1, none⟩ = some (.slice ra m rq) := HG2.out.cell rfl
  have a0 : w2.cell? ⟨w.heap.size + 1, 0, none⟩ = some (.int .i64 1) := HC2.out.cell rfl
  have a1 : w2.cell? ⟨w.heap.size + 1, 1, none⟩ = some (.int .i64 (r : Int)) := HC2.out.cell rfl
  have a2 : w2.cell? ⟨w.heap.size + 1, 2, none⟩ = some (.int .i64 s) := HC2.out.cell rfl
  have a3 : w2.cell? ⟨w.heap.size + 1, 3, none⟩ = some (.int .i64 i) := HC2.out.cell rfl
  have a4 : w2.cell? ⟨w.heap.size + 1, 4, none⟩ = some (.int .i64 sz) := HC2.out.cell rfl
  have a5 : w2.cell? ⟨w.heap.size + 1, 5, none⟩ = some (.int .i64 pt) := HC2.out.cell rfl
  have a6 : w2.cell? ⟨w.heap.size + 1, 6, none⟩ = some (.int .u64 (v : Int)) := HC2.out.cell rfl
  have HA2 := Lib.hid (HA.out.both.below HB2.out)
  have hs2 := HB2.out.size
  have hZl2 := HZ2.out.lt
  go_wp2_with fail
  refine (rightYes sz pt _ HSH.out).mono ?_
  rintro e w3 ⟨rfl, hb3⟩
  have HG3 := Lib.hid (HG2.out.below hb3)
  have HC3 := Lib.hid (HC2.out.below hb3)
  have HZ3 := Lib.hid (HZ2.out.below hb3)
  have HB3 := Lib.hid (bt HB2.out hb3)
  have HA3 := Lib.hid (HA2.out.below hb3)
  clear hb3 g0 g1 a0 a1 a2 a3 a4 a5 a6
  have g0 : w3.cell? ⟨w.heap.size, 0, none⟩ = some (.slice na n nq) := HG3.out.cell rfl
  have g1 : w3.cell? ⟨w.heap.size, 1, none⟩ = some (.slice ra m rq) := HG3.out.cell rfl
  have a1 : w3.cell? ⟨w.heap.size + 1, 1, none⟩ = some (.int .i64 (r : Int)) := HC3.out.cell rfl
  go_wp2_with fail
  refine (gRooted HA3.out hm1 r (n : Int) hr (by unfold ib; omega)).mono ?_
  rintro e w9 ⟨ra9, rq9, rfl, hA9, hb9⟩
  have HB9 := Lib.hid (bt HB3.out hb9)
  have HA9 := Lib.hid (show GAt (fun b => ((P b ∧ b < w.heap.size) ∨ w3.heap.size ≤ b) ∧ b < w9.heap.size) w9 na n nq ra9 m rq9 (grooted g r n) from hA9.both)
  have HG9 := Lib.hid (HG3.out.below hb9)
  have HC9 := Lib.hid (HC3.out.below hb9)
  have HZ9 := Lib.hid (HZ3.out.below hb9)
  have HBW := Lib.hid (ba0 w9 (.cells #[.slice na n nq, .slice ra9 m rq9] 25))
  have HT9 := Lib.hid (Blk.new w9 [.slice na n nq, .slice ra9 m rq9] 25)
  have hs39 := hb9.size
  have hs3 := HB3.out.size
  have hzl3 := HZ3.out.lt
  clear hA9 hb9 g0 g1 a1
  go_upto_region 10 with fail
  generalize w9.alloc (.cells #[.slice na n nq, .slice ra9 m rq9] 25) = W at HBW HT9 ⊢
  have hWl := HT9.out.lt
  obtain ⟨nodes, k1, k2, k3, k4, k5, k6, k7, k8, k9, k10, k11, k12, k13, k14, k15, k16⟩ := HA.out.both
  have HK1 := Lib.hid k1
  have HK2 := Lib.hid k2
  have HKN := Lib.hid k11
  have HK5 := Lib.hid k5
  have HK16 := Lib.hid k16
  have HBWW := Lib.hid (bt HB9.out HBW.out)
  have HTW := Lib.hid (k4.below (Nat.le_refl _) HBWW.out)
  clear k1 k2 k3 k4 k5 k6 k11 k12 k13 k14 k15 k16
  generalize hG9 : w9.heap.size = G at HT9 hWl ⊢
  have hGs : w3.heap.size ≤ G := by omega
  have HGE := Lib.hid hG9
  clear hG9
  have HGW := Lib.hid (HG9.out.below HBW.out)
  have HCW := Lib.hid (HC9.out.below HBW.out)
  have hkeep : Hid (∀ w', But G W w' → w'.cell? ⟨w.heap.size, 0, none⟩ = some (.slice na n nq) ∧ w'.cell? ⟨w.heap.size + 1, 4, none⟩ = some (.int .i64 sz) ∧ w'.cell? ⟨w.heap.size + 1, 5, none⟩ = some (.int .i64 pt)) := Lib.hid fun w' hk => ⟨(HGW.out.but hk (by omega)).cell rfl, (HCW.out.but hk (by omega)).cell rfl, (HCW.out.but hk (by omega)).cell rfl⟩
  go_cut [] from 38 (fun wx => ∃ ao : Option Addr, ∃ cp : Nat, ∃ L : NdV, Hid (Blk wx G [.slice ao (n + 1) cp, .slice ra9 m rq9] 25) ∧ Hid (OwnR 36 nc 2 wx W.heap.size (.slice ao (n + 1) cp) (nodes ++ [L])) ∧ Hid (L.ok wx) ∧ Hid (NdP (fun b => W.heap.size ≤ b) L) ∧ Hid (L.nd = gfresh sz pt) ∧ n + 1 ≤ cp ∧ cp ≤ 9223372036854775807 ∧ Hid (ao = none → cp = 0) ∧ Hid (But G W wx) ∧ Hid (Below w.heap.size w wx))
  case first =>
    go_region_held3 (fun w' => w'.cell? ⟨w.heap.size, 0, none⟩ = some (.slice na n nq) ∧ w'.cell? ⟨w.heap.size + 1, 4, none⟩ = some (.int .i64 sz) ∧ w'.cell? ⟨w.heap.size + 1, 5, none⟩ = some (.int .i64 pt)) (exact hkeep.out _ (by first
      | exact (But.refl _ W).drew
      | exact But.refl _ W
      | exact (But.below (But.refl _ W) hb11).set _ _
      | exact But.below (But.refl _ W) hb11
      | exact (But.refl _ W).drew.below hb9
      | exact ((But.refl _ W).drew.below hb9).below hbf
      | exact (((But.refl _ W).drew.below hb9).below hbf).below (ba0 _ _)
      | exact (But.refl _ W).drew.below hbf
      | exact ((But.refl _ W).drew.below hbf).below (ba0 _ _)
      | exact ((But.refl _ W).drew.below hbf).below hb9
      | exact (((But.refl _ W).drew.below hbf).below hb9).below (ba0 _ _)
      | exact (((But.refl _ W).drew.below hbf).below (ba0 _ _)).below hb9)) ((first
      | (go_at_call 28; refine (show Calls _ _ #[.agg #[.int .i64 sz, .int .i64 pt]] _ _ from by rw [HSZ.out, HPT.out]; exact gFresh SZ PT _ hz1 hz2).mono ?_; rintro e wf ⟨xf, rfl, hxo, hxp, hxn, hbf⟩)
      | (refine step_copy_rows 36 22 _ 48 info_nd Try.underlying22 rfl (by decide) (by decide) nc_len nc_one _ (by rfl) (.const (.slice none 0 0)) (.tmp 39) rfl rfl rfl na n nq rfl nodes HK2.out (by first | exact HTW.out.below (Nat.le_refl _) (Below.refl _ W).drew | exact HTW.out.below (Nat.le_refl _) (bt (Below.refl _ W).drew hbf) | exact HTW.out.below (Nat.le_refl _) (ba (bt (Below.refl _ W).drew hbf) _)) HKN.out (by omega) ?_; intro ao9 cp9 w10 ho9 _ hl9 hc9 hn9 hb9)
      | (refine step_append_rows 36 22 _ 48 info_nd Try.underlying22 rfl (by decide) (by decide) nc_len nc_one (wf.alloc _) (by rfl) (.tmp 40) (.tmp 44) rfl rfl W.heap.size (.slice ao9 n cp9) nodes [xf] rfl ((ho9.later hbf).alloc _) (some ⟨wf.heap.size, 0, none⟩) 1 1 rfl rfl (rw_lit_nd (Blk.new wf _ _)) (fun h => by cases h) (by have := HK2.out; omega) (by have h1 := hb9.size; have h2 := hbf.size; rw [World.size_alloc]; show W.drew.heap.size ≤ _; omega) (n + 1) (by rw [List.length_append, HK2.out]; rfl) ?_; intro ao11 cp11 w11 ho11 hl11 hc11 hn11 hg11; have hb11 : Below W.heap.size W w11 := (ba (bt (bt (Below.refl _ W).drew hb9) hbf) _).grown hg11 (by have h1 := hb9.size; have h2 := hbf.size; rw [World.size_alloc]; show W.drew.heap.size ≤ _; omega) (fun j hj => (World.ownsRow.lt ((ho9.later hbf).alloc (.cells #[] 3)) j hj).1); have q0 : w11.cell? ⟨G, 0, none⟩ = some (.slice na n nq) := (HT9.out.below hb11).cell rfl; have f0 := (HT9.out.below hb11).frozen 0)))
    go_wp2_with fail
    go_meet
    have hw10 : W.heap.size ≤ w10.heap.size := hb9.size
    refine ⟨ao11, cp11, xf, Lib.hid (blk_set (HT9.out.below hb11) 0 _), Lib.hid (OwnR.far ho11 hWl _), Lib.hid (hxo.kept hxp (by rw [Deep.nblk_setCell]; have := hg11.size; rw [World.size_alloc] at this; omega) (fun b hb hlt => ?_)), Lib.hid (hxp.imp (fun b hb => by omega)), Lib.hid (by rw [hxn, HSZ.out, HPT.out]), hl11, hc11, Lib.hid hn11, Lib.hid ((But.below (But.refl _ W) hb11).set _ _), Lib.hid ((bt HBWW.out hb11).setCell (p := ⟨G, 0, none⟩) (by show w.heap.size ≤ G; omega) _)⟩
    rw [Deep.blk_setCell_other _ _ _ _ (by show b ≠ G; omega), hg11.block b (by rw [World.size_alloc]; omega) (fun he => ?_), Deep.blk_alloc_lt _ _ _ hlt]
    have := (World.ownsRow.lt ho9 b he.symm).2
    omega
  case rest =>
    obtain ⟨ao, cp, L, HT, HO, HLO, HLP, HLN, hl, hc, HNO, HBU, HBC⟩ := hcut
    have hZne : w.heap.size + 1 + 1 ≠ G := by omega
    have HZW := Lib.hid (HZ9.out.below HBW.out)
    have HZC := Lib.hid (HZW.out.but HBU.out hZne)
    have hkeep2 : Hid (∀ w', But (w.heap.size + 1 + 1) wc w' → w'.cell? ⟨G, 0, none⟩ = some (.slice ao (n + 1) cp) ∧ w'.cell? ⟨G, 1, none⟩ = some (.slice ra9 m rq9)) := Lib.hid fun w' hk => ⟨(HT.out.but hk (Ne.symm hZne)).cell rfl, (HT.out.but hk (Ne.symm hZne)).cell rfl⟩
    have HAC := Lib.hid ((HA9.out.below HBW.out).but (Z := G) (fun b hb => by have := HGE.out; omega) HBU.out)
    have HFN := Lib.hid ((HAC.out.imp (fun b hb => (hb.1 : (P b ∧ b < w.heap.size) ∨ w3.heap.size ≤ b))).renode (l := nodes ++ [L]) (n' := n + 1) (by rw [List.length_append, HK2.out]; rfl) (HO.out.rows nc_len) (fun x hx => by
      rcases List.mem_append.1 hx with hx | hx
      · exact (HK5.out x hx).below (Nat.le_refl _) HBC.out
      · rw [List.mem_singleton] at hx; subst hx; exact HLO.out) hl hc HNO.out (fun _ => by
      obtain ⟨gg, e, h1, _⟩ := HO.out.at (by omega) (by rw [List.length_append, HK2.out]; rfl)
      exact ⟨gg, 0, e, Or.inr (by have := HBW.out.size; omega)⟩) (fun x hx => by
      rcases List.mem_append.1 hx with hx | hx
      · exact (HK16.out x hx).imp (fun b hb => Or.inl hb)
      · rw [List.mem_singleton] at hx; subst hx; exact HLP.out.imp (fun b hb => Or.inr (by have := HBW.out.size; omega))))
    clear hkeep HAC HG9 HC9 HGW HCW
    go_upto_region 11 with fail
    obtain ⟨z0, z1, f0, f1⟩ := blk_two HZC.out
    go_region_held3 (fun w' => w'.cell? ⟨G, 0, none⟩ = some (.slice ao (n + 1) cp) ∧ w'.cell? ⟨G, 1, none⟩ = some (.slice ra9 m rq9)) (exact hkeep2.out _ (by first | exact (But.refl _ _).drew | exact But.refl _ _ | exact (((But.refl _ wc).drew).set _ _).set _ _ | exact (((But.refl _ wc).set _ _).set _ _).drew)) ((fail))
    have HZ5 := Lib.hid (show Blk ((wc.setCell ⟨w.heap.size + 1 + 1, 0, none⟩ (.slice ao (n + 1) cp)).setCell ⟨w.heap.size + 1 + 1, 1, none⟩ (.slice ra9 m rq9)).drew (w.heap.size + 1 + 1) [.slice ao (n + 1) cp, .slice ra9 m rq9] 25 from blk_set (blk_set HZC.out 0 (.slice ao (n + 1) cp)) 1 (.slice ra9 m rq9))
    have HB5 := Lib.hid ((HBC.out.setCell (p := ⟨w.heap.size + 1 + 1, 0, none⟩) (by show w.heap.size ≤ w.heap.size + 1 + 1; omega) (.slice ao (n + 1) cp)).setCell (p := ⟨w.heap.size + 1 + 1, 1, none⟩) (by show w.heap.size ≤ w.heap.size + 1 + 1; omega) (.slice ra9 m rq9)).drew
    have HF5 := Lib.hid (((But.refl (w.heap.size + 1 + 1) wc).set 0 (.slice ao (n + 1) cp)).set 1 (.slice ra9 m rq9)).drew
    generalize ((wc.setCell ⟨w.heap.size + 1 + 1, 0, none⟩ (.slice ao (n + 1) cp)).setCell ⟨w.heap.size + 1 + 1, 1, none⟩ (.slice ra9 m rq9)).drew = w5 at HZ5 HB5 HF5 ⊢
    go_wp2_with fail
    refine bodyPost_ret (res_mid3 rfl _ _ _ (w.heap.size + 1 + 1) _ rfl (load_two HZ5.out)) rfl ?_
    refine ⟨_, _, _, _, _, _, rfl, ?_, HB5.out⟩
    have h9 := (HFN.out.but (Z := w.heap.size + 1 + 1) (fun b hb => by rcases hb with ⟨_, hb⟩ | hb <;> omega) HF5.out).imp (Q := fun b => P b ∨ w.heap.size ≤ b) (fun b hb => by
      rcases hb with ⟨hb, _⟩ | hb
      · exact Or.inl hb
      · exact Or.inr (by omega))
    rw [List.map_append, HK1.out, List.map_singleton, HLN.out] at h9
    simp only [grooted, Int.toNat_natCast] at h9
    rw [HNL.out]
    exact h9

/-- The document's own Do. -/
theorem gDo {g : Gr} {na ra : Option Addr} {n nq m rq : Nat} {w : World} {P : Nat → Prop} (hA : GAt P w na n nq ra m rq g) (sm : gsm g) (kd r s i sz pt : Int) (v : Nat) (hv : v < 2 ^ 64) (V : Nat) (X : Gr) (E : Int) (hd : gdo g ⟨kd, r, s, i, sz, pt, v⟩ = (V, X, E)) :
    Calls Try.prog 18 #[.agg #[.slice na n nq, .slice ra m rq], .agg #[.int .i64 kd, .int .i64 r, .int .i64 s, .int .i64 i, .int .i64 sz, .int .i64 pt, .int .u64 (v : Int)]] w (DoR P w V X E) := by
  by_cases hg : gright g
  · by_cases hn : gnames g ⟨kd, r, s, i, sz, pt, v⟩
    · have hn' := hn
      unfold gnames at hn'
      simp only at hn'
      rcases hn' with ⟨hk, hr⟩ | ⟨hk, hs⟩ | ⟨hk, hr, hs⟩
      · obtain ⟨R, rfl⟩ := Int.eq_ofNat_of_zero_le hr.1
        have hrl : R < g.roots.length := by have := hr.2; omega
        rcases hk with rfl | rfl
        · rw [gdo_new (a := ⟨1, R, s, i, sz, pt, v⟩) hg rfl hr] at hd
          dsimp only at hd
          by_cases hsh : hright sz pt
          · rw [if_pos (by unfold hright at hsh; omega)] at hd
            simp only [Prod.mk.injEq] at hd
            obtain ⟨rfl, rfl, rfl⟩ := hd
            rw [Int.toNat_natCast]
            exact gDoNew hA sm R s i sz pt v hg hrl hsh
          · rw [if_neg (by unfold hright at hsh; omega)] at hd
            simp only [Prod.mk.injEq] at hd
            obtain ⟨rfl, rfl, rfl⟩ := hd
            exact gDoNewBad hA sm R s i sz pt v hg hrl hsh
        · rw [gdo_drop (a := ⟨7, R, s, i, sz, pt, v⟩) hg rfl hr] at hd
          simp only [Prod.mk.injEq] at hd
          obtain ⟨rfl, rfl, rfl⟩ := hd
          exact gDoDrop hA sm R s i sz pt v hg hrl
      · rw [gdo_slot (a := ⟨kd, r, s, i, sz, pt, v⟩) hg (by dsimp only; omega) hn] at hd
        exact gDoSlot hA sm kd r s i sz pt v hv hg hn (by omega) V X E hd
      · by_cases h6 : kd = 6
        · subst h6
          obtain ⟨R, rfl⟩ := Int.eq_ofNat_of_zero_le hr.1
          obtain ⟨S, rfl⟩ := Int.eq_ofNat_of_zero_le hs.1
          rw [gdo_assign (a := ⟨6, R, S, i, sz, pt, v⟩) hg rfl hr hs] at hd
          simp only [Prod.mk.injEq] at hd
          obtain ⟨rfl, rfl, rfl⟩ := hd
          exact gDoAssign hA sm R S i sz pt v hg (by have := hr.2; omega) (by have := hs.2; omega)
        · rw [gdo_slot (a := ⟨kd, r, s, i, sz, pt, v⟩) hg (by dsimp only; omega) hn] at hd
          exact gDoSlot hA sm kd r s i sz pt v hv hg hn (by omega) V X E hd
    · rw [gdo_bad (fun h => hn h.2)] at hd
      simp only [Prod.mk.injEq] at hd
      obtain ⟨rfl, rfl, rfl⟩ := hd
      exact gDoBadN hA sm kd r s i sz pt v hg hn
  · rw [gdo_bad (fun h => hg h.1)] at hd
    simp only [Prod.mk.injEq] at hd
    obtain ⟨rfl, rfl, rfl⟩ := hd
    exact gDoBadG hA sm kd r s i sz pt v hg
end Go.Proofs.Ytjoacfjbdpmgpaa.V
