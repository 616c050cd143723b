/-
  The document's own Same: two graphs compared, node by node; walked.
-/
import Derived.Test.YtjoacfjbdpmgpaaGDoNew
import Derived.Test.YtjoacfjbdpmgpaaNums
set_option linter.unusedVariables false
namespace Go.Proofs.Ytjoacfjbdpmgpaa.V
open Go.RowKit

theorem nums_gen (ao bo : Option Addr) (ca cb m n : Nat) (x y : List Nat) (w : World) (hm : x.length = m) (hn : y.length = n) (hx : m ≤ 1000000000) (hy : n ≤ 1000000000) (ha : Us w ao x) (hb : Us w bo y) :
    Calls Try.prog 31 #[.slice ao m ca, .slice bo n cb] w fun e w' => e = .returned (.bool (decide (x = y))) ∧ Below w.heap.size w w' := by
  subst hm; subst hn
  exact nums_any ao bo ca cb x y w hx hy ha hb

set_option maxRecDepth 100000 in
set_option maxHeartbeats 2000000 in
theorem gSame {g h : Gr} {na ra na' ra' : Option Addr} {n nq m rq n' nq' m' rq' : Nat} {w : World} {P P' : Nat → Prop} (hA : GAt P w na n nq ra m rq g) (hB : GAt P' w na' n' nq' ra' m' rq' h) (sg : gsm g) (sh : gsm h) (R : Bool) (hR : decide (g = h) = R) :
    Calls Try.prog 19 #[.agg #[.slice na n nq, .slice ra m rq], .agg #[.slice na' n' nq', .slice ra' m' rq']] w fun e w' => e = .returned (.bool R) ∧ Below w.heap.size w w' := by
  have HA := Lib.hid hA
  have HB := Lib.hid hB
  have hn1 : n ≤ 1000000 := by have := sg.1; have := hA.parts.1; omega
  have hn2 : n' ≤ 1000000 := by have := sh.1; have := hB.parts.1; omega
  have hm1 : m ≤ 1000000 := by have := sg.2.1; have := hA.parts.2.1; omega
  have hm2 : m' ≤ 1000000 := by have := sh.2.1; have := hB.parts.2.1; omega
  have HSG := Lib.hid sg
  have HSH := Lib.hid sh
  have HF := Lib.hid (show g ≠ h → R = false from fun hne => by rw [← hR, decide_eq_false hne])
  have HT := Lib.hid (show g = h → R = true from fun he => by rw [← hR, decide_eq_true he])
  clear hA hB sg sh hR
  have HG : Hid (Blk ((w.alloc (.cells #[.slice na n nq, .slice ra m rq] 25)).alloc (.cells #[.slice na' n' nq', .slice ra' m' rq'] 25)) w.heap.size [.slice na n nq, .slice ra m rq] 25) := Lib.hid ((Blk.new w [.slice na n nq, .slice ra m rq] 25).below (ba0 _ _))
  have HH : Hid (Blk ((w.alloc (.cells #[.slice na n nq, .slice ra m rq] 25)).alloc (.cells #[.slice na' n' nq', .slice ra' m' rq'] 25)) (w.heap.size + 1) [.slice na' n' nq', .slice ra' m' rq'] 25) := Lib.hid (by
    have := Blk.new (w.alloc (.cells #[.slice na n nq, .slice ra m rq] 25)) [.slice na' n' nq', .slice ra' m' rq'] 25
    rwa [World.size_alloc] at this)
  have HW := Lib.hid (ba (ba0 w (.cells #[.slice na n nq, .slice ra m rq] 25)) (.cells #[.slice na' n' nq', .slice ra' m' rq'] 25))
  go_enter Try.func19, Try.ntmps19
  go_upto_region 1 with fail
  generalize (w.alloc (.cells #[.slice na n nq, .slice ra m rq] 25)).alloc (.cells #[.slice na' n' nq', .slice ra' m' rq'] 25) = V at HG HH HW ⊢
  have g0 : V.cell? ⟨w.heap.size, 0, none⟩ = some (.slice na n nq) := HG.out.cell rfl
  have g1 : V.cell? ⟨w.heap.size, 1, none⟩ = some (.slice ra m rq) := HG.out.cell rfl
  have h0 : V.cell? ⟨w.heap.size + 1, 0, none⟩ = some (.slice na' n' nq') := HH.out.cell rfl
  have h1 : V.cell? ⟨w.heap.size + 1, 1, none⟩ = some (.slice ra' m' rq') := HH.out.cell rfl
  have HAV := Lib.hid (HA.out.below HW.out)
  have HBV := Lib.hid (HB.out.below HW.out)
  go_wp2_with fail
  refine (ints_any ra ra' rq rq' m m' g.roots h.roots V HAV.out.parts.2.1 HBV.out.parts.2.1 (by omega) (by omega) HAV.out.parts.2.2.1 HBV.out.parts.2.2.1).mono ?_
  rintro e w1 ⟨rfl, hb1⟩
  have HG1 := Lib.hid (HG.out.below hb1)
  have HH1 := Lib.hid (HH.out.below hb1)
  have HB1 := Lib.hid (bt HW.out hb1)
  clear hb1 g0 g1 h0 h1 HG HH HAV HBV
  have g0 : w1.cell? ⟨w.heap.size, 0, none⟩ = some (.slice na n nq) := HG1.out.cell rfl
  have h0 : w1.cell? ⟨w.heap.size + 1, 0, none⟩ = some (.slice na' n' nq') := HH1.out.cell rfl
  by_cases hro : g.roots = h.roots
  · rw [decide_eq_true hro]
    have HRO := Lib.hid hro
    clear hro
    by_cases hnn : n = n'
    · subst hnn
      have hne : ((n : Int) != (n : Int)) = false := by simp
      go_wp2_with fail
      clear hne g0 h0
      go_loopw [6, 7, 8] (fun i _ _ wr => ∃ k : Nat, k ≤ n ∧ i = .int .i64 k ∧ Hid (g.nodes.take k = h.nodes.take k) ∧ Below w1.heap.size w1 wr) (fun i _ _ _ => n - (intOf i).toNat)
      case atStart => exact ⟨0, by omega, rfl, Lib.hid (by simp), Below.refl _ _⟩
      case round =>
        obtain ⟨k, hk, rfl, HJ, hbel⟩ := hrel
        have HG2 := Lib.hid (HG1.out.below hbel)
        have HH2 := Lib.hid (HH1.out.below hbel)
        have HB2 := Lib.hid (bt HB1.out hbel)
        have g0 : wr.cell? ⟨w.heap.size, 0, none⟩ = some (.slice na n nq) := HG2.out.cell rfl
        by_cases hlt : k < n
        · obtain ⟨ns, k1, k2, k3, k4, k5, _⟩ := HA.out
          obtain ⟨ms, l1, l2, l3, l4, l5, _⟩ := HB.out
          obtain ⟨x, hx, hxm⟩ := getq k2 hlt
          obtain ⟨y, hy, hym⟩ := getq l2 hlt
          obtain ⟨b2, o2, rfl, hb2, x0, x1⟩ := nd_cells k4 hx
          obtain ⟨b3, o3, rfl, hb3, y0, y1⟩ := nd_cells l4 hy
          have hgx : g.nodes[k]? = some x.nd := by rw [← k1, List.getElem?_map, hx]; rfl
          have hhy : h.nodes[k]? = some y.nd := by rw [← l1, List.getElem?_map, hy]; rfl
          have HST := Lib.hid (take_step hgx hhy HJ.out)
          have HXO := Lib.hid (k5 x hxm)
          have HYO := Lib.hid (l5 y hym)
          have HXS := Lib.hid (HSG.out.2.2 x.nd (by rw [← k1]; exact List.mem_map.2 ⟨x, hxm, rfl⟩))
          have HYS := Lib.hid (HSH.out.2.2 y.nd (by rw [← l1]; exact List.mem_map.2 ⟨y, hym, rfl⟩))
          have hxs1 : x.ptrs.length ≤ 1000000 := HXS.out.1
          have hxs2 : x.data.length ≤ 1000000 := HXS.out.2
          have hys1 : y.ptrs.length ≤ 1000000 := HYS.out.1
          have hys2 : y.data.length ≤ 1000000 := HYS.out.2
          have HZP1 : Hid (∀ z : GW wr, Rw ic 1 z.w' x.pa x.ptrs) := Lib.hid fun z => HXO.out.p.below (Nat.le_refl _) (bt HB2.out z.h)
          have HZP2 : Hid (∀ z : GW wr, Rw ic 1 z.w' y.pa y.ptrs) := Lib.hid fun z => HYO.out.p.below (Nat.le_refl _) (bt HB2.out z.h)
          have HZD1 : Hid (∀ z : GW wr, Us z.w' x.da x.data) := Lib.hid fun z => HXO.out.d.below (Nat.le_refl _) (bt HB2.out z.h)
          have HZD2 : Hid (∀ z : GW wr, Us z.w' y.da y.data) := Lib.hid fun z => HYO.out.d.below (Nat.le_refl _) (bt HB2.out z.h)
          clear k1 k2 k3 k4 k5 l1 l2 l3 l4 l5 hxm hym hx hy hgx hhy HXO HYO HXS HYS
          obtain ⟨xp, hxp⟩ : ∃ z, x.ptrs.length = z := ⟨_, rfl⟩
          obtain ⟨xd, hxd⟩ : ∃ z, x.data.length = z := ⟨_, rfl⟩
          obtain ⟨yp, hyp⟩ : ∃ z, y.ptrs.length = z := ⟨_, rfl⟩
          obtain ⟨yd, hyd⟩ : ∃ z, y.data.length = z := ⟨_, rfl⟩
          rw [hxp] at x0 hxs1
          rw [hxd] at x1 hxs2
          rw [hyp] at y0 hys1
          rw [hyd] at y1 hys2
          have HXPL := Lib.hid hxp
          have HXDL := Lib.hid hxd
          have HYPL := Lib.hid hyp
          have HYDL := Lib.hid hyd
          clear hxp hxd hyp hyd
          have c0 : ∀ z : GW wr, z.w'.cell? ⟨w.heap.size, 0, none⟩ = some (.slice (some ⟨b2, o2, none⟩) n nq) := fun z => cellS z.h HG2.out.lt (HG2.out.cell rfl)
          have c1 : ∀ z : GW wr, z.w'.cell? ⟨w.heap.size + 1, 0, none⟩ = some (.slice (some ⟨b3, o3, none⟩) n nq') := fun z => cellS z.h HH2.out.lt (HH2.out.cell rfl)
          have c2 : ∀ z : GW wr, z.w'.cell? ⟨b2, o2 + k * 2, none⟩ = some (.slice x.pa xp x.pcap) := fun z => cellS (bt HB2.out z.h) hb2 x0
          have c3 : ∀ z : GW wr, z.w'.cell? ⟨b2, o2 + k * 2 + 1, none⟩ = some (.slice x.da xd x.dcap) := fun z => cellS (bt HB2.out z.h) hb2 x1
          have c4 : ∀ z : GW wr, z.w'.cell? ⟨b3, o3 + k * 2, none⟩ = some (.slice y.pa yp y.pcap) := fun z => cellS (bt HB2.out z.h) hb3 y0
          have c5 : ∀ z : GW wr, z.w'.cell? ⟨b3, o3 + k * 2 + 1, none⟩ = some (.slice y.da yd y.dcap) := fun z => cellS (bt HB2.out z.h) hb3 y1
          have HC3 := Lib.hid c3
          have HC5 := Lib.hid c5
          have HC0 := Lib.hid c0
          have HC1 := Lib.hid c1
          have hk1 : (k : Int) < (n : Int) := by omega
          clear x0 x1 y0 y1 hb2 hb3 c3 c5
          obtain ⟨Bp, hBp⟩ : ∃ b, decide (x.ptrs = y.ptrs) = b := ⟨_, rfl⟩
          obtain ⟨Bd, hBd⟩ : ∃ b, decide (x.data = y.data) = b := ⟨_, rfl⟩
          have HIP : Hid (∀ z : GW wr, Calls Try.prog 30 #[.slice x.pa xp x.pcap, .slice y.pa yp y.pcap] z.w' fun e w' => e = .returned (.bool Bp) ∧ Below z.w'.heap.size z.w' w') := Lib.hid fun z => by
            rw [← hBp]; exact ints_any x.pa y.pa x.pcap y.pcap xp yp x.ptrs y.ptrs z.w' HXPL.out HYPL.out (by omega) (by omega) (HZP1.out z) (HZP2.out z)
          have HIB := Lib.hid hBp
          have HID := Lib.hid hBd
          clear hBp hBd
          go_wp2_with fail
          refine wp_region_grow (by kernel_rfl) (by kernel_rfl) ?_
          repeat (go_big_quiet_step ((go_at_call 30; exact grow_call (HIP.out _))))
          refine wpQuiet_nil ?_
          first | rintro _ ⟨w4, rfl⟩ | intro w4
          have hb4 : Below wr.heap.size wr w4.w' := w4.h
          generalize w4.w' = W4 at hb4 ⊢
          clear w4 c0 c1 c2 c4 g0
          have d0 : ∀ z : GW W4, z.w'.cell? ⟨w.heap.size, 0, none⟩ = some (.slice (some ⟨b2, o2, none⟩) n nq) := fun z => HC0.out ⟨z.w', bt hb4 z.h⟩
          have d1 : ∀ z : GW W4, z.w'.cell? ⟨w.heap.size + 1, 0, none⟩ = some (.slice (some ⟨b3, o3, none⟩) n nq') := fun z => HC1.out ⟨z.w', bt hb4 z.h⟩
          have d3 : ∀ z : GW W4, z.w'.cell? ⟨b2, o2 + k * 2 + 1, none⟩ = some (.slice x.da xd x.dcap) := fun z => HC3.out ⟨z.w', bt hb4 z.h⟩
          have d5 : ∀ z : GW W4, z.w'.cell? ⟨b3, o3 + k * 2 + 1, none⟩ = some (.slice y.da yd y.dcap) := fun z => HC5.out ⟨z.w', bt hb4 z.h⟩
          have HIN : Hid (∀ z : GW W4, Calls Try.prog 31 #[.slice x.da xd x.dcap, .slice y.da yd y.dcap] z.w' fun e w' => e = .returned (.bool Bd) ∧ Below z.w'.heap.size z.w' w') := Lib.hid fun z => by
            rw [← HID.out]; exact nums_gen x.da y.da x.dcap y.dcap xd yd x.data y.data z.w' HXDL.out HYDL.out (by omega) (by omega) (HZD1.out ⟨z.w', bt hb4 z.h⟩) (HZD2.out ⟨z.w', bt hb4 z.h⟩)
          go_wp2_with fail
          refine wp_region_grow (by kernel_rfl) (by kernel_rfl) ?_
          repeat (go_big_quiet_step ((go_at_call 31; exact grow_call (HIN.out _))))
          refine wpQuiet_nil ?_
          first | rintro _ ⟨w5, rfl⟩ | intro w5
          have HB5 := Lib.hid (bt hb4 w5.h)
          generalize w5.w' = W5 at HB5 ⊢
          clear w5 d0 d1 d3 d5 hb4 HIP HIN
          by_cases hpd : Bp = true ∧ Bd = true
          · obtain ⟨rfl, rfl⟩ := hpd
            have HJ2 : Hid (g.nodes.take (k + 1) = h.nodes.take (k + 1)) := Lib.hid (HST.out.2 (by
              have e1 := of_decide_eq_true HIB.out
              have e2 := of_decide_eq_true HID.out
              unfold NdV.nd; rw [e1, e2]))
            go_wp2_with fail
            go_roundw
            case rel => exact ⟨k + 1, by omega, by go_num, HJ2, bt hbel HB5.out⟩
            case measure => simp [intOf]; omega
          · have hf : R = false := HF.out (fun he => hpd (by
              have e0 := HST.out.1 (by rw [he])
              simp only [NdV.nd, Nd.mk.injEq] at e0
              exact ⟨by rw [← HIB.out]; exact decide_eq_true e0.1, by rw [← HID.out]; exact decide_eq_true e0.2⟩))
            have HV := Lib.hid hf
            clear hf
            cases Bp
            · go_wp2_with fail
              go_ret
              exact ⟨by rw [HV.out]; rfl, bt HB2.out HB5.out⟩
            · cases Bd
              · go_wp2_with fail
                go_ret
                exact ⟨by rw [HV.out]; rfl, bt HB2.out HB5.out⟩
              · exact absurd ⟨rfl, rfl⟩ hpd
        · have hf : R = true := HT.out (by
            have h1 := HJ.out
            rw [List.take_of_length_le (by have := HA.out.parts.1; omega), List.take_of_length_le (by have := HB.out.parts.1; omega)] at h1
            cases g; cases h; simp only at h1; have h2 := HRO.out; simp only at h2; rw [h1, h2])
          have HV := Lib.hid hf
          have dk : decide (k < n) = false := by simp; omega
          clear hf
          go_wp2_with fail
          go_ret
          exact ⟨by rw [HV.out]; rfl, HB2.out⟩
    · have hne : ((n : Int) != (n' : Int)) = true := by simp; omega
      have HV := Lib.hid (show R = false from HF.out (fun he => hnn (by rw [← HA.out.parts.1, ← HB.out.parts.1, he])))
      go_wp2_with fail
      go_ret
      exact ⟨by rw [HV.out]; rfl, HB1.out⟩
  · rw [decide_eq_false hro]
    have HV := Lib.hid (show R = false from HF.out (fun he => hro (by rw [he])))
    clear hro
    go_wp2_with fail
    go_ret
    exact ⟨by rw [HV.out]; rfl, HB1.out⟩
end Go.Proofs.Ytjoacfjbdpmgpaa.V
