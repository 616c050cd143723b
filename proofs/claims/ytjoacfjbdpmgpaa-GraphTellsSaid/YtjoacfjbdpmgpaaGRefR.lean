/-
  The document's own Right of a graph, walked.
-/
import Derived.Test.YtjoacfjbdpmgpaaGMem
set_option linter.unusedVariables false
namespace Go.Proofs.Ytjoacfjbdpmgpaa.V
open Go.RowKit

theorem getq {α : Type} {l : List α} {n k : Nat} (h : l.length = n) (hk : k < n) : ∃ x, l[k]? = some x ∧ x ∈ l :=
  ⟨l[k]'(by omega), List.getElem?_eq_getElem (by omega), List.getElem_mem (by omega)⟩

set_option maxRecDepth 100000 in
set_option maxHeartbeats 2000000 in
theorem gRight (na ra : Option Addr) (n m nq rq : Nat) (nodes : List NdV) (roots : List Int) (R : Bool) (w : World) (hn : nodes.length = n) (hm : roots.length = m) (hn1 : n ≤ 1000000) (hm1 : m ≤ 1000000)
    (hN : Rw nc 2 w na nodes) (hK : ∀ x ∈ nodes, x.ok w) (hS : ∀ x ∈ nodes, x.ptrs.length ≤ 1000000 ∧ x.data.length ≤ 1000000) (hT : Rw ic 1 w ra roots) (hR : decide (gright ⟨nodes.map NdV.nd, roots⟩) = R) :
    Calls Try.prog 12 #[.agg #[.slice na n nq, .slice ra m rq]] w fun e w' => e = .returned (.bool R) ∧ Below w.heap.size w w' := by
  have HRF := Lib.hid (show ¬ gright ⟨nodes.map NdV.nd, roots⟩ → R = false from fun h => by rw [← hR, decide_eq_false h])
  have HRT := Lib.hid (show gright ⟨nodes.map NdV.nd, roots⟩ → R = true from fun h => by rw [← hR, decide_eq_true h])
  have HN := Lib.hid hN
  have HK := Lib.hid hK
  have HS := Lib.hid hS
  have HT := Lib.hid hT
  have HNL := Lib.hid hn
  have HML := Lib.hid hm
  clear hN hK hS hT hn hm hR
  by_cases h16 : m ≤ 16
  · have d16 : decide (16 < (m : Int)) = false := by simp; omega
    go_enter Try.func12, Try.ntmps12
    have HW := Lib.hid (ba0 w (.cells #[.slice na n nq, .slice ra m rq] 25))
    have HG := Lib.hid (Blk.new w [.slice na n nq, .slice ra m rq] 25)
    go_wp2_with fail
    clear d16
    generalize w.alloc (.cells #[.slice na n nq, .slice ra m rq] 25) = V at HW HG ⊢
    go_loopw [3] (fun i wr => ∃ k : Nat, k ≤ m ∧ i = .int .i64 k ∧ Hid (∀ q p, q < k → roots[q]? = some p → gin n p) ∧ Below V.heap.size V wr) (fun i _ => m - (intOf i).toNat)
    case atStart => exact ⟨0, by omega, rfl, Lib.hid (fun q p hq => by omega), Below.refl _ _⟩
    case round =>
      obtain ⟨k, hk, rfl, HJ, hbel⟩ := hrel
      have HG1 := Lib.hid (HG.out.below hbel)
      have hz1 : ∀ z : GW wr, z.w'.cell? ⟨w.heap.size, 0, none⟩ = some (.slice na n nq) := fun z => cellS z.h HG1.out.lt (HG1.out.cell rfl)
      have hz2 : ∀ z : GW wr, z.w'.cell? ⟨w.heap.size, 1, none⟩ = some (.slice ra m rq) := fun z => cellS z.h HG1.out.lt (HG1.out.cell rfl)
      have c1 : wr.cell? ⟨w.heap.size, 1, none⟩ = some (.slice ra m rq) := HG1.out.cell rfl
      by_cases hlt : k < m
      · obtain ⟨p, hp, hpm⟩ := getq HML.out hlt
        have hwr : Below w.heap.size w wr := bt HW.out hbel
        obtain ⟨b1, o1, rfl, hb1, hc1⟩ := in_cells HT.out hp
        have hz3 : ∀ z : GW wr, z.w'.cell? ⟨b1, o1 + k, none⟩ = some (.int .i64 p) := fun z => cellS (bt hwr z.h) hb1 hc1
        have HP := Lib.hid hp
        have HPM := Lib.hid hpm
        have HWR := Lib.hid hwr
        have hk1 : (k : Int) < (m : Int) := by omega
        clear hp hpm hc1 hb1 hwr
        by_cases hg : gin n p
        · have HGI := Lib.hid hg
          have HD := Lib.hid (show decide (gin n p) = true from decide_eq_true hg)
          have HJ2 : Hid (∀ q x, q < k + 1 → roots[q]? = some x → gin n x) := Lib.hid (fun q x hq hx => by
            rcases Nat.lt_or_ge q k with h | h
            · exact HJ.out q x h hx
            · obtain rfl : q = k := by omega
              rw [HP.out] at hx; cases hx; exact HGI.out)
          clear hg
          go_wp2_with fail
          refine wp_region_grow (by kernel_rfl) (by kernel_rfl) ?_
          repeat (go_big_quiet_step ((go_at_call 22; exact grow_same (refIn p n true _ hn1 HD.out))))
          refine wpQuiet_nil ?_
          first | rintro _ ⟨w4, rfl⟩ | intro w4
          clear hz1 hz2 hz3 c1
          go_wp2_with fail
          go_roundw
          case rel => exact ⟨k + 1, by omega, by go_num, HJ2, bt hbel w4.h⟩
          case measure => simp [intOf]; omega
        · have HD := Lib.hid (show decide (gin n p) = false from decide_eq_false hg)
          have HV := Lib.hid (show R = false from HRF.out (fun h => hg (by
            have := h.2.1 p HPM.out
            simp only [List.length_map] at this
            rw [HNL.out] at this; exact this)))
          clear hg
          go_wp2_with fail
          refine wp_region_grow (by kernel_rfl) (by kernel_rfl) ?_
          repeat (go_big_quiet_step ((go_at_call 22; exact grow_same (refIn p n false _ hn1 HD.out))))
          refine wpQuiet_nil ?_
          first | rintro _ ⟨w4, rfl⟩ | intro w4
          clear hz1 hz2 hz3 c1
          go_wp2_with fail
          go_ret
          exact ⟨by rw [HV.out]; rfl, bt HWR.out w4.h⟩
      · obtain rfl : k = m := by omega
        have HJA : Hid (∀ p ∈ roots, gin n p) := Lib.hid (fun p hp => by
          obtain ⟨q, hq, hqp⟩ := List.getElem_of_mem hp
          exact HJ.out q p (by have := HML.out; omega) (by rw [List.getElem?_eq_getElem hq, hqp]))
        have HWR := Lib.hid (bt HW.out hbel)
        have dk : decide (k < k) = false := by simp
        clear hz1 hz2 HJ hbel HG HW
        go_wp2_with fail
        clear c1 dk
        generalize wr = V2 at HG1 HWR ⊢
        go_loopw [4, 5, 6] (fun i _ _ wr => ∃ j : Nat, j ≤ n ∧ i = .int .i64 j ∧ Hid (∀ q x, q < j → nodes[q]? = some x → ndok n x.nd) ∧ Below V2.heap.size V2 wr) (fun i _ _ _ => n - (intOf i).toNat)
        case atStart => exact ⟨0, by omega, rfl, Lib.hid (fun q p hq => by omega), Below.refl _ _⟩
        case round =>
          obtain ⟨j, hj, rfl, HJ, hbel⟩ := hrel
          have HG2 := Lib.hid (HG1.out.below hbel)
          have c0 : wr.cell? ⟨w.heap.size, 0, none⟩ = some (.slice na n nq) := HG2.out.cell rfl
          by_cases hlt : j < n
          · obtain ⟨x, hx, hxm⟩ := getq HNL.out hlt
            have hwr : Below w.heap.size w wr := bt HWR.out hbel
            have HOK := Lib.hid (HK.out x hxm)
            obtain ⟨hs1, hs2⟩ := HS.out x hxm
            obtain ⟨b2, o2, rfl, hb2, x0, x1⟩ := nd_cells HN.out hx
            have y0 := cellS hwr hb2 x0
            have y1 := cellS hwr hb2 x1
            have HP := Lib.hid hx
            have HPM := Lib.hid hxm
            have HNK := Lib.hid (show ndok n x.nd → ∀ q z, q < j + 1 → nodes[q]? = some z → ndok n z.nd from fun hd q z hq hz => by
              rcases Nat.lt_or_ge q j with h | h
              · exact HJ.out q z h hz
              · obtain rfl : q = j := by omega
                rw [HP.out] at hz; cases hz; exact hd)
            have HNO := Lib.hid (show ¬ ndok n x.nd → R = false from fun hd => HRF.out (fun h => hd (by
              have := h.2.2 x.nd (List.mem_map.2 ⟨x, HPM.out, rfl⟩)
              simp only [List.length_map] at this
              rw [HNL.out] at this; exact this)))
            have HXP := Lib.hid HOK.out.p
            obtain ⟨pa, pcap, ptrs, da, dcap, data⟩ := x
            dsimp only at y0 y1 hs1 hs2 HXP
            obtain ⟨pl, hpl⟩ : ∃ pl, ptrs.length = pl := ⟨_, rfl⟩
            obtain ⟨dl, hdl⟩ : ∃ dl, data.length = dl := ⟨_, rfl⟩
            rw [hpl] at y0 hs1
            rw [hdl] at y1 hs2
            have HPL := Lib.hid hpl
            have HDL := Lib.hid hdl
            have HWR2 := Lib.hid hwr
            clear hx hxm x0 x1 hb2 hpl hdl hwr HP HPM HOK
            have hj1 : (j : Int) < (n : Int) := by omega
            by_cases h255 : pl + dl ≤ 255
            · have d255 : decide (255 < (pl : Int) + (dl : Int)) = false := by simp; omega
              have HX := Lib.hid (Blk.new wr [.slice pa pl pcap, .slice da dl dcap] 36)
              have HG3 := Lib.hid (HG2.out.below (ba0 wr (.cells #[.slice pa pl pcap, .slice da dl dcap] 36)))
              have HWX := Lib.hid (ba HWR2.out (.cells #[.slice pa pl pcap, .slice da dl dcap] 36))
              have HB3 := Lib.hid (ba hbel (.cells #[.slice pa pl pcap, .slice da dl dcap] 36))
              go_wp2_with fail
              clear d255 c0 y0 y1
              generalize wr.alloc (.cells #[.slice pa pl pcap, .slice da dl dcap] 36) = X at HX HG3 HWX HB3 ⊢
              generalize wr.heap.size = gx at HX ⊢
              clear hbel HG2 HWR2
              go_loopw [6] (fun i wr => ∃ k : Nat, k ≤ pl ∧ i = .int .i64 k ∧ Hid (∀ q p, q < k → ptrs[q]? = some p → gin n p) ∧ Below X.heap.size X wr) (fun i _ => pl - (intOf i).toNat)
              case atStart => exact ⟨0, by omega, rfl, Lib.hid (fun q p hq => by omega), Below.refl _ _⟩
              case round =>
                obtain ⟨k, hk, rfl, HL, hbel⟩ := hrel
                have HX1 := Lib.hid (HX.out.below hbel)
                have HG4 := Lib.hid (HG3.out.below hbel)
                have c0 : wr.cell? ⟨gx, 0, none⟩ = some (.slice pa pl pcap) := HX1.out.cell rfl
                by_cases hlt : k < pl
                · obtain ⟨p, hp, hpm⟩ := getq HPL.out hlt
                  have hwr : Below w.heap.size w wr := bt HWX.out hbel
                  obtain ⟨b1, o1, rfl, hb1, hc1⟩ := in_cells HXP.out hp
                  have hz1 : ∀ z : GW wr, z.w'.cell? ⟨gx, 0, none⟩ = some (.slice (some ⟨b1, o1, none⟩) pl pcap) := fun z => cellS z.h HX1.out.lt (HX1.out.cell rfl)
                  have hz2 : ∀ z : GW wr, z.w'.cell? ⟨w.heap.size, 0, none⟩ = some (.slice (some ⟨b2, o2, none⟩) n nq) := fun z => cellS z.h HG4.out.lt (HG4.out.cell rfl)
                  have hz3 : ∀ z : GW wr, z.w'.cell? ⟨b1, o1 + k, none⟩ = some (.int .i64 p) := fun z => cellS (bt hwr z.h) hb1 hc1
                  have HP := Lib.hid hp
                  have HPM := Lib.hid hpm
                  have HWR3 := Lib.hid hwr
                  have hk1 : (k : Int) < (pl : Int) := by omega
                  clear hp hpm hc1 hb1 hwr
                  by_cases hg : gin n p
                  · have HGI := Lib.hid hg
                    have HD := Lib.hid (show decide (gin n p) = true from decide_eq_true hg)
                    have HJ2 : Hid (∀ q x, q < k + 1 → ptrs[q]? = some x → gin n x) := Lib.hid (fun q x hq hx => by
                      rcases Nat.lt_or_ge q k with h | h
                      · exact HL.out q x h hx
                      · obtain rfl : q = k := by omega
                        rw [HP.out] at hx; cases hx; exact HGI.out)
                    clear hg
                    go_wp2_with fail
                    refine wp_region_grow (by kernel_rfl) (by kernel_rfl) ?_
                    repeat (go_big_quiet_step ((go_at_call 22; exact grow_same (refIn p n true _ hn1 HD.out))))
                    refine wpQuiet_nil ?_
                    first | rintro _ ⟨w4, rfl⟩ | intro w4
                    clear hz1 hz2 hz3 c0
                    go_wp2_with fail
                    go_roundw
                    case rel => exact ⟨k + 1, by omega, by go_num, HJ2, bt hbel w4.h⟩
                    case measure => simp [intOf]; omega
                  · have HD := Lib.hid (show decide (gin n p) = false from decide_eq_false hg)
                    have HV := Lib.hid (HNO.out (fun hd => hg (hd.2 p HPM.out)))
                    clear hg
                    go_wp2_with fail
                    refine wp_region_grow (by kernel_rfl) (by kernel_rfl) ?_
                    repeat (go_big_quiet_step ((go_at_call 22; exact grow_same (refIn p n false _ hn1 HD.out))))
                    refine wpQuiet_nil ?_
                    first | rintro _ ⟨w4, rfl⟩ | intro w4
                    clear hz1 hz2 hz3 c0
                    go_wp2_with fail
                    go_ret
                    exact ⟨by rw [HV.out]; rfl, bt HWR3.out w4.h⟩
                · have HJ2 := Lib.hid (HNK.out ⟨by simp only [NdV.nd]; have h1 := HPL.out; have h2 := HDL.out; omega, fun p hp => by
                    obtain ⟨q, hq, hqp⟩ := List.getElem_of_mem hp
                    exact HL.out q p (by simp only [NdV.nd] at hq; have := HPL.out; omega) (by rw [← hqp]; exact List.getElem?_eq_getElem hq)⟩)
                  have dk : decide (k < pl) = false := by simp; omega
                  have HB4 := Lib.hid (bt HB3.out hbel)
                  go_wp2_with fail
                  go_roundw
                  case rel => exact ⟨j + 1, by omega, by go_num, HJ2, HB4.out⟩
                  case measure => simp [intOf]; omega
            · have d255 : decide (255 < (pl : Int) + (dl : Int)) = true := by simp; omega
              have HV := Lib.hid (HNO.out (fun hd => h255 (by have := hd.1; simp only [NdV.nd] at this; have h1 := HPL.out; have h2 := HDL.out; omega)))
              go_wp2_with fail
              go_ret
              exact ⟨by rw [HV.out]; rfl, ba HWR2.out _⟩
          · have hf : R = true := HRT.out ⟨by simp only; have := HML.out; omega, fun p hp => by simp only [List.length_map]; rw [HNL.out]; exact HJA.out p hp, fun y hy => by
              obtain ⟨z, hz, rfl⟩ := List.mem_map.1 hy
              obtain ⟨q, hq, hqp⟩ := List.getElem_of_mem hz
              simp only [List.length_map]; rw [HNL.out]
              exact HJ.out q z (by have := HNL.out; omega) (by rw [List.getElem?_eq_getElem hq, hqp])⟩
            have HV := Lib.hid hf
            have dk : decide (j < n) = false := by simp; omega
            clear hf
            go_wp2_with fail
            go_ret
            exact ⟨by rw [HV.out]; rfl, bt HWR.out hbel⟩
  · have d16 : decide (16 < (m : Int)) = true := by simp; omega
    have HV := Lib.hid (show R = false from HRF.out (fun h => h16 (by have := h.1; simp only at this; have := HML.out; omega)))
    go_enter Try.func12, Try.ntmps12
    go_wp2_with fail
    go_ret
    exact ⟨by rw [HV.out]; rfl, ba0 _ _⟩
end Go.Proofs.Ytjoacfjbdpmgpaa.V
