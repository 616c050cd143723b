/-
  The program's functions of package graph that only look: within, size, pointers, Right, Words; walked.
-/
import Derived.Test.YtjoacfjbdpmgpaaGBut
set_option linter.unusedVariables false
namespace Go.Proofs.Ytjoacfjbdpmgpaa.V
open Go.RowKit

theorem gpWithinI (p : Int) (ao : Option Addr) (n ca : Nat) (R : Bool) (w : World) (hn : n ≤ 1000000) (hR : decide (0 ≤ p ∧ p < (n : Int)) = R) : Calls Try.prog 44 #[.int .i64 p, .slice ao n ca] w fun e w' => e = .returned (.bool R) ∧ w = w' := by
  have HR := Lib.hid hR
  clear hR
  by_cases h1 : 0 ≤ p
  · have d1 : decide (0 ≤ p) = true := by simp; omega
    by_cases h2 : p < (n : Int)
    · have d2 : decide (p < (n : Int)) = true := by simp; omega
      have HV := Lib.hid (show R = true by rw [← HR.out, decide_eq_true_iff]; exact ⟨h1, h2⟩)
      go_enter Try.func44, Try.ntmps44
      go_wp2_with fail
      go_ret
      exact ⟨by rw [HV.out]; rfl, rfl⟩
    · have d2 : decide (p < (n : Int)) = false := by simp; omega
      have HV := Lib.hid (show R = false by rw [← HR.out, decide_eq_false_iff_not]; exact fun h => h2 h.2)
      go_enter Try.func44, Try.ntmps44
      go_wp2_with fail
      go_ret
      exact ⟨by rw [HV.out]; rfl, rfl⟩
  · have d1 : decide (0 ≤ p) = false := by simp; omega
    have HV := Lib.hid (show R = false by rw [← HR.out, decide_eq_false_iff_not]; exact fun h => h1 h.1)
    go_enter Try.func44, Try.ntmps44
    go_wp2_with fail
    go_ret
    exact ⟨by rw [HV.out]; rfl, rfl⟩
theorem gpWithinU (p : Int) (ao : Option Addr) (n ca : Nat) (R : Bool) (w : World) (hn : n ≤ 1000000) (hR : decide (0 ≤ p ∧ p < (n : Int)) = R) : Calls Try.prog 55 #[.int .i64 p, .slice ao n ca] w fun e w' => e = .returned (.bool R) ∧ w = w' := by
  have HR := Lib.hid hR
  clear hR
  by_cases h1 : 0 ≤ p
  · have d1 : decide (0 ≤ p) = true := by simp; omega
    by_cases h2 : p < (n : Int)
    · have d2 : decide (p < (n : Int)) = true := by simp; omega
      have HV := Lib.hid (show R = true by rw [← HR.out, decide_eq_true_iff]; exact ⟨h1, h2⟩)
      go_enter Try.func55, Try.ntmps55
      go_wp2_with fail
      go_ret
      exact ⟨by rw [HV.out]; rfl, rfl⟩
    · have d2 : decide (p < (n : Int)) = false := by simp; omega
      have HV := Lib.hid (show R = false by rw [← HR.out, decide_eq_false_iff_not]; exact fun h => h2 h.2)
      go_enter Try.func55, Try.ntmps55
      go_wp2_with fail
      go_ret
      exact ⟨by rw [HV.out]; rfl, rfl⟩
  · have d1 : decide (0 ≤ p) = false := by simp; omega
    have HV := Lib.hid (show R = false by rw [← HR.out, decide_eq_false_iff_not]; exact fun h => h1 h.1)
    go_enter Try.func55, Try.ntmps55
    go_wp2_with fail
    go_ret
    exact ⟨by rw [HV.out]; rfl, rfl⟩
theorem gpWithinN (p : Int) (ao : Option Addr) (n ca : Nat) (R : Bool) (w : World) (hn : n ≤ 1000000) (hR : decide (0 ≤ p ∧ p < (n : Int)) = R) : Calls Try.prog 34 #[.int .i64 p, .slice ao n ca] w fun e w' => e = .returned (.bool R) ∧ w = w' := by
  have HR := Lib.hid hR
  clear hR
  by_cases h1 : 0 ≤ p
  · have d1 : decide (0 ≤ p) = true := by simp; omega
    by_cases h2 : p < (n : Int)
    · have d2 : decide (p < (n : Int)) = true := by simp; omega
      have HV := Lib.hid (show R = true by rw [← HR.out, decide_eq_true_iff]; exact ⟨h1, h2⟩)
      go_enter Try.func34, Try.ntmps34
      go_wp2_with fail
      go_ret
      exact ⟨by rw [HV.out]; rfl, rfl⟩
    · have d2 : decide (p < (n : Int)) = false := by simp; omega
      have HV := Lib.hid (show R = false by rw [← HR.out, decide_eq_false_iff_not]; exact fun h => h2 h.2)
      go_enter Try.func34, Try.ntmps34
      go_wp2_with fail
      go_ret
      exact ⟨by rw [HV.out]; rfl, rfl⟩
  · have d1 : decide (0 ≤ p) = false := by simp; omega
    have HV := Lib.hid (show R = false by rw [← HR.out, decide_eq_false_iff_not]; exact fun h => h1 h.1)
    go_enter Try.func34, Try.ntmps34
    go_wp2_with fail
    go_ret
    exact ⟨by rw [HV.out]; rfl, rfl⟩
theorem gpPtr1 (p : Int) (b : Nat) (na : Option Addr) (n nq : Nat) (R : Bool) (w : World) (hn : n ≤ 1000000) (hb : w.cell? ⟨b, 0, none⟩ = some (.slice na n nq)) (hR : decide (gin n p) = R) :
    Calls Try.prog 33 #[.int .i64 p, .pointer (some ⟨b, 0, none⟩)] w fun e w' => e = .returned (.bool (!R)) ∧ w = w' := by
  have HR := Lib.hid hR
  clear hR
  by_cases h1 : p = -1
  · subst h1
    have HV := Lib.hid (show R = true by rw [← HR.out, decide_eq_true_iff]; unfold gin; omega)
    go_enter Try.func33, Try.ntmps33
    go_wp2_with fail
    go_ret
    exact ⟨by rw [HV.out]; rfl, rfl⟩
  · have d1 : (p != -1) = true := by simp; omega
    have HD := Lib.hid (show decide (0 ≤ p ∧ p < (n : Int)) = R by rw [← HR.out]; unfold gin; exact decide_eq_decide.2 (by omega))
    clear h1
    go_enter Try.func33, Try.ntmps33
    go_wp2_with fail
    refine (gpWithinN p na n nq R _ hn HD.out).mono ?_
    rintro e w1 ⟨rfl, rfl⟩
    go_wp2_with fail
    go_ret
    exact ⟨rfl, rfl⟩
set_option maxRecDepth 100000 in
theorem gpIndex (ao : Option Addr) (ca m : Nat) (l : List Int) (b : Nat) (na : Option Addr) (n nq : Nat) (w : World) (hm : l.length = m) (hl : m ≤ 1000000) (hn : n ≤ 1000000) (hb : w.cell? ⟨b, 0, none⟩ = some (.slice na n nq)) (hu : Rw ic 1 w ao l) :
    Calls Try.prog 47 #[.slice ao m ca, .func (.func 33) #[] #[.pointer (some ⟨b, 0, none⟩)]] w fun e w' => ∃ r : Int, e = .returned (.int .i64 r) ∧ decide (0 ≤ r) = !decide (∀ p ∈ l, gin n p) ∧ w = w' := by
  have HU := Lib.hid hu
  have HM := Lib.hid hm
  have HB := Lib.hid hb
  clear hu hm hb
  go_enter Try.func47, Try.ntmps47
  go_wp2_with fail
  go_loopw [8] (fun i wr => ∃ k : Nat, k ≤ m ∧ i = .int .i64 k ∧ Hid (∀ q p, q < k → l[q]? = some p → gin n p) ∧ wr = w) (fun i _ => m - (intOf i).toNat)
  case atStart => exact ⟨0, by omega, rfl, Lib.hid (fun q p hq => by omega), rfl⟩
  case round =>
    obtain ⟨k, hk, rfl, HT, rfl⟩ := hrel
    by_cases hkm : k < m
    · obtain ⟨p, hp, hpm⟩ := getq HM.out hkm
      obtain ⟨b1, o1, rfl, hb1, hc1⟩ := in_cells HU.out hp
      have HP := Lib.hid hp
      have HPM := Lib.hid hpm
      have hk1 : (k : Int) < (m : Int) := by omega
      clear hp hpm
      by_cases hg : gin n p
      · have HG := Lib.hid hg
        have HD := Lib.hid (show decide (gin n p) = true from decide_eq_true hg)
        clear hg
        go_wp2_with fail
        refine (gpPtr1 p b na n nq true _ hn HB.out HD.out).mono ?_
        rintro e w1 ⟨rfl, rfl⟩
        go_wp2_with fail
        go_roundw
        case rel => exact ⟨k + 1, by omega, by go_num, Lib.hid (fun q x hq hx => by
          rcases Nat.lt_or_ge q k with h | h
          · exact HT.out q x h hx
          · obtain rfl : q = k := by omega
            rw [HP.out] at hx; cases hx; exact HG.out), by trivial⟩
        case measure => simp [intOf]; omega
      · have HG := Lib.hid hg
        have HD := Lib.hid (show decide (gin n p) = false from decide_eq_false hg)
        clear hg
        go_wp2_with fail
        refine (gpPtr1 p b na n nq false _ hn HB.out HD.out).mono ?_
        rintro e w1 ⟨rfl, rfl⟩
        go_wp2_with fail
        go_ret
        exact ⟨k, rfl, by rw [decide_eq_false (show ¬ ∀ p ∈ l, gin n p from fun h => HG.out (h p HPM.out))]; simp, rfl⟩
    · obtain rfl : k = m := by omega
      have dk : decide (k < k) = false := by simp
      go_wp2_with fail
      go_ret
      refine ⟨-1, rfl, ?_, rfl⟩
      rw [decide_eq_true (show ∀ p ∈ l, gin n p from fun p hp => by
        obtain ⟨q, hq, hqp⟩ := List.getElem_of_mem hp
        exact HT.out q p (by have := HM.out; omega) (by rw [List.getElem?_eq_getElem hq, hqp]))]
      rfl
theorem gpContains (ao : Option Addr) (ca m : Nat) (l : List Int) (b : Nat) (na : Option Addr) (n nq : Nat) (R : Bool) (w : World) (hm : l.length = m) (hl : m ≤ 1000000) (hn : n ≤ 1000000) (hb : w.cell? ⟨b, 0, none⟩ = some (.slice na n nq)) (hu : Rw ic 1 w ao l) (hR : decide (∀ p ∈ l, gin n p) = R) :
    Calls Try.prog 32 #[.slice ao m ca, .func (.func 33) #[] #[.pointer (some ⟨b, 0, none⟩)]] w fun e w' => e = .returned (.bool (!R)) ∧ w = w' := by
  have HU := Lib.hid hu
  have HM := Lib.hid hm
  have HB := Lib.hid hb
  have HR := Lib.hid hR
  clear hu hm hb hR
  go_enter Try.func32, Try.ntmps32
  go_wp2_with fail
  refine (gpIndex ao ca m l b na n nq _ HM.out hl hn HB.out HU.out).mono ?_
  rintro e w1 ⟨r, rfl, hr, rfl⟩
  rw [HR.out] at hr
  have HRR := Lib.hid hr
  clear hr
  go_wp2_with fail
  go_ret
  exact ⟨by rw [HRR.out]; rfl, rfl⟩
theorem gpPointers (ao : Option Addr) (ca m : Nat) (l : List Int) (na : Option Addr) (n nq : Nat) (R : Bool) (w : World) (hm : l.length = m) (hl : m ≤ 1000000) (hn : n ≤ 1000000) (hu : Rw ic 1 w ao l) (hR : decide (∀ p ∈ l, gin n p) = R) :
    Calls Try.prog 21 #[.slice ao m ca, .slice na n nq] w fun e w' => e = .returned (.bool R) ∧ Below w.heap.size w w' := by
  have HU := Lib.hid (hu.below (Nat.le_refl _) (ba0 w (.cells #[.slice na n nq] 22)))
  have HM := Lib.hid hm
  have HR := Lib.hid hR
  have HB := Lib.hid ((Blk.new w [.slice na n nq] 22).cell (j := 0) rfl)
  have HW := Lib.hid (ba0 w (.cells #[.slice na n nq] 22))
  have hmf : ∀ (fn : Fn) (first cap : Array Value) (w : World), (Instr.makeFunc fn first cap).run Try.prog w = .ok (.func fn first cap) w := fun _ _ _ _ => rfl
  clear hu hm hR
  go_enter Try.func21, Try.ntmps21
  go_wp2_with fail
  refine (gpContains ao ca m l _ na n nq R _ HM.out hl hn HB.out HU.out HR.out).mono ?_
  rintro e w1 ⟨rfl, rfl⟩
  go_wp2_with fail
  go_ret
  exact ⟨by simp, HW.out⟩
theorem gpSize (pa da : Option Addr) (pl pq dl dq : Nat) (w : World) (hp : pl ≤ 1000000) (hd : dl ≤ 1000000) : Calls Try.prog 20 #[.agg #[.slice pa pl pq, .slice da dl dq]] w fun e w' => e = .returned (.int .i64 ((pl : Int) + dl)) ∧ Below w.heap.size w w' := by
  have HW := Lib.hid (ba0 w (.cells #[.slice pa pl pq, .slice da dl dq] 36))
  go_enter Try.func20, Try.ntmps20
  go_wp2_with fail
  go_ret
  exact ⟨rfl, HW.out⟩
set_option maxRecDepth 100000 in
set_option maxHeartbeats 1000000 in
theorem gpRight {P : Nat → Prop} {g : Gr} {na ra : Option Addr} {n nq m rq : Nat} {w : World} (hA : GAt P w na n nq ra m rq g) (sm : gsm g) (R : Bool) (hR : decide (gright g) = R) :
    Calls Try.prog 11 #[.agg #[.slice na n nq, .slice ra m rq]] w fun e w' => e = .returned (.bool R) ∧ Below w.heap.size w w' := by
  obtain ⟨nodes, k1, k2, k3, k4, k5, k6, k7, k8, k9, k10, k11, k12, k13, k14, k15, k16⟩ := hA
  have hlen : g.nodes.length = n := by rw [← k1, List.length_map]; exact k2
  have hn : n ≤ 1000000 := by have := sm.1; omega
  have hm : m ≤ 1000000 := by have := sm.2.1; omega
  have HRF := Lib.hid (show ¬ gright g → R = false from fun h => by rw [← hR, decide_eq_false h])
  have HRT := Lib.hid (show gright g → R = true from fun h => by rw [← hR, decide_eq_true h])
  have HN := Lib.hid k4
  have HK := Lib.hid k5
  have HS := Lib.hid (show ∀ x ∈ nodes, x.ptrs.length ≤ 1000000 ∧ x.data.length ≤ 1000000 from fun x hx => sm.2.2 x.nd (by rw [← k1]; exact List.mem_map.2 ⟨x, hx, rfl⟩))
  have HT := Lib.hid k6
  have HNL := Lib.hid k2
  have HML := Lib.hid k3
  have HGN := Lib.hid k1
  have HLN := Lib.hid hlen
  clear k1 k2 k3 k4 k5 k6 k7 k8 k9 k10 k11 k12 k13 k14 k15 k16 hlen sm hR
  have HW := Lib.hid (ba0 w (.cells #[.slice na n nq, .slice ra m rq] 25))
  have HG := Lib.hid (Blk.new w [.slice na n nq, .slice ra m rq] 25)
  go_enter Try.func11, Try.ntmps11
  go_upto_region 1 with fail
  generalize w.alloc (.cells #[.slice na n nq, .slice ra m rq] 25) = V at HW HG ⊢
  have c0 : V.cell? ⟨w.heap.size, 0, none⟩ = some (.slice na n nq) := HG.out.cell rfl
  have c1 : V.cell? ⟨w.heap.size, 1, none⟩ = some (.slice ra m rq) := HG.out.cell rfl
  go_wp2_with fail
  clear c0 c1
  go_loopw [8] (fun i wr => ∃ k : Nat, k ≤ n ∧ i = .int .i64 k ∧ Hid (∀ q x, q < k → nodes[q]? = some x → ndok n x.nd) ∧ Below V.heap.size V wr) (fun i _ => n - (intOf i).toNat)
  case atStart => exact ⟨0, by omega, rfl, Lib.hid (fun q p hq => by omega), Below.refl _ _⟩
  case round =>
    obtain ⟨j, hj, rfl, HJ, hbel⟩ := hrel
    have HG2 := Lib.hid (HG.out.below hbel)
    have HWR := Lib.hid (bt HW.out hbel)
    by_cases hlt : j < n
    · obtain ⟨x, hx, hxm⟩ := getq HNL.out hlt
      have HOK := Lib.hid ((HK.out x hxm).below (Nat.le_refl _) HWR.out)
      obtain ⟨hs1, hs2⟩ := HS.out x hxm
      obtain ⟨b2, o2, rfl, hb2, x0, x1⟩ := nd_cells HN.out hx
      have y0 := cellS HWR.out hb2 x0
      have y1 := cellS HWR.out hb2 x1
      have HP := Lib.hid hx
      have HNK := Lib.hid (show ndok n x.nd → ∀ q z, q < j + 1 → nodes[q]? = some z → ndok n z.nd from fun hd q z hq hz => by
        rcases Nat.lt_or_ge q j with h | h
        · exact HJ.out q z h hz
        · obtain rfl : q = j := by omega
          rw [HP.out] at hz; cases hz; exact hd)
      have HNO := Lib.hid (show ¬ ndok n x.nd → R = false from fun hd => HRF.out (fun h => hd (by
        have := h.2.2 x.nd (by rw [← HGN.out]; exact List.mem_map.2 ⟨x, hxm, rfl⟩)
        rw [HLN.out] at this; exact this)))
      have HXP := Lib.hid HOK.out.p
      have hj1 : (j : Int) < (n : Int) := by omega
      obtain ⟨pa, pcap, ptrs, da, dcap, data⟩ := x
      dsimp only at y0 y1 hs1 hs2 HXP
      obtain ⟨pl, hpl⟩ : ∃ pl, ptrs.length = pl := ⟨_, rfl⟩
      obtain ⟨dl, hdl⟩ : ∃ dl, data.length = dl := ⟨_, rfl⟩
      rw [hpl] at y0 hs1
      rw [hdl] at y1 hs2
      have HPL := Lib.hid hpl
      have HDL := Lib.hid hdl
      have HNI := Lib.hid (show ndok n (NdV.nd ⟨pa, pcap, ptrs, da, dcap, data⟩) ↔ pl + dl ≤ 255 ∧ ∀ p ∈ ptrs, gin n p by unfold ndok NdV.nd; simp only; rw [hpl, hdl])
      clear hx hxm x0 x1 hb2 hpl hdl HP HOK
      have HXB := Lib.hid (Blk.new wr [.slice pa pl pcap, .slice da dl dcap] 36)
      have HWX := Lib.hid (ba HWR.out (.cells #[.slice pa pl pcap, .slice da dl dcap] 36))
      have HGX := Lib.hid (HG2.out.below (ba0 wr (.cells #[.slice pa pl pcap, .slice da dl dcap] 36)))
      have HBX := Lib.hid (ba hbel (.cells #[.slice pa pl pcap, .slice da dl dcap] 36))
      have HXPX := Lib.hid (HXP.out.below (Nat.le_refl _) (ba0 wr (.cells #[.slice pa pl pcap, .slice da dl dcap] 36)))
      go_upto_region 4 with fail
      clear y0 y1 hbel HG2 HXP
      generalize wr.alloc (.cells #[.slice pa pl pcap, .slice da dl dcap] 36) = X at HXB HWX HGX HBX HXPX ⊢
      generalize wr.heap.size = gx at HXB ⊢
      have z0 : X.cell? ⟨gx, 0, none⟩ = some (.slice pa pl pcap) := HXB.out.cell rfl
      have z1 : X.cell? ⟨gx, 1, none⟩ = some (.slice da dl dcap) := HXB.out.cell rfl
      by_cases h255 : pl + dl ≤ 255
      · have d255 : decide (255 < (pl : Int) + (dl : Int)) = false := by simp; omega
        obtain ⟨S, hS⟩ : ∃ S : Bool, decide (∀ p ∈ ptrs, gin n p) = S := ⟨_, rfl⟩
        have HSS := Lib.hid hS
        clear hS
        go_wp2_with fail
        refine (gpSize pa da pl pcap dl dcap _ hs1 hs2).mono ?_
        rintro e w4 ⟨rfl, hb4⟩
        have z0 : w4.cell? ⟨gx, 0, none⟩ = some (.slice pa pl pcap) := (HXB.out.below hb4).cell rfl
        have z2 : w4.cell? ⟨w.heap.size, 0, none⟩ = some (.slice (some ⟨b2, o2, none⟩) n nq) := (HGX.out.below hb4).cell rfl
        have HB4 := Lib.hid hb4
        clear hb4
        go_wp2_with fail
        refine (gpPointers pa pcap pl ptrs _ n nq S _ HPL.out hs1 hn (HXPX.out.below (Nat.le_refl _) HB4.out) HSS.out).mono ?_
        rintro e w5 ⟨rfl, hb5⟩
        have HB5 := Lib.hid hb5
        clear hb5 z0 z1 z2
        cases S with
        | true =>
          have HJ2 := Lib.hid (HNK.out (HNI.out.2 ⟨h255, of_decide_eq_true HSS.out⟩))
          go_wp2_with fail
          go_roundw
          case rel => exact ⟨j + 1, by omega, by go_num, HJ2, bt (bt HBX.out HB4.out) HB5.out⟩
          case measure => simp [intOf]; omega
        | false =>
          have HV := Lib.hid (HNO.out (fun hd => of_decide_eq_false HSS.out (HNI.out.1 hd).2))
          go_wp2_with fail
          go_ret
          exact ⟨by rw [HV.out]; rfl, bt (bt HWX.out HB4.out) HB5.out⟩
      · have d255 : decide (255 < (pl : Int) + (dl : Int)) = true := by simp; omega
        have HV := Lib.hid (HNO.out (fun hd => h255 (HNI.out.1 hd).1))
        go_wp2_with fail
        refine (gpSize pa da pl pcap dl dcap _ hs1 hs2).mono ?_
        rintro e w4 ⟨rfl, hb4⟩
        have HB4 := Lib.hid hb4
        clear hb4
        go_wp2_with fail
        go_ret
        exact ⟨by rw [HV.out]; rfl, bt HWX.out HB4.out⟩
    · have dk : decide (j < n) = false := by simp; omega
      have HJA : Hid (∀ x ∈ g.nodes, ndok g.nodes.length x) := Lib.hid (fun y hy => by
        rw [← HGN.out] at hy
        obtain ⟨z, hz, rfl⟩ := List.mem_map.1 hy
        obtain ⟨q, hq, hqp⟩ := List.getElem_of_mem hz
        rw [HLN.out]
        exact HJ.out q z (by have := HNL.out; omega) (by rw [List.getElem?_eq_getElem hq, hqp]))
      have c1 : wr.cell? ⟨w.heap.size, 1, none⟩ = some (.slice ra m rq) := HG2.out.cell rfl
      have c0 : wr.cell? ⟨w.heap.size, 0, none⟩ = some (.slice na n nq) := HG2.out.cell rfl
      by_cases h16 : m ≤ 16
      · have d16 : decide ((m : Int) ≤ 16) = true := by simp; omega
        obtain ⟨S, hS⟩ : ∃ S : Bool, decide (∀ p ∈ g.roots, gin n p) = S := ⟨_, rfl⟩
        have HSS := Lib.hid hS
        clear hS
        go_wp2_with fail
        refine (gpPointers ra rq m g.roots _ n nq S _ HML.out hm hn (HT.out.below (Nat.le_refl _) HWR.out) HSS.out).mono ?_
        rintro e w5 ⟨rfl, hb5⟩
        have HB5 := Lib.hid hb5
        clear hb5 c0 c1
        have HV : Hid (R = S) := Lib.hid (by
          cases S with
          | true => exact HRT.out ⟨by have := HML.out; omega, by rw [HLN.out]; exact of_decide_eq_true HSS.out, HJA.out⟩
          | false => exact HRF.out (fun h => of_decide_eq_false HSS.out (by have := h.2.1; rw [HLN.out] at this; exact this)))
        go_wp2_with fail
        go_ret
        exact ⟨by rw [HV.out]; rfl, bt HWR.out HB5.out⟩
      · have d16 : decide ((m : Int) ≤ 16) = false := by simp; omega
        have HV := Lib.hid (HRF.out (fun h => h16 (by have := h.1; have := HML.out; omega)))
        go_wp2_with fail
        go_ret
        exact ⟨by rw [HV.out]; rfl, HWR.out⟩
theorem sum_stepA {l : List Nat} {k : Nat} {x : Nat} (h : l[k]? = some x) : (l.take (k + 1)).sum = (l.take k).sum + x := by
  obtain ⟨hk, rfl⟩ := List.getElem?_eq_some_iff.1 h
  rw [List.take_add_one, List.sum_append, List.getElem?_eq_getElem hk]; simp
theorem sum_bdA : ∀ (l : List Nat) (c : Nat), (∀ x ∈ l, x ≤ c) → l.sum ≤ l.length * c
  | [], _, _ => by simp
  | x :: r, c, h => by
    have h1 := sum_bdA r c (fun y hy => h y (List.mem_cons_of_mem _ hy))
    have h2 := h x (List.mem_cons_self ..)
    rw [List.sum_cons, List.length_cons, Nat.add_mul]; omega
set_option maxRecDepth 100000 in
set_option maxHeartbeats 1000000 in
theorem gpWords {P : Nat → Prop} {g : Gr} {na ra : Option Addr} {n nq m rq : Nat} {w : World} (hA : GAt P w na n nq ra m rq g) (sm : gsm g) (W : Int) (hW : (gwords g : Int) = W) :
    Calls Try.prog 13 #[.agg #[.slice na n nq, .slice ra m rq]] w fun e w' => e = .returned (.int .i64 W) ∧ Below w.heap.size w w' := by
  have HA1 := Lib.hid (hA.below (ba0 w (.cells #[.slice na n nq, .slice ra m rq] 25)))
  obtain ⟨nodes, k1, k2, k3, k4, k5, k6, k7, k8, k9, k10, k11, k12, k13, k14, k15, k16⟩ := hA
  have hlen : g.nodes.length = n := by rw [← k1, List.length_map]; exact k2
  have hn : n ≤ 1000000 := by have := sm.1; omega
  have HSM := Lib.hid sm
  have HN := Lib.hid k4
  have HK := Lib.hid k5
  have HNL := Lib.hid k2
  have HGN := Lib.hid k1
  have HLN := Lib.hid hlen
  have HWW := Lib.hid hW
  clear k1 k2 k3 k4 k5 k6 k7 k8 k9 k10 k11 k12 k13 k14 k15 k16 hlen hW sm
  have HW := Lib.hid (ba0 w (.cells #[.slice na n nq, .slice ra m rq] 25))
  have HG := Lib.hid (Blk.new w [.slice na n nq, .slice ra m rq] 25)
  by_cases hg : gright g
  · have HR := Lib.hid (show decide (gright g) = true from decide_eq_true hg)
    have HGR := Lib.hid hg
    have HV := Lib.hid (show W = ((g.nodes.map ndw).sum : Int) by rw [← HWW.out, gwords, if_pos hg])
    have HBD := Lib.hid (show ∀ k, ((g.nodes.map ndw).take k).sum ≤ 256000000 from fun k => by
      have h1 := sum_bdA ((g.nodes.map ndw).take k) 256 (fun x hx => by
        obtain ⟨y, hy, rfl⟩ := List.mem_map.1 (List.mem_of_mem_take hx)
        have := (hg.2.2 y hy).1
        unfold ndw; omega)
      have h2 : ((g.nodes.map ndw).take k).length ≤ n := by rw [List.length_take, List.length_map, HLN.out]; omega
      have h3 : ((g.nodes.map ndw).take k).length * 256 ≤ n * 256 := Nat.mul_le_mul_right _ h2
      omega)
    clear hg HWW
    go_enter Try.func13, Try.ntmps13
    go_upto_region 1 with fail
    generalize w.alloc (.cells #[.slice na n nq, .slice ra m rq] 25) = V at HW HG HA1 ⊢
    have c0 : V.cell? ⟨w.heap.size, 0, none⟩ = some (.slice na n nq) := HG.out.cell rfl
    have c1 : V.cell? ⟨w.heap.size, 1, none⟩ = some (.slice ra m rq) := HG.out.cell rfl
    go_wp2_with fail
    refine (gpRight HA1.out HSM.out true HR.out).mono ?_
    rintro e V2 ⟨rfl, hb2⟩
    have HW2 := Lib.hid (bt HW.out hb2)
    have HG2 := Lib.hid (HG.out.below hb2)
    clear hb2 c0 c1 HW HG HA1
    have c0 : V2.cell? ⟨w.heap.size, 0, none⟩ = some (.slice na n nq) := HG2.out.cell rfl
    go_wp2_with fail
    clear c0
    go_loopw [3, 12] (fun s i wr => ∃ k a : Nat, k ≤ n ∧ s = .int .i64 (a : Int) ∧ i = .int .i64 (k : Int) ∧ Hid (a = ((g.nodes.map ndw).take k).sum) ∧ Below V2.heap.size V2 wr) (fun _ i _ => n - (intOf i).toNat)
    case atStart => exact ⟨0, 0, by omega, rfl, rfl, Lib.hid (by simp), Below.refl _ _⟩
    case round =>
      obtain ⟨j, a, hj, rfl, rfl, HJ, hbel⟩ := hrel
      have HWR := Lib.hid (bt HW2.out hbel)
      have ha : a ≤ 256000000 := by rw [HJ.out]; exact HBD.out j
      by_cases hlt : j < n
      · obtain ⟨x, hx, hxm⟩ := getq HNL.out hlt
        have hgx : g.nodes[j]? = some x.nd := by rw [← HGN.out, List.getElem?_map, hx]; rfl
        have hst := sum_stepA (l := g.nodes.map ndw) (k := j) (x := ndw x.nd) (by rw [List.getElem?_map, hgx]; rfl)
        have hs := (HGR.out.2.2 x.nd (by rw [← HGN.out]; exact List.mem_map.2 ⟨x, hxm, rfl⟩)).1
        obtain ⟨b2, o2, rfl, hb2, x0, x1⟩ := nd_cells HN.out hx
        have y0 := cellS HWR.out hb2 x0
        have y1 := cellS HWR.out hb2 x1
        have hj1 : (j : Int) < (n : Int) := by omega
        obtain ⟨pa, pcap, ptrs, da, dcap, data⟩ := x
        unfold NdV.nd ndw at hst
        unfold NdV.nd at hs
        dsimp only at y0 y1 hs hst
        obtain ⟨pl, hpl⟩ : ∃ pl, ptrs.length = pl := ⟨_, rfl⟩
        obtain ⟨dl, hdl⟩ : ∃ dl, data.length = dl := ⟨_, rfl⟩
        rw [hpl] at y0 hs hst
        rw [hdl] at y1 hs hst
        have HST := Lib.hid hst
        clear hx hxm x0 x1 hb2 hpl hdl hgx hst
        have HXB := Lib.hid (Blk.new wr [.slice pa pl pcap, .slice da dl dcap] 36)
        have HBX := Lib.hid (ba hbel (.cells #[.slice pa pl pcap, .slice da dl dcap] 36))
        go_upto_region 7 with fail
        clear y0 y1 hbel
        generalize wr.alloc (.cells #[.slice pa pl pcap, .slice da dl dcap] 36) = X at HXB HBX ⊢
        generalize wr.heap.size = gx at HXB ⊢
        have z0 : X.cell? ⟨gx, 0, none⟩ = some (.slice pa pl pcap) := HXB.out.cell rfl
        have z1 : X.cell? ⟨gx, 1, none⟩ = some (.slice da dl dcap) := HXB.out.cell rfl
        go_wp2_with fail
        refine (gpSize pa da pl pcap dl dcap _ (by omega) (by omega)).mono ?_
        rintro e w4 ⟨rfl, hb4⟩
        have HB4 := Lib.hid (bt HBX.out hb4)
        clear hb4 z0 z1
        go_wp2_with fail
        go_roundw
        case rel => exact ⟨j + 1, a + (1 + pl + dl), by omega, by go_num, by go_num, Lib.hid (by rw [HJ.out]; exact HST.out.symm), HB4.out⟩
        case measure => simp [intOf]; omega
      · obtain rfl : j = n := by omega
        have HVV := Lib.hid (show W = (a : Int) by rw [HV.out, HJ.out, List.take_of_length_le (by rw [List.length_map, HLN.out]; exact Nat.le_refl _)])
        have dk : decide (j < j) = false := by simp
        go_wp2_with fail
        go_ret
        exact ⟨by rw [HVV.out]; rfl, HWR.out⟩
  · have HR := Lib.hid (show decide (gright g) = false from decide_eq_false hg)
    have HV := Lib.hid (show W = 0 by rw [← HWW.out, gwords, if_neg hg]; rfl)
    clear hg HWW
    go_enter Try.func13, Try.ntmps13
    go_upto_region 1 with fail
    generalize w.alloc (.cells #[.slice na n nq, .slice ra m rq] 25) = V at HW HG HA1 ⊢
    have c0 : V.cell? ⟨w.heap.size, 0, none⟩ = some (.slice na n nq) := HG.out.cell rfl
    have c1 : V.cell? ⟨w.heap.size, 1, none⟩ = some (.slice ra m rq) := HG.out.cell rfl
    go_wp2_with fail
    refine (gpRight HA1.out HSM.out false HR.out).mono ?_
    rintro e V2 ⟨rfl, hb2⟩
    have HW2 := Lib.hid (bt HW.out hb2)
    clear hb2 c0 c1
    go_wp2_with fail
    go_ret
    exact ⟨by rw [HV.out]; rfl, HW2.out⟩
end Go.Proofs.Ytjoacfjbdpmgpaa.V
