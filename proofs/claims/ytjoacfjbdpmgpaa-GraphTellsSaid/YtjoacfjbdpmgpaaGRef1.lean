/-
  The document's own Right (of a graph in memory), Words and names, walked.
-/
import Derived.Test.YtjoacfjbdpmgpaaGRefR
import Derived.Test.YtjoacfjbdpmgpaaGOwn
import Derived.Deep.CutBlock
import Derived.Deep.CutRange
set_option linter.unusedVariables false
namespace Go.Proofs.Ytjoacfjbdpmgpaa.V
open Go.RowKit

theorem gRightA {g : Gr} {na ra : Option Addr} {n nq m rq : Nat} {w : World} {P : Nat → Prop} (hA : GAt P w na n nq ra m rq g) (sm : gsm g) (R : Bool) (hR : decide (gright g) = R) :
    Calls Try.prog 12 #[.agg #[.slice na n nq, .slice ra m rq]] w fun e w' => e = .returned (.bool R) ∧ Below w.heap.size w w' := by
  obtain ⟨nodes, h1, h2, h3, h4, h5, h6, _⟩ := hA
  obtain ⟨gn, gr⟩ := g
  simp only at h1 h3 h6
  subst h1
  refine gRight na ra n m nq rq nodes gr R w h2 h3 (by have := sm.1; simp only [List.length_map] at this; omega) (by have := sm.2.1; simp only at this; omega) h4 h5 (fun x hx => ?_) h6 hR
  exact sm.2.2 x.nd (List.mem_map.2 ⟨x, hx, rfl⟩)

theorem sum_take {l : List Nd} {k : Nat} {x : Nd} (h : l[k]? = some x) : ((l.take (k + 1)).map ndw).sum = ((l.take k).map ndw).sum + ndw x := by
  rw [List.take_add_one, h]
  simp
theorem sum_bd {l : List Nd} (h : ∀ x ∈ l, x.ptrs.length + x.data.length ≤ 255) (k : Nat) : ((l.take k).map ndw).sum ≤ 256 * k := by
  induction k with
  | zero => simp
  | succ k ih =>
    cases hx : l[k]? with
    | none => rw [List.take_add_one, hx]; simp only [Option.toList_none, List.append_nil]; omega
    | some x =>
      rw [sum_take hx]
      have := h x (by obtain ⟨hk, rfl⟩ := List.getElem?_eq_some_iff.1 hx; exact List.getElem_mem hk)
      have e : ndw x = 1 + x.ptrs.length + x.data.length := rfl
      omega

set_option maxRecDepth 100000 in
set_option maxHeartbeats 1000000 in
theorem gWordsA {g : Gr} {na ra : Option Addr} {n nq m rq : Nat} {w : World} {P : Nat → Prop} (hA : GAt P w na n nq ra m rq g) (sm : gsm g) (W : Nat) (hW : gwords g = W) :
    Calls Try.prog 14 #[.agg #[.slice na n nq, .slice ra m rq]] w fun e w' => e = .returned (.int .i64 (W : Int)) ∧ Below w.heap.size w w' := by
  have HA := Lib.hid hA
  have HSM := Lib.hid sm
  have hn1 : n ≤ 1000000 := by obtain ⟨nodes, h1, h2, _⟩ := hA; have := sm.1; rw [← h1, List.length_map] at this; omega
  have HW := Lib.hid hW
  clear hA sm hW
  have HA0 := Lib.hid (HA.out.below (ba0 w (.cells #[.slice na n nq, .slice ra m rq] 25)))
  have HG0 := Lib.hid (Blk.new w [.slice na n nq, .slice ra m rq] 25)
  have HB0 := Lib.hid (ba0 w (.cells #[.slice na n nq, .slice ra m rq] 25))
  by_cases h : gright g
  · have HD := Lib.hid (decide_eq_true h)
    have HH := Lib.hid h
    have HV := Lib.hid (show (g.nodes.map ndw).sum = W by have := HW.out; unfold gwords at this; rwa [if_pos h] at this)
    clear h
    go_enter Try.func14, Try.ntmps14
    go_wp2_with fail
    refine (gRightA HA0.out HSM.out true HD.out).mono ?_
    rintro e w1 ⟨rfl, hb⟩
    have HA1 := Lib.hid (HA0.out.below hb)
    have HG1 := Lib.hid (HG0.out.below hb)
    have HB1 := Lib.hid (bt HB0.out hb)
    clear hb HA0 HG0 HB0
    go_wp2_with fail
    go_loopw [4, 5] (fun s i wr => ∃ k : Nat, ∃ t : Nat, k ≤ n ∧ i = .int .i64 k ∧ s = .int .i64 t ∧ Hid (t = ((g.nodes.take k).map ndw).sum) ∧ t ≤ 256 * k ∧ Below w1.heap.size w1 wr) (fun _ i _ => n - (intOf i).toNat)
    case atStart => exact ⟨0, 0, by omega, rfl, rfl, Lib.hid (by simp), by omega, Below.refl _ _⟩
    case round =>
      obtain ⟨k, t, hk, rfl, rfl, HT, ht, hbel⟩ := hrel
      have HG2 := Lib.hid (HG1.out.below hbel)
      have c0 : wr.cell? ⟨w.heap.size, 0, none⟩ = some (.slice na n nq) := HG2.out.cell rfl
      by_cases hlt : k < n
      · obtain ⟨nodes, h1, h2, h3, h4, h5, _⟩ := HA1.out.below hbel
        obtain ⟨x, hx, hxm⟩ := getq h2 hlt
        obtain ⟨b2, o2, rfl, hb2, x0, x1⟩ := nd_cells h4 hx
        have hgx : g.nodes[k]? = some x.nd := by rw [← h1, List.getElem?_map, hx]; rfl
        have hsz := (HH.out.2.2 x.nd (by rw [← h1]; exact List.mem_map.2 ⟨x, hxm, rfl⟩)).1
        have hsum := sum_take hgx
        have hT2 := HT.out
        obtain ⟨t2, ht2⟩ : ∃ t2, t + (1 + x.ptrs.length + x.data.length) = t2 := ⟨_, rfl⟩
        have HT2 : Hid (t2 = ((g.nodes.take (k + 1)).map ndw).sum) := Lib.hid (by rw [hsum, ← hT2, ← ht2]; rfl)
        clear hsum hT2 hgx
        obtain ⟨pa, pcap, ptrs, da, dcap, data⟩ := x
        dsimp only [NdV.nd] at x0 x1 hsz ht2
        obtain ⟨pl, hpl⟩ : ∃ pl, ptrs.length = pl := ⟨_, rfl⟩
        obtain ⟨dl, hdl⟩ : ∃ dl, data.length = dl := ⟨_, rfl⟩
        rw [hpl] at x0 hsz ht2
        rw [hdl] at x1 hsz ht2
        have hz0 : ∀ z : GW wr, z.w'.cell? ⟨w.heap.size, 0, none⟩ = some (.slice (some ⟨b2, o2, none⟩) n nq) := fun z => cellS z.h HG2.out.lt (HG2.out.cell rfl)
        have hz1 : ∀ z : GW wr, z.w'.cell? ⟨b2, o2 + k * 2, none⟩ = some (.slice pa pl pcap) := fun z => cellS z.h hb2 x0
        have hz2 : ∀ z : GW wr, z.w'.cell? ⟨b2, o2 + k * 2 + 1, none⟩ = some (.slice da dl dcap) := fun z => cellS z.h hb2 x1
        have hk1 : (k : Int) < (n : Int) := by omega
        clear hx hxm x0 x1 hb2 hpl hdl h1 h2 h3 h4 h5
        have HT3 := Lib.hid ht2
        clear ht2
        go_wp2_with fail
        refine wp_region_grow (by kernel_rfl) (by kernel_rfl) ?_
        repeat (go_big_quiet_step (fail))
        refine wpQuiet_nil ?_
        first | rintro _ ⟨w4, rfl⟩ | intro w4
        clear hz0 hz1 hz2 c0
        go_wp2_with fail
        go_roundw
        case rel => exact ⟨k + 1, t2, by omega, by go_num, by have := HT3.out; first | (go_num; done) | (congr 1; omega), HT2, by have := HT3.out; omega, bt hbel w4.h⟩
        case measure => simp [intOf]; omega
      · have hf : t = W := by
          have h1 := HT.out
          have h2 := HV.out
          obtain ⟨nodes, q1, q2, _⟩ := HA1.out
          rw [List.take_of_length_le (by rw [← q1, List.length_map]; omega)] at h1
          omega
        have dk : decide (k < n) = false := by simp; omega
        have HF := Lib.hid hf
        clear hf
        go_wp2_with fail
        go_ret
        exact ⟨by rw [HF.out]; rfl, bt HB1.out hbel⟩
  · have HD := Lib.hid (decide_eq_false h)
    have HV := Lib.hid (show W = 0 by have := HW.out; unfold gwords at this; rw [if_neg h] at this; exact this.symm)
    clear h
    go_enter Try.func14, Try.ntmps14
    go_wp2_with fail
    refine (gRightA HA0.out HSM.out false HD.out).mono ?_
    rintro e w1 ⟨rfl, hb⟩
    have HB1 := Lib.hid (bt HB0.out hb)
    clear hb
    go_wp2_with fail
    go_ret
    exact ⟨by rw [HV.out]; rfl, HB1.out⟩

set_option maxRecDepth 100000 in
theorem gNames (na ra : Option Addr) (n nq m rq : Nat) (kd r s i sz pt : Int) (v : Nat) (A B R : Bool) (w : World) (hm : m ≤ 1000000) (hA : decide (0 ≤ r ∧ r < (m : Int)) = A) (hB : decide (0 ≤ s ∧ s < (m : Int)) = B)
    (hR : (if kd = 1 ∨ kd = 7 then A else if kd = 3 ∨ kd = 5 then B else if kd = 2 ∨ kd = 4 ∨ kd = 6 then A && B else false) = R) :
    Calls Try.prog 25 #[.agg #[.slice na n nq, .slice ra m rq], .agg #[.int .i64 kd, .int .i64 r, .int .i64 s, .int .i64 i, .int .i64 sz, .int .i64 pt, .int .u64 (v : Int)]] w fun e w' => e = .returned (.bool R) ∧ Below w.heap.size w w' := by
  have HA := Lib.hid hA
  have HB := Lib.hid hB
  have HR := Lib.hid hR
  clear hA hB hR
  go_enter Try.func25, Try.ntmps25
  have HG := Lib.hid ((Blk.new w [.slice na n nq, .slice ra m rq] 25).below (ba0 _ (.cells #[.int .i64 kd, .int .i64 r, .int .i64 s, .int .i64 i, .int .i64 sz, .int .i64 pt, .int .u64 (v : Int)] 31)))
  have HAC : Hid (Blk ((w.alloc (.cells #[.slice na n nq, .slice ra m rq] 25)).alloc (.cells #[.int .i64 kd, .int .i64 r, .int .i64 s, .int .i64 i, .int .i64 sz, .int .i64 pt, .int .u64 (v : Int)] 31)) (w.heap.size + 1) [.int .i64 kd, .int .i64 r, .int .i64 s, .int .i64 i, .int .i64 sz, .int .i64 pt, .int .u64 (v : Int)] 31) := Lib.hid (by
    have := Blk.new (w.alloc (.cells #[.slice na n nq, .slice ra m rq] 25)) [.int .i64 kd, .int .i64 r, .int .i64 s, .int .i64 i, .int .i64 sz, .int .i64 pt, .int .u64 (v : Int)] 31
    rwa [World.size_alloc] at this)
  have HW := Lib.hid (ba (ba0 w (.cells #[.slice na n nq, .slice ra m rq] 25)) (.cells #[.int .i64 kd, .int .i64 r, .int .i64 s, .int .i64 i, .int .i64 sz, .int .i64 pt, .int .u64 (v : Int)] 31))
  go_upto_region 1 with fail
  generalize (w.alloc (.cells #[.slice na n nq, .slice ra m rq] 25)).alloc (.cells #[.int .i64 kd, .int .i64 r, .int .i64 s, .int .i64 i, .int .i64 sz, .int .i64 pt, .int .u64 (v : Int)] 31) = W at HG HAC HW ⊢
  have c1 : W.cell? ⟨w.heap.size, 1, none⟩ = some (.slice ra m rq) := HG.out.cell rfl
  have a0 : W.cell? ⟨w.heap.size + 1, 0, none⟩ = some (.int .i64 kd) := HAC.out.cell rfl
  have a1 : W.cell? ⟨w.heap.size + 1, 1, none⟩ = some (.int .i64 r) := HAC.out.cell rfl
  have a2 : W.cell? ⟨w.heap.size + 1, 2, none⟩ = some (.int .i64 s) := HAC.out.cell rfl
  go_cut [5] from 7 (fun x wx => x = .bool A ∧ wx = W)
  case first =>
    by_cases r0 : 0 ≤ r
    · have d0 : decide (0 ≤ r) = true := by simp; omega
      by_cases r1 : r < (m : Int)
      · have d1 : decide (r < (m : Int)) = true := by simp; omega
        have HV := Lib.hid (show A = true by rw [← HA.out, decide_eq_true_iff]; exact ⟨r0, r1⟩)
        go_wp2_with fail; go_meet; exact ⟨by rw [HV.out], rfl⟩
      · have d1 : decide (r < (m : Int)) = false := by simp; omega
        have HV := Lib.hid (show A = false by rw [← HA.out, decide_eq_false_iff_not]; exact fun h => r1 h.2)
        go_wp2_with fail; go_meet; exact ⟨by rw [HV.out], rfl⟩
    · have d0 : decide (0 ≤ r) = false := by simp; omega
      have HV := Lib.hid (show A = false by rw [← HA.out, decide_eq_false_iff_not]; exact fun h => r0 h.1)
      go_wp2_with fail; go_meet; exact ⟨by rw [HV.out], rfl⟩
  case rest =>
    obtain ⟨rfl, rfl⟩ := hcut
    clear a1
    go_upto_region 2 with fail
    go_cut [6] from 7 (fun x wy => x = .bool B ∧ wy = wc)
    case first =>
      by_cases r0 : 0 ≤ s
      · have d0 : decide (0 ≤ s) = true := by simp; omega
        by_cases r1 : s < (m : Int)
        · have d1 : decide (s < (m : Int)) = true := by simp; omega
          have HV := Lib.hid (show B = true by rw [← HB.out, decide_eq_true_iff]; exact ⟨r0, r1⟩)
          go_wp2_with fail; go_meet; exact ⟨by rw [HV.out], rfl⟩
        · have d1 : decide (s < (m : Int)) = false := by simp; omega
          have HV := Lib.hid (show B = false by rw [← HB.out, decide_eq_false_iff_not]; exact fun h => r1 h.2)
          go_wp2_with fail; go_meet; exact ⟨by rw [HV.out], rfl⟩
      · have d0 : decide (0 ≤ s) = false := by simp; omega
        have HV := Lib.hid (show B = false by rw [← HB.out, decide_eq_false_iff_not]; exact fun h => r0 h.1)
        go_wp2_with fail; go_meet; exact ⟨by rw [HV.out], rfl⟩
    case rest =>
      obtain ⟨rfl, rfl⟩ := hcut
      clear c1 a2 HA HB HG
      have HR2 := Lib.hid HR.out
      clear HR
      by_cases k1 : kd = 1
      · subst k1
        have HV := Lib.hid (show R = A by rw [← HR2.out]; simp)
        clear HR2
        go_wp2_with fail
        go_ret
        exact ⟨by rw [HV.out]; rfl, HW.out⟩
      by_cases k2 : kd = 2
      · subst k2
        clear k1
        cases A
        · have HV := Lib.hid (show R = false by rw [← HR2.out]; simp)
          clear HR2
          go_wp2_with fail
          go_ret
          exact ⟨by rw [HV.out]; rfl, HW.out⟩
        · have HV := Lib.hid (show R = B by rw [← HR2.out]; simp)
          clear HR2
          go_wp2_with fail
          go_ret
          exact ⟨by rw [HV.out]; rfl, HW.out⟩
      by_cases k3 : kd = 3
      · subst k3
        clear k1 k2
        have HV := Lib.hid (show R = B by rw [← HR2.out]; simp)
        clear HR2
        go_wp2_with fail
        go_ret
        exact ⟨by rw [HV.out]; rfl, HW.out⟩
      by_cases k4 : kd = 4
      · subst k4
        clear k1 k2 k3
        cases A
        · have HV := Lib.hid (show R = false by rw [← HR2.out]; simp)
          clear HR2
          go_wp2_with fail
          go_ret
          exact ⟨by rw [HV.out]; rfl, HW.out⟩
        · have HV := Lib.hid (show R = B by rw [← HR2.out]; simp)
          clear HR2
          go_wp2_with fail
          go_ret
          exact ⟨by rw [HV.out]; rfl, HW.out⟩
      by_cases k5 : kd = 5
      · subst k5
        clear k1 k2 k3 k4
        have HV := Lib.hid (show R = B by rw [← HR2.out]; simp)
        clear HR2
        go_wp2_with fail
        go_ret
        exact ⟨by rw [HV.out]; rfl, HW.out⟩
      by_cases k6 : kd = 6
      · subst k6
        clear k1 k2 k3 k4 k5
        cases A
        · have HV := Lib.hid (show R = false by rw [← HR2.out]; simp)
          clear HR2
          go_wp2_with fail
          go_ret
          exact ⟨by rw [HV.out]; rfl, HW.out⟩
        · have HV := Lib.hid (show R = B by rw [← HR2.out]; simp)
          clear HR2
          go_wp2_with fail
          go_ret
          exact ⟨by rw [HV.out]; rfl, HW.out⟩
      by_cases k7 : kd = 7
      · subst k7
        clear k1 k2 k3 k4 k5 k6
        have HV := Lib.hid (show R = A by rw [← HR2.out]; simp)
        clear HR2
        go_wp2_with fail
        go_ret
        exact ⟨by rw [HV.out]; rfl, HW.out⟩
      have HV := Lib.hid (show R = false by rw [← HR2.out]; simp [k1, k2, k3, k4, k5, k6, k7])
      have e1 : (kd == 1) = false := by simpa using k1
      have e2 : (kd == 2) = false := by simpa using k2
      have e3 : (kd == 3) = false := by simpa using k3
      have e4 : (kd == 4) = false := by simpa using k4
      have e5 : (kd == 5) = false := by simpa using k5
      have e6 : (kd == 6) = false := by simpa using k6
      have e7 : (kd == 7) = false := by simpa using k7
      clear HR2
      go_wp2_with fail
      go_ret
      exact ⟨by rw [HV.out]; rfl, HW.out⟩
end Go.Proofs.Ytjoacfjbdpmgpaa.V
