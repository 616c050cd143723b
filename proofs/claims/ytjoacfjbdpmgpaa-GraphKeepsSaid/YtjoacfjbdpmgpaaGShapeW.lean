/-
  GraphShape, walked under what is asked of the program's functions.
-/
import Derived.Test.YtjoacfjbdpmgpaaGRunsW
set_option linter.unusedVariables false
namespace Go.Proofs.Ytjoacfjbdpmgpaa.V
open Go.RowKit

theorem sum_le : ∀ (l : List Nd), (∀ x ∈ l, ndw x ≤ 256) → (l.map ndw).sum ≤ 256 * l.length
  | [], _ => by simp
  | x :: r, h => by
    have h1 := h x (by simp)
    have h2 := sum_le r fun y hy => h y (by simp [hy])
    simp only [List.map_cons, List.sum_cons, List.length_cons]
    omega
theorem gwords_le (g : Gr) : gwords g ≤ 256 * g.nodes.length := by
  unfold gwords
  split
  · rename_i h
    exact sum_le _ fun x hx => by have := (h.2.2 x hx).1; unfold ndw; omega
  · omega

set_option maxRecDepth 100000 in
set_option maxHeartbeats 4000000 in
theorem graphShape_try (C : GrC) (lo ro : Option Addr) (ln lc rn rc : Nat) (raws : List NdV) (roots : List Int) (r si pi : Int) (w : World) (hln : raws.length = ln) (hrn : roots.length = rn) (hlm : ln ≤ lc) (hlc : lc ≤ 9223372036854775807) (hrm : rn ≤ rc) (hrc : rc ≤ 9223372036854775807)
    (hL : Rw nc 2 w lo raws) (hK : ∀ x ∈ raws, x.ok w) (hR : Rw ic 1 w ro roots) (hRb : ∀ p ∈ roots, ib p) (s1 : ib r) (s2 : ib si) (s3 : ib pi) :
    Calls Try.prog 8 #[.slice lo ln lc, .slice ro rn rc, .int .i64 r, .int .i64 si, .int .i64 pi] w fun e w' => e = .returned (.bool true) ∧ Below w.heap.size w w' := by
  go_enter Try.func8, Try.ntmps8
  go_wp2_with fail
  refine (awake08 C _).mono ?_
  rintro e w1 ⟨rfl, hb1⟩
  have HL1 := Lib.hid (hL.below (Nat.le_refl _) hb1)
  have HK1 := Lib.hid (fun x hx => (hK x hx).below (Nat.le_refl _) hb1)
  have HR1 := Lib.hid (hR.below (Nat.le_refl _) hb1)
  have HB1 := Lib.hid hb1
  clear hL hK hR hb1
  go_wp2_with fail
  refine (gGraph lo ro ln lc rn rc raws roots _ hln hrn hlm hlc hrm hrc HL1.out HK1.out HR1.out hRb).mono ?_
  rintro e w2 ⟨na, n, nq, ra, m, rq, rfl, hA, hb2⟩
  generalize hg : gof (raws.map NdV.nd) roots = g at hA
  have hmg : g.roots.length = m := hA.parts.2.1
  obtain ⟨hgr, hgs, hm1, hm5, a, hpa, ham, hga⟩ := gof_pick _ _ _ hg r m hmg
  have hn10 : g.nodes.length ≤ 10 := by rw [← hg]; exact (gof_right _ _).2.1
  have hnn : g.nodes.length = n := hA.parts.1
  obtain ⟨sz, hsz, hszb⟩ := pkN si 256 (by omega)
  obtain ⟨pt, hpt, hptb⟩ := pkN pi ((sz : Int) + 1) (by omega)
  have HSZ := Lib.hid hsz
  have HPT := Lib.hid hpt
  clear hsz hpt
  have HM := Lib.hid hmg
  have HA2 := Lib.hid (hA.below (ba0 w2 (.cells #[.slice na n nq, .slice ra m rq] 25)))
  have HG2 := Lib.hid (Blk.new w2 [.slice na n nq, .slice ra m rq] 25)
  have HB2 := Lib.hid (ba (bt HB1.out hb2) (.cells #[.slice na n nq, .slice ra m rq] 25))
  have HPA := Lib.hid hpa
  clear hA hb2 HL1 HK1 HR1 HB1 hg hmg hpa hln hrn hlm hlc hrm hrc hRb
  go_upto_region 3 with fail
  generalize w2.alloc (.cells #[.slice na n nq, .slice ra m rq] 25) = V2 at HA2 HG2 HB2 ⊢
  generalize w2.heap.size = G at HG2 ⊢
  have c0 : V2.cell? ⟨G, 0, none⟩ = some (.slice na n nq) := HG2.out.cell rfl
  have c1 : V2.cell? ⟨G, 1, none⟩ = some (.slice ra m rq) := HG2.out.cell rfl
  go_wp2_with fail
  refine (pick08_int r (m : Int) (a : Int) _ s1.1 s1.2 (by omega) (by omega) HPA.out).mono ?_
  rintro e w3 ⟨rfl, rfl⟩
  go_wp2_with fail
  refine (pick08_int si 256 (sz : Int) _ s2.1 s2.2 (by omega) (by omega) HSZ.out).mono ?_
  rintro e w3 ⟨rfl, rfl⟩
  have hw1 : IntKind.i64.wrap ((sz : Int) + 1) = (sz : Int) + 1 := IntWalk.i64_in _ (by omega)
  go_wp2_with fail
  refine (pick08_int pi ((sz : Int) + 1) (pt : Int) _ s3.1 s3.2 (by omega) (by omega) HPT.out).mono ?_
  rintro e w3 ⟨rfl, rfl⟩
  go_upto_region 6 with fail
  have hb := ba0 V2 (.cells #[.int .i64 (sz : Int), .int .i64 (pt : Int)] 28)
  have HSB := Lib.hid (Blk.new V2 [.int .i64 (sz : Int), .int .i64 (pt : Int)] 28)
  have HA3 := Lib.hid (HA2.out.below hb)
  have HG3 := Lib.hid (HG2.out.below hb)
  have HB3 := Lib.hid (bt HB2.out hb)
  clear hb c0 c1 HA2 HG2 HB2 HPA HSZ HPT
  generalize V2.alloc (.cells #[.int .i64 (sz : Int), .int .i64 (pt : Int)] 28) = V3 at HSB HA3 HG3 HB3 ⊢
  generalize V2.heap.size = GS at HSB ⊢
  obtain ⟨X, hx1, hxn, hxl, hxi, hxp⟩ := new_shape (size := (sz : Int)) (ptrs := (pt : Int)) hgr hga (by omega) (by omega) (by omega) (by omega)
  obtain ⟨hxr, hxs, _⟩ := do_small hgr (by omega) hx1
  have hwx : gwords X = gwords g + (1 + sz) := by have h := gdo_words hgr hx1; simpa using h
  have hwg := gwords_le g
  obtain ⟨wg, hwgE⟩ : ∃ wg, gwords g = wg := ⟨_, rfl⟩
  rw [hwgE] at hwx hwg
  have c0 : V3.cell? ⟨G, 0, none⟩ = some (.slice na n nq) := HG3.out.cell rfl
  have c1 : V3.cell? ⟨G, 1, none⟩ = some (.slice ra m rq) := HG3.out.cell rfl
  have c2 : V3.cell? ⟨GS, 0, none⟩ = some (.int .i64 (sz : Int)) := HSB.out.cell rfl
  have c3 : V3.cell? ⟨GS, 1, none⟩ = some (.int .i64 (pt : Int)) := HSB.out.cell rfl
  clear hw1
  go_wp2_with fail
  refine (C.act HA3.out hgs 1 (a : Int) 0 0 (sz : Int) (pt : Int) 0 0 (ibL (by omega)) (ibL (by omega)) (ibL (by omega)) (ibL (by omega)) (ibL (by omega)) (ibL (by omega)) (by decide) rfl 0 0 X 0 hx1 rfl).mono ?_
  rintro e W4 ⟨na1, n1, nq1, ra1, m1, rq1, rfl, hX, hb⟩
  have hb := ba hb (.cells #[.slice na1 n1 nq1, .slice ra1 m1 rq1] 25)
  have HXB := Lib.hid (Blk.new W4 [.slice na1 n1 nq1, .slice ra1 m1 rq1] 25)
  have HXA := Lib.hid ((hX.imp (Q := fun _ => True) (fun _ _ => trivial)).below (ba0 W4 (.cells #[.slice na1 n1 nq1, .slice ra1 m1 rq1] 25)))
  have HS4 := Lib.hid (HSB.out.below hb)
  have HA4 := Lib.hid (HA3.out.below hb)
  have HG4 := Lib.hid (HG3.out.below hb)
  have HB4 := Lib.hid (bt HB3.out hb)
  clear hb hX c0 c1 c2 c3 HSB HA3 HG3 HB3
  go_upto_region 7 with fail
  generalize W4.alloc (.cells #[.slice na1 n1 nq1, .slice ra1 m1 rq1] 25) = V4 at HXB HXA HS4 HA4 HG4 HB4 ⊢
  generalize W4.heap.size = GX at HXB ⊢
  have c0 : V4.cell? ⟨G, 0, none⟩ = some (.slice na n nq) := HG4.out.cell rfl
  go_upto_region 8 with fail
  have hxl1 : n1 = n + 1 := by rw [← HXA.out.parts.1, hxn]; simp; exact hnn
  have hxm1 : m1 = m := by rw [← HXA.out.parts.2.1, hxl]; exact HM.out
  subst hxl1 hxm1
  obtain ⟨nodes, k1, k2, k3, k4, k5, k6, k7, k8, k9, k10, k11, k12, k13, _⟩ := HXA.out
  have hnl : nodes.length = n + 1 := k2
  obtain ⟨nd, hnd⟩ : ∃ nd, nodes[n]? = some nd := ⟨_, List.getElem?_eq_getElem (by omega)⟩
  have hndv : nd.nd = gfresh (sz : Int) (pt : Int) := by
    have h1 : (nodes.map NdV.nd)[n]? = some nd.nd := by rw [List.getElem?_map, hnd]; rfl
    rw [k1, hxn, List.getElem?_append_right (by omega), hnn, Nat.sub_self] at h1
    simpa using h1.symm
  have hpl : nd.ptrs.length = pt := by have h := congrArg (fun y => y.ptrs.length) hndv; simpa [NdV.nd, gfresh] using h
  have hdl : nd.data.length = sz - pt := by have h := congrArg (fun y => y.data.length) hndv; simp [NdV.nd, gfresh] at h; omega
  obtain ⟨bn, on', hnaE, hbn, hcn⟩ := k4 n nd hnd
  have hna1 := hcn 0 _ rfl
  have hna2 := hcn 1 _ rfl
  rw [hpl] at hna1
  rw [hdl] at hna2
  subst hnaE
  have hz : (sz - pt : Nat) = (sz : Int) - (pt : Int) := by omega
  have e0 : ∀ x : GW V4, x.w'.cell? ⟨GX, 0, none⟩ = some (.slice (some ⟨bn, on', none⟩) (n + 1) nq1) := fun x => (HXB.out.below x.h).cell rfl
  have e1 : ∀ x : GW V4, x.w'.cell? ⟨GS, 0, none⟩ = some (.int .i64 (sz : Int)) := fun x => (HS4.out.below x.h).cell rfl
  have e2 : ∀ x : GW V4, x.w'.cell? ⟨GS, 1, none⟩ = some (.int .i64 (pt : Int)) := fun x => (HS4.out.below x.h).cell rfl
  have e3 : ∀ x : GW V4, x.w'.cell? ⟨bn, on' + n * 2, none⟩ = some (.slice nd.pa pt nd.pcap) := fun x => cellS x.h hbn hna1
  have e4 : ∀ x : GW V4, x.w'.cell? ⟨bn, on' + n * 2 + 1, none⟩ = some (.slice nd.da (sz - pt) nd.dcap) := fun x => cellS x.h hbn hna2
  have u1 : IntKind.i64.wrap ((n : Int) + 1) = (n : Int) + 1 := IntWalk.i64_in _ (by omega)
  have u2 : IntKind.i64.wrap ((sz : Int) - (pt : Int)) = (sz : Int) - (pt : Int) := IntWalk.i64_in _ (by omega)
  have u3 : IntKind.i64.wrap ((wg : Int) + 1) = (wg : Int) + 1 := IntWalk.i64_in _ (by omega)
  have u4 : IntKind.i64.wrap ((wg : Int) + 1 + (sz : Int)) = (wg : Int) + 1 + (sz : Int) := IntWalk.i64_in _ (by omega)
  have HWX := Lib.hid (show (gwords X : Int) = (wg : Int) + 1 + (sz : Int) by omega)
  have HWG := Lib.hid (show (gwords g : Int) = (wg : Int) by omega)
  have hbx : ∀ w', (∃ x : GW V4, w' = x.w') → Blk w' GX [.slice (some ⟨bn, on', none⟩) (n + 1) nq1, .slice ra1 m1 rq1] 25 := fun w' ⟨x, hx⟩ => by rw [hx]; exact HXB.out.below x.h
  have hbg : ∀ w', (∃ x : GW V4, w' = x.w') → Blk w' G [.slice na n nq, .slice ra m1 rq] 25 := fun w' ⟨x, hx⟩ => by rw [hx]; exact HG4.out.below x.h
  have HXK := Lib.hid (show GAt (fun _ => True) V4 (some ⟨bn, on', none⟩) (n + 1) nq1 ra1 m1 rq1 X from HXA.out)
  have HWW := Lib.hid (show ∀ (y : GW V4) (na' : Option Addr) (n' nq' : Nat) (ra' : Option Addr) (m' rq' : Nat) (W : Int), ((na' = some ⟨bn, on', none⟩ ∧ n' = n + 1 ∧ nq' = nq1 ∧ ra' = ra1 ∧ m' = m1 ∧ rq' = rq1 ∧ W = (wg : Int) + 1 + (sz : Int)) ∨ (na' = na ∧ n' = n ∧ nq' = nq ∧ ra' = ra ∧ m' = m1 ∧ rq' = rq ∧ W = (wg : Int))) →
      Calls Try.prog 13 #[.agg #[.slice na' n' nq', .slice ra' m' rq']] y.w' fun e w' => e = .returned (.int .i64 W) ∧ Below y.w'.heap.size y.w' w' from by
    rintro y na' n' nq' ra' m' rq' W (⟨rfl, rfl, rfl, rfl, rfl, rfl, rfl⟩ | ⟨rfl, rfl, rfl, rfl, rfl, rfl, rfl⟩)
    · exact C.words (HXK.out.below (GW.h _)) hxs _ HWX.out
    · exact C.words (HA4.out.below (GW.h _)) hgs _ HWG.out)
  refine wp_region_grow (by kernel_rfl) (by kernel_rfl) ?_
  try simp only [List.append_eq, List.cons_append, List.nil_append]
  repeat (first
    | (refine wpQ_load_any (by rfl) 25 (.tmp 16) rfl GX rfl [.slice (some ⟨bn, on', none⟩) (n + 1) nq1, .slice ra1 m1 rq1] _ _ hbx Try.underlying25 rfl (by kernel_rfl) ?_; simp [Act.put])
    | (refine wpQ_load_any (by rfl) 25 (.tmp 12) rfl G rfl [.slice na n nq, .slice ra m1 rq] _ _ hbg Try.underlying25 rfl (by kernel_rfl) ?_; simp [Act.put])
    | go_big_quiet_step ((first
      | (go_at_call 13; exact grow_call (HWW.out _ _ _ _ _ _ _ _ (by first | exact Or.inl ⟨rfl, rfl, rfl, rfl, rfl, rfl, rfl⟩ | exact Or.inr ⟨rfl, rfl, rfl, rfl, rfl, rfl, rfl⟩))))))
  refine wpQuiet_nil ?_
  intro w5
  have HX6 := Lib.hid (HXB.out.below w5.h)
  have HXL := Lib.hid (HXK.out.below w5.h)
  have HG6 := Lib.hid (HG4.out.below w5.h)
  have HA6 := Lib.hid (HA4.out.below w5.h)
  have HS6 := Lib.hid (HS4.out.below w5.h)
  have HB6 := Lib.hid (bt HB4.out w5.h)
  clear e0 e1 e2 e3 e4 u2 u3 u4 hbx hbg HXK HXB HG4 HA4 HS4 HB4 HWX HWG HWW c0 hna1 hna2 hcn HXA k4 k5 k6
  generalize w5.w' = W6 at HX6 HXL HG6 HA6 HS6 HB6 ⊢
  clear w5
  obtain ⟨_, rl1, rr, _⟩ := HXL.out.parts
  obtain ⟨br, or', rfl, _, _⟩ := in_cells rr (k := 0) (List.getElem?_eq_getElem (by omega))
  have HRR := Lib.hid rr
  have c1 : W6.cell? ⟨GX, 1, none⟩ = some (.slice (some ⟨br, or', none⟩) m1 rq1) := HX6.out.cell rfl
  clear rr
  dsimp only [Exit.then]
  go_wp2_with fail
  go_loopw [19] (fun iv wr => ∃ i : Nat, i ≤ m1 ∧ iv = .int .i64 i ∧ Hid (Below W6.heap.size W6 wr)) (fun iv _ => m1 - (intOf iv).toNat)
  case atStart => exact ⟨0, by omega, rfl, Lib.hid (Below.refl _ _)⟩
  case round =>
    obtain ⟨i, hi, rfl, HBR⟩ := hrel
    have c2 : wr.cell? ⟨GX, 1, none⟩ = some (.slice (some ⟨br, or', none⟩) m1 rq1) := (HX6.out.below HBR.out).cell rfl
    by_cases hil : i < m1
    · have hili : (i : Int) < (m1 : Int) := by omega
      obtain ⟨q, hq⟩ : ∃ q, X.roots[i]? = some q := ⟨_, List.getElem?_eq_getElem (by omega)⟩
      obtain ⟨b2, o2, he2, _, cq⟩ := in_cells (HRR.out.below (Nat.le_refl _) HBR.out) hq
      simp only [Option.some.injEq, Addr.mk.injEq, and_true] at he2
      obtain ⟨rfl, rfl⟩ := he2
      have hiff := hxi i (by omega)
      rw [hq] at hiff
      by_cases hia : i = a
      · subst hia
        obtain rfl : q = (n : Int) := by have h := hiff.2 rfl; rw [hnn] at h; simpa using h
        clear hiff hq
        go_wp2_with fail
        go_roundw
        case rel => (first | exact ⟨i + 1, by omega, by go_num, HBR⟩ | ((repeat apply Exists.intro); exact ⟨⟨i + 1, by omega, by go_num, HBR⟩, rfl⟩))
        case measure => simp [intOf]; omega
      · have hqn : ¬ q = (n : Int) := fun h => hia (by have h2 := hiff.1 (by rw [h, hnn]); omega)
        have hiai : ¬ (i : Int) = (a : Int) := by omega
        have hqb : (q == (n : Int)) = false := by simpa using hqn
        have hib : ((i : Int) == (a : Int)) = false := by simpa using hiai
        clear hiff hq
        go_wp2_with fail
        go_roundw
        case rel => (first | exact ⟨i + 1, by omega, by go_num, HBR⟩ | ((repeat apply Exists.intro); exact ⟨⟨i + 1, by omega, by go_num, HBR⟩, rfl⟩))
        case measure => simp [intOf]; omega
    · have hexit : decide (i < m1) = false := by simp; omega
      have HX7 := Lib.hid (HX6.out.below HBR.out)
      have HXM := Lib.hid (HXL.out.below HBR.out)
      have HG7 := Lib.hid (HG6.out.below HBR.out)
      have HA7 := Lib.hid (HA6.out.below HBR.out)
      have HS7 := Lib.hid (HS6.out.below HBR.out)
      have HB7 := Lib.hid (bt HB6.out HBR.out)
      go_wp2_with fail
      clear c1 c2 HX6 HXL HG6 HA6 HS6 HB6 HBR HRR hexit
      generalize wr = W7 at HX7 HXM HG7 HA7 HS7 HB7 ⊢
      obtain ⟨nodes, k1, k2, _, k4, k5, _⟩ := HXM.out
      have HK1 := Lib.hid k1
      have HK2 := Lib.hid k2
      have HK4 := Lib.hid k4
      have HK5 := Lib.hid k5
      clear k1 k2 k4 k5
      go_loopw [20] (fun iv wr => ∃ i : Nat, i ≤ n + 1 ∧ iv = .int .i64 i ∧ Hid (Below W7.heap.size W7 wr)) (fun iv _ => n + 1 - (intOf iv).toNat)
      case atStart => exact ⟨0, by omega, rfl, Lib.hid (Below.refl _ _)⟩
      case round =>
        obtain ⟨i, hi, rfl, HBR⟩ := hrel
        by_cases hil : i ≤ n
        · have hili : (i : Int) ≤ (n : Int) := by omega
          have hili2 : (i : Int) < (n : Int) + 1 := by omega
          obtain ⟨y, hy, hym⟩ := getq HK2.out (show i < n + 1 by omega)
          obtain ⟨b3, o3, he3, hb3, hc3⟩ := (HK4.out.below (Nat.le_refl _) HBR.out) i y hy
          simp only [Option.some.injEq, Addr.mk.injEq, and_true] at he3
          obtain ⟨rfl, rfl⟩ := he3
          have y0 : wr.cell? ⟨bn, on' + i * 2, none⟩ = some (.slice y.pa y.ptrs.length y.pcap) := hc3 0 _ rfl
          have c2 : wr.cell? ⟨GX, 0, none⟩ = some (.slice (some ⟨bn, on', none⟩) (n + 1) nq1) := (HX7.out.below HBR.out).cell rfl
          have hyo := (HK5.out y hym).below (Nat.le_refl _) HBR.out
          have hyp : ∀ p ∈ y.ptrs, p ≠ (n : Int) := by
            have h := hxp y.nd (by rw [← HK1.out]; exact List.mem_map_of_mem hym)
            rw [hnn] at h
            exact h
          have HYO := Lib.hid hyo
          have HYP := Lib.hid hyp
          have hyl : y.ptrs.length ≤ 9223372036854775807 := by have h1 := hyo.pl; have h2 := hyo.pc; omega
          obtain ⟨pl, hpl⟩ : ∃ pl, y.ptrs.length = pl := ⟨_, rfl⟩
          rw [hpl] at y0 hyl
          have HPL := Lib.hid hpl
          have HY0 := Lib.hid (show ∀ w', Below wr.heap.size wr w' → w'.cell? ⟨bn, on' + i * 2, none⟩ = some (.slice y.pa pl y.pcap) from fun w' h => cellS h hb3 y0)
          clear hy hym hc3 hyo hyp hpl
          go_wp2_with fail
          have HX8 := Lib.hid (HX7.out.below HBR.out)
          clear y0 c2
          clear hb3
          generalize wr = W8 at HBR HYO HY0 HX8 ⊢
          go_loopw [21] (fun kv wr => ∃ k : Nat, k ≤ pl ∧ kv = .int .i64 k ∧ Hid (Below W8.heap.size W8 wr)) (fun kv _ => pl - (intOf kv).toNat)
          case atStart => exact ⟨0, by omega, rfl, Lib.hid (Below.refl _ _)⟩
          case round =>
            obtain ⟨k, hk, rfl, HBC⟩ := hrel
            have c2 : wr.cell? ⟨GX, 0, none⟩ = some (.slice (some ⟨bn, on', none⟩) (n + 1) nq1) := (HX8.out.below HBC.out).cell rfl
            by_cases hkl : k < pl
            · have hkli : (k : Int) < (pl : Int) := by omega
              obtain ⟨p, hp, hpm⟩ := getq HPL.out hkl
              obtain ⟨b4, o4, he4, _, c4⟩ := in_cells (HYO.out.p.below (Nat.le_refl _) HBC.out) hp
              have y0 : wr.cell? ⟨bn, on' + i * 2, none⟩ = some (.slice (some ⟨b4, o4, none⟩) pl y.pcap) := by rw [← he4]; exact HY0.out wr HBC.out
              have hpn : ¬ p = (n : Int) := HYP.out p hpm
              have hpb : (p == (n : Int)) = false := by simpa using hpn
              clear he4 hp hpm
              go_wp2_with fail
              go_roundw
              case rel => (first | exact ⟨k + 1, by omega, by go_num, HBC⟩ | ((repeat apply Exists.intro); exact ⟨⟨k + 1, by omega, by go_num, HBC⟩, rfl⟩))
              case measure => simp [intOf]; omega
            · have hkx : decide (k < pl) = false := by simp; omega
              have y0 : wr.cell? ⟨bn, on' + i * 2, none⟩ = some (.slice y.pa pl y.pcap) := HY0.out wr HBC.out
              have HBD := Lib.hid (bt HBR.out HBC.out)
              go_wp2_with fail
              go_roundw
              case rel => (first | exact ⟨i + 1, by omega, by go_num, HBD⟩ | ((repeat apply Exists.intro); exact ⟨⟨i + 1, by omega, by go_num, HBD⟩, rfl⟩))
              case measure => simp [intOf]; omega
        · have hexit : decide ((i : Int) ≤ (n : Int)) = false := by simp; omega
          have c2 : wr.cell? ⟨G, 0, none⟩ = some (.slice na n nq) := (HG7.out.below HBR.out).cell rfl
          have c3 : wr.cell? ⟨G, 1, none⟩ = some (.slice ra m1 rq) := (HG7.out.below HBR.out).cell rfl
          have c4 : wr.cell? ⟨GS, 0, none⟩ = some (.int .i64 (sz : Int)) := (HS7.out.below HBR.out).cell rfl
          have hw1 : IntKind.i64.wrap ((sz : Int) + 1) = (sz : Int) + 1 := IntWalk.i64_in _ (by omega)
          have hnew : gdo g ⟨1, (a : Int), 0, 0, (sz : Int), (sz : Int) + 1, 0⟩ = (0, ⟨[], []⟩, 1) := by
            rw [gdo_new hgr rfl hga]
            exact if_neg (by dsimp only; omega)
          have HAF := Lib.hid (HA7.out.below HBR.out)
          have HBF := Lib.hid (bt HB7.out HBR.out)
          go_wp2_with fail
          refine (C.act HAF.out hgs 1 (a : Int) 0 0 (sz : Int) ((sz : Int) + 1) 0 0 (ibL (by omega)) (ibL (by omega)) (ibL (by omega)) (ibL (by omega)) (ibL (by omega)) (ibL (by omega)) (by decide) rfl 0 0 ⟨[], []⟩ 1 hnew rfl).mono ?_
          rintro e W9 ⟨nay, ny, nqy, ray, my, rqy, rfl, hY, hb⟩
          have HBG := Lib.hid (bt HBF.out (ba hb (.cells #[.slice nay ny nqy, .slice ray my rqy] 25)))
          clear hb hY c2 c3 c4
          go_wp2_with fail
          go_ret
          exact ⟨rfl, HBG.out⟩
end Go.Proofs.Ytjoacfjbdpmgpaa.V
