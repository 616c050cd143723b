/-
  GraphKeeps, walked under what is asked of the program's functions.
-/
import Derived.Test.YtjoacfjbdpmgpaaGShapeW
set_option linter.unusedVariables false
namespace Go.Proofs.Ytjoacfjbdpmgpaa.V
open Go.RowKit

theorem gdo_named {g x : Gr} {a : Ac} {v : Nat} (hd : gdo g a = (v, x, 0)) : gnames g a := by
  by_cases hn : gnames g a
  · exact hn
  · rw [gdo_bad (fun h => hn h.2)] at hd; simp at hd
/-- How many slots may have been seen to be others. -/
def Few (A : Ac) (gs : Int) (t : Nat) (seen : Prop) : Prop := t ≤ 1 ∧ (t = 1 → A.kind = 1 ∨ seen)
-- PART
set_option maxRecDepth 100000 in
set_option maxHeartbeats 4000000 in
theorem graphKeeps_try (C : GrC) (lo ro : Option Addr) (ln lc rn rc : Nat) (raws : List NdV) (roots : List Int) (p : I5) (v : Nat) (w : World) (hln : raws.length = ln) (hrn : roots.length = rn) (hlm : ln ≤ lc) (hlc : lc ≤ 9223372036854775807) (hrm : rn ≤ rc) (hrc : rc ≤ 9223372036854775807)
    (hL : Rw nc 2 w lo raws) (hK : ∀ x ∈ raws, x.ok w) (hR : Rw ic 1 w ro roots) (hRb : ∀ p ∈ roots, ib p) (hp : p.ok) (hv : v < 2 ^ 64) :
    Calls Try.prog 5 #[.slice lo ln lc, .slice ro rn rc, .agg #[.int .i64 p.n0, .int .i64 p.n1, .int .i64 p.n2, .int .i64 p.n3, .int .i64 p.n4], .int .u64 (v : Int)] w fun e w' => e = .returned (.bool true) ∧ Below w.heap.size w w' := by
  have hb0 := ba0 w (.cells #[.int .i64 p.n0, .int .i64 p.n1, .int .i64 p.n2, .int .i64 p.n3, .int .i64 p.n4] 32)
  have HP0 := Lib.hid (Blk.new w [.int .i64 p.n0, .int .i64 p.n1, .int .i64 p.n2, .int .i64 p.n3, .int .i64 p.n4] 32)
  have HL0 := Lib.hid (hL.below (Nat.le_refl _) hb0)
  have HK0 := Lib.hid (fun x hx => (hK x hx).below (Nat.le_refl _) hb0)
  have HR0 := Lib.hid (hR.below (Nat.le_refl _) hb0)
  have HB0 := Lib.hid hb0
  clear hL hK hR hb0
  go_enter Try.func5, Try.ntmps5
  go_upto_region 1 with fail
  generalize w.alloc (.cells #[.int .i64 p.n0, .int .i64 p.n1, .int .i64 p.n2, .int .i64 p.n3, .int .i64 p.n4] 32) = V0 at HP0 HL0 HK0 HR0 HB0 ⊢
  go_wp2_with fail
  refine (awake08 C _).mono ?_
  rintro e w1 ⟨rfl, hb1⟩
  have HL1 := Lib.hid (HL0.out.below (Nat.le_refl _) hb1)
  have HK1 := Lib.hid (fun x hx => (HK0.out x hx).below (Nat.le_refl _) hb1)
  have HR1 := Lib.hid (HR0.out.below (Nat.le_refl _) hb1)
  have HP1 := Lib.hid (HP0.out.below hb1)
  have HB1 := Lib.hid (bt HB0.out hb1)
  clear hb1 HL0 HK0 HR0 HP0 HB0
  go_wp2_with fail
  refine (gGraph lo ro ln lc rn rc raws roots _ hln hrn hlm hlc hrm hrc HL1.out HK1.out HR1.out hRb).mono ?_
  rintro e w2 ⟨na, n, nq, ra, m, rq, rfl, hA, hb2⟩
  generalize hg : gof (raws.map NdV.nd) roots = g at hA
  have hmg : g.roots.length = m := hA.parts.2.1
  obtain ⟨hgr, hgs, hm1, hm5, _⟩ := gof_pick _ _ _ hg 0 m hmg
  have hn10 : g.nodes.length ≤ 10 := by rw [← hg]; exact (gof_right _ _).2.1
  have hnn : g.nodes.length = n := hA.parts.1
  have HM := Lib.hid hmg
  have HA2 := Lib.hid (hA.below (ba0 w2 (.cells #[.slice na n nq, .slice ra m rq] 25)))
  have HG2 := Lib.hid (Blk.new w2 [.slice na n nq, .slice ra m rq] 25)
  have HB2 := Lib.hid (ba (bt HB1.out hb2) (.cells #[.slice na n nq, .slice ra m rq] 25))
  have HP2 := Lib.hid (HP1.out.below (ba hb2 (.cells #[.slice na n nq, .slice ra m rq] 25)))
  clear hA hb2 HL1 HK1 HR1 HB1 HP1 hg hmg hln hrn hlm hlc hrm hrc hRb
  go_upto_region 3 with fail
  generalize w2.alloc (.cells #[.slice na n nq, .slice ra m rq] 25) = V2 at HA2 HG2 HB2 HP2 ⊢
  generalize w2.heap.size = G at HG2 ⊢
  obtain ⟨q0, q1, q2, q3, q4⟩ : V2.cell? ⟨w.heap.size, 0, none⟩ = some (.int .i64 p.n0) ∧ V2.cell? ⟨w.heap.size, 1, none⟩ = some (.int .i64 p.n1) ∧ V2.cell? ⟨w.heap.size, 2, none⟩ = some (.int .i64 p.n2) ∧ V2.cell? ⟨w.heap.size, 3, none⟩ = some (.int .i64 p.n3) ∧ V2.cell? ⟨w.heap.size, 4, none⟩ = some (.int .i64 p.n4) := ⟨HP2.out.cell rfl, HP2.out.cell rfl, HP2.out.cell rfl, HP2.out.cell rfl, HP2.out.cell rfl⟩
  obtain ⟨A, hAe⟩ : ∃ A, actof p.n0 p.n1 p.n2 p.n3 p.n4 v = A := ⟨_, rfl⟩
  obtain ⟨t0, t1, t2, t3, t4, t5, t6⟩ := actof_ib _ _ _ _ _ _ A hAe
  have hAs : 0 ≤ A.s ∧ 0 ≤ A.size ∧ A.size ≤ 5 := by
    have h2 := pk_bd p.n2 5 (by omega)
    have h4 := pk_bd p.n4 6 (by omega)
    rw [← hAe]; unfold actof; dsimp only; omega
  obtain ⟨T, hT⟩ := Int.eq_ofNat_of_zero_le hAs.1
  obtain ⟨SZ, hSZ⟩ := Int.eq_ofNat_of_zero_le hAs.2.1
  have hSZ5 : SZ ≤ 5 := by omega
  have HAV := Lib.hid (show A.v < 2 ^ 64 by rw [t6]; exact hv)
  have HAE := Lib.hid hAe
  obtain ⟨p0, p1, p2, p3, p4⟩ := hp
  clear hAe t6 hAs
  go_wp2_with fail
  refine (gAct p.n0 p.n1 p.n2 p.n3 p.n4 v _ hv p0 p1 p2 p3 p4 A HAE.out).mono ?_
  rintro e w3 ⟨rfl, hb3⟩
  clear q0 q1 q2 q3 q4
  rw [hT, hSZ]
  have HTT := Lib.hid hT
  have HSZ := Lib.hid hSZ
  have hb := ba hb3 (.cells #[.int .i64 A.kind, .int .i64 A.r, .int .i64 (T : Int), .int .i64 A.i, .int .i64 (SZ : Int), .int .i64 A.ptrs, .int .u64 (A.v : Int)] 31)
  have HAB := Lib.hid (Blk.new w3 [.int .i64 A.kind, .int .i64 A.r, .int .i64 (T : Int), .int .i64 A.i, .int .i64 (SZ : Int), .int .i64 A.ptrs, .int .u64 (A.v : Int)] 31)
  have HA3 := Lib.hid (HA2.out.below hb)
  have HG3 := Lib.hid (HG2.out.below hb)
  have HB3 := Lib.hid (bt HB2.out hb)
  clear hb3 hb HA2 HG2 HB2 HP2 HAE p0 p1 p2 p3 p4
  go_upto_region 4 with fail
  generalize w3.alloc (.cells #[.int .i64 A.kind, .int .i64 A.r, .int .i64 (T : Int), .int .i64 A.i, .int .i64 (SZ : Int), .int .i64 A.ptrs, .int .u64 (A.v : Int)] 31) = V3 at HAB HA3 HG3 HB3 ⊢
  generalize w3.heap.size = GA at HAB ⊢
  obtain ⟨VV, X, E, hdo⟩ : ∃ VV X E, gdo g A = (VV, X, E) := ⟨_, _, _, rfl⟩
  have HDO := Lib.hid hdo
  have HACT := Lib.hid (C.act HA3.out hgs A.kind A.r A.s A.i A.size A.ptrs A.v A.v t0 t1 t2 t3 t4 t5 HAV.out rfl VV (VV : Int) X E HDO.out rfl)
  rw [hT, hSZ] at HACT
  clear hT hSZ hdo
  have c0 : V3.cell? ⟨G, 0, none⟩ = some (.slice na n nq) := HG3.out.cell rfl
  have c1 : V3.cell? ⟨G, 1, none⟩ = some (.slice ra m rq) := HG3.out.cell rfl
  obtain ⟨a0, a1, a2, a3, a4, a5, a6⟩ : V3.cell? ⟨GA, 0, none⟩ = some (.int .i64 A.kind) ∧ V3.cell? ⟨GA, 1, none⟩ = some (.int .i64 A.r) ∧ V3.cell? ⟨GA, 2, none⟩ = some (.int .i64 (T : Int)) ∧ V3.cell? ⟨GA, 3, none⟩ = some (.int .i64 A.i) ∧ V3.cell? ⟨GA, 4, none⟩ = some (.int .i64 (SZ : Int)) ∧ V3.cell? ⟨GA, 5, none⟩ = some (.int .i64 A.ptrs) ∧ V3.cell? ⟨GA, 6, none⟩ = some (.int .u64 (A.v : Int)) := ⟨HAB.out.cell rfl, HAB.out.cell rfl, HAB.out.cell rfl, HAB.out.cell rfl, HAB.out.cell rfl, HAB.out.cell rfl, HAB.out.cell rfl⟩
  go_wp2_with fail
  refine HACT.out.mono ?_
  rintro e W4 ⟨na1, n1, nq1, ra1, m1, rq1, rfl, hX, hb⟩
  have hb := ba hb (.cells #[.slice na1 n1 nq1, .slice ra1 m1 rq1] 25)
  have HXB := Lib.hid (Blk.new W4 [.slice na1 n1 nq1, .slice ra1 m1 rq1] 25)
  have HXA := Lib.hid ((hX.imp (Q := fun _ => True) (fun _ _ => trivial)).below (ba0 W4 (.cells #[.slice na1 n1 nq1, .slice ra1 m1 rq1] 25)))
  have HA4 := Lib.hid (HA3.out.below hb)
  have HG4 := Lib.hid (HG3.out.below hb)
  have HB4 := Lib.hid (bt HB3.out hb)
  have HC4 := Lib.hid (HAB.out.below hb)
  clear hb hX c0 c1 a0 a1 a2 a3 a4 a5 a6 HA3 HG3 HB3 HAB HACT
  go_upto_region 5 with fail
  generalize W4.alloc (.cells #[.slice na1 n1 nq1, .slice ra1 m1 rq1] 25) = V4 at HXB HXA HA4 HG4 HB4 HC4 ⊢
  generalize W4.heap.size = GX at HXB ⊢
  by_cases hE : E = 0
  · subst hE
    have hdo := HDO.out
    have HKP := Lib.hid (gdo_keeps hgr hdo)
    have HNM := Lib.hid (gdo_named hdo)
    have HWO := Lib.hid (gdo_words hgr hdo)
    obtain ⟨hxr, hxs, hxn⟩ := do_small hgr (by omega) hdo
    have HXR := Lib.hid (decide_eq_true hxr)
    have hxm : m1 = m := by rw [← HXA.out.parts.2.1, HKP.out.1]; exact HM.out
    subst hxm
    obtain ⟨d, hd1, hd2⟩ : ∃ d : Nat, d ≤ 1 ∧ (d = 1 ↔ A.kind = 1) ∧ n1 = n + d := by
      have h := HKP.out.2.1
      rw [HXA.out.parts.1, hnn] at h
      by_cases hk : A.kind = 1
      · rw [if_pos hk] at h; exact ⟨1, by omega, by simp [hk], h⟩
      · rw [if_neg hk] at h; exact ⟨0, by omega, by simp [hk], h⟩
    obtain ⟨hd2, rfl⟩ := hd2
    have HD2 := Lib.hid hd2
    clear hdo hxr hd2
    have x0 : V4.cell? ⟨GX, 0, none⟩ = some (.slice na1 (n + d) nq1) := HXB.out.cell rfl
    have x1 : V4.cell? ⟨GX, 1, none⟩ = some (.slice ra1 m1 rq1) := HXB.out.cell rfl
    go_wp2_with fail
    refine (C.right HXA.out hxs true HXR.out).mono ?_
    rintro e W5 ⟨rfl, hb⟩
    have HXB5 := Lib.hid (HXB.out.below hb)
    have HXA5 := Lib.hid (HXA.out.below hb)
    have HA5 := Lib.hid (HA4.out.below hb)
    have HG5 := Lib.hid (HG4.out.below hb)
    have HB5 := Lib.hid (bt HB4.out hb)
    have HC5 := Lib.hid (HC4.out.below hb)
    clear hb x0 x1 HXB HXA HA4 HG4 HB4 HC4
    have x0 : W5.cell? ⟨GX, 0, none⟩ = some (.slice na1 (n + d) nq1) := HXB5.out.cell rfl
    have x1 : W5.cell? ⟨GX, 1, none⟩ = some (.slice ra1 m1 rq1) := HXB5.out.cell rfl
    have g0 : W5.cell? ⟨G, 0, none⟩ = some (.slice na n nq) := HG5.out.cell rfl
    have g1 : W5.cell? ⟨G, 1, none⟩ = some (.slice ra m1 rq) := HG5.out.cell rfl
    have f3 : (n : Int) + (d : Int) - (n : Int) = (d : Int) := by omega
    go_wp2_with fail
    clear x0 x1 g0 g1 f3
    have hlx : X.roots.length = m1 := by rw [HKP.out.1]; exact HM.out
    obtain ⟨_, _, xr, _⟩ := HXA5.out.parts
    obtain ⟨_, _, gr, _⟩ := HA5.out.parts
    obtain ⟨bx, ox, rfl, _, _⟩ := in_cells xr (k := 0) (List.getElem?_eq_getElem (by omega))
    obtain ⟨bg, og, rfl, _, _⟩ := in_cells gr (k := 0) (List.getElem?_eq_getElem (by have := HM.out; omega))
    have HXRR := Lib.hid xr
    have HGRR := Lib.hid gr
    clear xr gr
    go_loopw [16] (fun iv wr => ∃ i : Nat, i ≤ m1 ∧ iv = .int .i64 i ∧ Hid (Below W5.heap.size W5 wr)) (fun iv _ => m1 - (intOf iv).toNat)
    case atStart => exact ⟨0, by omega, rfl, Lib.hid (Below.refl _ _)⟩
    case round =>
      obtain ⟨i, hi, rfl, HBR⟩ := hrel
      have g1 : wr.cell? ⟨G, 1, none⟩ = some (.slice (some ⟨bg, og, none⟩) m1 rq) := (HG5.out.below HBR.out).cell rfl
      by_cases hil : i < m1
      · have hili : (i : Int) < (m1 : Int) := by omega
        have x1 : wr.cell? ⟨GX, 1, none⟩ = some (.slice (some ⟨bx, ox, none⟩) m1 rq1) := (HXB5.out.below HBR.out).cell rfl
        obtain ⟨u, hu⟩ : ∃ u, X.roots[i]? = some u := ⟨_, List.getElem?_eq_getElem (by omega)⟩
        obtain ⟨z, hz⟩ : ∃ z, g.roots[i]? = some z := ⟨_, List.getElem?_eq_getElem (by have := HM.out; omega)⟩
        obtain ⟨b2, o2, he2, _, cu⟩ := in_cells (HXRR.out.below (Nat.le_refl _) HBR.out) hu
        simp only [Option.some.injEq, Addr.mk.injEq, and_true] at he2
        obtain ⟨rfl, rfl⟩ := he2
        obtain ⟨b2, o2, he2, _, cz⟩ := in_cells (HGRR.out.below (Nat.le_refl _) HBR.out) hz
        simp only [Option.some.injEq, Addr.mk.injEq, and_true] at he2
        obtain ⟨rfl, rfl⟩ := he2
        have HKI := Lib.hid (HKP.out.2.2.1 i)
        have HUZ := Lib.hid (And.intro hu hz)
        clear hu hz
        by_cases hq : u = z
        · subst hq
          go_wp2_with fail
          go_quiet ((fail))
          have HBq := Lib.hid (Below.drewN HBR.out nq)
          clear cu cz x1 g1
          dsimp only [Exit.then]
          go_wp2_with fail
          go_roundw
          case rel => (first | exact ⟨i + 1, by omega, by go_num, HBq⟩ | ((repeat apply Exists.intro); exact ⟨⟨i + 1, by omega, by go_num, HBq⟩, rfl⟩))
          case measure => simp [intOf]; omega
        · have hqb : (u != z) = true := by simpa using hq
          obtain ⟨hr1, hr3, hr4, hr5⟩ := HKI.out (by rw [HUZ.out.1, HUZ.out.2]; simpa using hq)
          have n1' : ((i : Int) != A.r) = false := by simp; omega
          have n3 : (A.kind == 3) = false := by simpa using hr3
          have n4 : (A.kind == 4) = false := by simpa using hr4
          have n5 : (A.kind == 5) = false := by simpa using hr5
          clear hr1 hr3 hr4 hr5 hq
          go_wp2_with fail
          go_quiet ((fail))
          have hd9 : Below wr.heap.size wr (wr.drewN nq) := Below.drewN (Below.refl _ wr) nq
          have HCq := Lib.hid ((HC5.out.below HBR.out).below hd9)
          have HBq := Lib.hid (bt HBR.out hd9)
          clear cu cz x1 g1 hd9
          dsimp only [Exit.then]
          generalize wr.drewN nq = Wq at HCq HBq ⊢
          have a0 : Wq.cell? ⟨GA, 0, none⟩ = some (.int .i64 A.kind) := HCq.out.cell rfl
          have a1 : Wq.cell? ⟨GA, 1, none⟩ = some (.int .i64 A.r) := HCq.out.cell rfl
          go_wp2_with fail
          go_roundw
          case rel => (first | exact ⟨i + 1, by omega, by go_num, HBq⟩ | ((repeat apply Exists.intro); exact ⟨⟨i + 1, by omega, by go_num, HBq⟩, rfl⟩))
          case measure => simp [intOf]; omega
      · have hexit : decide (i < m1) = false := by simp; omega
        have HXB7 := Lib.hid (HXB5.out.below HBR.out)
        have HXA7 := Lib.hid (HXA5.out.below HBR.out)
        have HA7 := Lib.hid (HA5.out.below HBR.out)
        have HG7 := Lib.hid (HG5.out.below HBR.out)
        have HC7 := Lib.hid (HC5.out.below HBR.out)
        have HGR7 := Lib.hid (HGRR.out.below (Nat.le_refl _) HBR.out)
        have HB7 := Lib.hid (bt HB5.out HBR.out)
        go_wp2_with fail
        clear g1 HXB5 HXA5 HA5 HG5 HC5 HB5 HBR HXRR HGRR hexit hi hil
        generalize wr = W7 at HXB7 HXA7 HA7 HG7 HC7 HGR7 HB7 ⊢
        obtain ⟨ng, k1, k2, _, k4, k5, _⟩ := HA7.out
        have HN1 := Lib.hid k1
        have HN2 := Lib.hid k2
        have HN4 := Lib.hid k4
        have HN5 := Lib.hid k5
        clear k1 k2 k4 k5
        obtain ⟨nx, k1, k2, _, k4, k5, _⟩ := HXA7.out
        have HX1 := Lib.hid k1
        have HX2 := Lib.hid k2
        have HX4 := Lib.hid k4
        have HX5 := Lib.hid k5
        clear k1 k2 k4 k5
        obtain ⟨gs, hgs0⟩ : ∃ gs, gat g A.s = gs := ⟨_, rfl⟩
        have HGS := Lib.hid hgs0
        clear hgs0
        have HTM : Hid (A.kind = 4 ∨ A.kind = 5 → T < m1 ∧ g.roots[T]? = some gs) := Lib.hid (fun hk => by
          have h := HNM.out
          unfold gnames groot at h
          rw [HTT.out, HM.out] at h
          have hTm : T < m1 := by omega
          refine ⟨hTm, ?_⟩
          have h9 := HGS.out
          rw [HTT.out] at h9
          rw [← h9]
          unfold gat
          rw [Int.toNat_natCast, List.getD_eq_getElem?_getD, List.getElem?_eq_getElem (by have := HM.out; omega)]
          rfl)
        go_loopw [15, 17] (fun tv iv wr => ∃ t i : Nat, i ≤ n ∧ tv = .int .i64 (t : Int) ∧ iv = .int .i64 (i : Int) ∧ t ≤ 1 ∧ Hid (t = 1 → A.kind = 1 ∨ gs < (i : Int)) ∧ Hid (Below W7.heap.size W7 wr)) (fun _ iv _ => n - (intOf iv).toNat)
        case atStart => exact ⟨d, 0, by omega, rfl, rfl, hd1, Lib.hid (fun h => Or.inl (HD2.out.1 h)), Lib.hid (Below.refl _ _)⟩
        case round =>
          obtain ⟨t, i, hi, rfl, rfl, ht1, HT1, HBR⟩ := hrel
          have g0 : wr.cell? ⟨G, 0, none⟩ = some (.slice na n nq) := (HG7.out.below HBR.out).cell rfl
          by_cases hil : i < n
          · have hili : (i : Int) < (n : Int) := by omega
            have hilx : (i : Int) < (n : Int) + (d : Int) := by omega
            have x0 : wr.cell? ⟨GX, 0, none⟩ = some (.slice na1 (n + d) nq1) := (HXB7.out.below HBR.out).cell rfl
            obtain ⟨y, hy, hym⟩ := getq HN2.out hil
            obtain ⟨z, hz, hzm⟩ := getq HX2.out (show i < n + d by omega)
            obtain ⟨b2, o2, rfl, hb2, yy0, yy1⟩ := nd_cells (HN4.out.below (Nat.le_refl _) HBR.out) hy
            obtain ⟨b3, o3, rfl, hb3, zz0, zz1⟩ := nd_cells (HX4.out.below (Nat.le_refl _) HBR.out) hz
            have HNK : Hid (NdKeep g A i y.nd z.nd) := Lib.hid (by
              obtain ⟨pp, qq, h1, h2, h3⟩ := HKP.out.2.2.2 i (by rw [hnn]; exact hil)
              rw [← HN1.out, List.getElem?_map, hy] at h1
              rw [← HX1.out, List.getElem?_map, hz] at h2
              simp only [Option.map_some, Option.some.injEq] at h1 h2
              rw [h1, h2]; exact h3)
            have hyo := (HN5.out y hym).below (Nat.le_refl _) HBR.out
            have hzo := (HX5.out z hzm).below (Nat.le_refl _) HBR.out
            obtain ⟨pl, hpl⟩ : ∃ pl, y.ptrs.length = pl := ⟨_, rfl⟩
            obtain ⟨dl, hdl⟩ : ∃ dl, y.data.length = dl := ⟨_, rfl⟩
            have hzp : z.ptrs.length = pl := by rw [← hpl]; exact HNK.out.1.symm
            have hzd : z.data.length = dl := by rw [← hdl]; exact HNK.out.2.1.symm
            have hpm : pl ≤ 9223372036854775807 := by rw [← hpl]; exact Nat.le_trans hyo.pl hyo.pc
            have hdm : dl ≤ 9223372036854775807 := by rw [← hdl]; exact Nat.le_trans hyo.dl hyo.dc
            rw [hpl] at yy0
            rw [hdl] at yy1
            rw [hzp] at zz0
            rw [hzd] at zz1
            have HPL := Lib.hid hpl
            have HDL := Lib.hid hdl
            have HZP := Lib.hid hzp
            have HZD := Lib.hid hzd
            have hba := ba0 wr (.cells #[.slice y.pa pl y.pcap, .slice y.da dl y.dcap] 36)
            have HYa := Lib.hid (hyo.below (Nat.le_refl _) hba)
            have HZa := Lib.hid (hzo.below (Nat.le_refl _) hba)
            have HQa := Lib.hid (Blk.new wr [.slice y.pa pl y.pcap, .slice y.da dl y.dcap] 36)
            have HBa := Lib.hid (bt HBR.out hba)
            have za0 := cellS hba hb3 zz0
            have za1 := cellS hba hb3 zz1
            clear hy hym hz hzm hb2 hyo hzo hpl hdl hzp hzd hba
            go_upto_region 20 with fail
            clear g0 x0 yy0 yy1 zz0 zz1 HBR hb3
            generalize wr.alloc (.cells #[.slice y.pa pl y.pcap, .slice y.da dl y.dcap] 36) = Wa at HYa HZa HQa HBa za0 za1 ⊢
            generalize wr.heap.size = P1 at HQa ⊢
            have x0 : Wa.cell? ⟨GX, 0, none⟩ = some (.slice (some ⟨b3, o3, none⟩) (n + d) nq1) := (HXB7.out.below HBa.out).cell rfl
            have hbb := ba0 Wa (.cells #[.slice z.pa pl z.pcap, .slice z.da dl z.dcap] 36)
            have HY := Lib.hid (HYa.out.below (Nat.le_refl _) hbb)
            have HZ := Lib.hid (HZa.out.below (Nat.le_refl _) hbb)
            have HQ1 := Lib.hid (HQa.out.below hbb)
            have HQ2 := Lib.hid (Blk.new Wa [.slice z.pa pl z.pcap, .slice z.da dl z.dcap] 36)
            have HB8 := Lib.hid (bt HBa.out hbb)
            clear hbb HYa HZa HQa HBa
            go_upto_region 21 with fail
            clear x0 za0 za1
            generalize Wa.alloc (.cells #[.slice z.pa pl z.pcap, .slice z.da dl z.dcap] 36) = W8 at HY HZ HQ1 HQ2 HB8 ⊢
            generalize Wa.heap.size = P2 at HQ2 ⊢
            have u0 : W8.cell? ⟨P1, 0, none⟩ = some (.slice y.pa pl y.pcap) := HQ1.out.cell rfl
            have u1 : W8.cell? ⟨P1, 1, none⟩ = some (.slice y.da dl y.dcap) := HQ1.out.cell rfl
            have u2 : W8.cell? ⟨P2, 0, none⟩ = some (.slice z.pa pl z.pcap) := HQ2.out.cell rfl
            have u3 : W8.cell? ⟨P2, 1, none⟩ = some (.slice z.da dl z.dcap) := HQ2.out.cell rfl
            go_wp2_with fail
            clear u0 u1 u2 u3
            go_loopw [15, 20] (fun tv kv wr => ∃ t k : Nat, k ≤ pl ∧ tv = .int .i64 (t : Int) ∧ kv = .int .i64 (k : Int) ∧ t ≤ 1 ∧ Hid (t = 1 → A.kind = 1 ∨ gs < (i : Int) ∨ (gs = (i : Int) ∧ A.kind = 4 ∧ A.i < (k : Int))) ∧ Hid (Below W8.heap.size W8 wr)) (fun _ kv _ => pl - (intOf kv).toNat)
            case atStart => exact ⟨t, 0, by omega, rfl, rfl, ht1, Lib.hid (fun h => by rcases HT1.out h with h | h; exact Or.inl h; exact Or.inr (Or.inl h)), Lib.hid (Below.refl _ _)⟩
            case round =>
              obtain ⟨t, k, hk, rfl, rfl, ht2, HT2, HBC⟩ := hrel
              have u0 : wr.cell? ⟨P1, 0, none⟩ = some (.slice y.pa pl y.pcap) := (HQ1.out.below HBC.out).cell rfl
              by_cases hkl : k < pl
              · have hkli : (k : Int) < (pl : Int) := by omega
                have u2 : wr.cell? ⟨P2, 0, none⟩ = some (.slice z.pa pl z.pcap) := (HQ2.out.below HBC.out).cell rfl
                obtain ⟨a, ha, _⟩ := getq HPL.out hkl
                obtain ⟨b, hb, _⟩ := getq HZP.out hkl
                obtain ⟨b4, o4, he4, _, c4⟩ := in_cells (HY.out.p.below (Nat.le_refl _) HBC.out) ha
                obtain ⟨b5, o5, he5, _, c5⟩ := in_cells (HZ.out.p.below (Nat.le_refl _) HBC.out) hb
                rw [he4] at u0
                rw [he5] at u2
                have HAB2 := Lib.hid (And.intro ha hb)
                clear ha hb he4 he5
                by_cases hq : a = b
                · subst hq
                  go_wp2_with fail
                  go_quiet ((fail))
                  have HBq := Lib.hid (Below.drewN HBC.out nq)
                  clear c4 c5 u0 u2
                  dsimp only [Exit.then]
                  go_wp2_with fail
                  go_roundw
                  case rel => (first | exact ⟨t, k + 1, by omega, rfl, by go_num, ht2, Lib.hid (fun h => by rcases HT2.out h with h | h | h; exact Or.inl h; exact Or.inr (Or.inl h); exact Or.inr (Or.inr (by omega))), HBq⟩ | ((repeat apply Exists.intro); exact ⟨⟨t, k + 1, by omega, rfl, by go_num, ht2, Lib.hid (fun h => by rcases HT2.out h with h | h | h; exact Or.inl h; exact Or.inr (Or.inl h); exact Or.inr (Or.inr (by omega))), HBq⟩, rfl⟩))
                  case measure => simp [intOf]; omega
                · have hqb : (a != b) = true := by simpa using hq
                  obtain ⟨w1', w2', w3'⟩ := HNK.out.2.2.1 k (by show y.ptrs[k]? ≠ z.ptrs[k]?; rw [HAB2.out.1, HAB2.out.2]; simpa using hq)
                  rw [HGS.out] at w2'
                  obtain ⟨hTm, hTg⟩ := HTM.out (Or.inl w1')
                  obtain rfl : t = 0 := by
                    rcases Nat.lt_or_ge t 1 with h | h
                    · omega
                    · have := HT2.out (by omega); omega
                  have n4 : (A.kind != 4) = false := by simpa using w1'
                  have ng' : ((i : Int) != gs) = false := by simpa using w2'
                  have nk : ((k : Int) != A.i) = false := by simpa using w3'
                  have hTi : (T : Int) < (m1 : Int) := by omega
                  have HWW2 := Lib.hid (And.intro w1' (And.intro w2' w3'))
                  have HTG := Lib.hid hTg
                  clear w1' w2' w3' hTg hq
                  go_wp2_with fail
                  go_quiet ((fail))
                  have hd9 : Below wr.heap.size wr (wr.drewN nq) := Below.drewN (Below.refl _ wr) nq
                  have hbq := bt (bt HB8.out HBC.out) hd9
                  have HCq := Lib.hid (HC7.out.below hbq)
                  have HGq := Lib.hid (HG7.out.below hbq)
                  obtain ⟨b6, o6, he6, _, c6⟩ := in_cells (HGR7.out.below (Nat.le_refl _) hbq) HTG.out
                  simp only [Option.some.injEq, Addr.mk.injEq, and_true] at he6
                  obtain ⟨rfl, rfl⟩ := he6
                  have HBq := Lib.hid (bt HBC.out hd9)
                  clear c4 c5 u0 u2 hd9 hbq
                  dsimp only [Exit.then]
                  generalize wr.drewN nq = Wq at HCq HGq HBq c6 ⊢
                  have a0 : Wq.cell? ⟨GA, 0, none⟩ = some (.int .i64 A.kind) := HCq.out.cell rfl
                  have a2 : Wq.cell? ⟨GA, 2, none⟩ = some (.int .i64 (T : Int)) := HCq.out.cell rfl
                  have a3 : Wq.cell? ⟨GA, 3, none⟩ = some (.int .i64 A.i) := HCq.out.cell rfl
                  have g1 : Wq.cell? ⟨G, 1, none⟩ = some (.slice (some ⟨bg, og, none⟩) m1 rq) := HGq.out.cell rfl
                  go_wp2_with fail
                  go_roundw
                  case rel => (first | exact ⟨1, k + 1, by omega, by go_num, by go_num, by omega, Lib.hid (fun _ => Or.inr (Or.inr (by have := HWW2.out; omega))), HBq⟩ | ((repeat apply Exists.intro); exact ⟨⟨1, k + 1, by omega, by go_num, by go_num, by omega, Lib.hid (fun _ => Or.inr (Or.inr (by have := HWW2.out; omega))), HBq⟩, rfl⟩))
                  case measure => simp [intOf]; omega
              · have hkx : decide (k < pl) = false := by simp; omega
                have HY9 := Lib.hid (HY.out.below (Nat.le_refl _) HBC.out)
                have HZ9 := Lib.hid (HZ.out.below (Nat.le_refl _) HBC.out)
                have HQ19 := Lib.hid (HQ1.out.below HBC.out)
                have HQ29 := Lib.hid (HQ2.out.below HBC.out)
                have HB9 := Lib.hid (bt HB8.out HBC.out)
                go_wp2_with fail
                clear u0 HY HZ HQ1 HQ2 HB8 HBC hkx
                generalize wr = W9 at HY9 HZ9 HQ19 HQ29 HB9 ⊢
                go_loopw [15, 21] (fun tv kv wr => ∃ t k : Nat, k ≤ dl ∧ tv = .int .i64 (t : Int) ∧ kv = .int .i64 (k : Int) ∧ t ≤ 1 ∧ Hid (t = 1 → A.kind = 1 ∨ gs < (i : Int) ∨ (gs = (i : Int) ∧ A.kind = 4) ∨ (gs = (i : Int) ∧ A.kind = 5 ∧ A.i < (k : Int))) ∧ Hid (Below W9.heap.size W9 wr)) (fun _ kv _ => dl - (intOf kv).toNat)
                case atStart => exact ⟨t, 0, by omega, rfl, rfl, ht2, Lib.hid (fun h => by rcases HT2.out h with h | h | h; exact Or.inl h; exact Or.inr (Or.inl h); exact Or.inr (Or.inr (Or.inl ⟨h.1, h.2.1⟩))), Lib.hid (Below.refl _ _)⟩
                case round =>
                  obtain ⟨t, k, hk, rfl, rfl, ht3, HT3, HBD⟩ := hrel
                  have u1 : wr.cell? ⟨P1, 1, none⟩ = some (.slice y.da dl y.dcap) := (HQ19.out.below HBD.out).cell rfl
                  by_cases hkl : k < dl
                  · have hkli : (k : Int) < (dl : Int) := by omega
                    have u3 : wr.cell? ⟨P2, 1, none⟩ = some (.slice z.da dl z.dcap) := (HQ29.out.below HBD.out).cell rfl
                    obtain ⟨a, ha, _⟩ := getq HDL.out hkl
                    obtain ⟨b, hb, _⟩ := getq HZD.out hkl
                    obtain ⟨b4, o4, he4, _, c4⟩ := us_cell (HY9.out.d.below (Nat.le_refl _) HBD.out) ha
                    obtain ⟨b5, o5, he5, _, c5⟩ := us_cell (HZ9.out.d.below (Nat.le_refl _) HBD.out) hb
                    rw [he4] at u1
                    rw [he5] at u3
                    have HAB2 := Lib.hid (And.intro ha hb)
                    clear ha hb he4 he5
                    by_cases hq : a = b
                    · subst hq
                      go_wp2_with fail
                      go_quiet ((fail))
                      have HBq := Lib.hid (Below.drewN HBD.out nq)
                      clear c4 c5 u1 u3
                      dsimp only [Exit.then]
                      go_wp2_with fail
                      go_roundw
                      case rel => (first | exact ⟨t, k + 1, by omega, rfl, by go_num, ht3, Lib.hid (fun h => by rcases HT3.out h with h | h | h | h; exact Or.inl h; exact Or.inr (Or.inl h); exact Or.inr (Or.inr (Or.inl h)); exact Or.inr (Or.inr (Or.inr (by omega)))), HBq⟩ | ((repeat apply Exists.intro); exact ⟨⟨t, k + 1, by omega, rfl, by go_num, ht3, Lib.hid (fun h => by rcases HT3.out h with h | h | h | h; exact Or.inl h; exact Or.inr (Or.inl h); exact Or.inr (Or.inr (Or.inl h)); exact Or.inr (Or.inr (Or.inr (by omega)))), HBq⟩, rfl⟩))
                      case measure => simp [intOf]; omega
                    · have hqb : ((a : Int) != (b : Int)) = true := by simp; omega
                      obtain ⟨w1', w2', w3'⟩ := HNK.out.2.2.2 k (by show y.data[k]? ≠ z.data[k]?; rw [HAB2.out.1, HAB2.out.2]; simpa using hq)
                      rw [HGS.out] at w2'
                      obtain ⟨hTm, hTg⟩ := HTM.out (Or.inr w1')
                      obtain rfl : t = 0 := by
                        rcases Nat.lt_or_ge t 1 with h | h
                        · omega
                        · have := HT3.out (by omega); omega
                      have n5 : (A.kind != 5) = false := by simpa using w1'
                      have ng' : ((i : Int) != gs) = false := by simpa using w2'
                      have nk : ((k : Int) != A.i) = false := by simpa using w3'
                      have hTi : (T : Int) < (m1 : Int) := by omega
                      have HWW2 := Lib.hid (And.intro w1' (And.intro w2' w3'))
                      have HTG := Lib.hid hTg
                      clear w1' w2' w3' hTg hq
                      go_wp2_with fail
                      go_quiet ((fail))
                      have hd9 : Below wr.heap.size wr (wr.drewN nq) := Below.drewN (Below.refl _ wr) nq
                      have hbq := bt (bt HB9.out HBD.out) hd9
                      have HCq := Lib.hid (HC7.out.below hbq)
                      have HGq := Lib.hid (HG7.out.below hbq)
                      obtain ⟨b6, o6, he6, _, c6⟩ := in_cells (HGR7.out.below (Nat.le_refl _) hbq) HTG.out
                      simp only [Option.some.injEq, Addr.mk.injEq, and_true] at he6
                      obtain ⟨rfl, rfl⟩ := he6
                      have HBq := Lib.hid (bt HBD.out hd9)
                      clear c4 c5 u1 u3 hd9 hbq
                      dsimp only [Exit.then]
                      generalize wr.drewN nq = Wq at HCq HGq HBq c6 ⊢
                      have a0 : Wq.cell? ⟨GA, 0, none⟩ = some (.int .i64 A.kind) := HCq.out.cell rfl
                      have a2 : Wq.cell? ⟨GA, 2, none⟩ = some (.int .i64 (T : Int)) := HCq.out.cell rfl
                      have a3 : Wq.cell? ⟨GA, 3, none⟩ = some (.int .i64 A.i) := HCq.out.cell rfl
                      have g1 : Wq.cell? ⟨G, 1, none⟩ = some (.slice (some ⟨bg, og, none⟩) m1 rq) := HGq.out.cell rfl
                      go_wp2_with fail
                      go_roundw
                      case rel => (first | exact ⟨1, k + 1, by omega, by go_num, by go_num, by omega, Lib.hid (fun _ => Or.inr (Or.inr (Or.inr (by have := HWW2.out; omega)))), HBq⟩ | ((repeat apply Exists.intro); exact ⟨⟨1, k + 1, by omega, by go_num, by go_num, by omega, Lib.hid (fun _ => Or.inr (Or.inr (Or.inr (by have := HWW2.out; omega)))), HBq⟩, rfl⟩))
                      case measure => simp [intOf]; omega
                  · have hkx : decide (k < dl) = false := by simp; omega
                    have HBE := Lib.hid (bt HB9.out HBD.out)
                    go_wp2_with fail
                    go_roundw
                    case rel => (first | exact ⟨t, i + 1, by omega, rfl, by go_num, ht3, Lib.hid (fun h => by rcases HT3.out h with h | h | h | h; exact Or.inl h; exact Or.inr (by omega); exact Or.inr (by omega); exact Or.inr (by omega)), HBE⟩ | ((repeat apply Exists.intro); exact ⟨⟨t, i + 1, by omega, rfl, by go_num, ht3, Lib.hid (fun h => by rcases HT3.out h with h | h | h | h; exact Or.inl h; exact Or.inr (by omega); exact Or.inr (by omega); exact Or.inr (by omega)), HBE⟩, rfl⟩))
                    case measure => simp [intOf]; omega
          · have hexit : decide (i < n) = false := by simp; omega
            have hwg := gwords_le g
            obtain ⟨wg, hwgE⟩ : ∃ wg, gwords g = wg := ⟨_, rfl⟩
            have hwx := HWO.out
            rw [hwgE] at hwx hwg
            have HXBe := Lib.hid (HXB7.out.below HBR.out)
            have HXAe := Lib.hid (HXA7.out.below HBR.out)
            have HAe := Lib.hid (HA7.out.below HBR.out)
            have HGe := Lib.hid (HG7.out.below HBR.out)
            have HCe := Lib.hid (HC7.out.below HBR.out)
            have HBe := Lib.hid (bt HB7.out HBR.out)
            go_upto_region 37 with fail
            clear g0 hexit HXB7 HXA7 HA7 HG7 HC7 HB7 HBR HGR7 HN4 HN5 HX4 HX5
            generalize wr = V5 at HXBe HXAe HAe HGe HCe HBe ⊢
            have a0 : V5.cell? ⟨GA, 0, none⟩ = some (.int .i64 A.kind) := HCe.out.cell rfl
            have a4 : V5.cell? ⟨GA, 4, none⟩ = some (.int .i64 (SZ : Int)) := HCe.out.cell rfl
            have ht9 : (t : Int) ≤ 1 := by omega
            have hbx : ∀ w', (∃ x : GW V5, w' = x.w') → Blk w' GX [.slice na1 (n + d) nq1, .slice (some ⟨bx, ox, none⟩) m1 rq1] 25 := fun w' ⟨x, hx⟩ => by rw [hx]; exact HXBe.out.below x.h
            have hbg : ∀ w', (∃ x : GW V5, w' = x.w') → Blk w' G [.slice na n nq, .slice (some ⟨bg, og, none⟩) m1 rq] 25 := fun w' ⟨x, hx⟩ => by rw [hx]; exact HGe.out.below x.h
            have HWG := Lib.hid (show (gwords g : Int) = (wg : Int) by omega)
            by_cases hk1 : A.kind = 1
            · rw [if_pos hk1, HSZ.out, Int.toNat_natCast] at hwx
              have HWX := Lib.hid (show (gwords X : Int) = (wg : Int) + (1 + (SZ : Int)) by omega)
              have n1' : (A.kind == 1) = true := by simpa using hk1
              have v1 : IntKind.i64.wrap (1 + (SZ : Int)) = 1 + (SZ : Int) := IntWalk.i64_in _ (by omega)
              have v2 : IntKind.i64.wrap ((wg : Int) + (1 + (SZ : Int))) = (wg : Int) + (1 + (SZ : Int)) := IntWalk.i64_in _ (by omega)
              have HWW := Lib.hid (show ∀ (y : GW V5) (na' : Option Addr) (n' nq' : Nat) (ra' : Option Addr) (m' rq' : Nat) (W : Int), ((na' = na1 ∧ n' = n + d ∧ nq' = nq1 ∧ ra' = some ⟨bx, ox, none⟩ ∧ m' = m1 ∧ rq' = rq1 ∧ W = (wg : Int) + (1 + (SZ : Int))) ∨ (na' = na ∧ n' = n ∧ nq' = nq ∧ ra' = some ⟨bg, og, none⟩ ∧ m' = m1 ∧ rq' = rq ∧ W = (wg : Int))) →
                  Calls Try.prog 13 #[.agg #[.slice na' n' nq', .slice ra' m' rq']] y.w' fun e w' => e = .returned (.int .i64 W) ∧ Below y.w'.heap.size y.w' w' from by
                rintro y na' n' nq' ra' m' rq' W (⟨rfl, rfl, rfl, rfl, rfl, rfl, rfl⟩ | ⟨rfl, rfl, rfl, rfl, rfl, rfl, rfl⟩)
                · exact C.words (HXAe.out.below (GW.h _)) hxs _ HWX.out
                · exact C.words (HAe.out.below (GW.h _)) hgs _ HWG.out)
              clear hk1 hwx hwg hwgE
              go_wp2_with fail
              clear a0 a4
              refine wp_region_grow (by kernel_rfl) (by kernel_rfl) ?_
              try simp only [List.append_eq, List.cons_append, List.nil_append]
              repeat (first
                | (refine wpQ_load_any (by rfl) 25 (.tmp 13) rfl GX rfl [.slice na1 (n + d) nq1, .slice (some ⟨bx, ox, none⟩) m1 rq1] _ _ hbx Try.underlying25 rfl (by kernel_rfl) ?_; simp [Act.put])
                | (refine wpQ_load_any (by rfl) 25 (.tmp 10) rfl G rfl [.slice na n nq, .slice (some ⟨bg, og, none⟩) m1 rq] _ _ hbg Try.underlying25 rfl (by kernel_rfl) ?_; simp [Act.put])
                | go_big_quiet_step ((go_at_call 13; exact grow_call (HWW.out _ _ _ _ _ _ _ _ (by first | exact Or.inl ⟨rfl, rfl, rfl, rfl, rfl, rfl, rfl⟩ | exact Or.inr ⟨rfl, rfl, rfl, rfl, rfl, rfl, rfl⟩)))))
              refine wpQuiet_nil ?_
              first | rintro _ ⟨w5, rfl⟩ | intro w5
              go_wp2_with fail
              go_ret
              exact ⟨rfl, bt HBe.out w5.h⟩
            · rw [if_neg hk1] at hwx
              have HWX := Lib.hid (show (gwords X : Int) = (wg : Int) by omega)
              have n1' : (A.kind == 1) = false := by simpa using hk1
              have v2 : IntKind.i64.wrap (wg : Int) = (wg : Int) := IntWalk.i64_in _ (by omega)
              have v3 : IntKind.i64.wrap ((wg : Int) + 0) = (wg : Int) := by rw [Int.add_zero]; exact v2
              have HWW := Lib.hid (show ∀ (y : GW V5) (na' : Option Addr) (n' nq' : Nat) (ra' : Option Addr) (m' rq' : Nat) (W : Int), ((na' = na1 ∧ n' = n + d ∧ nq' = nq1 ∧ ra' = some ⟨bx, ox, none⟩ ∧ m' = m1 ∧ rq' = rq1 ∧ W = (wg : Int)) ∨ (na' = na ∧ n' = n ∧ nq' = nq ∧ ra' = some ⟨bg, og, none⟩ ∧ m' = m1 ∧ rq' = rq ∧ W = (wg : Int))) →
                  Calls Try.prog 13 #[.agg #[.slice na' n' nq', .slice ra' m' rq']] y.w' fun e w' => e = .returned (.int .i64 W) ∧ Below y.w'.heap.size y.w' w' from by
                rintro y na' n' nq' ra' m' rq' W (⟨rfl, rfl, rfl, rfl, rfl, rfl, rfl⟩ | ⟨rfl, rfl, rfl, rfl, rfl, rfl, rfl⟩)
                · exact C.words (HXAe.out.below (GW.h _)) hxs _ HWX.out
                · exact C.words (HAe.out.below (GW.h _)) hgs _ HWG.out)
              clear hk1 hwx hwg hwgE
              go_wp2_with fail
              clear a0 a4
              refine wp_region_grow (by kernel_rfl) (by kernel_rfl) ?_
              try simp only [List.append_eq, List.cons_append, List.nil_append]
              repeat (first
                | (refine wpQ_load_any (by rfl) 25 (.tmp 13) rfl GX rfl [.slice na1 (n + d) nq1, .slice (some ⟨bx, ox, none⟩) m1 rq1] _ _ hbx Try.underlying25 rfl (by kernel_rfl) ?_; simp [Act.put])
                | (refine wpQ_load_any (by rfl) 25 (.tmp 10) rfl G rfl [.slice na n nq, .slice (some ⟨bg, og, none⟩) m1 rq] _ _ hbg Try.underlying25 rfl (by kernel_rfl) ?_; simp [Act.put])
                | go_big_quiet_step ((go_at_call 13; exact grow_call (HWW.out _ _ _ _ _ _ _ _ (by first | exact Or.inl ⟨rfl, rfl, rfl, rfl, rfl, rfl, rfl⟩ | exact Or.inr ⟨rfl, rfl, rfl, rfl, rfl, rfl, rfl⟩)))))
              refine wpQuiet_nil ?_
              first | rintro _ ⟨w5, rfl⟩ | intro w5
              go_wp2_with fail
              go_ret
              exact ⟨rfl, bt HBe.out w5.h⟩
  · have HER := Lib.hid (gdo_err g A)
    have hdo := HDO.out
    have hER : (E = 1 ∨ E = 6) ∧ X = ⟨[], []⟩ := by
      have h := HER.out
      rw [hdo] at h
      rcases h with h | ⟨h, h2, _⟩
      · exact absurd h hE
      · exact ⟨h, h2⟩
    obtain ⟨hE1, rfl⟩ := hER
    obtain ⟨hx0, hx1, _⟩ := HXA.out.parts
    have e0 : n1 = 0 := by simpa using hx0.symm
    have e1 : m1 = 0 := by simpa using hx1.symm
    subst e0 e1
    have x0 : V4.cell? ⟨GX, 0, none⟩ = some (.slice na1 0 nq1) := HXB.out.cell rfl
    have x1 : V4.cell? ⟨GX, 1, none⟩ = some (.slice ra1 0 rq1) := HXB.out.cell rfl
    clear hdo HDO hx0 hx1 HER hE
    rcases hE1 with rfl | rfl
    all_goals (
      go_wp2_with fail
      go_ret
      exact ⟨rfl, HB4.out⟩)
end Go.Proofs.Ytjoacfjbdpmgpaa.V
