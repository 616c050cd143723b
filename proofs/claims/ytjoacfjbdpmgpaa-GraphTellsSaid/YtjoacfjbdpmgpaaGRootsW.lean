/-
  GraphRoots, walked under what is asked of the program's functions.
-/
import Derived.Test.YtjoacfjbdpmgpaaGAwake
set_option linter.unusedVariables false
namespace Go.Proofs.Ytjoacfjbdpmgpaa.V
open Go.RowKit

/-- What the laws know of the graph of their raw numbers. -/
theorem gof_pick (raws : List Nd) (roots : List Int) (g : Gr) (hg : gof raws roots = g) (r : Int) (m : Nat) (hm : g.roots.length = m) : gright g ∧ gsm g ∧ 1 ≤ m ∧ m ≤ 5 ∧ ∃ a : Nat, pk r (m : Int) = (a : Int) ∧ a < m ∧ groot g (a : Int) := by
  subst hg
  obtain ⟨h1, h2, h3, h4, h5⟩ := gof_right raws roots
  obtain ⟨a, ha, hb⟩ := pkN r (m : Int) (by omega)
  exact ⟨h1, gsm_right h1 (by omega), by omega, by omega, a, ha, by omega, by unfold groot; omega⟩

theorem gat_apart (V : World) (o : Obj) : ∀ b : Nat, (b < V.heap.size ∨ (World.drew (World.alloc V o)).heap.size ≤ b) → b ≠ V.heap.size := fun b hb => by
  rcases hb with hb | hb
  · omega
  · have : V.heap.size + 1 ≤ b := by have h2 : (World.drew (World.alloc V o)).heap.size = V.heap.size + 1 := World.size_alloc V o; omega
    omega
/-- Set leaves the roots as they are. -/
theorem set_roots {g x : Gr} {a k : Int} {v w : Nat} (hg : gright g) (hd : gdo g ⟨5, 0, a, k, 0, 0, v⟩ = (w, x, 0)) : x.roots = g.roots ∧ x.nodes.length = g.nodes.length := by
  obtain ⟨_, h2, h3, _⟩ := gdo_keeps hg hd
  refine ⟨List.ext_getElem? fun i => ?_, by simpa using h2⟩
  by_cases h : x.roots[i]? = g.roots[i]?
  · exact h
  · exact absurd rfl (h3 i h).2.2.2

set_option maxRecDepth 100000 in
set_option maxHeartbeats 4000000 in
theorem graphRoots_try (C : GrC) (lo ro : Option Addr) (ln lc rn rc : Nat) (raws : List NdV) (roots : List Int) (r s i : Int) (v : Nat) (w : World) (hln : raws.length = ln) (hrn : roots.length = rn) (hlm : ln ≤ lc) (hlc : lc ≤ 9223372036854775807) (hrm : rn ≤ rc) (hrc : rc ≤ 9223372036854775807)
    (hL : Rw nc 2 w lo raws) (hK : ∀ x ∈ raws, x.ok w) (hR : Rw ic 1 w ro roots) (hRb : ∀ p ∈ roots, ib p) (s1 : ib r) (s2 : ib s) (s3 : ib i) (hv : v < 2 ^ 64) :
    Calls Try.prog 6 #[.slice lo ln lc, .slice ro rn rc, .int .i64 r, .int .i64 s, .int .i64 i, .int .u64 (v : Int)] w fun e w' => e = .returned (.bool true) ∧ Below w.heap.size w w' := by
  go_enter Try.func6, Try.ntmps6
  go_wp2_with fail
  refine (awake08 C _).mono ?_
  rintro e w1 ⟨rfl, hb1⟩
  have HL1 := Lib.hid (hL.below (Nat.le_refl _) hb1)
  have HK1 := Lib.hid (fun x hx => (hK x hx).below (Nat.le_refl _) hb1)
  have HR1 := Lib.hid (hR.below (Nat.le_refl _) hb1)
  have HB1 := Lib.hid hb1
  clear hL hK hR hb1
  go_wp2_with fail
  refine (gGraph lo ro ln lc rn rc raws roots _ hln hrn hlm hlc hrm hrc HL1.out HK1.out HR1.out hRb).mono ?_
  rintro e w2 ⟨na, n, nq, ra, m, rq, rfl, hA, hb2⟩
  generalize hg : gof (raws.map NdV.nd) roots = g at hA
  have hmg : g.roots.length = m := hA.parts.2.1
  obtain ⟨hgr, hgs, hm1, hm5, a, hpa, ham, hga⟩ := gof_pick _ _ _ hg r m hmg
  obtain ⟨_, _, _, _, b, hpb, hbm, hgb⟩ := gof_pick _ _ _ hg s m hmg
  have HM := Lib.hid hmg
  have HA2 := Lib.hid (hA.below (ba0 w2 (.cells #[.slice na n nq, .slice ra m rq] 25)))
  have HG2 := Lib.hid (Blk.new w2 [.slice na n nq, .slice ra m rq] 25)
  have HB2 := Lib.hid (ba (bt HB1.out hb2) (.cells #[.slice na n nq, .slice ra m rq] 25))
  have HPA := Lib.hid hpa
  have HPB := Lib.hid hpb
  clear hA hb2 HL1 HK1 HR1 HB1 hg hmg hpa hpb hln hrn hlm hlc hrm hrc hRb
  go_upto_region 3 with fail
  generalize w2.alloc (.cells #[.slice na n nq, .slice ra m rq] 25) = V2 at HA2 HG2 HB2 ⊢
  generalize w2.heap.size = G at HG2 ⊢
  have c0 : V2.cell? ⟨G, 0, none⟩ = some (.slice na n nq) := HG2.out.cell rfl
  have c1 : V2.cell? ⟨G, 1, none⟩ = some (.slice ra m rq) := HG2.out.cell rfl
  go_wp2_with fail
  refine (pick08_int r (m : Int) (a : Int) _ s1.1 s1.2 (by omega) (by omega) HPA.out).mono ?_
  rintro e w3 ⟨rfl, rfl⟩
  go_wp2_with fail
  refine (pick08_int s (m : Int) (b : Int) _ s2.1 s2.2 (by omega) (by omega) HPB.out).mono ?_
  rintro e w3 ⟨rfl, rfl⟩
  go_wp2_with fail
  refine (C.act HA2.out hgs 6 (a : Int) (b : Int) 0 0 0 0 0 (ibL (by omega)) (ibL (by omega)) (ibL (by omega)) (ibL (by omega)) (ibL (by omega)) (ibL (by omega)) (by decide) rfl 0 0 (grooted g a (gat g b)) 0 (gdo_assign hgr rfl hga hgb) rfl).mono ?_
  rintro e W3 ⟨na1, n1, nq1, ra1, m1, rq1, rfl, hX, hb⟩
  have HX3 := Lib.hid (hX.below (ba0 W3 (.cells #[.slice na1 n1 nq1, .slice ra1 m1 rq1] 25)))
  have HXB := Lib.hid (Blk.new W3 [.slice na1 n1 nq1, .slice ra1 m1 rq1] 25)
  have HA3 := Lib.hid (HA2.out.below (ba hb (.cells #[.slice na1 n1 nq1, .slice ra1 m1 rq1] 25)))
  have HG3 := Lib.hid (HG2.out.below (ba hb (.cells #[.slice na1 n1 nq1, .slice ra1 m1 rq1] 25)))
  have HB3 := Lib.hid (bt HB2.out (ba hb (.cells #[.slice na1 n1 nq1, .slice ra1 m1 rq1] 25)))
  clear hX hb c0 c1 HA2 HG2 HB2 HPA HPB
  go_upto_region 6 with fail
  generalize W3.alloc (.cells #[.slice na1 n1 nq1, .slice ra1 m1 rq1] 25) = V3 at HX3 HXB HA3 HG3 HB3 ⊢
  generalize W3.heap.size = GX at HXB ⊢
  have c0 : V3.cell? ⟨G, 0, none⟩ = some (.slice na n nq) := HG3.out.cell rfl
  have c1 : V3.cell? ⟨G, 1, none⟩ = some (.slice ra m rq) := HG3.out.cell rfl
  go_wp2_with fail
  refine (C.act HA3.out hgs 7 (a : Int) 0 0 0 0 0 0 (ibL (by omega)) (ibL (by omega)) (ibL (by omega)) (ibL (by omega)) (ibL (by omega)) (ibL (by omega)) (by decide) rfl 0 0 (grooted g a (-1)) 0 (gdo_drop hgr rfl hga) rfl).mono ?_
  rintro e W4 ⟨na2, n2, nq2, ra2, m2, rq2, rfl, hY, hb⟩
  have HY4 := Lib.hid (hY.below (ba0 W4 (.cells #[.slice na2 n2 nq2, .slice ra2 m2 rq2] 25)))
  have HYB := Lib.hid (Blk.new W4 [.slice na2 n2 nq2, .slice ra2 m2 rq2] 25)
  have HX4 := Lib.hid (HX3.out.below (ba hb (.cells #[.slice na2 n2 nq2, .slice ra2 m2 rq2] 25)))
  have HXC := Lib.hid (HXB.out.below (ba hb (.cells #[.slice na2 n2 nq2, .slice ra2 m2 rq2] 25)))
  have HA4 := Lib.hid (HA3.out.below (ba hb (.cells #[.slice na2 n2 nq2, .slice ra2 m2 rq2] 25)))
  have HG4 := Lib.hid (HG3.out.below (ba hb (.cells #[.slice na2 n2 nq2, .slice ra2 m2 rq2] 25)))
  have HB4 := Lib.hid (bt HB3.out (ba hb (.cells #[.slice na2 n2 nq2, .slice ra2 m2 rq2] 25)))
  clear hY hb c0 c1 HA3 HG3 HB3 HX3 HXB
  go_upto_region 7 with fail
  generalize W4.alloc (.cells #[.slice na2 n2 nq2, .slice ra2 m2 rq2] 25) = V4 at HY4 HYB HX4 HXC HA4 HG4 HB4 ⊢
  generalize W4.heap.size = GY at HYB ⊢
  obtain ⟨xl0, xl1, xr, _, xm, _, xq, _, xn, _⟩ := HX4.out.parts
  obtain ⟨yl0, yl1, yr, _, ym, _, yq, _, yn, _⟩ := HY4.out.parts
  obtain ⟨gl0, gl1, gr, _, gm, _, gq, _, gn, _⟩ := HA4.out.parts
  have e1 : m1 = m := by rw [← xl1]; simp only [grooted, List.length_set]; exact gl1
  have e2 : m2 = m := by rw [← yl1]; simp only [grooted, List.length_set]; exact gl1
  subst e1 e2
  obtain ⟨bx, ox, rfl, hbx, cx⟩ := in_cells xr (k := a) (o := gat g b) (by simp only [grooted, Int.toNat_natCast]; rw [List.getElem?_set_self (by omega)])
  obtain ⟨by', oy, rfl, hby, cy⟩ := in_cells yr (k := a) (o := -1) (by simp only [grooted, Int.toNat_natCast]; rw [List.getElem?_set_self (by omega)])
  obtain ⟨bg, og, rfl, hbg, cg⟩ := in_cells gr (k := b) (o := gat g b) (by unfold gat; simp only [Int.toNat_natCast]; rw [List.getD_eq_getElem?_getD, List.getElem?_eq_getElem (by omega)]; rfl)
  have c1 : V4.cell? ⟨G, 1, none⟩ = some (.slice (some ⟨bg, og, none⟩) m2 rq) := HG4.out.cell rfl
  have c2 : V4.cell? ⟨GX, 1, none⟩ = some (.slice (some ⟨bx, ox, none⟩) m2 rq1) := HXC.out.cell rfl
  have c3 : V4.cell? ⟨GY, 1, none⟩ = some (.slice (some ⟨by', oy, none⟩) m2 rq2) := HYB.out.cell rfl
  clear xl0 xl1 xr xm xq xn yl0 yl1 yr ym yq yn gl0 gl1 gr gm gq gn hbx hby hbg
  go_quiet ((fail))
  clear cx cy cg c1 c2 c3
  have hd9 : Below V4.heap.size V4 (V4.drewN nq) := Below.drewN (Below.refl _ V4) nq
  have HY5 := Lib.hid (HY4.out.below hd9)
  have HYC := Lib.hid (HYB.out.below hd9)
  have HX5 := Lib.hid (HX4.out.below hd9)
  have HXD := Lib.hid (HXC.out.below hd9)
  have HB5 := Lib.hid (bt HB4.out hd9)
  clear HY4 HYB HX4 HXC HB4 HA4 HG4 hd9
  dsimp only [Exit.then]
  generalize V4.drewN nq = V5 at HY5 HYC HX5 HXD HB5 ⊢
  have hmm := HM.out
  have hxr : gright (grooted g a (gat g b)) := grooted_right hgr _ (gat_in hgr hgb)
  have hyr : gright (grooted g a (-1)) := grooted_right hgr _ (by unfold gin; omega)
  have hxs : gsm (grooted g a (gat g b)) := gsm_right hxr hgs.1
  have hys : gsm (grooted g a (-1)) := gsm_right hyr hgs.1
  have HNO : ∀ k : Nat, 2 ≤ k → k ≤ 5 → ∀ c : Int, gdo (grooted g a (-1)) ⟨(k : Int), (b : Int), (a : Int), c, 0, 0, v⟩ = (0, ⟨[], []⟩, 6) := fun k h2 h5 c =>
    none_slot hyr (by simp only; omega) (groot_rooted hgb) (groot_rooted hga) (by simp only; rw [gat_rooted hga]; omega)
  obtain ⟨c9, hc9, hc9b⟩ := pkN i 9 (by omega)
  have HC9 := Lib.hid hc9
  clear hc9
  go_wp2_with fail
  go_loopw [23] (fun kv wr => ∃ k : Nat, 2 ≤ k ∧ k ≤ 6 ∧ kv = .int .i64 k ∧ Hid (Below V5.heap.size V5 wr)) (fun kv _ => 6 - (intOf kv).toNat)
  case atStart => exact ⟨2, by omega, by omega, rfl, Lib.hid (Below.refl _ _)⟩
  case round =>
    obtain ⟨k, hk2, hk6, rfl, HBR⟩ := hrel
    by_cases hk5 : k ≤ 5
    · have hki : (k : Int) ≤ 5 := by omega
      have HYR := Lib.hid (HYC.out.below HBR.out)
      have HYG := Lib.hid (HY5.out.below HBR.out)
      have hkeep : Hid (∀ w', Below wr.heap.size wr w' → w'.cell? ⟨GY, 0, none⟩ = some (.slice na2 n2 nq2) ∧ w'.cell? ⟨GY, 1, none⟩ = some (.slice (some ⟨by', oy, none⟩) m2 rq2)) := Lib.hid fun w' h => ⟨(HYR.out.below h).cell rfl, (HYR.out.below h).cell rfl⟩
      have hw4 : IntKind.i64.wrap ((c9 : Int) - 4) = (c9 : Int) - 4 := IntWalk.i64_in _ (by omega)
      go_upto_region 12 with fail
      go_region_held3 (fun w' => w'.cell? ⟨GY, 0, none⟩ = some (.slice na2 n2 nq2) ∧ w'.cell? ⟨GY, 1, none⟩ = some (.slice (some ⟨by', oy, none⟩) m2 rq2)) (exact hkeep.out _ (by first | exact (Below.refl _ wr).drew | exact Below.refl _ wr | exact ba (Below.refl _ wr).drew _ | exact ba0 wr _ | exact bt (Below.refl _ wr).drew hb9 | exact bt (ba0 wr _).drew hb9 | exact ba (bt (Below.refl _ wr).drew hb9) _ | exact ((bt (ba0 wr _).drew hb9).setCell (Nat.le_refl _) _).setCell (Nat.le_refl _) _)) ((first
        | (go_at_call 16; refine (pick08_int i 9 (c9 : Int) _ s3.1 s3.2 (by omega) (by omega) HC9.out).mono ?_; rintro e w9 ⟨rfl, rfl⟩)
        | (go_at_call 17; refine (C.act (w := World.drew (World.alloc wr _)) (HYG.out.below (ba0 wr _).drew) hys (k : Int) (b : Int) (a : Int) ((c9 : Int) - 4) 0 0 v v (ibL (by omega)) (ibL (by omega)) (ibL (by omega)) (ibL (by omega)) (ibL (by omega)) (ibL (by omega)) hv rfl 0 0 ⟨[], []⟩ 6 (HNO k hk2 hk5 _) rfl).mono ?_; rintro e w9 ⟨na9, n9, nq9, ra9, m9, rq9, rfl, hX9, hb9⟩; obtain ⟨q0, q1, f0, f1⟩ := blk_two (blk_old [.slice none 0 0, .slice none 0 0] 25 hb9))
        | (go_at_call 17; refine (C.act (w := World.drew wr) (HYG.out.below (Below.refl _ wr).drew) hys (k : Int) (b : Int) (a : Int) ((c9 : Int) - 4) 0 0 v v (ibL (by omega)) (ibL (by omega)) (ibL (by omega)) (ibL (by omega)) (ibL (by omega)) (ibL (by omega)) hv rfl 0 0 ⟨[], []⟩ 6 (HNO k hk2 hk5 _) rfl).mono ?_; rintro e w9 ⟨na9, n9, nq9, ra9, m9, rq9, rfl, hX9, hb9⟩)))
      all_goals (
        have HBN : Hid (Below wr.heap.size wr _) := Lib.hid (by first | exact ba (bt (Below.refl _ wr).drew hb9) (.cells #[.slice na9 n9 nq9, .slice ra9 m9 rq9] 25) | exact ((bt (ba0 wr _).drew hb9).setCell (p := ⟨wr.heap.size, 0, none⟩) (Nat.le_refl _) (.slice na9 n9 nq9)).setCell (p := ⟨wr.heap.size, 1, none⟩) (Nat.le_refl _) (.slice ra9 m9 rq9))
        clear hb9 hX9
        dsimp only [Exit.then]
        go_wp2_with fail
        go_roundw
        case rel => exact ⟨k + 1, by omega, by omega, by go_num, Lib.hid (bt HBR.out HBN.out)⟩
        case measure => simp [intOf]; omega)
    · have hki : ¬ (k : Int) ≤ 5 := by omega
      clear HC9 hc9b HNO HYC HY5 hyr hys
      have HX6 := Lib.hid (HX5.out.below HBR.out)
      have HXE := Lib.hid (HXD.out.below HBR.out)
      have HB6 := Lib.hid (bt HB5.out HBR.out)
      clear HX5 HXD HB5 HBR
      generalize wr = V6 at HX6 HXE HB6 ⊢
      go_upto_region 15 with fail
      obtain ⟨c4, hc4, hc4b⟩ := pkN i 4 (by omega)
      have HC4 := Lib.hid hc4
      obtain ⟨U, Z, E, hd⟩ : ∃ U Z E, gdo (grooted g a (gat g b)) ⟨5, 0, (a : Int), (c4 : Int), 0, 0, v⟩ = (U, Z, E) := ⟨_, _, _, rfl⟩
      have HD := Lib.hid hd
      clear hd hc4
      have hkeep : Hid (∀ w', Below V6.heap.size V6 w' → w'.cell? ⟨GX, 0, none⟩ = some (.slice na1 n1 nq1) ∧ w'.cell? ⟨GX, 1, none⟩ = some (.slice (some ⟨bx, ox, none⟩) m2 rq1)) := Lib.hid fun w' h => ⟨(HXE.out.below h).cell rfl, (HXE.out.below h).cell rfl⟩
      go_cut [27, 28, 29] from 129 (fun u p e wx => ∃ Gz : Nat, ∃ na9 : Option Addr, ∃ n9 nq9 : Nat, ∃ ra9 : Option Addr, ∃ m9 rq9 : Nat, u = .int .u64 (U : Int) ∧ p = .pointer (some ⟨Gz, 0, none⟩) ∧ e = .int .i64 E ∧ Hid (Blk wx Gz [.slice na9 n9 nq9, .slice ra9 m9 rq9] 25) ∧ Hid (GAt (fun _ => True) wx na9 n9 nq9 ra9 m9 rq9 Z) ∧ Hid (Below V6.heap.size V6 wx))
      case first =>
        go_region_held3 (fun w' => w'.cell? ⟨GX, 0, none⟩ = some (.slice na1 n1 nq1) ∧ w'.cell? ⟨GX, 1, none⟩ = some (.slice (some ⟨bx, ox, none⟩) m2 rq1)) (exact hkeep.out _ (by first | exact (Below.refl _ V6).drew | exact Below.refl _ V6 | exact ba (Below.refl _ V6).drew _ | exact ba0 V6 _ | exact bt (Below.refl _ V6).drew hb9 | exact bt (ba0 V6 _).drew hb9 | exact ba (bt (Below.refl _ V6).drew hb9) _ | exact ((bt (ba0 V6 _).drew hb9).setCell (Nat.le_refl _) _).setCell (Nat.le_refl _) _)) ((first
          | (go_at_call 16; refine (pick08_int i 4 (c4 : Int) _ s3.1 s3.2 (by omega) (by omega) HC4.out).mono ?_; rintro e w9 ⟨rfl, rfl⟩)
          | (go_at_call 17; refine (C.act (w := World.drew (World.alloc V6 _)) (HX6.out.lt.below (ba0 V6 _).drew) hxs 5 0 (a : Int) (c4 : Int) 0 0 v v (ibL (by omega)) (ibL (by omega)) (ibL (by omega)) (ibL (by omega)) (ibL (by omega)) (ibL (by omega)) hv rfl U (U : Int) Z E HD.out rfl).mono ?_; rintro e w9 ⟨na9, n9, nq9, ra9, m9, rq9, rfl, hX9, hb9⟩; obtain ⟨q0, q1, f0, f1⟩ := blk_two (blk_old [.slice none 0 0, .slice none 0 0] 25 hb9))
          | (go_at_call 17; refine (C.act (w := World.drew V6) (HX6.out.lt.below (Below.refl _ V6).drew) hxs 5 0 (a : Int) (c4 : Int) 0 0 v v (ibL (by omega)) (ibL (by omega)) (ibL (by omega)) (ibL (by omega)) (ibL (by omega)) (ibL (by omega)) hv rfl U (U : Int) Z E HD.out rfl).mono ?_; rintro e w9 ⟨na9, n9, nq9, ra9, m9, rq9, rfl, hX9, hb9⟩)))
        all_goals (
          dsimp only [Exit.then]
          go_wp2_with fail
          go_meet
          first
            | exact ⟨_, na9, n9, nq9, ra9, m9, rq9, rfl, rfl, rfl, Lib.hid (Blk.new w9 [.slice na9 n9 nq9, .slice ra9 m9 rq9] _), Lib.hid ((hX9.imp (fun _ _ => trivial)).below (ba0 w9 _)), Lib.hid (ba (bt (Below.refl _ V6).drew hb9) _)⟩
            | exact ⟨_, na9, n9, nq9, ra9, m9, rq9, rfl, rfl, rfl, Lib.hid (blk_set (blk_set (blk_old [.slice none 0 0, .slice none 0 0] 25 hb9) 0 _) 1 _), Lib.hid ((hX9.but (Z := V6.heap.size) (gat_apart V6 _) (((But.refl _ w9).set 0 _).set 1 _)).imp (fun _ _ => trivial)), Lib.hid (((bt (ba0 V6 _).drew hb9).setCell (Nat.le_refl _) _).setCell (Nat.le_refl _) _)⟩)
      case rest =>
        obtain ⟨Gz, na9, n9, nq9, ra9, m9, rq9, rfl, rfl, rfl, HZB, HZ, HBZ⟩ := hcut
        have HB7 := Lib.hid (bt HB6.out HBZ.out)
        by_cases hE : E = 0
        · subst hE
          obtain ⟨hzl, hzn⟩ := set_roots hxr HD.out
          have hz1 := set_has hxr (groot_rooted hga) HD.out
          have hzr := gdo_right HD.out
          have hzb : groot Z (b : Int) := by unfold groot at *; rw [hzl]; simpa [grooted] using hgb
          have hze : gat Z (b : Int) = gat Z (a : Int) := by
            have h1 := gat_assign hga hgb
            unfold gat at *
            rw [hzl, h1.1, h1.2]
          have HZD := Lib.hid (has_get (has_same hz1 hzb hze))
          have hzs : gsm Z := gsm_right hzr (by rw [hzn]; exact hxs.1)
          clear hzl hzn hz1 hze hzb hzr
          go_upto_region 18 with fail
          have hkeep : Hid (∀ w', Below wc.heap.size wc w' → w'.cell? ⟨Gz, 0, none⟩ = some (.slice na9 n9 nq9) ∧ w'.cell? ⟨Gz, 1, none⟩ = some (.slice ra9 m9 rq9)) := Lib.hid fun w' h => ⟨(HZB.out.below h).cell rfl, (HZB.out.below h).cell rfl⟩
          go_region_held3 (fun w' => w'.cell? ⟨Gz, 0, none⟩ = some (.slice na9 n9 nq9) ∧ w'.cell? ⟨Gz, 1, none⟩ = some (.slice ra9 m9 rq9)) (exact hkeep.out _ (by first | exact (Below.refl _ wc).drew | exact Below.refl _ wc | exact ba (Below.refl _ wc).drew _ | exact ba0 wc _ | exact bt (Below.refl _ wc).drew hb9 | exact bt (ba0 wc _).drew hb9 | exact ba (bt (Below.refl _ wc).drew hb9) _ | exact ((bt (ba0 wc _).drew hb9).setCell (Nat.le_refl _) _).setCell (Nat.le_refl _) _)) ((first
            | (go_at_call 16; refine (pick08_int i 4 (c4 : Int) _ s3.1 s3.2 (by omega) (by omega) HC4.out).mono ?_; rintro e w9 ⟨rfl, rfl⟩)
            | (go_at_call 17; refine (C.act (w := World.drew (World.alloc wc _)) (HZ.out.below (ba0 wc _).drew) hzs 3 0 (b : Int) (c4 : Int) 0 0 0 0 (ibL (by omega)) (ibL (by omega)) (ibL (by omega)) (ibL (by omega)) (ibL (by omega)) (ibL (by omega)) (by decide) rfl v (v : Int) Z 0 HZD.out rfl).mono ?_; rintro e w9 ⟨nay, ny, nqy, ray, my, rqy, rfl, hX9, hb9⟩; obtain ⟨q0, q1, f0, f1⟩ := blk_two (blk_old [.slice none 0 0, .slice none 0 0] 25 hb9))
            | (go_at_call 17; refine (C.act (w := World.drew wc) (HZ.out.below (Below.refl _ wc).drew) hzs 3 0 (b : Int) (c4 : Int) 0 0 0 0 (ibL (by omega)) (ibL (by omega)) (ibL (by omega)) (ibL (by omega)) (ibL (by omega)) (ibL (by omega)) (by decide) rfl v (v : Int) Z 0 HZD.out rfl).mono ?_; rintro e w9 ⟨nay, ny, nqy, ray, my, rqy, rfl, hX9, hb9⟩)))
          all_goals (
            have HBN : Hid (Below wc.heap.size wc _) := Lib.hid (by first | exact ba (bt (Below.refl _ wc).drew hb9) (.cells #[.slice nay ny nqy, .slice ray my rqy] 25) | exact ((bt (ba0 wc _).drew hb9).setCell (p := ⟨wc.heap.size, 0, none⟩) (Nat.le_refl _) (.slice nay ny nqy)).setCell (p := ⟨wc.heap.size, 1, none⟩) (Nat.le_refl _) (.slice ray my rqy))
            clear hb9 hX9
            dsimp only [Exit.then]
            go_wp2_with fail
            go_ret
            exact ⟨rfl, bt HB7.out HBN.out⟩)
        · go_wp2_with fail
          go_ret
          exact ⟨rfl, HB7.out⟩
end Go.Proofs.Ytjoacfjbdpmgpaa.V
