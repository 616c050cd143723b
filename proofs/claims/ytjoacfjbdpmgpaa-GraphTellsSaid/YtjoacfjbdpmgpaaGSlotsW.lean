/-
  GraphSlots, walked under what is asked of the program's functions.
-/
import Derived.Test.YtjoacfjbdpmgpaaGRootsW
set_option linter.unusedVariables false
namespace Go.Proofs.Ytjoacfjbdpmgpaa.V
open Go.RowKit

/-- What an act leaves is right and small. -/
theorem do_small {g x : Gr} {A : Ac} {v : Nat} (hg : gright g) (hn : g.nodes.length ≤ 1000) (hd : gdo g A = (v, x, 0)) : gright x ∧ gsm x ∧ x.nodes.length ≤ g.nodes.length + 1 := by
  have h1 := gdo_right hd
  obtain ⟨_, h2, _, _⟩ := gdo_keeps hg hd
  have h3 : x.nodes.length ≤ g.nodes.length + 1 := by rw [h2]; split <;> omega
  exact ⟨h1, gsm_right h1 (by omega), h3⟩
/-- The new node of GraphSlots: its slots are empty. -/
theorem new_slots {g : Gr} {a c d e : Nat} (hg : gright g) (ha : groot g (a : Int)) (hc : c < 3) (hd : d < 4 - (1 + c)) (he : e < 1 + c) : ∃ z u, gdo g ⟨1, (a : Int), 0, 0, 4, 1 + (c : Int), 0⟩ = (0, z, 0) ∧ gdo z ⟨3, 0, (a : Int), (d : Int), 0, 0, 0⟩ = (0, z, 0) ∧
    gdo z ⟨2, (a : Int), (a : Int), (e : Int), 0, 0, 0⟩ = (0, u, 0) ∧ u.roots.length = g.roots.length ∧ u.roots[a]? = some (-1) ∧ z.nodes.length = g.nodes.length + 1 := by
  have h1 := gdo_new (a := ⟨1, (a : Int), 0, 0, 4, 1 + (c : Int), 0⟩) hg rfl ha
  rw [if_pos (by dsimp only; omega)] at h1
  dsimp only at h1
  have hr := gdo_right h1
  have hal : a < g.roots.length := by unfold groot at ha; omega
  have hga : groot ⟨g.nodes ++ [gfresh 4 (1 + (c : Int))], g.roots.set (a : Int).toNat (g.nodes.length : Int)⟩ (a : Int) := by unfold groot; simp; exact hal
  have hat : gat ⟨g.nodes ++ [gfresh 4 (1 + (c : Int))], g.roots.set (a : Int).toNat (g.nodes.length : Int)⟩ (a : Int) = (g.nodes.length : Int) := by
    unfold gat; simp [List.getD, hal]
  have hnd : gnode ⟨g.nodes ++ [gfresh 4 (1 + (c : Int))], g.roots.set (a : Int).toNat (g.nodes.length : Int)⟩ (a : Int) = gfresh 4 (1 + (c : Int)) := by
    unfold gnode; rw [hat]; simp [List.getD]
  have hp : (gfresh 4 (1 + (c : Int))).ptrs = List.replicate (1 + c) (-1) := by unfold gfresh; simp only; congr 1 <;> omega
  have hdd : (gfresh 4 (1 + (c : Int))).data = List.replicate (4 - (1 + c)) 0 := by unfold gfresh; simp only; congr 1 <;> omega
  refine ⟨_, grooted ⟨g.nodes ++ [gfresh 4 (1 + (c : Int))], g.roots.set (a : Int).toNat (g.nodes.length : Int)⟩ (a : Int) (-1), h1, ?_, ?_, ?_, ?_, ?_⟩
  · rw [gdo_slot hr (by simp) (Or.inr (Or.inl ⟨Or.inl rfl, hga⟩)), gslot_get (by dsimp only; rw [hat]; omega) rfl]
    dsimp only
    rw [hnd, hdd, if_pos (by simp; omega)]
    have h9 : (List.replicate (4 - (1 + c)) 0).getD (d : Int).toNat 0 = 0 := by simp [List.getD, hd]
    rw [h9]
  · rw [gdo_slot hr (by simp) (Or.inr (Or.inr ⟨Or.inl rfl, hga, hga⟩)), gslot_load (by dsimp only; rw [hat]; omega) rfl]
    dsimp only
    rw [hnd, hp, if_pos (by simp; omega)]
    have h9 : (List.replicate (1 + c) (-1 : Int)).getD (e : Int).toNat 0 = -1 := by
      simp [List.getD, he]
    rw [h9]
  · simp [grooted]
  · simp [grooted, hal]
  · simp

set_option maxRecDepth 100000 in
set_option maxHeartbeats 4000000 in
theorem graphSlots_try (C : GrC) (lo ro : Option Addr) (ln lc rn rc : Nat) (raws : List NdV) (roots : List Int) (r s i : Int) (v : Nat) (w : World) (hln : raws.length = ln) (hrn : roots.length = rn) (hlm : ln ≤ lc) (hlc : lc ≤ 9223372036854775807) (hrm : rn ≤ rc) (hrc : rc ≤ 9223372036854775807)
    (hL : Rw nc 2 w lo raws) (hK : ∀ x ∈ raws, x.ok w) (hR : Rw ic 1 w ro roots) (hRb : ∀ p ∈ roots, ib p) (s1 : ib r) (s2 : ib s) (s3 : ib i) (hv : v < 2 ^ 64) :
    Calls Try.prog 4 #[.slice lo ln lc, .slice ro rn rc, .int .i64 r, .int .i64 s, .int .i64 i, .int .u64 (v : Int)] w fun e w' => e = .returned (.bool true) ∧ Below w.heap.size w w' := by
  go_enter Try.func4, Try.ntmps4
  go_wp2_with fail
  refine (awake08 C _).mono ?_
  rintro e w1 ⟨rfl, hb1⟩
  have HL1 := Lib.hid (hL.below (Nat.le_refl _) hb1)
  have HK1 := Lib.hid (fun x hx => (hK x hx).below (Nat.le_refl _) hb1)
  have HR1 := Lib.hid (hR.below (Nat.le_refl _) hb1)
  have HB1 := Lib.hid hb1
  clear hL hK hR hb1
  go_wp2_with fail
  refine (gGraph lo ro ln lc rn rc raws roots _ hln hrn hlm hlc hrm hrc HL1.out HK1.out HR1.out hRb).mono ?_
  rintro e w2 ⟨na, n, nq, ra, m, rq, rfl, hA, hb2⟩
  generalize hg : gof (raws.map NdV.nd) roots = g at hA
  have hmg : g.roots.length = m := hA.parts.2.1
  obtain ⟨hgr, hgs, hm1, hm5, a, hpa, ham, hga⟩ := gof_pick _ _ _ hg r m hmg
  obtain ⟨_, _, _, _, b, hpb, hbm, hgb⟩ := gof_pick _ _ _ hg s m hmg
  have hn10 : g.nodes.length ≤ 10 := by rw [← hg]; exact (gof_right _ _).2.1
  have hnn : g.nodes.length = n := hA.parts.1
  obtain ⟨k, hk4, hk4b⟩ := pkN i 4 (by omega)
  have HK := Lib.hid hk4
  clear hk4
  have HM := Lib.hid hmg
  have HA2 := Lib.hid (hA.below (ba0 w2 (.cells #[.slice na n nq, .slice ra m rq] 25)))
  have HG2 := Lib.hid (Blk.new w2 [.slice na n nq, .slice ra m rq] 25)
  have HB2 := Lib.hid (ba (bt HB1.out hb2) (.cells #[.slice na n nq, .slice ra m rq] 25))
  have HPA := Lib.hid hpa
  have HPB := Lib.hid hpb
  clear hA hb2 HL1 HK1 HR1 HB1 hg hmg hpa hpb hln hrn hlm hlc hrm hrc hRb
  go_upto_region 3 with fail
  generalize w2.alloc (.cells #[.slice na n nq, .slice ra m rq] 25) = V2 at HA2 HG2 HB2 ⊢
  generalize w2.heap.size = G at HG2 ⊢
  have c0 : V2.cell? ⟨G, 0, none⟩ = some (.slice na n nq) := HG2.out.cell rfl
  have c1 : V2.cell? ⟨G, 1, none⟩ = some (.slice ra m rq) := HG2.out.cell rfl
  go_wp2_with fail
  refine (pick08_int r (m : Int) (a : Int) _ s1.1 s1.2 (by omega) (by omega) HPA.out).mono ?_
  rintro e w3 ⟨rfl, rfl⟩
  go_wp2_with fail
  refine (pick08_int s (m : Int) (b : Int) _ s2.1 s2.2 (by omega) (by omega) HPB.out).mono ?_
  rintro e w3 ⟨rfl, rfl⟩
  go_wp2_with fail
  refine (pick08_int i 4 (k : Int) _ s3.1 s3.2 (by omega) (by omega) HK.out).mono ?_
  rintro e w3 ⟨rfl, rfl⟩
  go_wp2_with fail
  obtain ⟨U, X, E, hd⟩ : ∃ U X E, gdo g ⟨5, 0, (b : Int), (k : Int), 0, 0, v⟩ = (U, X, E) := ⟨_, _, _, rfl⟩
  have HD := Lib.hid hd
  clear hd
  refine (C.act HA2.out.lt hgs 5 0 (b : Int) (k : Int) 0 0 v v (ibL (by omega)) (ibL (by omega)) (ibL (by omega)) (ibL (by omega)) (ibL (by omega)) (ibL (by omega)) hv rfl U (U : Int) X E HD.out rfl).mono ?_
  rintro e W3 ⟨na1, n1, nq1, ra1, m1, rq1, rfl, hX, hb⟩
  have HX3 := Lib.hid ((hX.imp (Q := fun _ => True) (fun _ _ => trivial)).below (ba0 W3 (.cells #[.slice na1 n1 nq1, .slice ra1 m1 rq1] 25)))
  have HXB := Lib.hid (Blk.new W3 [.slice na1 n1 nq1, .slice ra1 m1 rq1] 25)
  have HA3 := Lib.hid (((HA2.out.lt.imp (Q := fun b => b ≠ W3.heap.size) (fun b hb' => by have := hb.size; omega))).below (ba hb (.cells #[.slice na1 n1 nq1, .slice ra1 m1 rq1] 25)))
  have hGX : G ≠ W3.heap.size := by have := HG2.out.lt; have := hb.size; omega
  have HG3 := Lib.hid (HG2.out.below (ba hb (.cells #[.slice na1 n1 nq1, .slice ra1 m1 rq1] 25)))
  have HB3 := Lib.hid (bt HB2.out (ba hb (.cells #[.slice na1 n1 nq1, .slice ra1 m1 rq1] 25)))
  have hGXw : w.heap.size ≤ W3.heap.size := by have h1 := (bt HB2.out hb).size; exact h1
  clear hX hb c0 c1 HA2 HG2 HB2 HPA HPB
  go_upto_if 67 with fail
  generalize W3.alloc (.cells #[.slice na1 n1 nq1, .slice ra1 m1 rq1] 25) = V3 at HX3 HXB HA3 HG3 HB3 ⊢
  generalize W3.heap.size = GX at HXB HA3 hGX hGXw ⊢
  have hmm := HM.out
  go_cut [21, 22, 23, 24, 25, 26] from 68 (fun _ _ _ _ _ _ wx => Hid (Below V3.heap.size V3 wx))
  case first =>
    by_cases hE : E = 0
    · subst hE
      obtain ⟨y, hy1, hy2, _⟩ := set_get hgr hga hgb HD.out
      obtain ⟨hxr, hxs, hxn⟩ := do_small hgr (by omega) HD.out
      obtain ⟨hyr, hys, hyn⟩ := do_small hxr (by omega) hy1
      have c0 : V3.cell? ⟨GX, 0, none⟩ = some (.slice na1 n1 nq1) := HXB.out.cell rfl
      have c1 : V3.cell? ⟨GX, 1, none⟩ = some (.slice ra1 m1 rq1) := HXB.out.cell rfl
      go_wp2_with fail
      refine (C.act HX3.out hxs 6 (a : Int) (b : Int) 0 0 0 0 0 (ibL (by omega)) (ibL (by omega)) (ibL (by omega)) (ibL (by omega)) (ibL (by omega)) (ibL (by omega)) (by decide) rfl 0 0 y 0 hy1 rfl).mono ?_
      rintro e W4 ⟨na2, n2, nq2, ra2, m2, rq2, rfl, hY, hb⟩
      have HYB := Lib.hid (Blk.new W4 [.slice na2 n2 nq2, .slice ra2 m2 rq2] 25)
      have HYA := Lib.hid (hY.below (ba0 W4 (.cells #[.slice na2 n2 nq2, .slice ra2 m2 rq2] 25)))
      have HBY := Lib.hid (ba hb (.cells #[.slice na2 n2 nq2, .slice ra2 m2 rq2] 25))
      clear hY hb c0 c1
      go_upto_region 9 with fail
      generalize W4.alloc (.cells #[.slice na2 n2 nq2, .slice ra2 m2 rq2] 25) = V4 at HYB HYA HBY ⊢
      generalize W4.heap.size = GY at HYB ⊢
      have c0 : V4.cell? ⟨GY, 0, none⟩ = some (.slice na2 n2 nq2) := HYB.out.cell rfl
      have c1 : V4.cell? ⟨GY, 1, none⟩ = some (.slice ra2 m2 rq2) := HYB.out.cell rfl
      go_wp2_with fail
      refine (C.act HYA.out hys 3 0 (a : Int) (k : Int) 0 0 0 0 (ibL (by omega)) (ibL (by omega)) (ibL (by omega)) (ibL (by omega)) (ibL (by omega)) (ibL (by omega)) (by decide) rfl v (v : Int) y 0 hy2 rfl).mono ?_
      rintro e W5 ⟨na4, n4, nq4, ra4, m4, rq4, rfl, hY, hb⟩
      have HBZ := Lib.hid (bt HBY.out (ba hb (.cells #[.slice na4 n4 nq4, .slice ra4 m4 rq4] 25)))
      clear hY hb c0 c1
      go_wp2_with fail
      go_meet
      exact HBZ
    · go_wp2_with fail
      go_meet
      exact Lib.hid (Below.refl _ _)
  case rest =>
    have HA4 := Lib.hid (HA3.out.below hcut.out)
    have HG4 := Lib.hid (HG3.out.below hcut.out)
    have HXC := Lib.hid (HXB.out.below hcut.out)
    have HB4 := Lib.hid (bt HB3.out hcut.out)
    clear HX3 HXB HA3 HG3 HB3 HD hcut
    obtain ⟨U2, X2, E2, hd⟩ : ∃ U X E, gdo g ⟨4, (a : Int), (b : Int), (k : Int), 0, 0, 0⟩ = (U, X, E) := ⟨_, _, _, rfl⟩
    have HD := Lib.hid hd
    clear hd
    have c0 : wc.cell? ⟨G, 0, none⟩ = some (.slice na n nq) := HG4.out.cell rfl
    have c1 : wc.cell? ⟨G, 1, none⟩ = some (.slice ra m rq) := HG4.out.cell rfl
    go_wp2_with fail
    refine (C.act HA4.out hgs 4 (a : Int) (b : Int) (k : Int) 0 0 0 0 (ibL (by omega)) (ibL (by omega)) (ibL (by omega)) (ibL (by omega)) (ibL (by omega)) (ibL (by omega)) (by decide) rfl U2 (U2 : Int) X2 E2 HD.out rfl).mono ?_
    rintro e W6 ⟨na5, n5, nq5, ra5, m5, rq5, rfl, hX, hb⟩
    have HX6 := Lib.hid (hX.imp (Q := fun b => b ≠ GX) (fun q hq => by have := HXC.out.lt; rcases hq with hq | hq; exact hq; omega))
    have HXD := Lib.hid (HXC.out.below hb)
    have HA6 := Lib.hid (HA4.out.below hb)
    have HG6 := Lib.hid (HG4.out.below hb)
    have HB6 := Lib.hid (bt HB4.out hb)
    clear hX hb c0 c1 HA4 HG4 HXC HB4
    go_upto_if 108 with (refine wp_store_but rfl 25 (.tmp 19) (.tmp 105) rfl GX _ [.slice na5 n5 nq5, .slice ra5 m5 rq5] rfl rfl _ HXD.out rfl (by kernel_rfl) (by simp [Value.oneCell']) ?_; intro V6 hz5 hf5 hb5; have HX7 := Lib.hid (HX6.out.but (Z := GX) (fun b hb => hb) hf5); have HXE := Lib.hid hz5; have HA7 := Lib.hid (HA6.out.but (Z := GX) (fun b hb => hb) hf5); have HG7 := Lib.hid (HG6.out.but hf5 hGX); have HB7 := Lib.hid (hb5 _ _ hGXw HB6.out); clear hz5 hf5 hb5 HX6 HXD HA6 HG6 HB6)
    go_cut [27, 28, 29] from 109 (fun _ _ _ wx => Hid (Below V6.heap.size V6 wx))
    case first =>
      by_cases hE : E2 = 0
      · subst hE
        obtain ⟨y, hy1, hyl, hya⟩ := store_load hgr hga hgb HD.out
        obtain ⟨hxr, hxs, hxn⟩ := do_small hgr (by omega) HD.out
        have c0 : V6.cell? ⟨GX, 0, none⟩ = some (.slice na5 n5 nq5) := HXE.out.cell rfl
        have c1 : V6.cell? ⟨GX, 1, none⟩ = some (.slice ra5 m5 rq5) := HXE.out.cell rfl
        go_wp2_with fail
        refine (C.act HX7.out hxs 2 (a : Int) (b : Int) (k : Int) 0 0 0 0 (ibL (by omega)) (ibL (by omega)) (ibL (by omega)) (ibL (by omega)) (ibL (by omega)) (ibL (by omega)) (by decide) rfl 0 0 y 0 hy1 rfl).mono ?_
        rintro e W7 ⟨na6, n6, nq6, ra6, m6, rq6, rfl, hY, hb⟩
        have HYB := Lib.hid (Blk.new W7 [.slice na6 n6 nq6, .slice ra6 m6 rq6] 25)
        have HYA := Lib.hid (hY.below (ba0 W7 (.cells #[.slice na6 n6 nq6, .slice ra6 m6 rq6] 25)))
        have HBY := Lib.hid (ba hb (.cells #[.slice na6 n6 nq6, .slice ra6 m6 rq6] 25))
        clear hY hb c0 c1
        go_upto_region 15 with fail
        generalize W7.alloc (.cells #[.slice na6 n6 nq6, .slice ra6 m6 rq6] 25) = V7 at HYB HYA HBY ⊢
        generalize W7.heap.size = GY at HYB ⊢
        obtain ⟨_, yl1, yr, _, ym, _, yq, _, yn, _⟩ := HYA.out.parts
        obtain ⟨_, gl1, gr, _, gm, _, gq, _, gn, _⟩ := (HA7.out.below HBY.out).parts
        have e1 : m6 = m := by rw [← yl1, hyl]; exact gl1
        subst e1
        obtain ⟨by', oy, rfl, hby, cy⟩ := in_cells yr (k := a) (o := gat g a) (by rw [← hya]; unfold gat; simp only [Int.toNat_natCast]; rw [List.getD_eq_getElem?_getD, List.getElem?_eq_getElem (by omega)]; rfl)
        obtain ⟨bg, og, rfl, hbg, cg⟩ := in_cells gr (k := a) (o := gat g a) (by unfold gat; simp only [Int.toNat_natCast]; rw [List.getD_eq_getElem?_getD, List.getElem?_eq_getElem (by omega)]; rfl)
        have c1 : V7.cell? ⟨G, 1, none⟩ = some (.slice (some ⟨bg, og, none⟩) m6 rq) := (HG7.out.below HBY.out).cell rfl
        have c2 : V7.cell? ⟨GY, 1, none⟩ = some (.slice (some ⟨by', oy, none⟩) m6 rq6) := HYB.out.cell rfl
        clear yl1 yr ym yq yn gl1 gr gm gq gn hby hbg
        go_quiet ((fail))
        clear cy cg c1 c2
        dsimp only [Exit.then]
        go_wp2_with fail
        go_meet
        exact Lib.hid (Below.drewN HBY.out _)
      · go_wp2_with fail
        go_meet
        exact Lib.hid (Below.refl _ _)
    case rest =>
      have HA8 := Lib.hid (HA7.out.below hcut.out)
      have HG8 := Lib.hid (HG7.out.below hcut.out)
      have HB8 := Lib.hid (bt HB7.out hcut.out)
      clear HX7 HXE HA7 HG7 HB7 HD hcut
      obtain ⟨c, hc, hcb⟩ := pkN i 3 (by omega)
      obtain ⟨d, hd, hdb⟩ := pkN i (4 - (1 + (c : Int))) (by omega)
      obtain ⟨e', he, heb⟩ := pkN i (1 + (c : Int)) (by omega)
      have HC := Lib.hid hc
      have HDD := Lib.hid hd
      have HE := Lib.hid he
      clear hc hd he
      obtain ⟨Z, Y, hz1, hz2, hz3, hzl, hza, hzn⟩ := new_slots (c := c) (d := d) (e := e') hgr hga (by omega) (by omega) (by omega)
      obtain ⟨hzr, hzs, hzm⟩ := do_small hgr (by omega) hz1
      have HZ2 := Lib.hid hz2
      have HZ3 := Lib.hid hz3
      have hw1 : IntKind.i64.wrap (1 + (c : Int)) = 1 + (c : Int) := IntWalk.i64_in _ (by omega)
      have hw2 : IntKind.i64.wrap (4 - (1 + (c : Int))) = 4 - (1 + (c : Int)) := IntWalk.i64_in _ (by omega)
      clear hz2 hz3
      go_wp2_with fail
      refine (pick08_int i 3 (c : Int) _ s3.1 s3.2 (by omega) (by omega) HC.out).mono ?_
      rintro e w3 ⟨rfl, rfl⟩
      go_upto_region 18 with fail
      have HS9 := Lib.hid (Blk.new wc [.int .i64 4, .int .i64 (1 + (c : Int))] 28)
      have hb := ba0 wc (.cells #[.int .i64 4, .int .i64 (1 + (c : Int))] 28)
      have HA9 := Lib.hid (HA8.out.below hb)
      have HG9 := Lib.hid (HG8.out.below hb)
      have HB9 := Lib.hid (bt HB8.out hb)
      clear hb HA8 HG8 HB8
      generalize wc.alloc (.cells #[.int .i64 4, .int .i64 (1 + (c : Int))] 28) = V9 at HS9 HA9 HG9 HB9 ⊢
      generalize wc.heap.size = GS at HS9 ⊢
      have c0 : V9.cell? ⟨G, 0, none⟩ = some (.slice na n nq) := HG9.out.cell rfl
      have c1 : V9.cell? ⟨G, 1, none⟩ = some (.slice ra m rq) := HG9.out.cell rfl
      have c2 : V9.cell? ⟨GS, 0, none⟩ = some (.int .i64 4) := HS9.out.cell rfl
      have c3 : V9.cell? ⟨GS, 1, none⟩ = some (.int .i64 (1 + (c : Int))) := HS9.out.cell rfl
      go_wp2_with fail
      refine (C.act HA9.out hgs 1 (a : Int) 0 0 4 (1 + (c : Int)) 0 0 (ibL (by omega)) (ibL (by omega)) (ibL (by omega)) (ibL (by omega)) (ibL (by omega)) (ibL (by omega)) (by decide) rfl 0 0 Z 0 hz1 rfl).mono ?_
      rintro e W10 ⟨na7, n7, nq7, ra7, m7, rq7, rfl, hX, hb⟩
      have hb := ba hb (.cells #[.slice na7 n7 nq7, .slice ra7 m7 rq7] 25)
      have HZB := Lib.hid (Blk.new W10 [.slice na7 n7 nq7, .slice ra7 m7 rq7] 25)
      have HZA := Lib.hid ((hX.imp (Q := fun _ => True) (fun _ _ => trivial)).below (ba0 W10 (.cells #[.slice na7 n7 nq7, .slice ra7 m7 rq7] 25)))
      have HS10 := Lib.hid (HS9.out.below hb)
      have HA10 := Lib.hid (HA9.out.below hb)
      have HG10 := Lib.hid (HG9.out.below hb)
      have HB10 := Lib.hid (bt HB9.out hb)
      clear hb hX c0 c1 c2 c3 HS9 HA9 HG9 HB9
      go_upto_region 19 with fail
      generalize W10.alloc (.cells #[.slice na7 n7 nq7, .slice ra7 m7 rq7] 25) = V10 at HZB HZA HS10 HA10 HG10 HB10 ⊢
      generalize W10.heap.size = GZ at HZB ⊢
      have hkeep : Hid (∀ w', Below V10.heap.size V10 w' → w'.cell? ⟨GZ, 0, none⟩ = some (.slice na7 n7 nq7) ∧ w'.cell? ⟨GZ, 1, none⟩ = some (.slice ra7 m7 rq7) ∧ w'.cell? ⟨GS, 1, none⟩ = some (.int .i64 (1 + (c : Int)))) := Lib.hid fun w' h => ⟨(HZB.out.below h).cell rfl, (HZB.out.below h).cell rfl, (HS10.out.below h).cell rfl⟩
      go_cut [34, 35, 36] from 156 (fun u _ e wx => u = .int .u64 0 ∧ e = .int .i64 0 ∧ Hid (Below V10.heap.size V10 wx))
      case first =>
        go_region_held3 (fun w' => w'.cell? ⟨GZ, 0, none⟩ = some (.slice na7 n7 nq7) ∧ w'.cell? ⟨GZ, 1, none⟩ = some (.slice ra7 m7 rq7) ∧ w'.cell? ⟨GS, 1, none⟩ = some (.int .i64 (1 + (c : Int)))) (exact hkeep.out _ (by first | exact (Below.refl _ V10).drew | exact Below.refl _ V10 | exact ba (Below.refl _ V10).drew _ | exact ba0 V10 _ | exact bt (Below.refl _ V10).drew hb9 | exact bt (ba0 V10 _).drew hb9 | exact ba (bt (Below.refl _ V10).drew hb9) _ | exact ((bt (ba0 V10 _).drew hb9).setCell (Nat.le_refl _) _).setCell (Nat.le_refl _) _)) ((first
          | (go_at_call 16; refine (pick08_int i (4 - (1 + (c : Int))) (d : Int) _ s3.1 s3.2 (by omega) (by omega) HDD.out).mono ?_; rintro e w9 ⟨rfl, rfl⟩)
          | (go_at_call 17; refine (C.act (w := World.drew (World.alloc V10 _)) (HZA.out.lt.below (ba0 V10 _).drew) hzs 3 0 (a : Int) (d : Int) 0 0 0 0 (ibL (by omega)) (ibL (by omega)) (ibL (by omega)) (ibL (by omega)) (ibL (by omega)) (ibL (by omega)) (by decide) rfl 0 0 Z 0 HZ2.out rfl).mono ?_; rintro e w9 ⟨na9, n9, nq9, ra9, m9, rq9, rfl, hX9, hb9⟩; obtain ⟨q0, q1, f0, f1⟩ := blk_two (blk_old [.slice none 0 0, .slice none 0 0] 25 hb9))
          | (go_at_call 17; refine (C.act (w := World.drew V10) (HZA.out.lt.below (Below.refl _ V10).drew) hzs 3 0 (a : Int) (d : Int) 0 0 0 0 (ibL (by omega)) (ibL (by omega)) (ibL (by omega)) (ibL (by omega)) (ibL (by omega)) (ibL (by omega)) (by decide) rfl 0 0 Z 0 HZ2.out rfl).mono ?_; rintro e w9 ⟨na9, n9, nq9, ra9, m9, rq9, rfl, hX9, hb9⟩)))
        all_goals (
          dsimp only [Exit.then]
          go_wp2_with fail
          go_meet
          first
            | exact ⟨rfl, rfl, Lib.hid (ba (bt (Below.refl _ V10).drew hb9) _)⟩
            | exact ⟨rfl, rfl, Lib.hid (((bt (ba0 V10 _).drew hb9).setCell (Nat.le_refl _) _).setCell (Nat.le_refl _) _)⟩)
      case rest =>
        obtain ⟨rfl, rfl, hcut⟩ := hcut
        have HZC := Lib.hid (HZB.out.below hcut.out)
        have HZD := Lib.hid (HZA.out.below hcut.out)
        have HS11 := Lib.hid (HS10.out.below hcut.out)
        have HA11 := Lib.hid (HA10.out.below hcut.out)
        have HG11 := Lib.hid (HG10.out.below hcut.out)
        have HB11 := Lib.hid (bt HB10.out hcut.out)
        clear hkeep HZB HZA HS10 HA10 HG10 HB10 hcut
        generalize wc = V11 at HZC HZD HS11 HA11 HG11 HB11 ⊢
        go_upto_region 20 with fail
        have hkeep : Hid (∀ w', Below V11.heap.size V11 w' → w'.cell? ⟨GZ, 0, none⟩ = some (.slice na7 n7 nq7) ∧ w'.cell? ⟨GZ, 1, none⟩ = some (.slice ra7 m7 rq7) ∧ w'.cell? ⟨GS, 1, none⟩ = some (.int .i64 (1 + (c : Int)))) := Lib.hid fun w' h => ⟨(HZC.out.below h).cell rfl, (HZC.out.below h).cell rfl, (HS11.out.below h).cell rfl⟩
        go_cut [37, 38, 39] from 169 (fun u p e wx => ∃ Gy : Nat, ∃ na9 : Option Addr, ∃ n9 nq9 : Nat, ∃ ra9 : Option Addr, ∃ m9 rq9 : Nat, p = .pointer (some ⟨Gy, 0, none⟩) ∧ e = .int .i64 0 ∧ Hid (Blk wx Gy [.slice na9 n9 nq9, .slice ra9 m9 rq9] 25) ∧ Hid (GAt (fun _ => True) wx na9 n9 nq9 ra9 m9 rq9 Y) ∧ Hid (Below V11.heap.size V11 wx))
        case first =>
          go_region_held3 (fun w' => w'.cell? ⟨GZ, 0, none⟩ = some (.slice na7 n7 nq7) ∧ w'.cell? ⟨GZ, 1, none⟩ = some (.slice ra7 m7 rq7) ∧ w'.cell? ⟨GS, 1, none⟩ = some (.int .i64 (1 + (c : Int)))) (exact hkeep.out _ (by first | exact (Below.refl _ V11).drew | exact Below.refl _ V11 | exact ba (Below.refl _ V11).drew _ | exact ba0 V11 _ | exact bt (Below.refl _ V11).drew hb9 | exact bt (ba0 V11 _).drew hb9 | exact ba (bt (Below.refl _ V11).drew hb9) _ | exact ((bt (ba0 V11 _).drew hb9).setCell (Nat.le_refl _) _).setCell (Nat.le_refl _) _)) ((first
            | (go_at_call 16; refine (pick08_int i (1 + (c : Int)) (e' : Int) _ s3.1 s3.2 (by omega) (by omega) HE.out).mono ?_; rintro e w9 ⟨rfl, rfl⟩)
            | (go_at_call 17; refine (C.act (w := World.drew (World.alloc V11 _)) (HZD.out.lt.below (ba0 V11 _).drew) hzs 2 (a : Int) (a : Int) (e' : Int) 0 0 0 0 (ibL (by omega)) (ibL (by omega)) (ibL (by omega)) (ibL (by omega)) (ibL (by omega)) (ibL (by omega)) (by decide) rfl 0 0 Y 0 HZ3.out rfl).mono ?_; rintro e w9 ⟨na9, n9, nq9, ra9, m9, rq9, rfl, hX9, hb9⟩; obtain ⟨q0, q1, f0, f1⟩ := blk_two (blk_old [.slice none 0 0, .slice none 0 0] 25 hb9))
            | (go_at_call 17; refine (C.act (w := World.drew V11) (HZD.out.lt.below (Below.refl _ V11).drew) hzs 2 (a : Int) (a : Int) (e' : Int) 0 0 0 0 (ibL (by omega)) (ibL (by omega)) (ibL (by omega)) (ibL (by omega)) (ibL (by omega)) (ibL (by omega)) (by decide) rfl 0 0 Y 0 HZ3.out rfl).mono ?_; rintro e w9 ⟨na9, n9, nq9, ra9, m9, rq9, rfl, hX9, hb9⟩)))
          all_goals (
            dsimp only [Exit.then]
            go_wp2_with fail
            go_meet
            first
              | exact ⟨_, na9, n9, nq9, ra9, m9, rq9, rfl, rfl, Lib.hid (Blk.new w9 [.slice na9 n9 nq9, .slice ra9 m9 rq9] _), Lib.hid ((hX9.imp (fun _ _ => trivial)).below (ba0 w9 _)), Lib.hid (ba (bt (Below.refl _ V11).drew hb9) _)⟩
              | exact ⟨_, na9, n9, nq9, ra9, m9, rq9, rfl, rfl, Lib.hid (blk_set (blk_set (blk_old [.slice none 0 0, .slice none 0 0] 25 hb9) 0 _) 1 _), Lib.hid ((hX9.but (Z := V11.heap.size) (gat_apart V11 _) (((But.refl _ w9).set 0 _).set 1 _)).imp (fun _ _ => trivial)), Lib.hid (((bt (ba0 V11 _).drew hb9).setCell (Nat.le_refl _) _).setCell (Nat.le_refl _) _)⟩)
        case rest =>
          obtain ⟨Gy, na9, n9, nq9, ra9, m9, rq9, rfl, rfl, HYB, HYA, hcut⟩ := hcut
          have HB12 := Lib.hid (bt HB11.out hcut.out)
          have HG12 := Lib.hid (HG11.out.below hcut.out)
          have HZ12 := Lib.hid (HZC.out.below hcut.out)
          have hz7 : n7 = n + 1 := by rw [← HZD.out.parts.1, hzn, hnn]
          obtain ⟨_, yl1, yr, _, ym, _, yq, _, yn, _⟩ := HYA.out.parts
          have e1 : m9 = m := by rw [← yl1, hzl]; exact hmm
          subst hz7 e1
          obtain ⟨by', oy, rfl, hby, cy⟩ := in_cells yr (k := a) (o := -1) hza
          have c0 : wc.cell? ⟨G, 0, none⟩ = some (.slice na n nq) := HG12.out.cell rfl
          have c1 : wc.cell? ⟨G, 1, none⟩ = some (.slice ra m9 rq) := HG12.out.cell rfl
          have c2 : wc.cell? ⟨GZ, 0, none⟩ = some (.slice na7 (n + 1) nq7) := HZ12.out.cell rfl
          have c3 : wc.cell? ⟨Gy, 1, none⟩ = some (.slice (some ⟨by', oy, none⟩) m9 rq9) := HYB.out.cell rfl
          have hwn : IntKind.i64.wrap ((n : Int) + 1) = (n : Int) + 1 := IntWalk.i64_in _ (by omega)
          clear hkeep yl1 yr ym yq yn hby HYB HYA HG11 HZC HZD HS11 HA11 HG12 HZ12 hcut HC HDD HE HK HZ2 HZ3
          go_wp2_with fail
          go_ret
          exact ⟨rfl, HB12.out⟩
end Go.Proofs.Ytjoacfjbdpmgpaa.V
