/-
  GraphRuns, walked under what is asked of the program's functions.
-/
import Derived.Test.YtjoacfjbdpmgpaaGSlotsW
import Derived.Test.YtjoacfjbdpmgpaaOpenGr
set_option linter.unusedVariables false
namespace Go.Proofs.Ytjoacfjbdpmgpaa.V
open Go.RowKit

theorem actof_ib (n0 n1 n2 n3 n4 : Int) (v : Nat) (A : Ac) (h : actof n0 n1 n2 n3 n4 v = A) : ib A.kind ∧ ib A.r ∧ ib A.s ∧ ib A.i ∧ ib A.size ∧ ib A.ptrs ∧ A.v = v := by
  subst h
  have h0 := pk_bd n0 7 (by omega)
  have h1 := pk_bd n1 5 (by omega)
  have h2 := pk_bd n2 5 (by omega)
  have h3 := pk_bd n3 4 (by omega)
  have h4 := pk_bd n4 6 (by omega)
  have h5 := pk_bd (n4.tdiv 6) (pk n4 6 + 1) (by omega)
  unfold actof ib
  dsimp only
  refine ⟨by omega, by omega, by omega, by omega, by omega, by omega, rfl⟩
theorem i5_len (x : I5) : (i5c x).length = 5 := rfl

set_option maxRecDepth 100000 in
set_option maxHeartbeats 4000000 in
theorem graphRuns_try (C : GrC) (lo ro : Option Addr) (ln lc rn rc : Nat) (raws : List NdV) (roots : List Int) (s i : Int) (v : Nat) (co : Option Addr) (al ac : Nat) (acts : List I5) (w : World) (hln : raws.length = ln) (hrn : roots.length = rn) (hlm : ln ≤ lc) (hlc : lc ≤ 9223372036854775807) (hrm : rn ≤ rc) (hrc : rc ≤ 9223372036854775807)
    (hL : Rw nc 2 w lo raws) (hK : ∀ x ∈ raws, x.ok w) (hR : Rw ic 1 w ro roots) (hRb : ∀ p ∈ roots, ib p) (s2 : ib s) (s3 : ib i) (hv : v < 2 ^ 64) (hal : acts.length = al) (hac : al ≤ ac) (hcm : ac ≤ 9223372036854775807) (hT : Rw i5c 5 w co acts) (hTb : ∀ x ∈ acts, x.ok) :
    Calls Try.prog 7 #[.slice lo ln lc, .slice ro rn rc, .int .i64 s, .int .i64 i, .int .u64 (v : Int), .slice co al ac] w fun e w' => e = .returned (.bool true) ∧ Below w.heap.size w w' := by
  have HTT := Lib.hid hT
  have HTB := Lib.hid hTb
  have HAL := Lib.hid hal
  clear hT hTb hal
  go_enter Try.func7, Try.ntmps7
  go_wp2_with fail
  refine (awake08 C _).mono ?_
  rintro e w1 ⟨rfl, hb1⟩
  have HL1 := Lib.hid (hL.below (Nat.le_refl _) hb1)
  have HK1 := Lib.hid (fun x hx => (hK x hx).below (Nat.le_refl _) hb1)
  have HR1 := Lib.hid (hR.below (Nat.le_refl _) hb1)
  have HB1 := Lib.hid hb1
  clear hL hK hR hb1
  go_wp2_with fail
  refine (gGraph lo ro ln lc rn rc raws roots _ hln hrn hlm hlc hrm hrc HL1.out HK1.out HR1.out hRb).mono ?_
  rintro e w2 ⟨na, n, nq, ra, m, rq, rfl, hA, hb2⟩
  generalize hg : gof (raws.map NdV.nd) roots = g at hA
  have hmg : g.roots.length = m := hA.parts.2.1
  obtain ⟨hgr, hgs, hm1, hm5, b, hpb, hbm, hgb⟩ := gof_pick _ _ _ hg s m hmg
  have hn10 : g.nodes.length ≤ 10 := by rw [← hg]; exact (gof_right _ _).2.1
  have hnn : g.nodes.length = n := hA.parts.1
  obtain ⟨k, hk4, hk4b⟩ := pkN i 4 (by omega)
  have HK := Lib.hid hk4
  clear hk4
  have HM := Lib.hid hmg
  have HA2 := Lib.hid (hA.below (ba0 w2 (.cells #[.slice na n nq, .slice ra m rq] 25)))
  have HG2 := Lib.hid (Blk.new w2 [.slice na n nq, .slice ra m rq] 25)
  have HB2 := Lib.hid (ba (bt HB1.out hb2) (.cells #[.slice na n nq, .slice ra m rq] 25))
  have HPB := Lib.hid hpb
  clear hA hb2 HL1 HK1 HR1 HB1 hg hmg hpb hln hrn hlm hlc hrm hrc hRb
  go_upto_region 3 with fail
  generalize w2.alloc (.cells #[.slice na n nq, .slice ra m rq] 25) = V2 at HA2 HG2 HB2 ⊢
  generalize w2.heap.size = G at HG2 ⊢
  have c0 : V2.cell? ⟨G, 0, none⟩ = some (.slice na n nq) := HG2.out.cell rfl
  have c1 : V2.cell? ⟨G, 1, none⟩ = some (.slice ra m rq) := HG2.out.cell rfl
  go_wp2_with fail
  refine (pick08_int s (m : Int) (b : Int) _ s2.1 s2.2 (by omega) (by omega) HPB.out).mono ?_
  rintro e w3 ⟨rfl, rfl⟩
  go_wp2_with fail
  refine (pick08_int i 4 (k : Int) _ s3.1 s3.2 (by omega) (by omega) HK.out).mono ?_
  rintro e w3 ⟨rfl, rfl⟩
  go_wp2_with fail
  obtain ⟨U, X, E, hd⟩ : ∃ U X E, gdo g ⟨5, 0, (b : Int), (k : Int), 0, 0, v⟩ = (U, X, E) := ⟨_, _, _, rfl⟩
  have HD := Lib.hid hd
  clear hd
  refine (C.act HA2.out.lt hgs 5 0 (b : Int) (k : Int) 0 0 v v (ibL (by omega)) (ibL (by omega)) (ibL (by omega)) (ibL (by omega)) (ibL (by omega)) (ibL (by omega)) hv rfl U (U : Int) X E HD.out rfl).mono ?_
  rintro e W3 ⟨na1, n1, nq1, ra1, m1, rq1, rfl, hX, hb⟩
  have HX3 := Lib.hid ((hX.lt.imp (Q := fun b => b ≠ W3.heap.size) (fun b hb' => by omega)).below (ba0 W3 (.cells #[.slice na1 n1 nq1, .slice ra1 m1 rq1] 25)))
  have HXB := Lib.hid (Blk.new W3 [.slice na1 n1 nq1, .slice ra1 m1 rq1] 25)
  have HB3 := Lib.hid (bt HB2.out (ba hb (.cells #[.slice na1 n1 nq1, .slice ra1 m1 rq1] 25)))
  have hGXw : w.heap.size ≤ W3.heap.size := by have h1 := (bt HB2.out hb).size; exact h1
  clear hX hb c0 c1 HA2 HG2 HB2 HPB
  go_upto_if 50 with fail
  generalize W3.alloc (.cells #[.slice na1 n1 nq1, .slice ra1 m1 rq1] 25) = V3 at HX3 HXB HB3 ⊢
  generalize W3.heap.size = GX at HX3 HXB hGXw ⊢
  by_cases hE : E = 0
  · subst hE
    have hhas := set_has hgr hgb HD.out
    obtain ⟨hxr, hxs, hxn⟩ := do_small hgr (by omega) HD.out
    have hxn' : X.nodes.length ≤ 11 := by omega
    have HH := Lib.hid (And.intro hhas hxn')
    clear hhas hxr hxs hxn hxn'
    obtain ⟨v1, hv1, hv1b⟩ : ∃ v1 : Nat, IntKind.u64.wrap ((v : Int) + 1) = (v1 : Int) ∧ v1 < 2 ^ 64 := ⟨(IntKind.u64.wrap ((v : Int) + 1)).toNat, by unfold IntKind.wrap; simp [IntKind.signed, IntKind.bits]; omega, by unfold IntKind.wrap; simp [IntKind.signed, IntKind.bits]; omega⟩
    go_wp2_with fail
    go_loopw [20] (fun jv wr => ∃ j : Nat, ∃ x : Gr, ∃ nax : Option Addr, ∃ nx nqx : Nat, ∃ rax : Option Addr, ∃ mx rqx : Nat, j ≤ 12 ∧ jv = .int .i64 j ∧ Hid (Blk wr GX [.slice nax nx nqx, .slice rax mx rqx] 25) ∧ Hid (GAt (fun b => b ≠ GX) wr nax nx nqx rax mx rqx x) ∧ Hid (GHas x (b : Int) (k : Int) v ∧ x.nodes.length ≤ 11 + j) ∧ Hid (Below w.heap.size w wr)) (fun jv _ => 12 - (intOf jv).toNat)
    case atStart => exact ⟨0, X, na1, n1, nq1, ra1, m1, rq1, by omega, rfl, HXB, HX3, HH, HB3⟩
    case round =>
      obtain ⟨j, x, nax, nx, nqx, rax, mx, rqx, hj, rfl, HXR, HXA, HXH, HBR⟩ := hrel
      by_cases hjj : j < al ∧ j < 12
      · obtain ⟨hja, hj12⟩ := hjj
        have hj12i : (j : Int) < 12 := by omega
        have hjai : (j : Int) < (al : Int) := by omega
        obtain ⟨p, hp, hpm⟩ := getq HAL.out hja
        obtain ⟨p0, p1, p2, p3, p4⟩ := HTB.out p hpm
        obtain ⟨b5, o5, rfl, hb5, hc5⟩ := (HTT.out.below (Nat.le_refl _) HBR.out) j p hp
        have q0 : wr.cell? ⟨b5, o5 + j * 5, none⟩ = some (.int .i64 p.n0) := hc5 0 _ rfl
        have q1 : wr.cell? ⟨b5, o5 + j * 5 + 1, none⟩ = some (.int .i64 p.n1) := hc5 1 _ rfl
        have q2 : wr.cell? ⟨b5, o5 + j * 5 + 2, none⟩ = some (.int .i64 p.n2) := hc5 2 _ rfl
        have q3 : wr.cell? ⟨b5, o5 + j * 5 + 3, none⟩ = some (.int .i64 p.n3) := hc5 3 _ rfl
        have q4 : wr.cell? ⟨b5, o5 + j * 5 + 4, none⟩ = some (.int .i64 p.n4) := hc5 4 _ rfl
        clear hc5 hp hpm
        obtain ⟨A, hA⟩ : ∃ A, actof p.n0 p.n1 p.n2 p.n3 p.n4 v1 = A := ⟨_, rfl⟩
        obtain ⟨t0, t1, t2, t3, t4, t5, t6⟩ := actof_ib _ _ _ _ _ _ A hA
        have HAA := Lib.hid hA
        have HAV := Lib.hid (show A.v < 2 ^ 64 by rw [t6]; exact hv1b)
        clear hA t6
        go_wp2_with fail
        refine (gAct p.n0 p.n1 p.n2 p.n3 p.n4 v1 _ hv1b p0 p1 p2 p3 p4 A HAA.out).mono ?_
        rintro e W8 ⟨rfl, hb⟩
        clear q0 q1 q2 q3 q4
        have hb := ba hb (.cells #[.int .i64 A.kind, .int .i64 A.r, .int .i64 A.s, .int .i64 A.i, .int .i64 A.size, .int .i64 A.ptrs, .int .u64 (A.v : Int)] 31)
        have HAB := Lib.hid (Blk.new W8 [.int .i64 A.kind, .int .i64 A.r, .int .i64 A.s, .int .i64 A.i, .int .i64 A.size, .int .i64 A.ptrs, .int .u64 (A.v : Int)] 31)
        have HXS := Lib.hid (HXR.out.below hb)
        have HXT := Lib.hid (HXA.out.below hb)
        have HBS := Lib.hid (bt HBR.out hb)
        clear hb HXR HXA HBR
        go_upto_region 12 with fail
        generalize W8.alloc (.cells #[.int .i64 A.kind, .int .i64 A.r, .int .i64 A.s, .int .i64 A.i, .int .i64 A.size, .int .i64 A.ptrs, .int .u64 (A.v : Int)] 31) = V8 at HAB HXS HXT HBS ⊢
        generalize W8.heap.size = GA at HAB ⊢
        have c0 : V8.cell? ⟨GA, 0, none⟩ = some (.int .i64 A.kind) := HAB.out.cell rfl
        have c1 : V8.cell? ⟨GA, 1, none⟩ = some (.int .i64 A.r) := HAB.out.cell rfl
        have c2 : V8.cell? ⟨GA, 2, none⟩ = some (.int .i64 A.s) := HAB.out.cell rfl
        have c3 : V8.cell? ⟨GA, 3, none⟩ = some (.int .i64 A.i) := HAB.out.cell rfl
        have c4 : V8.cell? ⟨GA, 4, none⟩ = some (.int .i64 A.size) := HAB.out.cell rfl
        have c5 : V8.cell? ⟨GA, 5, none⟩ = some (.int .i64 A.ptrs) := HAB.out.cell rfl
        have c6 : V8.cell? ⟨GA, 6, none⟩ = some (.int .u64 (A.v : Int)) := HAB.out.cell rfl
        have d0 : V8.cell? ⟨GX, 0, none⟩ = some (.slice nax nx nqx) := HXS.out.cell rfl
        have d1 : V8.cell? ⟨GX, 1, none⟩ = some (.slice rax mx rqx) := HXS.out.cell rfl
        by_cases h5 : A.kind = 5
        · go_wp2_with fail
          go_roundw
          case rel => (first | exact ⟨j + 1, x, nax, nx, nqx, rax, mx, rqx, by omega, by go_num, HXS, HXT, Lib.hid ⟨HXH.out.1, by have := HXH.out.2; omega⟩, HBS⟩ | ((repeat apply Exists.intro); exact ⟨⟨j + 1, x, nax, nx, nqx, rax, mx, rqx, by omega, by go_num, HXS, HXT, Lib.hid ⟨HXH.out.1, by have := HXH.out.2; omega⟩, HBS⟩, rfl⟩))
          case measure => simp [intOf]; omega
        · by_cases hsk : A.r = (b : Int) ∧ A.kind ≠ 4
          · obtain ⟨hsk1, hsk2⟩ := hsk
            have hsk3 : (A.kind != 4) = true := by simpa using hsk2
            have hsk4 : (A.kind == 5) = false := by simpa using h5
            go_wp2_with fail
            go_roundw
            case rel => (first | exact ⟨j + 1, x, nax, nx, nqx, rax, mx, rqx, by omega, by go_num, HXS, HXT, Lib.hid ⟨HXH.out.1, by have := HXH.out.2; omega⟩, HBS⟩ | ((repeat apply Exists.intro); exact ⟨⟨j + 1, x, nax, nx, nqx, rax, mx, rqx, by omega, by go_num, HXS, HXT, Lib.hid ⟨HXH.out.1, by have := HXH.out.2; omega⟩, HBS⟩, rfl⟩))
            case measure => simp [intOf]; omega
          · obtain ⟨VV, Y, EE, hdo⟩ : ∃ VV Y EE, gdo x A = (VV, Y, EE) := ⟨_, _, _, rfl⟩
            have hxr := HXH.out.1.1
            have hxs : gsm x := gsm_right hxr (by have := HXH.out.2; omega)
            have HDO := Lib.hid hdo
            clear hdo
            have hdis : (A.r = (b : Int) ∧ A.kind = 4) ∨ ¬ A.r = (b : Int) := by
              by_cases h : A.r = (b : Int)
              · left; exact ⟨h, by by_cases h4 : A.kind = 4; exact h4; exact absurd ⟨h, h4⟩ hsk⟩
              · right; exact h
            have HDIS := Lib.hid (show A.r ≠ (b : Int) ∨ A.kind = 4 by rcases hdis with h | h; exact Or.inr h.2; exact Or.inl h)
            have HN5 := Lib.hid h5
            clear hsk
            have HACT := Lib.hid (C.act HXT.out hxs A.kind A.r A.s A.i A.size A.ptrs A.v A.v t0 t1 t2 t3 t4 t5 HAV.out rfl VV (VV : Int) Y EE HDO.out rfl)
            rcases hdis with ⟨hr1, hr2⟩ | hr1
            all_goals (
              try rw [hr1, hr2] at HACT
              go_wp2_with fail
              refine HACT.out.mono ?_
              rintro e W9 ⟨nay, ny, nqy, ray, my, rqy, rfl, hY, hb⟩
              have HYA := Lib.hid ((hY.imp (Q := fun b => b ≠ GX) (fun q hq => by have := HXS.out.lt; rcases hq with hq | hq; exact hq; omega)).below (ba0 W9 (.cells #[.slice nay ny nqy, .slice ray my rqy] 25)))
              have HYB := Lib.hid (Blk.new W9 [.slice nay ny nqy, .slice ray my rqy] 25)
              have hb := ba hb (.cells #[.slice nay ny nqy, .slice ray my rqy] 25)
              have HXU := Lib.hid (HXS.out.below hb)
              have HXW := Lib.hid (HXT.out.below hb)
              have HBU := Lib.hid (bt HBS.out hb)
              clear hb hY c0 c1 c2 c3 c4 c5 c6 d0 d1 HXS HXT HBS HAB HACT
              go_upto_if 91 with fail
              generalize W9.alloc (.cells #[.slice nay ny nqy, .slice ray my rqy] 25) = V9 at HYA HYB HXU HXW HBU ⊢
              generalize W9.heap.size = GY at HYB ⊢
              by_cases hEE : EE = 0
              · subst hEE
                have hstep := runs_step HXH.out.1 HDO.out HN5.out HDIS.out
                obtain ⟨_, hyn, _, _⟩ := gdo_keeps hxr HDO.out
                have HHY := Lib.hid (And.intro hstep (show Y.nodes.length ≤ 11 + (j + 1) by have := HXH.out.2; rw [hyn]; split <;> omega))
                clear hstep hyn
                have c0 : V9.cell? ⟨GY, 0, none⟩ = some (.slice nay ny nqy) := HYB.out.cell rfl
                have c1 : V9.cell? ⟨GY, 1, none⟩ = some (.slice ray my rqy) := HYB.out.cell rfl
                go_wp2_with (refine wp_store_but rfl 25 (.tmp 18) (.tmp 92) rfl GX _ [.slice nay ny nqy, .slice ray my rqy] rfl rfl _ HXU.out rfl (by kernel_rfl) (by simp [Value.oneCell']) ?_; intro V10 hz5 hf5 hb5; have HYC := Lib.hid (HYA.out.but (Z := GX) (fun b hb => hb) hf5); have HYD := Lib.hid hz5; have HBV := Lib.hid (hb5 _ _ hGXw HBU.out); clear hz5 hf5 hb5)
                go_roundw
                case rel => (first | exact ⟨j + 1, Y, nay, ny, nqy, ray, my, rqy, by omega, by go_num, HYD, HYC, HHY, HBV⟩ | ((repeat apply Exists.intro); exact ⟨⟨j + 1, Y, nay, ny, nqy, ray, my, rqy, by omega, by go_num, HYD, HYC, HHY, HBV⟩, rfl⟩))
                case measure => simp [intOf]; omega
              · go_wp2_with fail
                go_roundw
                case rel => (first | exact ⟨j + 1, x, nax, nx, nqx, rax, mx, rqx, by omega, by go_num, HXU, HXW, Lib.hid ⟨HXH.out.1, by have := HXH.out.2; omega⟩, HBU⟩ | ((repeat apply Exists.intro); exact ⟨⟨j + 1, x, nax, nx, nqx, rax, mx, rqx, by omega, by go_num, HXU, HXW, Lib.hid ⟨HXH.out.1, by have := HXH.out.2; omega⟩, HBU⟩, rfl⟩))
                case measure => simp [intOf]; omega)
      · have hexit : decide (j < al) = false ∨ decide (j < al) = true ∧ decide ((j : Int) < 12) = false := by
          by_cases h : j < al
          · right; exact ⟨by simp; omega, by simp; omega⟩
          · left; simp; omega
        have hxr := HXH.out.1.1
        have hxs : gsm x := gsm_right hxr (by have := HXH.out.2; omega)
        have HGET := Lib.hid (has_get HXH.out.1)
        have c0 : wr.cell? ⟨GX, 0, none⟩ = some (.slice nax nx nqx) := HXR.out.cell rfl
        have c1 : wr.cell? ⟨GX, 1, none⟩ = some (.slice rax mx rqx) := HXR.out.cell rfl
        rcases hexit with he1 | ⟨he1, he2⟩
        all_goals (
          go_wp2_with fail
          refine (C.act HXA.out hxs 3 0 (b : Int) (k : Int) 0 0 0 0 (ibL (by omega)) (ibL (by omega)) (ibL (by omega)) (ibL (by omega)) (ibL (by omega)) (ibL (by omega)) (by decide) rfl v (v : Int) x 0 HGET.out rfl).mono ?_
          rintro e W9 ⟨nay, ny, nqy, ray, my, rqy, rfl, hY, hb⟩
          have HBF := Lib.hid (bt HBR.out (ba hb (.cells #[.slice nay ny nqy, .slice ray my rqy] 25)))
          clear hb hY c0 c1
          go_wp2_with fail
          go_ret
          exact ⟨rfl, HBF.out⟩)
  · go_wp2_with fail
    go_ret
    exact ⟨rfl, HB3.out⟩
end Go.Proofs.Ytjoacfjbdpmgpaa.V
