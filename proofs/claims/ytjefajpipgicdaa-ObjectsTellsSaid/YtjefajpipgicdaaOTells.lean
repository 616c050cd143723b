/-
  ObjectsTells, walked under what is asked of the program's functions.
-/
import Derived.Test.YtjefajpipgicdaaOLawTells
import Derived.Test.YtjefajpipgicdaaMover
set_option linter.unusedVariables false
namespace Go.Proofs.Ytjefajpipgicdaa.V
open Go.RowKit

set_option maxRecDepth 100000 in
set_option maxHeartbeats 4000000 in
theorem objectsTells_try (C : ObjC) (a0 aL aS aO aQ : Option Addr) (c0 cL cS cO cQ n0 nL nS nO nQ : Nat) (zs : List Nat) (l : List RawV) (which : Int) (x : Nat) (shs : List Shp) (ods : List Ob) (S0 P0 : Int) (qs : List Nat) (w : World)
    (h0 : zs.length = n0) (h0v : ∀ v ∈ zs, v < 2 ^ 64) (h0u : Us w a0 zs) (h0c : n0 ≤ c0) (h0m : c0 ≤ 9223372036854775807) (h0n : a0 = none → c0 = 0)
    (hn : l.length = nL) (hok : ∀ r ∈ l, r.ok w) (hR : Rw rc 4 w aL l) (b0 : -9223372036854775808 ≤ which) (b1 : which ≤ 9223372036854775807) (hx : x < 2 ^ 64)
    (hS : shs.length = nS) (hSr : Rw sc 2 w aS shs) (hSc : nS ≤ cS) (hSm : cS ≤ 9223372036854775807) (hSn : aS = none → cS = 0)
    (hO : ods.length = nO) (hOr : Rw oc 5 w aO ods) (hOc : nO ≤ cO) (hOm : cO ≤ 9223372036854775807) (hOn : aO = none → cO = 0)
    (s0 : -9223372036854775808 ≤ S0) (s1 : S0 ≤ 9223372036854775807) (p0 : -9223372036854775808 ≤ P0) (p1 : P0 ≤ 9223372036854775807)
    (hQ : qs.length = nQ) (hQv : ∀ v ∈ qs, v < 2 ^ 64) (hQu : Us w aQ qs) (hQc : nQ ≤ cQ) (hQm : cQ ≤ 9223372036854775807) (hQn : aQ = none → cQ = 0) :
    Calls Try.prog 3 #[.slice a0 n0 c0, .slice aL nL cL, .int .i64 which, .int .u64 x, .slice aS nS cS, .slice aO nO cO, .agg #[.int .i64 S0, .int .i64 P0], .slice aQ nQ cQ] w fun e w' => e = .returned (.bool true) ∧ Below w.heap.size w w' := by
  have IHw := Lib.hid (fun old w' (hb : Below w.heap.size w w') => words_try aL cL nL l old w' hn (fun r hr => (hok r hr).below (Nat.le_refl _) hb) (hR.below (Nat.le_refl _) hb))
  obtain ⟨i0, hi0⟩ : ∃ its, rawIts false (l.take 8) = its := ⟨_, rfl⟩
  obtain ⟨i1, hi1⟩ : ∃ its, rawIts true (l.take 8) = its := ⟨_, rfl⟩
  have hio0 : ∀ i ∈ i0, i.ok := hi0 ▸ rawIts_ok false _
  have hio1 : ∀ i ∈ i1, i.ok := hi1 ▸ rawIts_ok true _
  have hil0 : i0.length ≤ 8 := by rw [← hi0, rawIts_len, List.length_take]; omega
  have hil1 : i1.length ≤ 8 := by rw [← hi1, rawIts_len, List.length_take]; omega
  have IHf := Lib.hid (IHw.out false)
  have IHt := Lib.hid (IHw.out true)
  rw [hi0] at IHf
  rw [hi1] at IHt
  have hwl0 := itWords_lt i0 hio0
  have hwl1 := itWords_lt i1 hio1
  have hsl0 := itShapes_le i0
  have hsl1 := itShapes_le i1
  have hv0 : ∀ v ∈ itWords i0, v < 2 ^ 64 := itWords_u64' l false hok hi0
  have hv1 : ∀ v ∈ itWords i1, v < 2 ^ 64 := itWords_u64' l true hok hi1
  obtain ⟨m0, hm0⟩ : ∃ m, (itWords i0).length = m := ⟨_, rfl⟩
  obtain ⟨m1, hm1⟩ : ∃ m, (itWords i1).length = m := ⟨_, rfl⟩
  obtain ⟨g0, hg0⟩ : ∃ m, (itShapes i0).length = m := ⟨_, rfl⟩
  obtain ⟨g1, hg1⟩ : ∃ m, (itShapes i1).length = m := ⟨_, rfl⟩
  rw [hm0] at hwl0
  rw [hm1] at hwl1
  rw [hg0] at hsl0
  rw [hg1] at hsl1
  have HM0 := Lib.hid hm0
  have HM1 := Lib.hid hm1
  have HG0 := Lib.hid hg0
  have HG1 := Lib.hid hg1
  have HV0 := Lib.hid hv0
  have HV1 := Lib.hid hv1
  have HZ := Lib.hid (And.intro h0 (And.intro h0v (And.intro h0u h0n)))
  have HS := Lib.hid (And.intro hS (And.intro hSr hSn))
  have HO := Lib.hid (And.intro hO (And.intro hOr hOn))
  have HQ := Lib.hid (And.intro hQ (And.intro hQv (And.intro hQu hQn)))
  obtain ⟨nf, hnf⟩ : ∃ k, min nS 6 = k := ⟨_, rfl⟩
  obtain ⟨nz, hnz⟩ : ∃ k, min n0 30 = k := ⟨_, rfl⟩
  obtain ⟨no, hno⟩ : ∃ k, min nO 6 = k := ⟨_, rfl⟩
  obtain ⟨nq, hnq⟩ : ∃ k, min nQ 9 = k := ⟨_, rfl⟩
  have hminO : min (nO : Int) 6 = (no : Int) := by omega
  have hminQ : min (nQ : Int) 9 = (nq : Int) := by omega
  have hno2 : no ≤ nO ∧ no ≤ 6 := by omega
  have hnq2 : nq ≤ nQ ∧ nq ≤ 9 := by omega
  obtain ⟨kq, hkq, hkq2⟩ := pk_nat P0 ((nq : Int) + 1) (by omega)
  have HKQ := Lib.hid hkq
  have hminS : min (nS : Int) 6 = (nf : Int) := by omega
  have hmin0 : min (n0 : Int) 30 = (nz : Int) := by omega
  have hnf2 : nf ≤ nS ∧ nf ≤ 6 := by omega
  have hnz2 : nz ≤ n0 ∧ nz ≤ 30 := by omega
  have hm02 : m0 ≤ 2048 := by omega
  have hm12 : m1 ≤ 2048 := by omega
  have hg02 : g0 ≤ 8 := by omega
  have hg12 : g1 ≤ 8 := by omega
  clear IHw hi0 hi1 hio0 hio1 hil0 hil1 hwl0 hwl1 hsl0 hsl1 hv0 hv1 hm0 hm1 hg0 hg1 h0 h0v h0u h0n hS hSr hSn hO hOr hOn hQ hQv hQu hQn hnf hnz hno hnq hkq hn hok hR
  generalize itWords i0 = W0 at *
  generalize itWords i1 = W1 at *
  generalize itShapes i0 = G0 at *
  generalize itShapes i1 = G1 at *
  go_enter Try.func3, Try.ntmps3
  go_wp2_with fail
  refine (awake06 C _).mono ?_
  rintro e w1 ⟨rfl, hb1⟩
  have HB1 := Lib.hid (bt (ba0 w (.cells #[.int .i64 S0, .int .i64 P0] 28)) hb1)
  have HA1 := Lib.hid ((ShAt.new w S0 P0).below hb1)
  clear hb1
  go_wp2_with fail
  refine (IHf.out _ HB1.out).mono ?_
  rintro e w2 ⟨v1, v2, rfl, ho1, ho2, hb2⟩
  obtain ⟨a1, c1, rfl, hu1, hl1, hcm1, hn1⟩ := OwnU.out ho1 HM0.out
  obtain ⟨a2, c2, rfl, hs2, hl2, hcm2, hn2⟩ := OwnR.out sc_len ho2 HG0.out
  have HU2 := Lib.hid (And.intro hu1 hn1)
  have HS2 := Lib.hid (And.intro hs2 hn2)
  have HB2 := Lib.hid (bt HB1.out hb2)
  have HA2 := Lib.hid (HA1.out.below hb2)
  clear ho1 ho2 hu1 hn1 hs2 hn2 hb2 HB1 HA1
  go_wp2_with fail
  refine (IHt.out _ HB2.out).mono ?_
  rintro e w3 ⟨v3, v4, rfl, ho3, ho4, hb3⟩
  obtain ⟨a3, c3, rfl, hu3, hl3, hcm3, hn3⟩ := OwnU.out ho3 HM1.out
  obtain ⟨a4, c4, rfl, hs4, hl4, hcm4, hn4⟩ := OwnR.out sc_len ho4 HG1.out
  have HU3 := Lib.hid (And.intro hu3 hn3)
  have HS3 := Lib.hid (And.intro hs4 hn4)
  have HX3 := Lib.hid (HU2.out.1.below (Nat.le_refl _) hb3)
  have HY3 := Lib.hid (HS2.out.1.below (Nat.le_refl _) hb3)
  have HB3 := Lib.hid (bt HB2.out hb3)
  have HA3 := Lib.hid (HA2.out.below hb3)
  clear ho3 ho4 hu3 hn3 hs4 hn4 hb3 HB2 HA2
  go_wp2_with (at_builtin; refine wp_append_us _ (by rfl) (.const (.slice none 0 0)) (.tmp 61) rfl rfl w3.heap.size _ [] W1 rfl ⟨rfl, Or.inl ⟨rfl, rfl⟩⟩ a3 m1 c3 rfl HM1.out HU3.out.1 HU3.out.2 ?_ (Nat.le_refl _) ?_)
  · simp; omega
  · intro v5 w5 hown5 hgrow5
    have hb5 := grown_nil (Below.refl w3.heap.size w3) hgrow5
    have hown5' : OwnU w5 w3.heap.size v5 W1 := by simpa using hown5
    by_cases hm10 : m1 = 0
    · obtain ⟨aT, cT, rfl, huT, hlT, hcT, hnT⟩ := OwnU.out hown5' HM1.out
      have d0 : decide (0 < m1) = false := by simp; omega
      have HBc := Lib.hid hb5
      have HTD : Hid (W1.length = m1 ∧ (∀ v ∈ W1, v < 2 ^ 64) ∧ Us w5 aT W1 ∧ m1 ≤ cT ∧ cT ≤ 9223372036854775807 ∧ (aT = none → cT = 0)) := Lib.hid ⟨HM1.out, HV1.out, huT, hlT, hcT, hnT⟩
      clear hown5 hown5' hgrow5 hb5 huT hnT hm10
      have HBl : Hid (Below w3.heap.size w3 (w5.alloc (.cells #[.slice a0 nz c0, .slice a1 m0 c1, .slice a3 m1 c3, .slice aT m1 cT] 22))) := Lib.hid (ba HBc.out _)
      have HBw := Lib.hid (bt HB3.out HBl.out)
      obtain ⟨L4, hL4⟩ : ∃ L4 : List SlU, L4 = [⟨a0, nz, c0, zs.take nz⟩, ⟨a1, m0, c1, W0⟩, ⟨a3, m1, c3, W1⟩, ⟨aT, m1, cT, W1⟩] := ⟨_, rfl⟩
      have HL4 : Hid (Rw suc 1 (w5.alloc (.cells #[.slice a0 nz c0, .slice a1 m0 c1, .slice a3 m1 c3, .slice aT m1 cT] 22)) (some ⟨w5.heap.size, 0, none⟩) L4) := Lib.hid (by rw [hL4]; exact rw_litAt suc_len _ _ _ _ (by simp))
      have HK4 : Hid (∀ y ∈ L4, y.ok (w5.alloc (.cells #[.slice a0 nz c0, .slice a1 m0 c1, .slice a3 m1 c3, .slice aT m1 cT] 22))) := Lib.hid (by
        rw [hL4]
        intro y hy
        simp only [List.mem_cons, List.mem_nil_iff, or_false] at hy
        rcases hy with rfl | rfl | rfl | rfl
        · exact SlU.mkOk (by rw [List.length_take, HZ.out.1]; omega) (by omega) (fun v hv => HZ.out.2.1 v (List.mem_of_mem_take hv)) ((HZ.out.2.2.1.take nz).below (Nat.le_refl _) HBw.out) (by omega) h0m HZ.out.2.2.2
        · exact SlU.mkOk HM0.out (by omega) HV0.out (HX3.out.below (Nat.le_refl _) HBl.out) hl1 hcm1 HU2.out.2
        · exact SlU.mkOk HM1.out (by omega) HV1.out (HU3.out.1.below (Nat.le_refl _) HBl.out) hl3 hcm3 HU3.out.2
        · exact SlU.mkOk HTD.out.1 (by omega) HTD.out.2.1 (HTD.out.2.2.1.below (Nat.le_refl _) (ba0 _ _)) HTD.out.2.2.2.1 HTD.out.2.2.2.2.1 HTD.out.2.2.2.2.2)
      have HE4 : Hid (L4.length = 4) := Lib.hid (by rw [hL4]; rfl)
      have HY4 := Lib.hid (HY3.out.below (Nat.le_refl _) HBl.out)
      have HS4 := Lib.hid (HS3.out.1.below (Nat.le_refl _) HBl.out)
      have HA4 := Lib.hid (HA3.out.below HBl.out)
      clear HBl HTD hL4 HBc
      go_wp2_with fail
      generalize (w5.alloc (.cells #[.slice a0 nz c0, .slice a1 m0 c1, .slice a3 m1 c3, .slice aT m1 cT] 22)) = w6 at HL4 HK4 HY4 HS4 HA4 HBw ⊢
      generalize hG5 : w5.heap.size = G5 at *
      clear hG5
      go_loopw [88] (fun i wr => ∃ t : Nat, t ≤ 4 ∧ i = .int .i64 t ∧ Below w6.heap.size w6 wr) (fun i _ => 4 - (intOf i).toNat)
      case atStart => exact ⟨0, by omega, rfl, Below.refl _ _⟩
      case round =>
        obtain ⟨t, ht, rfl, hbel⟩ := hrel
        by_cases ht4 : t < 4
        · obtain ⟨y, hy⟩ : ∃ y, L4[t]? = some y := ⟨_, List.getElem?_eq_getElem (by have := HE4.out; omega)⟩
          obtain ⟨b, off, he, hbb, hc⟩ := HL4.out t y hy
          cases he
          have hz := cell_step hbel hbb (hc 0 _ rfl)
          simp only [Nat.zero_add, Nat.mul_one, Nat.add_zero] at hz
          have hyk := (HK4.out y (List.mem_of_getElem? hy)).below (Nat.le_refl _) hbel
          obtain ⟨ya, yn, yc, yw⟩ := y
          obtain ⟨⟨e1, e2, e3⟩, e4, e5, e6, e7⟩ := hyk
          simp only at e1 e2 e3 e4 e5 e6 e7 hz
          have HE1 := Lib.hid e1
          have HE3 := Lib.hid e3
          have HE4' := Lib.hid e4
          have HE7 := Lib.hid e7
          obtain ⟨L, E, hLE⟩ : ∃ L E, walkL yw [] false = (L, E) := ⟨_, _, rfl⟩
          have hLn := walkL_len hLE
          rw [e1] at hLn
          have HLE := Lib.hid hLE
          have HBE := Lib.hid hbel
          have ht4' : (t : Int) < 4 := by omega
          have dEE : ((E : Int) != (E : Int)) = false := by simp
          clear hy hc e1 e3 e4 e7 hLE hbel
          go_wp2_with fail
          refine (C.walk ya yc yn yw L E _ HE1.out (by omega) HE3.out HE4'.out e5 e6 HE7.out HLE.out).mono ?_
          rintro e w7 ⟨v7, rfl, ho7, hb7⟩
          obtain ⟨a7, c7, rfl, hr7, hl7, hm7, hn7⟩ := OwnR.out oc_len ho7 rfl
          have HR7 := Lib.hid hr7
          have HU7 := Lib.hid (HE4'.out.below (Nat.le_refl _) hb7)
          have HB7 := Lib.hid (bt HBE.out hb7)
          clear ho7 hr7 hn7 hb7 HE4' HBE hz
          go_wp2_with fail
          refine (refWalk ya yc yn yw L E _ HE1.out (by omega) HE3.out HU7.out e5 e6 HLE.out).mono ?_
          rintro e w8 ⟨v8, rfl, ho8, hb8⟩
          obtain ⟨a8, c8, rfl, hr8, hl8, hm8, hn8⟩ := OwnR.out oc_len ho8 rfl
          have HR8 := Lib.hid (HR7.out.below (Nat.le_refl _) hb8)
          have HQ8 := Lib.hid hr8
          have HU8 := Lib.hid (HU7.out.below (Nat.le_refl _) hb8)
          have HB8 := Lib.hid (bt HB7.out hb8)
          clear ho8 hr8 hn8 hb8 HR7 HU7 HB7
          go_wp2_with fail
          refine (sameObs _ _ _ _ L.length L.length L L _ rfl rfl (by omega) (by omega) HR8.out HQ8.out).mono ?_
          rintro e w9 ⟨rfl, hb9⟩
          rw [show decide (L = L) = true from by simp]
          have HU9 := Lib.hid (HU8.out.below (Nat.le_refl _) hb9)
          have HB9 := Lib.hid (bt HB8.out hb9)
          have HY9 := Lib.hid (HY4.out.below (Nat.le_refl _) HB9.out)
          have HS9 := Lib.hid (HS4.out.below (Nat.le_refl _) HB9.out)
          have HBV := Lib.hid (bt HBw.out HB9.out)
          have HF9 := Lib.hid ((HS.out.2.1.take nf).below (Nat.le_refl _) HBV.out)
          have HFL : Hid ((shs.take nf).length = nf) := Lib.hid (by rw [List.length_take, HS.out.1]; omega)
          clear hb9 HR8 HQ8 HU8 HB8
          go_wp2_with (at_builtin; refine wp_append_rows 28 25 _ 16 info_sh Try.underlying25 rfl (by decide) (by decide) sc_len sc_one _ rfl (.const (.slice none 0 0)) (.tmp 114) rfl rfl w9.heap.size _ [] G1 rfl (OwnR.nil _ _ _) a4 g1 c4 rfl HG1.out HS9.out HS3.out.2 ?_ (Nat.le_refl _) ?_)
          · simp; omega
          · intro v10 w10 hown10 hgrow10
            have hb10 := grown_nil (Below.refl w9.heap.size w9) hgrow10
            have HO10 := Lib.hid hown10
            have HBX := Lib.hid hb10
            have HF10 := Lib.hid (HF9.out.below (Nat.le_refl _) hb10)
            have hsz := hb10.size
            clear hown10 hgrow10 hb10
            go_wp2_with (at_builtin; refine wp_append_rows 28 25 _ 16 info_sh Try.underlying25 rfl (by decide) (by decide) sc_len sc_one _ rfl (.tmp 115) (.tmp 116) rfl rfl w9.heap.size _ G1 (shs.take nf) rfl HO10.out aS nf cS rfl HFL.out HF10.out HS.out.2.2 ?_ hsz ?_)
            · have := HG1.out; omega
            · intro v11 w11 hown11 hgrow11
              have hb11 := OwnR.below HO10.out HBX.out (Nat.le_refl _) hgrow11
              obtain ⟨aA, cA, rfl, hsA, hlA, hcA, hnA⟩ := OwnR.out sc_len (n := g1 + nf) hown11 (by rw [List.length_append, HG1.out, HFL.out])
              have HBl : Hid (Below w9.heap.size w9 (w11.alloc (.cells #[.slice aS nf cS, .slice a4 g1 c4, .slice a2 g0 c2, .slice aA (g1 + nf) cA] 25))) := Lib.hid (ba hb11 _)
              obtain ⟨M4, hM4⟩ : ∃ M4 : List SlS, M4 = [⟨aS, nf, cS, shs.take nf⟩, ⟨a4, g1, c4, G1⟩, ⟨a2, g0, c2, G0⟩, ⟨aA, g1 + nf, cA, G1 ++ shs.take nf⟩] := ⟨_, rfl⟩
              have HMR : Hid (Rw ssc 1 (w11.alloc (.cells #[.slice aS nf cS, .slice a4 g1 c4, .slice a2 g0 c2, .slice aA (g1 + nf) cA] 25)) (some ⟨w11.heap.size, 0, none⟩) M4) := Lib.hid (by rw [hM4]; exact rw_litAt ssc_len _ _ _ _ rfl)
              have HMK : Hid (∀ y ∈ M4, y.ok (w11.alloc (.cells #[.slice aS nf cS, .slice a4 g1 c4, .slice a2 g0 c2, .slice aA (g1 + nf) cA] 25))) := Lib.hid (by
                rw [hM4]
                intro y hy
                simp only [List.mem_cons, List.mem_nil_iff, or_false] at hy
                rcases hy with rfl | rfl | rfl | rfl
                · exact SlS.mkOk HFL.out (by omega) (HF9.out.below (Nat.le_refl _) HBl.out) (by omega) hSm HS.out.2.2
                · exact SlS.mkOk HG1.out (by omega) (HS9.out.below (Nat.le_refl _) HBl.out) hl4 hcm4 HS3.out.2
                · exact SlS.mkOk HG0.out (by omega) (HY9.out.below (Nat.le_refl _) HBl.out) hl2 hcm2 HS2.out.2
                · exact SlS.mkOk (by rw [List.length_append, HG1.out, HFL.out]) (by omega) (hsA.below (Nat.le_refl _) (ba0 _ _)) hlA hcA hnA)
              have HME : Hid (M4.length = 4) := Lib.hid (by rw [hM4]; rfl)
              have HU12 := Lib.hid (HU9.out.below (Nat.le_refl _) HBl.out)
              have HB12 := Lib.hid (bt HB9.out HBl.out)
              have HV12 := Lib.hid (bt HBw.out HB12.out)
              clear HBl hM4 hb11 hgrow11 hown11 hsA hnA HO10 HBX HF10 HF9 HFL HY9 HS9 HBV HU9 HB9 hsz
              go_wp2_with fail
              generalize (w11.alloc (.cells #[.slice aS nf cS, .slice a4 g1 c4, .slice a2 g0 c2, .slice aA (g1 + nf) cA] 25)) = w12 at HMR HMK HU12 HB12 HV12 ⊢
              generalize w11.heap.size = G11 at *
              go_loopw [120] (fun i wr => ∃ u : Nat, u ≤ 4 ∧ i = .int .i64 u ∧ Below w12.heap.size w12 wr) (fun i _ => 4 - (intOf i).toNat)
              case atStart => exact ⟨0, by omega, rfl, Below.refl _ _⟩
              case round =>
                obtain ⟨u, hu, rfl, hbel⟩ := hrel
                by_cases hu4 : u < 4
                · obtain ⟨y, hy⟩ : ∃ y, M4[u]? = some y := ⟨_, List.getElem?_eq_getElem (by have := HME.out; omega)⟩
                  obtain ⟨b, off, he, hbb, hc⟩ := HMR.out u y hy
                  cases he
                  have hz := cell_step hbel hbb (hc 0 _ rfl)
                  simp only [Nat.zero_add, Nat.mul_one, Nat.add_zero] at hz
                  have hyk := (HMK.out y (List.mem_of_getElem? hy)).below (Nat.le_refl _) hbel
                  obtain ⟨sa, sn, scp, sh⟩ := y
                  obtain ⟨⟨f1, f2⟩, f4, f5, f6, f7⟩ := hyk
                  simp only at f1 f2 f4 f5 f6 f7 hz
                  have HF1 := Lib.hid f1
                  have HF4 := Lib.hid f4
                  have HF7 := Lib.hid f7
                  obtain ⟨L2, E2, hL2⟩ : ∃ L2 E2, walkL yw sh true = (L2, E2) := ⟨_, _, rfl⟩
                  have hLn2 := walkL_len hL2
                  rw [HE1.out] at hLn2
                  obtain ⟨K2, E3, hK2⟩ : ∃ K2 E3, kindsL yn L2 = (K2, E3) := ⟨_, _, rfl⟩
                  have hKn2 := kindsL_len hK2
                  have HL2 := Lib.hid hL2
                  have HK2 := Lib.hid hK2
                  have HU13 := Lib.hid (HU12.out.below (Nat.le_refl _) hbel)
                  have HB13 := Lib.hid hbel
                  have hu4' : (u : Int) < 4 := by omega
                  have d2 : ((E2 : Int) != (E2 : Int)) = false := by simp
                  have d3 : ((E3 : Int) != (E3 : Int)) = false := by simp
                  clear hy hc f1 f4 f7 hL2 hK2 hbel
                  go_wp2_with fail
                  refine (C.old ya sa yc scp yn sn yw sh L2 E2 _ HE1.out HF1.out (by omega) (by omega) HE3.out HU13.out HF4.out e5 e6 f5 f6 HE7.out HF7.out HL2.out).mono ?_
                  rintro e w14 ⟨v14, rfl, ho14, hb14⟩
                  obtain ⟨a14, c14, rfl, hr14, hl14, hm14, hn14⟩ := OwnR.out oc_len ho14 rfl
                  have HR14 := Lib.hid hr14
                  have HU14 := Lib.hid (HU13.out.below (Nat.le_refl _) hb14)
                  have HF14 := Lib.hid (HF4.out.below (Nat.le_refl _) hb14)
                  have HB14 := Lib.hid (bt HB13.out hb14)
                  clear ho14 hr14 hn14 hb14 HU13 HF4 HB13 hz
                  go_wp2_with fail
                  refine (refWalkOld ya sa yc scp yn sn yw sh L2 E2 _ HE1.out HF1.out (by omega) (by omega) HE3.out HU14.out HF14.out e5 e6 HL2.out).mono ?_
                  rintro e w15 ⟨v15, rfl, ho15, hb15⟩
                  obtain ⟨a15, c15, rfl, hr15, hl15, hm15, hn15⟩ := OwnR.out oc_len ho15 rfl
                  have HR15 := Lib.hid (HR14.out.below (Nat.le_refl _) hb15)
                  have HQ15 := Lib.hid hr15
                  have HB15 := Lib.hid (bt HB14.out hb15)
                  clear ho15 hr15 hn15 hb15 HU14 HF14 HB14 HR14
                  go_wp2_with fail
                  refine (C.kinds ya a15 yc c15 yn L2.length L2 K2 E3 _ rfl (by omega) (by omega) HQ15.out HK2.out).mono ?_
                  rintro e w16 ⟨v16, rfl, ho16, hb16⟩
                  obtain ⟨a16, c16, rfl, hr16, hl16, hm16, hn16⟩ := OwnR.out ic_len ho16 rfl
                  have HR16 := Lib.hid (HR15.out.below (Nat.le_refl _) hb16)
                  have HQ16 := Lib.hid (HQ15.out.below (Nat.le_refl _) hb16)
                  have HK16 := Lib.hid hr16
                  have HB16 := Lib.hid (bt HB15.out hb16)
                  clear ho16 hr16 hn16 hb16 HB15 HR15 HQ15
                  go_wp2_with fail
                  refine (refKinds ya a15 yc c15 yn L2.length L2 K2 E3 _ rfl (by omega) (by omega) HQ16.out HK2.out).mono ?_
                  rintro e w17 ⟨v17, rfl, ho17, hb17⟩
                  obtain ⟨a17, c17, rfl, hr17, hl17, hm17, hn17⟩ := OwnR.out ic_len ho17 rfl
                  have HR17 := Lib.hid (HR16.out.below (Nat.le_refl _) hb17)
                  have HQ17 := Lib.hid (HQ16.out.below (Nat.le_refl _) hb17)
                  have HK17 := Lib.hid (HK16.out.below (Nat.le_refl _) hb17)
                  have HJ17 := Lib.hid hr17
                  have HB17 := Lib.hid (bt HB16.out hb17)
                  clear ho17 hr17 hn17 hb17 HB16 HR16 HQ16 HK16
                  go_wp2_with fail
                  refine (sameObs _ _ _ _ L2.length L2.length L2 L2 _ rfl rfl (by omega) (by omega) HR17.out HQ17.out).mono ?_
                  rintro e w18 ⟨rfl, hb18⟩
                  rw [show decide (L2 = L2) = true from by simp]
                  have HK18 := Lib.hid (HK17.out.below (Nat.le_refl _) hb18)
                  have HJ18 := Lib.hid (HJ17.out.below (Nat.le_refl _) hb18)
                  have HB18 := Lib.hid (bt HB17.out hb18)
                  clear hb18 HB17 HR17 HQ17 HK17 HJ17
                  go_wp2_with fail
                  refine (ints_any _ _ _ _ K2.length K2.length K2 K2 _ rfl rfl (by omega) (by omega) HK18.out HJ18.out).mono ?_
                  rintro e w19 ⟨rfl, hb19⟩
                  rw [show decide (K2 = K2) = true from by simp]
                  have HB19 := Lib.hid (bt HB18.out hb19)
                  clear hb19 HB18 HK18 HJ18
                  go_wp2_with fail
                  go_roundw
                  case rel => exact ⟨u + 1, by omega, by go_num, HB19.out⟩
                  case measure => simp [intOf]; omega
                · obtain rfl : u = 4 := by omega
                  have HU20 := Lib.hid (HU12.out.below (Nat.le_refl _) hbel)
                  have HB20 := Lib.hid (bt HB12.out hbel)
                  have HV20 := Lib.hid (bt HV12.out hbel)
                  have HOd := Lib.hid ((HO.out.2.1.take no).below (Nat.le_refl _) HV20.out)
                  have HOn : Hid ((ods.take no).length = no) := Lib.hid (by rw [List.length_take, HO.out.1]; omega)
                  obtain ⟨K5, E5, hK5⟩ : ∃ K5 E5, kindsL yn (ods.take no) = (K5, E5) := ⟨_, _, rfl⟩
                  have hKn5 := kindsL_len hK5
                  have HK5 := Lib.hid hK5
                  have d5 : ((E5 : Int) != (E5 : Int)) = false := by simp
                  have j1 : (no : Int) ≤ (cO : Int) := by omega
                  have j2 : no ≤ cO := by omega
                  clear hK5 hbel HU12 HB12 HV12
                  go_wp2_with fail
                  refine (C.kinds ya aO yc cO yn no (ods.take no) K5 E5 _ HOn.out (by omega) (by omega) HOd.out HK5.out).mono ?_
                  rintro e w21 ⟨v21, rfl, ho21, hb21⟩
                  obtain ⟨a21, c21, rfl, hr21, hl21, hm21, hn21⟩ := OwnR.out ic_len ho21 rfl
                  have HK21 := Lib.hid hr21
                  have HOe := Lib.hid (HOd.out.below (Nat.le_refl _) hb21)
                  have HB21 := Lib.hid (bt HB20.out hb21)
                  clear ho21 hr21 hn21 hb21 HB20 HU20 HOd HV20
                  go_wp2_with fail
                  refine (refKinds ya aO yc cO yn no (ods.take no) K5 E5 _ HOn.out (by omega) (by omega) HOe.out HK5.out).mono ?_
                  rintro e w22 ⟨v22, rfl, ho22, hb22⟩
                  obtain ⟨a22, c22, rfl, hr22, hl22, hm22, hn22⟩ := OwnR.out ic_len ho22 rfl
                  have HK22 := Lib.hid (HK21.out.below (Nat.le_refl _) hb22)
                  have HJ22 := Lib.hid hr22
                  have HB22 := Lib.hid (bt HB21.out hb22)
                  clear ho22 hr22 hn22 hb22 HB21 HK21 HOe
                  go_wp2_with fail
                  refine (ints_any _ _ _ _ K5.length K5.length K5 K5 _ rfl rfl (by omega) (by omega) HK22.out HJ22.out).mono ?_
                  rintro e w23 ⟨rfl, hb23⟩
                  rw [show decide (K5 = K5) = true from by simp]
                  have HB23 := Lib.hid (bt HB22.out hb23)
                  clear hb23 HB22 HK22 HJ22
                  go_wp2_with fail
                  go_roundw
                  case rel => exact ⟨t + 1, by omega, by go_num, HB23.out⟩
                  case measure => simp [intOf]; omega
        · obtain rfl : t = 4 := by omega
          have HA24 := Lib.hid (HA4.out.below hbel)
          have HV24 := Lib.hid (bt HBw.out hbel)
          have HKE : Hid (∀ w' : World, Below wr.heap.size wr w' → w'.cell? ⟨w.heap.size, 0, none⟩ = some (.int .i64 S0) ∧ w'.cell? ⟨w.heap.size, 1, none⟩ = some (.int .i64 P0)) := Lib.hid fun w' h => ⟨(HA24.out.below h).c0, (HA24.out.below h).c1⟩
          clear hbel HL4 HK4 HE4 HY4 HS4 HA4 HBw
          go_wp2_with fail
          have hk0 : ∀ x : GW wr, x.w'.cell? ⟨w.heap.size, 0, none⟩ = some (.int .i64 S0) := fun x => (HKE.out x.w' x.h).1
          have hk1 : ∀ x : GW wr, x.w'.cell? ⟨w.heap.size, 1, none⟩ = some (.int .i64 P0) := fun x => (HKE.out x.w' x.h).2
          have hl1 : Hid (∀ w', (∃ z : GW wr, w' = z.w') → w'.cell? ⟨w.heap.size, 0, none⟩ = some (.int .i64 S0) ∧ w'.cell? ⟨w.heap.size, 0 + 1, none⟩ = some (.int .i64 P0)) := Lib.hid (by
            rintro _ ⟨z, rfl⟩
            exact HKE.out z.w' z.h)
          refine wp_region_mover [0, 1, 2, 3, 4, 5, 6, 7, 8, 9, 10, 11, 14] 12 [13] _ (fun w' => ∃ x : GW wr, w' = x.w') (by kernel_rfl) (by kernel_rfl) rfl ⟨⟨_, (Below.refl _ wr).drew⟩, rfl⟩ ?_
          simp only [opsAt, List.filterMap_cons, List.filterMap_nil, List.getElem?_toArray, List.getElem?_cons_succ, List.getElem?_cons_zero, List.getElem_toArray, List.getElem_cons_succ, List.getElem_cons_zero]
          refine wpQ_load_sh (by rfl) (.tmp 14) rfl w.heap.size 0 rfl S0 P0 hl1.out ?_
          simp [Act.put]
          show wpQuiet _ _ _ _ [_, _, _, _, _, _, _, _, _, _, _, _] _
          repeat (go_big_quiet_step ((go_at_call 11; exact grow_same (pick06_int P0 ((nq : Int) + 1) kq _ p0 p1 (by omega) (by omega) HKQ.out))))
          refine wpQuiet_nil ?_
          rintro ⟨W1, hz1⟩
          have HZ1 := Lib.hid (bt HV24.out hz1)
          show wpList _ _ _ [_] _ W1
          clear hz1 hl1 hk0 hk1 HKE HA24 HV24
          go_wp2_with fail
          show wpQuiet _ _ _ _ [_] _
          repeat (go_big_quiet_step ((fail)))
          refine wpQuiet_nil ?_
          dsimp only [Exit.then]
          have HZ2 := Lib.hid (ba HZ1.out (.cells #[.int .i64 S0, .int .i64 P0, .int .i64 (nq : Int), .int .i64 (kq : Int)] 28))
          obtain ⟨T2, hT2⟩ : ∃ T2 : List Shp, T2 = [(S0, P0), ((nq : Int), (kq : Int))] := ⟨_, rfl⟩
          have HT2 : Hid (Rw sc 2 (W1.alloc (.cells #[.int .i64 S0, .int .i64 P0, .int .i64 (nq : Int), .int .i64 (kq : Int)] 28)) (some ⟨W1.heap.size, 0, none⟩) T2) := Lib.hid (by rw [hT2]; exact rw_litAt sc_len _ _ [(S0, P0), ((nq : Int), (kq : Int))] _ rfl)
          have HE2 : Hid (T2.length = 2) := Lib.hid (by rw [hT2]; rfl)
          clear hT2 HZ1
          generalize W1.alloc (.cells #[.int .i64 S0, .int .i64 P0, .int .i64 (nq : Int), .int .i64 (kq : Int)] 28) = W2 at HZ2 HT2 ⊢
          generalize W1.heap.size = G1 at *
          clear W1
          have HQU := Lib.hid ((HQ.out.2.2.1.take nq).below (Nat.le_refl _) HZ2.out)
          have HQL : Hid ((qs.take nq).length = nq) := Lib.hid (by rw [List.length_take, HQ.out.1]; omega)
          have HQV : Hid (∀ v ∈ qs.take nq, v < 2 ^ 64) := Lib.hid (fun v h => HQ.out.2.1 v (List.mem_of_mem_take h))
          go_wp2_with fail
          go_loopw [213] (fun i wr => ∃ t : Nat, t ≤ 2 ∧ i = .int .i64 t ∧ Hid (Below W2.heap.size W2 wr)) (fun i _ => 2 - (intOf i).toNat)
          case atStart => exact ⟨0, by omega, rfl, Lib.hid (Below.refl _ _)⟩
          case round =>
            obtain ⟨t, ht, rfl, HBT⟩ := hrel
            by_cases ht2 : t < 2
            · obtain ⟨sp, hsp⟩ : ∃ sp, T2[t]? = some sp := ⟨_, List.getElem?_eq_getElem (by have := HE2.out; omega)⟩
              obtain ⟨S, P⟩ := sp
              obtain ⟨b, off, he, hbb, hc0, hc1⟩ := sh_cells (HT2.out.below (Nat.le_refl _) HBT.out) hsp
              cases he
              have ht2' : (t : Int) < 2 := by omega
              simp only [Nat.zero_add] at hc0 hc1
              clear hsp
              go_wp2_with (refine wp_store_sh rfl (.tmp 45) (.tmp 216) rfl wr.heap.size S P rfl rfl (by intro j hj; match j, hj with | 0, _ => simp | 1, _ => simp) (by intro j hj; simp) ?_; intro w5 q1 q2 q3; have hb5 := q3 _ _ (Nat.le_refl _) (ba0 wr _); have hlt5 := (q3 _ _ (Nat.le_refl _) (Below.refl _ _)).size; rw [World.size_alloc] at hlt5; clear q3)
              have hl2 : Hid (∀ w', (∃ z : GW w5, w' = z.w') → w'.cell? ⟨wr.heap.size, 0, none⟩ = some (.int .i64 S) ∧ w'.cell? ⟨wr.heap.size, 0 + 1, none⟩ = some (.int .i64 P)) := Lib.hid (by
                rintro _ ⟨z, rfl⟩
                exact ⟨cell_step z.h hlt5 q1, cell_step z.h hlt5 q2⟩)
              have HB5 := Lib.hid (bt HBT.out hb5)
              obtain ⟨V, E, hVE⟩ : ∃ V E, layL S P (qs.take nq) = (V, E) := ⟨_, _, rfl⟩
              have hVn := layL_len hVE
              rw [HQL.out] at hVn
              have HVE := Lib.hid hVE
              have dEE : ((E : Int) != (E : Int)) = false := by simp
              have jq : nq ≤ cQ := by omega
              have jq1 : (nq : Int) ≤ (cQ : Int) := by omega
              have HQ12 := Lib.hid (And.intro q1 (And.intro q2 hlt5))
              clear hVE hb5 hc0 hc1 hbb q1 q2 hlt5 HBT
              dsimp only [Act.put]
              refine wp_region_mover [0, 1, 2, 3, 4, 5] 6 [7, 8, 9, 10, 11] _ (fun w' => ∃ x : GW w5, w' = x.w') (by kernel_rfl) (by kernel_rfl) rfl ⟨⟨_, (Below.refl _ w5).drew⟩, rfl⟩ ?_
              simp only [opsAt, List.filterMap_cons, List.filterMap_nil, List.getElem?_toArray, List.getElem?_cons_succ, List.getElem?_cons_zero, List.getElem_toArray, List.getElem_cons_succ, List.getElem_cons_zero]
              refine wpQ_load_sh (by rfl) (.tmp 45) rfl wr.heap.size 0 rfl S P hl2.out ?_
              simp [Act.put]
              show wpQuiet _ _ _ _ [_, _, _, _, _] _
              repeat (go_big_quiet_step ((fail)))
              refine wpQuiet_nil ?_
              rintro ⟨w6, hz6⟩
              have HB6 := Lib.hid (bt HB5.out hz6)
              have HU6 := Lib.hid (HQU.out.below (Nat.le_refl _) HB6.out)
              have HC6 := Lib.hid (And.intro (cell_step hz6 HQ12.out.2.2 HQ12.out.1) (And.intro (cell_step hz6 HQ12.out.2.2 HQ12.out.2.1) (Nat.lt_of_lt_of_le HQ12.out.2.2 hz6.size)))
              show wpList _ _ _ [_] _ w6
              clear hz6 hl2 HQ12 HB5
              go_wp2_with fail
              refine (C.lay S P aQ cQ nq (qs.take nq) V E _ HQL.out (by omega) HQV.out HU6.out jq hQm HQ.out.2.2.2 HVE.out).mono ?_
              rintro e w7 ⟨v7, rfl, ho7, hb7⟩
              obtain ⟨a7, c7, rfl, hr7, hl7, hm7, hn7⟩ := OwnU.out ho7 rfl
              have HR7 := Lib.hid hr7
              have HB7 := Lib.hid (bt HB6.out hb7)
              have HU7 := Lib.hid (HU6.out.below (Nat.le_refl _) hb7)
              have HC7 := Lib.hid (And.intro (cell_step hb7 HC6.out.2.2 HC6.out.1) (And.intro (cell_step hb7 HC6.out.2.2 HC6.out.2.1) (Nat.lt_of_lt_of_le HC6.out.2.2 hb7.size)))
              clear ho7 hr7 hn7 hb7 HB6 HU6 HC6
              go_wp2_with fail
              show wpQuiet _ _ _ _ [_, _, _, _, _] _
              repeat (go_big_quiet_step ((fail)))
              refine wpQuiet_nil ?_
              dsimp only [Exit.then]
              have hl3 : Hid (∀ w', (∃ z : GW w7, w' = z.w') → w'.cell? ⟨wr.heap.size, 0, none⟩ = some (.int .i64 S) ∧ w'.cell? ⟨wr.heap.size, 0 + 1, none⟩ = some (.int .i64 P)) := Lib.hid (by
                rintro _ ⟨z, rfl⟩
                exact ⟨cell_step z.h HC7.out.2.2 HC7.out.1, cell_step z.h HC7.out.2.2 HC7.out.2.1⟩)
              go_wp2_with fail
              refine wp_region_mover [0, 1, 2, 3, 4, 5] 6 [7, 8, 9, 10, 11] _ (fun w' => ∃ x : GW w7, w' = x.w') (by kernel_rfl) (by kernel_rfl) rfl ⟨⟨_, (Below.refl _ w7).drew⟩, rfl⟩ ?_
              simp only [opsAt, List.filterMap_cons, List.filterMap_nil, List.getElem?_toArray, List.getElem?_cons_succ, List.getElem?_cons_zero, List.getElem_toArray, List.getElem_cons_succ, List.getElem_cons_zero]
              refine wpQ_load_sh (by rfl) (.tmp 45) rfl wr.heap.size 0 rfl S P hl3.out ?_
              simp [Act.put]
              show wpQuiet _ _ _ _ [_, _, _, _, _] _
              repeat (go_big_quiet_step ((fail)))
              refine wpQuiet_nil ?_
              rintro ⟨w8, hz8⟩
              have HB8 := Lib.hid (bt HB7.out hz8)
              have HU8 := Lib.hid (HU7.out.below (Nat.le_refl _) hz8)
              have HR8 := Lib.hid (HR7.out.below (Nat.le_refl _) hz8)
              show wpList _ _ _ [_] _ w8
              clear hz8 hl3 HC7 HB7 HU7 HR7
              go_wp2_with fail
              refine (refLay S P aQ cQ nq (qs.take nq) V E _ HQL.out (by omega) HQV.out HU8.out HQ.out.2.2.2 HVE.out).mono ?_
              rintro e w9 ⟨v9, rfl, ho9, hb9⟩
              obtain ⟨a9, c9, rfl, hr9, hl9, hm9, hn9⟩ := OwnU.out ho9 rfl
              have HR9 := Lib.hid (HR8.out.below (Nat.le_refl _) hb9)
              have HS9 := Lib.hid hr9
              have HB9 := Lib.hid (bt HB8.out hb9)
              clear ho9 hr9 hn9 hb9 HB8 HR8 HU8
              go_wp2_with fail
              show wpQuiet _ _ _ _ [_, _, _, _, _] _
              repeat (go_big_quiet_step ((fail)))
              refine wpQuiet_nil ?_
              dsimp only [Exit.then]
              go_wp2_with fail
              refine (nums_m _ _ _ _ V.length V.length V V _ rfl rfl (by omega) (by omega) HR9.out HS9.out).mono ?_
              rintro e w10 ⟨rfl, hb10⟩
              rw [show decide (V = V) = true from by simp]
              have HB10 := Lib.hid (bt HB9.out hb10)
              clear hb10
              go_wp2_with fail
              go_roundw
              case rel => exact ⟨t + 1, by omega, by go_num, HB10⟩
              case measure => simp [intOf]; omega
            · obtain rfl : t = 2 := by omega
              go_wp2_with fail
              go_ret
              exact ⟨rfl, bt HZ2.out HBT.out⟩
    · obtain ⟨g, cT, rfl, hg1', hg2', huT, hfz, hlT, hcT⟩ := OwnU.some hown5' HM1.out (by omega)
      have d0 : decide (0 < m1) = true := by simp; omega
      obtain ⟨k, hk, hk2⟩ := pk_nat which (m1 : Int) (by omega)
      have HK := Lib.hid hk
      have hkm : k < m1 := by omega
      obtain ⟨b9, off9, he9, hbb9, hcell⟩ := huT k (by have := HM1.out; omega)
      cases he9
      rw [Nat.zero_add] at hcell
      have hfk := hfz k
      have HBc : Hid (Below w3.heap.size w3 (w5.setCell ⟨g, k, none⟩ (.int .u64 (x : Int)))) := Lib.hid (hb5.setCell hg1' _)
      have HTD : Hid ((W1.set k x).length = m1 ∧ (∀ v ∈ W1.set k x, v < 2 ^ 64) ∧ Us (w5.setCell ⟨g, k, none⟩ (.int .u64 (x : Int))) (some ⟨g, 0, none⟩) (W1.set k x) ∧ m1 ≤ cT ∧ cT ≤ 9223372036854775807 ∧ ((some ⟨g, 0, none⟩ : Option Addr) = none → cT = 0)) := Lib.hid ⟨by rw [List.length_set, HM1.out], fun v hv => by rcases List.mem_or_eq_of_mem_set hv with h | h; exact HV1.out v h; rw [h]; exact hx, huT.set k x (by have := HM1.out; omega), hlT, hcT, by intro h; cases h⟩
      clear hown5 hown5' hgrow5 hb5 huT hfz hbb9 hm10 hk hk2
      go_wp2_with fail
      refine (pick06_int which (m1 : Int) k _ b0 b1 (by omega) (by omega) HK.out).mono ?_
      rintro e w' ⟨rfl, rfl⟩
      have HBl : Hid (Below w3.heap.size w3 ((w5.setCell ⟨g, k, none⟩ (.int .u64 (x : Int))).alloc (.cells #[.slice a0 nz c0, .slice a1 m0 c1, .slice a3 m1 c3, .slice (some ⟨g, 0, none⟩) m1 cT] 22))) := Lib.hid (ba HBc.out _)
      have HBw := Lib.hid (bt HB3.out HBl.out)
      obtain ⟨L4, hL4⟩ : ∃ L4 : List SlU, L4 = [⟨a0, nz, c0, zs.take nz⟩, ⟨a1, m0, c1, W0⟩, ⟨a3, m1, c3, W1⟩, ⟨(some ⟨g, 0, none⟩), m1, cT, W1.set k x⟩] := ⟨_, rfl⟩
      have HL4 : Hid (Rw suc 1 ((w5.setCell ⟨g, k, none⟩ (.int .u64 (x : Int))).alloc (.cells #[.slice a0 nz c0, .slice a1 m0 c1, .slice a3 m1 c3, .slice (some ⟨g, 0, none⟩) m1 cT] 22)) (some ⟨w5.heap.size, 0, none⟩) L4) := Lib.hid (by rw [hL4]; exact rw_litAt suc_len _ _ _ _ (by simp))
      have HK4 : Hid (∀ y ∈ L4, y.ok ((w5.setCell ⟨g, k, none⟩ (.int .u64 (x : Int))).alloc (.cells #[.slice a0 nz c0, .slice a1 m0 c1, .slice a3 m1 c3, .slice (some ⟨g, 0, none⟩) m1 cT] 22))) := Lib.hid (by
        rw [hL4]
        intro y hy
        simp only [List.mem_cons, List.mem_nil_iff, or_false] at hy
        rcases hy with rfl | rfl | rfl | rfl
        · exact SlU.mkOk (by rw [List.length_take, HZ.out.1]; omega) (by omega) (fun v hv => HZ.out.2.1 v (List.mem_of_mem_take hv)) ((HZ.out.2.2.1.take nz).below (Nat.le_refl _) HBw.out) (by omega) h0m HZ.out.2.2.2
        · exact SlU.mkOk HM0.out (by omega) HV0.out (HX3.out.below (Nat.le_refl _) HBl.out) hl1 hcm1 HU2.out.2
        · exact SlU.mkOk HM1.out (by omega) HV1.out (HU3.out.1.below (Nat.le_refl _) HBl.out) hl3 hcm3 HU3.out.2
        · exact SlU.mkOk HTD.out.1 (by omega) HTD.out.2.1 (HTD.out.2.2.1.below (Nat.le_refl _) (ba0 _ _)) HTD.out.2.2.2.1 HTD.out.2.2.2.2.1 HTD.out.2.2.2.2.2)
      have HE4 : Hid (L4.length = 4) := Lib.hid (by rw [hL4]; rfl)
      have HY4 := Lib.hid (HY3.out.below (Nat.le_refl _) HBl.out)
      have HS4 := Lib.hid (HS3.out.1.below (Nat.le_refl _) HBl.out)
      have HA4 := Lib.hid (HA3.out.below HBl.out)
      clear HBl HTD hL4 HBc
      go_wp2_with fail
      generalize ((w5.setCell ⟨g, k, none⟩ (.int .u64 (x : Int))).alloc (.cells #[.slice a0 nz c0, .slice a1 m0 c1, .slice a3 m1 c3, .slice (some ⟨g, 0, none⟩) m1 cT] 22)) = w6 at HL4 HK4 HY4 HS4 HA4 HBw ⊢
      generalize hG5 : w5.heap.size = G5 at *
      clear hG5
      go_loopw [88] (fun i wr => ∃ t : Nat, t ≤ 4 ∧ i = .int .i64 t ∧ Below w6.heap.size w6 wr) (fun i _ => 4 - (intOf i).toNat)
      case atStart => exact ⟨0, by omega, rfl, Below.refl _ _⟩
      case round =>
        obtain ⟨t, ht, rfl, hbel⟩ := hrel
        by_cases ht4 : t < 4
        · obtain ⟨y, hy⟩ : ∃ y, L4[t]? = some y := ⟨_, List.getElem?_eq_getElem (by have := HE4.out; omega)⟩
          obtain ⟨b, off, he, hbb, hc⟩ := HL4.out t y hy
          cases he
          have hz := cell_step hbel hbb (hc 0 _ rfl)
          simp only [Nat.zero_add, Nat.mul_one, Nat.add_zero] at hz
          have hyk := (HK4.out y (List.mem_of_getElem? hy)).below (Nat.le_refl _) hbel
          obtain ⟨ya, yn, yc, yw⟩ := y
          obtain ⟨⟨e1, e2, e3⟩, e4, e5, e6, e7⟩ := hyk
          simp only at e1 e2 e3 e4 e5 e6 e7 hz
          have HE1 := Lib.hid e1
          have HE3 := Lib.hid e3
          have HE4' := Lib.hid e4
          have HE7 := Lib.hid e7
          obtain ⟨L, E, hLE⟩ : ∃ L E, walkL yw [] false = (L, E) := ⟨_, _, rfl⟩
          have hLn := walkL_len hLE
          rw [e1] at hLn
          have HLE := Lib.hid hLE
          have HBE := Lib.hid hbel
          have ht4' : (t : Int) < 4 := by omega
          have dEE : ((E : Int) != (E : Int)) = false := by simp
          clear hy hc e1 e3 e4 e7 hLE hbel
          go_wp2_with fail
          refine (C.walk ya yc yn yw L E _ HE1.out (by omega) HE3.out HE4'.out e5 e6 HE7.out HLE.out).mono ?_
          rintro e w7 ⟨v7, rfl, ho7, hb7⟩
          obtain ⟨a7, c7, rfl, hr7, hl7, hm7, hn7⟩ := OwnR.out oc_len ho7 rfl
          have HR7 := Lib.hid hr7
          have HU7 := Lib.hid (HE4'.out.below (Nat.le_refl _) hb7)
          have HB7 := Lib.hid (bt HBE.out hb7)
          clear ho7 hr7 hn7 hb7 HE4' HBE hz
          go_wp2_with fail
          refine (refWalk ya yc yn yw L E _ HE1.out (by omega) HE3.out HU7.out e5 e6 HLE.out).mono ?_
          rintro e w8 ⟨v8, rfl, ho8, hb8⟩
          obtain ⟨a8, c8, rfl, hr8, hl8, hm8, hn8⟩ := OwnR.out oc_len ho8 rfl
          have HR8 := Lib.hid (HR7.out.below (Nat.le_refl _) hb8)
          have HQ8 := Lib.hid hr8
          have HU8 := Lib.hid (HU7.out.below (Nat.le_refl _) hb8)
          have HB8 := Lib.hid (bt HB7.out hb8)
          clear ho8 hr8 hn8 hb8 HR7 HU7 HB7
          go_wp2_with fail
          refine (sameObs _ _ _ _ L.length L.length L L _ rfl rfl (by omega) (by omega) HR8.out HQ8.out).mono ?_
          rintro e w9 ⟨rfl, hb9⟩
          rw [show decide (L = L) = true from by simp]
          have HU9 := Lib.hid (HU8.out.below (Nat.le_refl _) hb9)
          have HB9 := Lib.hid (bt HB8.out hb9)
          have HY9 := Lib.hid (HY4.out.below (Nat.le_refl _) HB9.out)
          have HS9 := Lib.hid (HS4.out.below (Nat.le_refl _) HB9.out)
          have HBV := Lib.hid (bt HBw.out HB9.out)
          have HF9 := Lib.hid ((HS.out.2.1.take nf).below (Nat.le_refl _) HBV.out)
          have HFL : Hid ((shs.take nf).length = nf) := Lib.hid (by rw [List.length_take, HS.out.1]; omega)
          clear hb9 HR8 HQ8 HU8 HB8
          go_wp2_with (at_builtin; refine wp_append_rows 28 25 _ 16 info_sh Try.underlying25 rfl (by decide) (by decide) sc_len sc_one _ rfl (.const (.slice none 0 0)) (.tmp 114) rfl rfl w9.heap.size _ [] G1 rfl (OwnR.nil _ _ _) a4 g1 c4 rfl HG1.out HS9.out HS3.out.2 ?_ (Nat.le_refl _) ?_)
          · simp; omega
          · intro v10 w10 hown10 hgrow10
            have hb10 := grown_nil (Below.refl w9.heap.size w9) hgrow10
            have HO10 := Lib.hid hown10
            have HBX := Lib.hid hb10
            have HF10 := Lib.hid (HF9.out.below (Nat.le_refl _) hb10)
            have hsz := hb10.size
            clear hown10 hgrow10 hb10
            go_wp2_with (at_builtin; refine wp_append_rows 28 25 _ 16 info_sh Try.underlying25 rfl (by decide) (by decide) sc_len sc_one _ rfl (.tmp 115) (.tmp 116) rfl rfl w9.heap.size _ G1 (shs.take nf) rfl HO10.out aS nf cS rfl HFL.out HF10.out HS.out.2.2 ?_ hsz ?_)
            · have := HG1.out; omega
            · intro v11 w11 hown11 hgrow11
              have hb11 := OwnR.below HO10.out HBX.out (Nat.le_refl _) hgrow11
              obtain ⟨aA, cA, rfl, hsA, hlA, hcA, hnA⟩ := OwnR.out sc_len (n := g1 + nf) hown11 (by rw [List.length_append, HG1.out, HFL.out])
              have HBl : Hid (Below w9.heap.size w9 (w11.alloc (.cells #[.slice aS nf cS, .slice a4 g1 c4, .slice a2 g0 c2, .slice aA (g1 + nf) cA] 25))) := Lib.hid (ba hb11 _)
              obtain ⟨M4, hM4⟩ : ∃ M4 : List SlS, M4 = [⟨aS, nf, cS, shs.take nf⟩, ⟨a4, g1, c4, G1⟩, ⟨a2, g0, c2, G0⟩, ⟨aA, g1 + nf, cA, G1 ++ shs.take nf⟩] := ⟨_, rfl⟩
              have HMR : Hid (Rw ssc 1 (w11.alloc (.cells #[.slice aS nf cS, .slice a4 g1 c4, .slice a2 g0 c2, .slice aA (g1 + nf) cA] 25)) (some ⟨w11.heap.size, 0, none⟩) M4) := Lib.hid (by rw [hM4]; exact rw_litAt ssc_len _ _ _ _ rfl)
              have HMK : Hid (∀ y ∈ M4, y.ok (w11.alloc (.cells #[.slice aS nf cS, .slice a4 g1 c4, .slice a2 g0 c2, .slice aA (g1 + nf) cA] 25))) := Lib.hid (by
                rw [hM4]
                intro y hy
                simp only [List.mem_cons, List.mem_nil_iff, or_false] at hy
                rcases hy with rfl | rfl | rfl | rfl
                · exact SlS.mkOk HFL.out (by omega) (HF9.out.below (Nat.le_refl _) HBl.out) (by omega) hSm HS.out.2.2
                · exact SlS.mkOk HG1.out (by omega) (HS9.out.below (Nat.le_refl _) HBl.out) hl4 hcm4 HS3.out.2
                · exact SlS.mkOk HG0.out (by omega) (HY9.out.below (Nat.le_refl _) HBl.out) hl2 hcm2 HS2.out.2
                · exact SlS.mkOk (by rw [List.length_append, HG1.out, HFL.out]) (by omega) (hsA.below (Nat.le_refl _) (ba0 _ _)) hlA hcA hnA)
              have HME : Hid (M4.length = 4) := Lib.hid (by rw [hM4]; rfl)
              have HU12 := Lib.hid (HU9.out.below (Nat.le_refl _) HBl.out)
              have HB12 := Lib.hid (bt HB9.out HBl.out)
              have HV12 := Lib.hid (bt HBw.out HB12.out)
              clear HBl hM4 hb11 hgrow11 hown11 hsA hnA HO10 HBX HF10 HF9 HFL HY9 HS9 HBV HU9 HB9 hsz
              go_wp2_with fail
              generalize (w11.alloc (.cells #[.slice aS nf cS, .slice a4 g1 c4, .slice a2 g0 c2, .slice aA (g1 + nf) cA] 25)) = w12 at HMR HMK HU12 HB12 HV12 ⊢
              generalize w11.heap.size = G11 at *
              go_loopw [120] (fun i wr => ∃ u : Nat, u ≤ 4 ∧ i = .int .i64 u ∧ Below w12.heap.size w12 wr) (fun i _ => 4 - (intOf i).toNat)
              case atStart => exact ⟨0, by omega, rfl, Below.refl _ _⟩
              case round =>
                obtain ⟨u, hu, rfl, hbel⟩ := hrel
                by_cases hu4 : u < 4
                · obtain ⟨y, hy⟩ : ∃ y, M4[u]? = some y := ⟨_, List.getElem?_eq_getElem (by have := HME.out; omega)⟩
                  obtain ⟨b, off, he, hbb, hc⟩ := HMR.out u y hy
                  cases he
                  have hz := cell_step hbel hbb (hc 0 _ rfl)
                  simp only [Nat.zero_add, Nat.mul_one, Nat.add_zero] at hz
                  have hyk := (HMK.out y (List.mem_of_getElem? hy)).below (Nat.le_refl _) hbel
                  obtain ⟨sa, sn, scp, sh⟩ := y
                  obtain ⟨⟨f1, f2⟩, f4, f5, f6, f7⟩ := hyk
                  simp only at f1 f2 f4 f5 f6 f7 hz
                  have HF1 := Lib.hid f1
                  have HF4 := Lib.hid f4
                  have HF7 := Lib.hid f7
                  obtain ⟨L2, E2, hL2⟩ : ∃ L2 E2, walkL yw sh true = (L2, E2) := ⟨_, _, rfl⟩
                  have hLn2 := walkL_len hL2
                  rw [HE1.out] at hLn2
                  obtain ⟨K2, E3, hK2⟩ : ∃ K2 E3, kindsL yn L2 = (K2, E3) := ⟨_, _, rfl⟩
                  have hKn2 := kindsL_len hK2
                  have HL2 := Lib.hid hL2
                  have HK2 := Lib.hid hK2
                  have HU13 := Lib.hid (HU12.out.below (Nat.le_refl _) hbel)
                  have HB13 := Lib.hid hbel
                  have hu4' : (u : Int) < 4 := by omega
                  have d2 : ((E2 : Int) != (E2 : Int)) = false := by simp
                  have d3 : ((E3 : Int) != (E3 : Int)) = false := by simp
                  clear hy hc f1 f4 f7 hL2 hK2 hbel
                  go_wp2_with fail
                  refine (C.old ya sa yc scp yn sn yw sh L2 E2 _ HE1.out HF1.out (by omega) (by omega) HE3.out HU13.out HF4.out e5 e6 f5 f6 HE7.out HF7.out HL2.out).mono ?_
                  rintro e w14 ⟨v14, rfl, ho14, hb14⟩
                  obtain ⟨a14, c14, rfl, hr14, hl14, hm14, hn14⟩ := OwnR.out oc_len ho14 rfl
                  have HR14 := Lib.hid hr14
                  have HU14 := Lib.hid (HU13.out.below (Nat.le_refl _) hb14)
                  have HF14 := Lib.hid (HF4.out.below (Nat.le_refl _) hb14)
                  have HB14 := Lib.hid (bt HB13.out hb14)
                  clear ho14 hr14 hn14 hb14 HU13 HF4 HB13 hz
                  go_wp2_with fail
                  refine (refWalkOld ya sa yc scp yn sn yw sh L2 E2 _ HE1.out HF1.out (by omega) (by omega) HE3.out HU14.out HF14.out e5 e6 HL2.out).mono ?_
                  rintro e w15 ⟨v15, rfl, ho15, hb15⟩
                  obtain ⟨a15, c15, rfl, hr15, hl15, hm15, hn15⟩ := OwnR.out oc_len ho15 rfl
                  have HR15 := Lib.hid (HR14.out.below (Nat.le_refl _) hb15)
                  have HQ15 := Lib.hid hr15
                  have HB15 := Lib.hid (bt HB14.out hb15)
                  clear ho15 hr15 hn15 hb15 HU14 HF14 HB14 HR14
                  go_wp2_with fail
                  refine (C.kinds ya a15 yc c15 yn L2.length L2 K2 E3 _ rfl (by omega) (by omega) HQ15.out HK2.out).mono ?_
                  rintro e w16 ⟨v16, rfl, ho16, hb16⟩
                  obtain ⟨a16, c16, rfl, hr16, hl16, hm16, hn16⟩ := OwnR.out ic_len ho16 rfl
                  have HR16 := Lib.hid (HR15.out.below (Nat.le_refl _) hb16)
                  have HQ16 := Lib.hid (HQ15.out.below (Nat.le_refl _) hb16)
                  have HK16 := Lib.hid hr16
                  have HB16 := Lib.hid (bt HB15.out hb16)
                  clear ho16 hr16 hn16 hb16 HB15 HR15 HQ15
                  go_wp2_with fail
                  refine (refKinds ya a15 yc c15 yn L2.length L2 K2 E3 _ rfl (by omega) (by omega) HQ16.out HK2.out).mono ?_
                  rintro e w17 ⟨v17, rfl, ho17, hb17⟩
                  obtain ⟨a17, c17, rfl, hr17, hl17, hm17, hn17⟩ := OwnR.out ic_len ho17 rfl
                  have HR17 := Lib.hid (HR16.out.below (Nat.le_refl _) hb17)
                  have HQ17 := Lib.hid (HQ16.out.below (Nat.le_refl _) hb17)
                  have HK17 := Lib.hid (HK16.out.below (Nat.le_refl _) hb17)
                  have HJ17 := Lib.hid hr17
                  have HB17 := Lib.hid (bt HB16.out hb17)
                  clear ho17 hr17 hn17 hb17 HB16 HR16 HQ16 HK16
                  go_wp2_with fail
                  refine (sameObs _ _ _ _ L2.length L2.length L2 L2 _ rfl rfl (by omega) (by omega) HR17.out HQ17.out).mono ?_
                  rintro e w18 ⟨rfl, hb18⟩
                  rw [show decide (L2 = L2) = true from by simp]
                  have HK18 := Lib.hid (HK17.out.below (Nat.le_refl _) hb18)
                  have HJ18 := Lib.hid (HJ17.out.below (Nat.le_refl _) hb18)
                  have HB18 := Lib.hid (bt HB17.out hb18)
                  clear hb18 HB17 HR17 HQ17 HK17 HJ17
                  go_wp2_with fail
                  refine (ints_any _ _ _ _ K2.length K2.length K2 K2 _ rfl rfl (by omega) (by omega) HK18.out HJ18.out).mono ?_
                  rintro e w19 ⟨rfl, hb19⟩
                  rw [show decide (K2 = K2) = true from by simp]
                  have HB19 := Lib.hid (bt HB18.out hb19)
                  clear hb19 HB18 HK18 HJ18
                  go_wp2_with fail
                  go_roundw
                  case rel => exact ⟨u + 1, by omega, by go_num, HB19.out⟩
                  case measure => simp [intOf]; omega
                · obtain rfl : u = 4 := by omega
                  have HU20 := Lib.hid (HU12.out.below (Nat.le_refl _) hbel)
                  have HB20 := Lib.hid (bt HB12.out hbel)
                  have HV20 := Lib.hid (bt HV12.out hbel)
                  have HOd := Lib.hid ((HO.out.2.1.take no).below (Nat.le_refl _) HV20.out)
                  have HOn : Hid ((ods.take no).length = no) := Lib.hid (by rw [List.length_take, HO.out.1]; omega)
                  obtain ⟨K5, E5, hK5⟩ : ∃ K5 E5, kindsL yn (ods.take no) = (K5, E5) := ⟨_, _, rfl⟩
                  have hKn5 := kindsL_len hK5
                  have HK5 := Lib.hid hK5
                  have d5 : ((E5 : Int) != (E5 : Int)) = false := by simp
                  have j1 : (no : Int) ≤ (cO : Int) := by omega
                  have j2 : no ≤ cO := by omega
                  clear hK5 hbel HU12 HB12 HV12
                  go_wp2_with fail
                  refine (C.kinds ya aO yc cO yn no (ods.take no) K5 E5 _ HOn.out (by omega) (by omega) HOd.out HK5.out).mono ?_
                  rintro e w21 ⟨v21, rfl, ho21, hb21⟩
                  obtain ⟨a21, c21, rfl, hr21, hl21, hm21, hn21⟩ := OwnR.out ic_len ho21 rfl
                  have HK21 := Lib.hid hr21
                  have HOe := Lib.hid (HOd.out.below (Nat.le_refl _) hb21)
                  have HB21 := Lib.hid (bt HB20.out hb21)
                  clear ho21 hr21 hn21 hb21 HB20 HU20 HOd HV20
                  go_wp2_with fail
                  refine (refKinds ya aO yc cO yn no (ods.take no) K5 E5 _ HOn.out (by omega) (by omega) HOe.out HK5.out).mono ?_
                  rintro e w22 ⟨v22, rfl, ho22, hb22⟩
                  obtain ⟨a22, c22, rfl, hr22, hl22, hm22, hn22⟩ := OwnR.out ic_len ho22 rfl
                  have HK22 := Lib.hid (HK21.out.below (Nat.le_refl _) hb22)
                  have HJ22 := Lib.hid hr22
                  have HB22 := Lib.hid (bt HB21.out hb22)
                  clear ho22 hr22 hn22 hb22 HB21 HK21 HOe
                  go_wp2_with fail
                  refine (ints_any _ _ _ _ K5.length K5.length K5 K5 _ rfl rfl (by omega) (by omega) HK22.out HJ22.out).mono ?_
                  rintro e w23 ⟨rfl, hb23⟩
                  rw [show decide (K5 = K5) = true from by simp]
                  have HB23 := Lib.hid (bt HB22.out hb23)
                  clear hb23 HB22 HK22 HJ22
                  go_wp2_with fail
                  go_roundw
                  case rel => exact ⟨t + 1, by omega, by go_num, HB23.out⟩
                  case measure => simp [intOf]; omega
        · obtain rfl : t = 4 := by omega
          have HA24 := Lib.hid (HA4.out.below hbel)
          have HV24 := Lib.hid (bt HBw.out hbel)
          have HKE : Hid (∀ w' : World, Below wr.heap.size wr w' → w'.cell? ⟨w.heap.size, 0, none⟩ = some (.int .i64 S0) ∧ w'.cell? ⟨w.heap.size, 1, none⟩ = some (.int .i64 P0)) := Lib.hid fun w' h => ⟨(HA24.out.below h).c0, (HA24.out.below h).c1⟩
          clear hbel HL4 HK4 HE4 HY4 HS4 HA4 HBw
          go_wp2_with fail
          have hk0 : ∀ x : GW wr, x.w'.cell? ⟨w.heap.size, 0, none⟩ = some (.int .i64 S0) := fun x => (HKE.out x.w' x.h).1
          have hk1 : ∀ x : GW wr, x.w'.cell? ⟨w.heap.size, 1, none⟩ = some (.int .i64 P0) := fun x => (HKE.out x.w' x.h).2
          have hl1 : Hid (∀ w', (∃ z : GW wr, w' = z.w') → w'.cell? ⟨w.heap.size, 0, none⟩ = some (.int .i64 S0) ∧ w'.cell? ⟨w.heap.size, 0 + 1, none⟩ = some (.int .i64 P0)) := Lib.hid (by
            rintro _ ⟨z, rfl⟩
            exact HKE.out z.w' z.h)
          refine wp_region_mover [0, 1, 2, 3, 4, 5, 6, 7, 8, 9, 10, 11, 14] 12 [13] _ (fun w' => ∃ x : GW wr, w' = x.w') (by kernel_rfl) (by kernel_rfl) rfl ⟨⟨_, (Below.refl _ wr).drew⟩, rfl⟩ ?_
          simp only [opsAt, List.filterMap_cons, List.filterMap_nil, List.getElem?_toArray, List.getElem?_cons_succ, List.getElem?_cons_zero, List.getElem_toArray, List.getElem_cons_succ, List.getElem_cons_zero]
          refine wpQ_load_sh (by rfl) (.tmp 14) rfl w.heap.size 0 rfl S0 P0 hl1.out ?_
          simp [Act.put]
          show wpQuiet _ _ _ _ [_, _, _, _, _, _, _, _, _, _, _, _] _
          repeat (go_big_quiet_step ((go_at_call 11; exact grow_same (pick06_int P0 ((nq : Int) + 1) kq _ p0 p1 (by omega) (by omega) HKQ.out))))
          refine wpQuiet_nil ?_
          rintro ⟨W1, hz1⟩
          have HZ1 := Lib.hid (bt HV24.out hz1)
          show wpList _ _ _ [_] _ W1
          clear hz1 hl1 hk0 hk1 HKE HA24 HV24
          go_wp2_with fail
          show wpQuiet _ _ _ _ [_] _
          repeat (go_big_quiet_step ((fail)))
          refine wpQuiet_nil ?_
          dsimp only [Exit.then]
          have HZ2 := Lib.hid (ba HZ1.out (.cells #[.int .i64 S0, .int .i64 P0, .int .i64 (nq : Int), .int .i64 (kq : Int)] 28))
          obtain ⟨T2, hT2⟩ : ∃ T2 : List Shp, T2 = [(S0, P0), ((nq : Int), (kq : Int))] := ⟨_, rfl⟩
          have HT2 : Hid (Rw sc 2 (W1.alloc (.cells #[.int .i64 S0, .int .i64 P0, .int .i64 (nq : Int), .int .i64 (kq : Int)] 28)) (some ⟨W1.heap.size, 0, none⟩) T2) := Lib.hid (by rw [hT2]; exact rw_litAt sc_len _ _ [(S0, P0), ((nq : Int), (kq : Int))] _ rfl)
          have HE2 : Hid (T2.length = 2) := Lib.hid (by rw [hT2]; rfl)
          clear hT2 HZ1
          generalize W1.alloc (.cells #[.int .i64 S0, .int .i64 P0, .int .i64 (nq : Int), .int .i64 (kq : Int)] 28) = W2 at HZ2 HT2 ⊢
          generalize W1.heap.size = G1 at *
          clear W1
          have HQU := Lib.hid ((HQ.out.2.2.1.take nq).below (Nat.le_refl _) HZ2.out)
          have HQL : Hid ((qs.take nq).length = nq) := Lib.hid (by rw [List.length_take, HQ.out.1]; omega)
          have HQV : Hid (∀ v ∈ qs.take nq, v < 2 ^ 64) := Lib.hid (fun v h => HQ.out.2.1 v (List.mem_of_mem_take h))
          go_wp2_with fail
          go_loopw [213] (fun i wr => ∃ t : Nat, t ≤ 2 ∧ i = .int .i64 t ∧ Hid (Below W2.heap.size W2 wr)) (fun i _ => 2 - (intOf i).toNat)
          case atStart => exact ⟨0, by omega, rfl, Lib.hid (Below.refl _ _)⟩
          case round =>
            obtain ⟨t, ht, rfl, HBT⟩ := hrel
            by_cases ht2 : t < 2
            · obtain ⟨sp, hsp⟩ : ∃ sp, T2[t]? = some sp := ⟨_, List.getElem?_eq_getElem (by have := HE2.out; omega)⟩
              obtain ⟨S, P⟩ := sp
              obtain ⟨b, off, he, hbb, hc0, hc1⟩ := sh_cells (HT2.out.below (Nat.le_refl _) HBT.out) hsp
              cases he
              have ht2' : (t : Int) < 2 := by omega
              simp only [Nat.zero_add] at hc0 hc1
              clear hsp
              go_wp2_with (refine wp_store_sh rfl (.tmp 45) (.tmp 216) rfl wr.heap.size S P rfl rfl (by intro j hj; match j, hj with | 0, _ => simp | 1, _ => simp) (by intro j hj; simp) ?_; intro w5 q1 q2 q3; have hb5 := q3 _ _ (Nat.le_refl _) (ba0 wr _); have hlt5 := (q3 _ _ (Nat.le_refl _) (Below.refl _ _)).size; rw [World.size_alloc] at hlt5; clear q3)
              have hl2 : Hid (∀ w', (∃ z : GW w5, w' = z.w') → w'.cell? ⟨wr.heap.size, 0, none⟩ = some (.int .i64 S) ∧ w'.cell? ⟨wr.heap.size, 0 + 1, none⟩ = some (.int .i64 P)) := Lib.hid (by
                rintro _ ⟨z, rfl⟩
                exact ⟨cell_step z.h hlt5 q1, cell_step z.h hlt5 q2⟩)
              have HB5 := Lib.hid (bt HBT.out hb5)
              obtain ⟨V, E, hVE⟩ : ∃ V E, layL S P (qs.take nq) = (V, E) := ⟨_, _, rfl⟩
              have hVn := layL_len hVE
              rw [HQL.out] at hVn
              have HVE := Lib.hid hVE
              have dEE : ((E : Int) != (E : Int)) = false := by simp
              have jq : nq ≤ cQ := by omega
              have jq1 : (nq : Int) ≤ (cQ : Int) := by omega
              have HQ12 := Lib.hid (And.intro q1 (And.intro q2 hlt5))
              clear hVE hb5 hc0 hc1 hbb q1 q2 hlt5 HBT
              dsimp only [Act.put]
              refine wp_region_mover [0, 1, 2, 3, 4, 5] 6 [7, 8, 9, 10, 11] _ (fun w' => ∃ x : GW w5, w' = x.w') (by kernel_rfl) (by kernel_rfl) rfl ⟨⟨_, (Below.refl _ w5).drew⟩, rfl⟩ ?_
              simp only [opsAt, List.filterMap_cons, List.filterMap_nil, List.getElem?_toArray, List.getElem?_cons_succ, List.getElem?_cons_zero, List.getElem_toArray, List.getElem_cons_succ, List.getElem_cons_zero]
              refine wpQ_load_sh (by rfl) (.tmp 45) rfl wr.heap.size 0 rfl S P hl2.out ?_
              simp [Act.put]
              show wpQuiet _ _ _ _ [_, _, _, _, _] _
              repeat (go_big_quiet_step ((fail)))
              refine wpQuiet_nil ?_
              rintro ⟨w6, hz6⟩
              have HB6 := Lib.hid (bt HB5.out hz6)
              have HU6 := Lib.hid (HQU.out.below (Nat.le_refl _) HB6.out)
              have HC6 := Lib.hid (And.intro (cell_step hz6 HQ12.out.2.2 HQ12.out.1) (And.intro (cell_step hz6 HQ12.out.2.2 HQ12.out.2.1) (Nat.lt_of_lt_of_le HQ12.out.2.2 hz6.size)))
              show wpList _ _ _ [_] _ w6
              clear hz6 hl2 HQ12 HB5
              go_wp2_with fail
              refine (C.lay S P aQ cQ nq (qs.take nq) V E _ HQL.out (by omega) HQV.out HU6.out jq hQm HQ.out.2.2.2 HVE.out).mono ?_
              rintro e w7 ⟨v7, rfl, ho7, hb7⟩
              obtain ⟨a7, c7, rfl, hr7, hl7, hm7, hn7⟩ := OwnU.out ho7 rfl
              have HR7 := Lib.hid hr7
              have HB7 := Lib.hid (bt HB6.out hb7)
              have HU7 := Lib.hid (HU6.out.below (Nat.le_refl _) hb7)
              have HC7 := Lib.hid (And.intro (cell_step hb7 HC6.out.2.2 HC6.out.1) (And.intro (cell_step hb7 HC6.out.2.2 HC6.out.2.1) (Nat.lt_of_lt_of_le HC6.out.2.2 hb7.size)))
              clear ho7 hr7 hn7 hb7 HB6 HU6 HC6
              go_wp2_with fail
              show wpQuiet _ _ _ _ [_, _, _, _, _] _
              repeat (go_big_quiet_step ((fail)))
              refine wpQuiet_nil ?_
              dsimp only [Exit.then]
              have hl3 : Hid (∀ w', (∃ z : GW w7, w' = z.w') → w'.cell? ⟨wr.heap.size, 0, none⟩ = some (.int .i64 S) ∧ w'.cell? ⟨wr.heap.size, 0 + 1, none⟩ = some (.int .i64 P)) := Lib.hid (by
                rintro _ ⟨z, rfl⟩
                exact ⟨cell_step z.h HC7.out.2.2 HC7.out.1, cell_step z.h HC7.out.2.2 HC7.out.2.1⟩)
              go_wp2_with fail
              refine wp_region_mover [0, 1, 2, 3, 4, 5] 6 [7, 8, 9, 10, 11] _ (fun w' => ∃ x : GW w7, w' = x.w') (by kernel_rfl) (by kernel_rfl) rfl ⟨⟨_, (Below.refl _ w7).drew⟩, rfl⟩ ?_
              simp only [opsAt, List.filterMap_cons, List.filterMap_nil, List.getElem?_toArray, List.getElem?_cons_succ, List.getElem?_cons_zero, List.getElem_toArray, List.getElem_cons_succ, List.getElem_cons_zero]
              refine wpQ_load_sh (by rfl) (.tmp 45) rfl wr.heap.size 0 rfl S P hl3.out ?_
              simp [Act.put]
              show wpQuiet _ _ _ _ [_, _, _, _, _] _
              repeat (go_big_quiet_step ((fail)))
              refine wpQuiet_nil ?_
              rintro ⟨w8, hz8⟩
              have HB8 := Lib.hid (bt HB7.out hz8)
              have HU8 := Lib.hid (HU7.out.below (Nat.le_refl _) hz8)
              have HR8 := Lib.hid (HR7.out.below (Nat.le_refl _) hz8)
              show wpList _ _ _ [_] _ w8
              clear hz8 hl3 HC7 HB7 HU7 HR7
              go_wp2_with fail
              refine (refLay S P aQ cQ nq (qs.take nq) V E _ HQL.out (by omega) HQV.out HU8.out HQ.out.2.2.2 HVE.out).mono ?_
              rintro e w9 ⟨v9, rfl, ho9, hb9⟩
              obtain ⟨a9, c9, rfl, hr9, hl9, hm9, hn9⟩ := OwnU.out ho9 rfl
              have HR9 := Lib.hid (HR8.out.below (Nat.le_refl _) hb9)
              have HS9 := Lib.hid hr9
              have HB9 := Lib.hid (bt HB8.out hb9)
              clear ho9 hr9 hn9 hb9 HB8 HR8 HU8
              go_wp2_with fail
              show wpQuiet _ _ _ _ [_, _, _, _, _] _
              repeat (go_big_quiet_step ((fail)))
              refine wpQuiet_nil ?_
              dsimp only [Exit.then]
              go_wp2_with fail
              refine (nums_m _ _ _ _ V.length V.length V V _ rfl rfl (by omega) (by omega) HR9.out HS9.out).mono ?_
              rintro e w10 ⟨rfl, hb10⟩
              rw [show decide (V = V) = true from by simp]
              have HB10 := Lib.hid (bt HB9.out hb10)
              clear hb10
              go_wp2_with fail
              go_roundw
              case rel => exact ⟨t + 1, by omega, by go_num, HB10⟩
              case measure => simp [intOf]; omega
            · obtain rfl : t = 2 := by omega
              go_wp2_with fail
              go_ret
              exact ⟨rfl, bt HZ2.out HBT.out⟩
end Go.Proofs.Ytjefajpipgicdaa.V
