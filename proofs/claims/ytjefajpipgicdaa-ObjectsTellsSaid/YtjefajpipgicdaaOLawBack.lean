/-
  ObjectsBack, walked under what is asked of the program's functions.
-/
import Derived.Test.YtjefajpipgicdaaOField
set_option linter.unusedVariables false
namespace Go.Proofs.Ytjefajpipgicdaa.V
open Go.RowKit

theorem OwnU.cap {w : World} {S m cap : Nat} {ao : Option Addr} {l : List Nat} (h : OwnU w S (.slice ao m cap) l) (hm : l.length = m) : m ≤ cap ∧ cap ≤ 9223372036854775807 := by
  obtain ⟨ao2, cap2, he, _, h1, h2, _⟩ := OwnU.out h hm
  cases he
  exact ⟨h1, h2⟩
theorem kinds_count1 (l : List It) : (itKinds l).count 1 = l.length := by
  induction l with
  | nil => rfl
  | cons i l ih =>
    rw [show itKinds (i :: l) = (1 :: (List.replicate i.p 2 ++ List.replicate (i.s - i.p) 3)) ++ itKinds l by simp [itKinds], List.count_append, ih]
    simp [List.count_replicate]
    omega
theorem kinds_count2 (l : List It) : (itKinds l).count 2 = (l.map (·.p)).sum := by
  induction l with
  | nil => rfl
  | cons i l ih =>
    rw [show itKinds (i :: l) = (1 :: (List.replicate i.p 2 ++ List.replicate (i.s - i.p) 3)) ++ itKinds l by simp [itKinds], List.count_append, ih]
    simp [List.count_replicate]
theorem count_step (K : List Int) (t : Nat) (x a : Int) (h : K[t]? = some x) : (K.take (t + 1)).count a = (K.take t).count a + if x = a then 1 else 0 := by
  rw [List.take_add_one, h, List.count_append]
  simp [List.count_cons]
theorem ptrs_step (l : List It) (t : Nat) (i : It) (h : l[t]? = some i) : ((l.take (t + 1)).map (·.p)).sum = ((l.take t).map (·.p)).sum + i.p := by
  rw [List.take_add_one, h]
  simp
theorem back_step (l : List RawV) (t : Nat) (r : RawV) (h : l[t]? = some r) :
    itWords (rawIts false (l.take (t + 1))) = itWords (rawIts false (l.take t)) ++ (hpack (rawS r) (rawP r) :: rawSlots r) ∧
    itObs 0 (rawIts false (l.take (t + 1))) = itObs 0 (rawIts false (l.take t)) ++ [⟨((itWords (rawIts false (l.take t))).length : Int), rawS r, rawP r, false, 0⟩] := by
  rw [rawIts_take false l t r h]
  constructor
  · rw [itWords_app]
    simp [itWords, It.words, rawIt]
  · rw [itObs_app, itWords_len _ (rawIts_ok false _)]
    simp [itObs, rawIt]

set_option maxRecDepth 100000 in
set_option maxHeartbeats 1000000 in
theorem objectsBack_try (C : ObjC) (ao : Option Addr) (ca n : Nat) (l : List RawV) (w : World) (hn : l.length = n) (hok : ∀ r ∈ l, r.ok w) (hR : Rw rc 4 w ao l) :
    Calls Try.prog 4 #[.slice ao n ca] w fun e w' => e = .returned (.bool true) ∧ Below w.heap.size w w' := by
  have HN := Lib.hid hn
  have HOK := Lib.hid hok
  have HRR := Lib.hid hR
  clear hn hok hR
  go_enter Try.func4, Try.ntmps4
  go_wp2_with fail
  refine (awake06 C _).mono ?_
  rintro e w1 ⟨rfl, hb1⟩
  have HB1 := Lib.hid hb1
  clear hb1
  go_wp2_with fail
  go_loopw [4, 5, 6] (fun vw vo i wr => ∃ t : Nat, i = .int .i64 t ∧ t ≤ n ∧ t ≤ 8 ∧ Hid (OwnU wr w1.heap.size vw (itWords (rawIts false (l.take t)))) ∧ Hid (OwnR 53 oc 5 wr w1.heap.size vo (itObs 0 (rawIts false (l.take t)))) ∧ Below w1.heap.size w1 wr) (fun _ _ i _ => 8 - (intOf i).toNat)
  case atStart => exact ⟨0, rfl, by omega, by omega, Lib.hid ⟨rfl, Or.inl ⟨rfl, rfl⟩⟩, Lib.hid (OwnR.nil _ _ _), Below.refl _ _⟩
  case round =>
    obtain ⟨t, rfl, ht, ht8, HW, HO, hbel⟩ := hrel
    by_cases htn : t < n
    · by_cases ht7 : t < 8
      · obtain ⟨r, hr⟩ : ∃ r, l[t]? = some r := ⟨_, List.getElem?_eq_getElem (by have := HN.out; omega)⟩
        obtain ⟨b, off, rfl, hbb, e0, e1, e2, e3⟩ := raw_cells HRR.out hr
        have hrok := HOK.out r (List.mem_of_getElem? hr)
        obtain ⟨s, hs⟩ : ∃ s, rawS r = s := ⟨_, rfl⟩
        obtain ⟨p, hp⟩ : ∃ p, rawP r = p := ⟨_, rfl⟩
        have hs7 := (rawS_lt r).1
        have hps := (rawP_le r).1
        rw [hs] at hs7 hps
        rw [hp] at hps
        have hst := back_step l t r hr
        rw [hs, hp] at hst
        have HST := Lib.hid hst
        have hlw := itWords_lt (rawIts false (l.take t)) (rawIts_ok false _)
        rw [rawIts_len, List.length_take] at hlw
        have hlo := itObs_len (rawIts false (l.take t)) 0
        rw [rawIts_len, List.length_take] at hlo
        obtain ⟨B, hB⟩ : ∃ B, (itWords (rawIts false (l.take t))).length = B := ⟨_, rfl⟩
        obtain ⟨D, hD⟩ : ∃ D, (itObs 0 (rawIts false (l.take t))).length = D := ⟨_, rfl⟩
        rw [hB] at hlw
        rw [hD] at hlo
        have hB2 : B ≤ 2048 := by omega
        have hD2 : D ≤ 8 := by omega
        have HBB := Lib.hid hB
        have HDD := Lib.hid hD
        have hlr := lay_raw r s p hs hp
        have HSL : Hid ((rawSlots r).length = s) := Lib.hid (by rw [rawSlots_len, hs])
        have HSV := Lib.hid (rawSlots_u64 r hrok.2.2.1)
        obtain ⟨v0, hv0⟩ : ∃ v, hpack s p = v := ⟨_, rfl⟩
        rw [hv0] at hlr
        have HV0 := Lib.hid hv0
        have HL1 := Lib.hid hlr.1
        have HBW := Lib.hid (bt HB1.out hbel)
        have HBE := Lib.hid hbel
        have IHSh := Lib.hid (fun w' (hb : Below wr.heap.size wr w') => shapeOf r s p w' (hrok.below (Nat.le_refl _) (bt HBW.out hb)) hs hp)
        have IHSl := Lib.hid (fun w' (hb : Below wr.heap.size wr w') => slotsOf2 r s p w' (hrok.below (Nat.le_refl _) (bt HBW.out hb)) hs hp)
        have HK : Hid (∀ w' : World, Below wr.heap.size wr w' → w'.cell? ⟨b, off + t * 4, none⟩ = some (.int .i64 r.size) ∧ w'.cell? ⟨b, off + t * 4 + 1, none⟩ = some (.int .i64 r.ptrs) ∧ w'.cell? ⟨b, off + t * 4 + 2, none⟩ = some (.slice r.ao r.zs.length r.cap) ∧ w'.cell? ⟨b, off + t * 4 + 3, none⟩ = some (.bool r.gone)) :=
          Lib.hid fun w' h => ⟨cell_step (bt HBW.out h) hbb e0, cell_step (bt HBW.out h) hbb e1, cell_step (bt HBW.out h) hbb e2, cell_step (bt HBW.out h) hbb e3⟩
        have htn' : (t : Int) < (n : Int) := by omega
        have ht8' : (t : Int) < 8 := by omega
        clear hr hrok hs hp hst hlr hv0 hB hD hlw hlo e0 e1 e2 e3 hbel
        go_wp2_with fail
        go_region_held3 (fun w' => w'.cell? ⟨b, off + t * 4, none⟩ = some (.int .i64 r.size) ∧ w'.cell? ⟨b, off + t * 4 + 1, none⟩ = some (.int .i64 r.ptrs) ∧ w'.cell? ⟨b, off + t * 4 + 2, none⟩ = some (.slice r.ao r.zs.length r.cap) ∧ w'.cell? ⟨b, off + t * 4 + 3, none⟩ = some (.bool r.gone)) (exact HK.out _ (by first
          | exact (Below.refl _ wr).drew | exact Below.refl _ wr | exact HBL.out | exact HB3.out | exact HB4.out | exact HB5.out)) ((first
          | (go_at_call 23; refine (IHSh.out _ (Below.refl _ wr).drew).mono ?_; rintro e w3 ⟨rfl, hb3⟩; have HB3 := Lib.hid (bt (Below.refl _ wr).drew hb3); clear hb3)
          | (go_at_call 23; refine (IHSh.out _ HB4.out).mono ?_; rintro e w3 ⟨rfl, hb3⟩; have HBL := Lib.hid (bt HB4.out hb3); have HUL := Lib.hid (HU4.out.below (Nat.le_refl _) hb3); clear hb3)
          | (go_at_call 24; refine (IHSl.out _ (Below.refl _ wr).drew).mono ?_; rintro e w4 ⟨a4, c4, rfl, ho4, hu4, hn4, hb4⟩; have HN4 := Lib.hid hn4; have HC4 := Lib.hid ho4; have HU4 := Lib.hid hu4; have HB4 := Lib.hid (bt (Below.refl _ wr).drew hb4); clear ho4 hu4 hn4 hb4)
          | (go_at_call 24; refine (IHSl.out _ HB3.out).mono ?_; rintro e w4 ⟨a4, c4, rfl, ho4, hu4, hn4, hb4⟩; have HN4 := Lib.hid hn4; have HC4 := Lib.hid ho4; have HUL := Lib.hid hu4; have HBL := Lib.hid (bt HB3.out hb4); clear ho4 hu4 hn4 hb4)
          | (go_at_call 20; refine (C.lay (s : Int) (p : Int) a4 c4 s (rawSlots r) (v0 :: rawSlots r) 0 _ HSL.out (by omega) HSV.out HUL.out (OwnU.cap HC4.out HSL.out).1 (OwnU.cap HC4.out HSL.out).2 HN4.out HL1.out).mono ?_; rintro e w5 ⟨v5, rfl, ho5, hb5⟩; have HO5 := Lib.hid ho5; have HB5 := Lib.hid (bt HBL.out hb5); clear ho5 hb5)))
        all_goals
          obtain ⟨a5, c5, rfl, hu5, hl5, hm5, hn5⟩ := OwnU.out (n := s + 1) HO5.out (by rw [List.length_cons, HSL.out])
          obtain ⟨aw, cw, rfl, huw, hlw, hmw, hnw⟩ := OwnU.out (n := B) HW.out HBB.out
          have HN5 := Lib.hid hn5
          obtain ⟨f0, f1, f2, f3⟩ := HK.out _ HB5.out
          have hfs := fun w => field_sh w (s : Int) (p : Int)
          have hln : ((s : Int) + 1 != 1 + (s : Int)) = false := by simp; omega
          clear hu5 hn5 huw hnw
          go_wp2_with fail
          refine (IHSh.out _ HB5.out).mono ?_
          rintro e w6 ⟨rfl, hb6⟩
          have HB6 := Lib.hid (bt HB5.out hb6)
          have HO6 := Lib.hid (HO5.out.later' hb6)
          clear f0 f1 f2 f3
          obtain ⟨f0, f1, f2, f3⟩ := HK.out _ HB6.out
          clear hb6 HB5 HO5
          go_wp2_with fail
          refine (IHSh.out _ HB6.out).mono ?_
          rintro e w7 ⟨rfl, hb7⟩
          have HB7 := Lib.hid (bt HB6.out hb7)
          have HO7 := Lib.hid ((HO6.out.later' hb7).alloc (.cells #[.int .i64 B, .int .i64 s, .int .i64 p, .bool false, .int .u64 0] 53))
          have HW7 := Lib.hid ((HW.out.later' HB7.out).alloc (.cells #[.int .i64 B, .int .i64 s, .int .i64 p, .bool false, .int .u64 0] 53))
          have HR7 := Lib.hid ((HO.out.later HB7.out).alloc (.cells #[.int .i64 B, .int .i64 s, .int .i64 p, .bool false, .int .u64 0] 53))
          have HBA := Lib.hid (ba (bt HBE.out HB7.out) (.cells #[.int .i64 B, .int .i64 s, .int .i64 p, .bool false, .int .u64 0] 53))
          have hsz := HBA.out.size
          clear f0 f1 f2 f3 hb7 HO6 HB6
          go_wp2_with (at_builtin; refine wp_append_row 53 26 _ 40 info_ob Try.underlying26 rfl (by decide) (by decide) oc_len oc_one _ rfl (.tmp 58) (.tmp 67) rfl w1.heap.size _ (itObs 0 (rawIts false (l.take t))) rfl HR7.out w7.heap.size ⟨B, s, p, false, 0⟩ rfl ?_ ?_ ?_ ?_)
          · intro i u hi
            exact alloc_at _ _ rfl (by simpa [oc] using hi)
          · have := HDD.out; omega
          · exact hsz
          · intro v8 w8 hown8 hgrow8
            have HB8 := Lib.hid (OwnR.below HR7.out HBA.out (Nat.le_refl _) hgrow8)
            have HW8 := Lib.hid (OwnU.grown (by decide) HR7.out HW7.out hgrow8)
            have HO8 := Lib.hid (OwnU.grown (by decide) HR7.out HO7.out hgrow8)
            have HR8 := Lib.hid hown8
            obtain ⟨a8, c8, he8, hu8, hl8, hm8, hn8⟩ := OwnU.out (n := s + 1) HO8.out (by rw [List.length_cons, HSL.out])
            cases he8
            have HU8 := Lib.hid hu8
            have hsz8 := HB8.out.size
            clear hown8 hgrow8 hu8 hn8 HR7 HW7 HO7 HBA hsz
            go_wp2_with (at_builtin; refine wp_append_us _ (by rfl) (.tmp 69) (.tmp 70) rfl rfl w1.heap.size _ (itWords (rawIts false (l.take t))) (v0 :: rawSlots r) rfl HW8.out a5 (s + 1) c5 rfl (by rw [List.length_cons, HSL.out]) HU8.out HN5.out ?_ hsz8 ?_)
            · have := HBB.out; omega
            · intro v9 w9 hown9 hgrow9
              have HB9 := Lib.hid (HB8.out.grown hgrow9 HB8.out.size (fun j hj => (World.ownsRow.lt HW8.out j hj).1))
              have HR9 : Hid (OwnR 53 oc 5 w9 w1.heap.size v8 (itObs 0 (rawIts false (l.take (t + 1))))) := Lib.hid (by
                rw [HST.out.2, HBB.out]
                exact OwnR.grown (by decide) HR8.out HW8.out hgrow9)
              have HW9 : Hid (OwnU w9 w1.heap.size v9 (itWords (rawIts false (l.take (t + 1))))) := Lib.hid (by
                rw [HST.out.1, HV0.out]
                exact hown9)
              clear hown9 hgrow9 HB8 HW8 HO8 HR8 HU8
              go_wp2_with fail
              go_roundw
              case rel => exact ⟨t + 1, by go_num, by omega, by omega, HW9, HR9, HB9.out⟩
              case measure => simp [intOf]; omega
      · obtain rfl : t = 8 := by omega
        have dk8 : decide (((8 : Nat) : Int) < 8) = false := by simp
        have htn' : ((8 : Nat) : Int) < (n : Int) := by omega
        have hfin : True := trivial
        obtain ⟨its, hits⟩ : ∃ its, rawIts false (l.take 8) = its := ⟨_, rfl⟩
        have hio : ∀ i ∈ its, i.ok := hits ▸ rawIts_ok false _
        have hig : ∀ i ∈ its, i.gone = false := hits ▸ rawIts_none _
        have hil : its.length ≤ 8 := by rw [← hits, rawIts_len, List.length_take]; omega
        rw [hits] at HW HO
        have hwl := itWords_lt its hio
        have hol := itObs_len its 0
        have hkl := itKinds_len its hio
        have hw1 := walk_none its false hio hig
        have hw2 := walk_none its true hio hig
        have hkk := kinds_items its hio
        have hc1 := kinds_count1 its
        have hc2 := kinds_count2 its
        have hob := fun t i h => itObs_at its 0 t i h
        have hvl : ∀ v ∈ itWords its, v < 2 ^ 64 := itWords_u64 l HOK.out hits
        have hpk : ∀ (t : Nat) (i : It), its[t]? = some i → i.p ≤ 255 := fun t i h => by have := hio i (List.mem_of_getElem? h); have h1 := this.1; have h2 := this.2.1; omega
        obtain ⟨m, hm⟩ : ∃ m, (itWords its).length = m := ⟨_, rfl⟩
        obtain ⟨q, hq⟩ : ∃ q, its.length = q := ⟨_, rfl⟩
        rw [hm] at hwl hkl hkk
        rw [hq] at hil hol hwl hc1
        have HW1 := Lib.hid hw1
        have HW2 := Lib.hid hw2
        have HKK := Lib.hid hkk
        have HC1 := Lib.hid hc1
        have HC2 := Lib.hid hc2
        have HOB := Lib.hid hob
        have HVL := Lib.hid hvl
        have HPK := Lib.hid hpk
        have HM := Lib.hid hm
        have HQ := Lib.hid hq
        have HOL := Lib.hid hol
        have HKL := Lib.hid hkl
        have HBW := Lib.hid (bt HB1.out hbel)
        have hpst := Lib.hid (ptrs_step its)
        clear hw1 hw2 hkk hc1 hc2 hob hvl hpk hm hq hol hkl hits hio hig hbel HB1 hfin
        generalize itWords its = WD at *
        generalize itObs 0 its = OB at *
        generalize itKinds its = KK at *
        have hm3 : m ≤ 2048 := by omega
        obtain ⟨aw, cw, rfl, huw, hlw, hmw, hnw⟩ := OwnU.out (n := m) HW.out HM.out
        obtain ⟨ao2, co, rfl, hro, hlo, hmo, hno⟩ := OwnR.out oc_len (n := q) HO.out HOL.out
        have HUW := Lib.hid huw
        have HRO := Lib.hid hro
        have HNW := Lib.hid hnw
        clear huw hro hnw hno HW HO
        go_wp2_with fail
        refine (C.walk aw cw m WD OB 0 _ HM.out (by omega) HVL.out HUW.out hlw hmw HNW.out HW1.out).mono ?_
        rintro e w3 ⟨v3, rfl, ho3, hb3⟩
        obtain ⟨a3, c3, rfl, hr3, hl3, hm3', hn3⟩ := OwnR.out oc_len ho3 HOL.out
        have HUW3 := Lib.hid (HUW.out.below (Nat.le_refl _) hb3)
        have HRO3 := Lib.hid (HRO.out.below (Nat.le_refl _) hb3)
        have HR3 := Lib.hid hr3
        have HB3 := Lib.hid (bt HBW.out hb3)
        clear ho3 hr3 hn3 hb3 HBW HUW HRO
        go_wp2_with fail
        refine (C.old aw none cw 0 m 0 WD [] OB 0 _ HM.out rfl (by omega) (by omega) HVL.out HUW3.out (Rw.nil _ _) hlw hmw (by omega) (by omega) HNW.out (fun _ => rfl) HW2.out).mono ?_
        rintro e w4 ⟨v4, rfl, ho4, hb4⟩
        obtain ⟨a4, c4, rfl, hr4, hl4, hm4, hn4⟩ := OwnR.out oc_len ho4 HOL.out
        have HRO4 := Lib.hid (HRO3.out.below (Nat.le_refl _) hb4)
        have HR4 := Lib.hid (HR3.out.below (Nat.le_refl _) hb4)
        have HQ4 := Lib.hid hr4
        have HB4 := Lib.hid (bt HB3.out hb4)
        clear ho4 hr4 hn4 hb4 HB3 HUW3 HRO3 HR3
        go_wp2_with fail
        refine (C.kinds aw a3 cw c3 m q OB KK 0 _ HOL.out (by omega) (by omega) HR4.out HKK.out).mono ?_
        rintro e w5 ⟨v5, rfl, ho5, hb5⟩
        obtain ⟨a5, c5, rfl, hr5, hl5, hm5, hn5⟩ := OwnR.out ic_len ho5 HKL.out
        have HRO5 := Lib.hid (HRO4.out.below (Nat.le_refl _) hb5)
        have HR5 := Lib.hid (HR4.out.below (Nat.le_refl _) hb5)
        have HQ5 := Lib.hid (HQ4.out.below (Nat.le_refl _) hb5)
        have HK5 := Lib.hid hr5
        have HB5 := Lib.hid (bt HB4.out hb5)
        clear ho5 hr5 hn5 hb5 HB4 HRO4 HR4 HQ4
        go_wp2_with fail
        refine (sameObs _ _ _ _ q q OB OB _ HOL.out HOL.out (by omega) (by omega) HR5.out HRO5.out).mono ?_
        rintro e w6 ⟨rfl, hb6⟩
        rw [show decide (OB = OB) = true from by simp]
        have HRO6 := Lib.hid (HRO5.out.below (Nat.le_refl _) hb6)
        have HQ6 := Lib.hid (HQ5.out.below (Nat.le_refl _) hb6)
        have HK6 := Lib.hid (HK5.out.below (Nat.le_refl _) hb6)
        have HB6 := Lib.hid (bt HB5.out hb6)
        clear hb6 HRO5 HR5 HQ5 HK5 HB5
        go_wp2_with fail
        refine (sameObs _ _ _ _ q q OB OB _ HOL.out HOL.out (by omega) (by omega) HQ6.out HRO6.out).mono ?_
        rintro e w7 ⟨rfl, hb7⟩
        rw [show decide (OB = OB) = true from by simp]
        have HRO7 := Lib.hid (HRO6.out.below (Nat.le_refl _) hb7)
        have HK7 := Lib.hid (HK6.out.below (Nat.le_refl _) hb7)
        have HB7 := Lib.hid (bt HB6.out hb7)
        have dmm : ((m : Int) != (m : Int)) = false := by simp
        clear hb7 HRO6 HQ6 HK6 HB6
        go_wp2_with fail
        go_loopw [15, 16, 17] (fun vh vp i wr => ∃ t h p : Nat, i = .int .i64 t ∧ vh = .int .i64 h ∧ vp = .int .i64 p ∧ t ≤ m ∧ Hid ((KK.take t).count 1 = h ∧ (KK.take t).count 2 = p) ∧ h ≤ t ∧ p ≤ t ∧ Below w7.heap.size w7 wr) (fun _ _ i _ => m - (intOf i).toNat)
        case atStart => exact ⟨0, 0, 0, rfl, rfl, rfl, by omega, Lib.hid (by simp), by omega, by omega, Below.refl _ _⟩
        case round =>
          obtain ⟨t, h, p, rfl, rfl, rfl, ht, HC, hh, hpp, hbel⟩ := hrel
          by_cases htm : t < m
          · obtain ⟨x, hx⟩ : ∃ x, KK[t]? = some x := ⟨_, List.getElem?_eq_getElem (by have := HKL.out; omega)⟩
            obtain ⟨b, off, rfl, hbb, hc⟩ := in_cells HK7.out hx
            have hz := cell_step hbel hbb hc
            have h1 := count_step KK t x 1 hx
            have h2 := count_step KK t x 2 hx
            rw [HC.out.1] at h1
            rw [HC.out.2] at h2
            have htm' : (t : Int) < (m : Int) := by omega
            clear hx hc
            by_cases hx1 : x = 1
            · subst hx1
              rw [if_pos rfl] at h1
              rw [if_neg (by decide)] at h2
              have HC2' := Lib.hid (And.intro h1 h2)
              clear h1 h2
              go_wp2_with fail
              go_roundw
              case rel => exact ⟨t + 1, h + 1, p, by go_num, by go_num, rfl, by omega, HC2', by omega, by omega, hbel⟩
              case measure => simp [intOf]; omega
            · rw [if_neg hx1] at h1
              have hd1 : (x == 1) = false := by simp; omega
              by_cases hx2 : x = 2
              · subst hx2
                rw [if_pos rfl] at h2
                have HC2' := Lib.hid (And.intro h1 h2)
                clear h1 h2 hx1
                go_wp2_with fail
                go_roundw
                case rel => exact ⟨t + 1, h, p + 1, by go_num, rfl, by go_num, by omega, HC2', by omega, by omega, hbel⟩
                case measure => simp [intOf]; omega
              · rw [if_neg hx2] at h2
                have hd2 : (x == 2) = false := by simp; omega
                have HC2' := Lib.hid (And.intro h1 h2)
                clear h1 h2 hx1 hx2
                go_wp2_with fail
                go_roundw
                case rel => exact ⟨t + 1, h, p, by go_num, rfl, rfl, by omega, HC2', by omega, by omega, hbel⟩
                case measure => simp [intOf]; omega
          · obtain rfl : t = m := by omega
            have dtt : decide (t < t) = false := by simp
            have hcc := HC.out
            rw [List.take_of_length_le (by have := HKL.out; omega), HC1.out, HC2.out] at hcc
            obtain ⟨rfl, hpp2⟩ := hcc
            have HPP := Lib.hid hpp2
            have HRO8 := Lib.hid (HRO7.out.below (Nat.le_refl _) hbel)
            have HB8 := Lib.hid (bt HB7.out hbel)
            obtain ⟨w8, hw8⟩ : ∃ w8, w8 = wr := ⟨_, rfl⟩
            rw [← hw8] at HRO8 HB8 ⊢
            clear hw8 hbel hpp2 HC
            go_wp2_with fail
            go_loopw [16, 18] (fun vp i wr => ∃ (t : Nat) (z : Int), i = .int .i64 t ∧ vp = .int .i64 z ∧ t ≤ q ∧ Hid (z + (((its.take t).map (·.p)).sum : Nat) = (p : Int)) ∧ z ≤ 2048 ∧ -(255 * (t : Int)) ≤ z ∧ Below w8.heap.size w8 wr) (fun _ i _ => q - (intOf i).toNat)
            case atStart => exact ⟨0, p, rfl, rfl, by omega, Lib.hid (by simp), by omega, by omega, Below.refl _ _⟩
            case round =>
              obtain ⟨t, z, rfl, rfl, htq, HZ, hz1, hz2, hbel⟩ := hrel
              by_cases htm : t < q
              · obtain ⟨it, hi⟩ : ∃ it, its[t]? = some it := ⟨_, List.getElem?_eq_getElem (by have := HQ.out; omega)⟩
                have ho := HOB.out t it hi
                obtain ⟨b, off, rfl, hbb, d0, d1, d2, d3, d4⟩ := ob_cells HRO8.out ho
                have hz := cell_step hbel hbb d2
                have hpb := HPK.out t it hi
                have hst := hpst.out t it hi
                have HZ2 : Hid ((z - (it.p : Int)) + (((its.take (t + 1)).map (·.p)).sum : Nat) = (p : Int)) := Lib.hid (by have h1 := HZ.out; rw [hst]; push_cast; omega)
                simp only at hz
                have htm' : (t : Int) < (q : Int) := by omega
                clear hi ho d0 d1 d2 d3 d4 hst
                go_wp2_with fail
                go_roundw
                case rel => exact ⟨t + 1, z - it.p, by go_num, by go_num, by omega, HZ2, by omega, by omega, hbel⟩
                case measure => simp [intOf]; omega
              · obtain rfl : t = q := by omega
                have dtt : decide (t < t) = false := by simp
                have h1 := HZ.out
                rw [List.take_of_length_le (by have := HQ.out; omega), HPP.out] at h1
                obtain rfl : z = 0 := by omega
                clear h1 HZ
                go_wp2_with fail
                go_ret
                exact ⟨rfl, bt HB8.out hbel⟩
    · have dk : decide (t < n) = false := by simp; omega
      have hfin : l.take t = l.take 8 := by rw [List.take_of_length_le (by have := HN.out; omega), List.take_of_length_le (by have := HN.out; omega)]
      rw [hfin] at HW HO
      obtain ⟨its, hits⟩ : ∃ its, rawIts false (l.take 8) = its := ⟨_, rfl⟩
      have hio : ∀ i ∈ its, i.ok := hits ▸ rawIts_ok false _
      have hig : ∀ i ∈ its, i.gone = false := hits ▸ rawIts_none _
      have hil : its.length ≤ 8 := by rw [← hits, rawIts_len, List.length_take]; omega
      rw [hits] at HW HO
      have hwl := itWords_lt its hio
      have hol := itObs_len its 0
      have hkl := itKinds_len its hio
      have hw1 := walk_none its false hio hig
      have hw2 := walk_none its true hio hig
      have hkk := kinds_items its hio
      have hc1 := kinds_count1 its
      have hc2 := kinds_count2 its
      have hob := fun t i h => itObs_at its 0 t i h
      have hvl : ∀ v ∈ itWords its, v < 2 ^ 64 := itWords_u64 l HOK.out hits
      have hpk : ∀ (t : Nat) (i : It), its[t]? = some i → i.p ≤ 255 := fun t i h => by have := hio i (List.mem_of_getElem? h); have h1 := this.1; have h2 := this.2.1; omega
      obtain ⟨m, hm⟩ : ∃ m, (itWords its).length = m := ⟨_, rfl⟩
      obtain ⟨q, hq⟩ : ∃ q, its.length = q := ⟨_, rfl⟩
      rw [hm] at hwl hkl hkk
      rw [hq] at hil hol hwl hc1
      have HW1 := Lib.hid hw1
      have HW2 := Lib.hid hw2
      have HKK := Lib.hid hkk
      have HC1 := Lib.hid hc1
      have HC2 := Lib.hid hc2
      have HOB := Lib.hid hob
      have HVL := Lib.hid hvl
      have HPK := Lib.hid hpk
      have HM := Lib.hid hm
      have HQ := Lib.hid hq
      have HOL := Lib.hid hol
      have HKL := Lib.hid hkl
      have HBW := Lib.hid (bt HB1.out hbel)
      have hpst := Lib.hid (ptrs_step its)
      clear hw1 hw2 hkk hc1 hc2 hob hvl hpk hm hq hol hkl hits hio hig hbel HB1 hfin
      generalize itWords its = WD at *
      generalize itObs 0 its = OB at *
      generalize itKinds its = KK at *
      have hm3 : m ≤ 2048 := by omega
      obtain ⟨aw, cw, rfl, huw, hlw, hmw, hnw⟩ := OwnU.out (n := m) HW.out HM.out
      obtain ⟨ao2, co, rfl, hro, hlo, hmo, hno⟩ := OwnR.out oc_len (n := q) HO.out HOL.out
      have HUW := Lib.hid huw
      have HRO := Lib.hid hro
      have HNW := Lib.hid hnw
      clear huw hro hnw hno HW HO
      go_wp2_with fail
      refine (C.walk aw cw m WD OB 0 _ HM.out (by omega) HVL.out HUW.out hlw hmw HNW.out HW1.out).mono ?_
      rintro e w3 ⟨v3, rfl, ho3, hb3⟩
      obtain ⟨a3, c3, rfl, hr3, hl3, hm3', hn3⟩ := OwnR.out oc_len ho3 HOL.out
      have HUW3 := Lib.hid (HUW.out.below (Nat.le_refl _) hb3)
      have HRO3 := Lib.hid (HRO.out.below (Nat.le_refl _) hb3)
      have HR3 := Lib.hid hr3
      have HB3 := Lib.hid (bt HBW.out hb3)
      clear ho3 hr3 hn3 hb3 HBW HUW HRO
      go_wp2_with fail
      refine (C.old aw none cw 0 m 0 WD [] OB 0 _ HM.out rfl (by omega) (by omega) HVL.out HUW3.out (Rw.nil _ _) hlw hmw (by omega) (by omega) HNW.out (fun _ => rfl) HW2.out).mono ?_
      rintro e w4 ⟨v4, rfl, ho4, hb4⟩
      obtain ⟨a4, c4, rfl, hr4, hl4, hm4, hn4⟩ := OwnR.out oc_len ho4 HOL.out
      have HRO4 := Lib.hid (HRO3.out.below (Nat.le_refl _) hb4)
      have HR4 := Lib.hid (HR3.out.below (Nat.le_refl _) hb4)
      have HQ4 := Lib.hid hr4
      have HB4 := Lib.hid (bt HB3.out hb4)
      clear ho4 hr4 hn4 hb4 HB3 HUW3 HRO3 HR3
      go_wp2_with fail
      refine (C.kinds aw a3 cw c3 m q OB KK 0 _ HOL.out (by omega) (by omega) HR4.out HKK.out).mono ?_
      rintro e w5 ⟨v5, rfl, ho5, hb5⟩
      obtain ⟨a5, c5, rfl, hr5, hl5, hm5, hn5⟩ := OwnR.out ic_len ho5 HKL.out
      have HRO5 := Lib.hid (HRO4.out.below (Nat.le_refl _) hb5)
      have HR5 := Lib.hid (HR4.out.below (Nat.le_refl _) hb5)
      have HQ5 := Lib.hid (HQ4.out.below (Nat.le_refl _) hb5)
      have HK5 := Lib.hid hr5
      have HB5 := Lib.hid (bt HB4.out hb5)
      clear ho5 hr5 hn5 hb5 HB4 HRO4 HR4 HQ4
      go_wp2_with fail
      refine (sameObs _ _ _ _ q q OB OB _ HOL.out HOL.out (by omega) (by omega) HR5.out HRO5.out).mono ?_
      rintro e w6 ⟨rfl, hb6⟩
      rw [show decide (OB = OB) = true from by simp]
      have HRO6 := Lib.hid (HRO5.out.below (Nat.le_refl _) hb6)
      have HQ6 := Lib.hid (HQ5.out.below (Nat.le_refl _) hb6)
      have HK6 := Lib.hid (HK5.out.below (Nat.le_refl _) hb6)
      have HB6 := Lib.hid (bt HB5.out hb6)
      clear hb6 HRO5 HR5 HQ5 HK5 HB5
      go_wp2_with fail
      refine (sameObs _ _ _ _ q q OB OB _ HOL.out HOL.out (by omega) (by omega) HQ6.out HRO6.out).mono ?_
      rintro e w7 ⟨rfl, hb7⟩
      rw [show decide (OB = OB) = true from by simp]
      have HRO7 := Lib.hid (HRO6.out.below (Nat.le_refl _) hb7)
      have HK7 := Lib.hid (HK6.out.below (Nat.le_refl _) hb7)
      have HB7 := Lib.hid (bt HB6.out hb7)
      have dmm : ((m : Int) != (m : Int)) = false := by simp
      clear hb7 HRO6 HQ6 HK6 HB6
      go_wp2_with fail
      go_loopw [15, 16, 17] (fun vh vp i wr => ∃ t h p : Nat, i = .int .i64 t ∧ vh = .int .i64 h ∧ vp = .int .i64 p ∧ t ≤ m ∧ Hid ((KK.take t).count 1 = h ∧ (KK.take t).count 2 = p) ∧ h ≤ t ∧ p ≤ t ∧ Below w7.heap.size w7 wr) (fun _ _ i _ => m - (intOf i).toNat)
      case atStart => exact ⟨0, 0, 0, rfl, rfl, rfl, by omega, Lib.hid (by simp), by omega, by omega, Below.refl _ _⟩
      case round =>
        obtain ⟨t, h, p, rfl, rfl, rfl, ht, HC, hh, hpp, hbel⟩ := hrel
        by_cases htm : t < m
        · obtain ⟨x, hx⟩ : ∃ x, KK[t]? = some x := ⟨_, List.getElem?_eq_getElem (by have := HKL.out; omega)⟩
          obtain ⟨b, off, rfl, hbb, hc⟩ := in_cells HK7.out hx
          have hz := cell_step hbel hbb hc
          have h1 := count_step KK t x 1 hx
          have h2 := count_step KK t x 2 hx
          rw [HC.out.1] at h1
          rw [HC.out.2] at h2
          have htm' : (t : Int) < (m : Int) := by omega
          clear hx hc
          by_cases hx1 : x = 1
          · subst hx1
            rw [if_pos rfl] at h1
            rw [if_neg (by decide)] at h2
            have HC2' := Lib.hid (And.intro h1 h2)
            clear h1 h2
            go_wp2_with fail
            go_roundw
            case rel => exact ⟨t + 1, h + 1, p, by go_num, by go_num, rfl, by omega, HC2', by omega, by omega, hbel⟩
            case measure => simp [intOf]; omega
          · rw [if_neg hx1] at h1
            have hd1 : (x == 1) = false := by simp; omega
            by_cases hx2 : x = 2
            · subst hx2
              rw [if_pos rfl] at h2
              have HC2' := Lib.hid (And.intro h1 h2)
              clear h1 h2 hx1
              go_wp2_with fail
              go_roundw
              case rel => exact ⟨t + 1, h, p + 1, by go_num, rfl, by go_num, by omega, HC2', by omega, by omega, hbel⟩
              case measure => simp [intOf]; omega
            · rw [if_neg hx2] at h2
              have hd2 : (x == 2) = false := by simp; omega
              have HC2' := Lib.hid (And.intro h1 h2)
              clear h1 h2 hx1 hx2
              go_wp2_with fail
              go_roundw
              case rel => exact ⟨t + 1, h, p, by go_num, rfl, rfl, by omega, HC2', by omega, by omega, hbel⟩
              case measure => simp [intOf]; omega
        · obtain rfl : t = m := by omega
          have dtt : decide (t < t) = false := by simp
          have hcc := HC.out
          rw [List.take_of_length_le (by have := HKL.out; omega), HC1.out, HC2.out] at hcc
          obtain ⟨rfl, hpp2⟩ := hcc
          have HPP := Lib.hid hpp2
          have HRO8 := Lib.hid (HRO7.out.below (Nat.le_refl _) hbel)
          have HB8 := Lib.hid (bt HB7.out hbel)
          obtain ⟨w8, hw8⟩ : ∃ w8, w8 = wr := ⟨_, rfl⟩
          rw [← hw8] at HRO8 HB8 ⊢
          clear hw8 hbel hpp2 HC
          go_wp2_with fail
          go_loopw [16, 18] (fun vp i wr => ∃ (t : Nat) (z : Int), i = .int .i64 t ∧ vp = .int .i64 z ∧ t ≤ q ∧ Hid (z + (((its.take t).map (·.p)).sum : Nat) = (p : Int)) ∧ z ≤ 2048 ∧ -(255 * (t : Int)) ≤ z ∧ Below w8.heap.size w8 wr) (fun _ i _ => q - (intOf i).toNat)
          case atStart => exact ⟨0, p, rfl, rfl, by omega, Lib.hid (by simp), by omega, by omega, Below.refl _ _⟩
          case round =>
            obtain ⟨t, z, rfl, rfl, htq, HZ, hz1, hz2, hbel⟩ := hrel
            by_cases htm : t < q
            · obtain ⟨it, hi⟩ : ∃ it, its[t]? = some it := ⟨_, List.getElem?_eq_getElem (by have := HQ.out; omega)⟩
              have ho := HOB.out t it hi
              obtain ⟨b, off, rfl, hbb, d0, d1, d2, d3, d4⟩ := ob_cells HRO8.out ho
              have hz := cell_step hbel hbb d2
              have hpb := HPK.out t it hi
              have hst := hpst.out t it hi
              have HZ2 : Hid ((z - (it.p : Int)) + (((its.take (t + 1)).map (·.p)).sum : Nat) = (p : Int)) := Lib.hid (by have h1 := HZ.out; rw [hst]; push_cast; omega)
              simp only at hz
              have htm' : (t : Int) < (q : Int) := by omega
              clear hi ho d0 d1 d2 d3 d4 hst
              go_wp2_with fail
              go_roundw
              case rel => exact ⟨t + 1, z - it.p, by go_num, by go_num, by omega, HZ2, by omega, by omega, hbel⟩
              case measure => simp [intOf]; omega
            · obtain rfl : t = q := by omega
              have dtt : decide (t < t) = false := by simp
              have h1 := HZ.out
              rw [List.take_of_length_le (by have := HQ.out; omega), HPP.out] at h1
              obtain rfl : z = 0 := by omega
              clear h1 HZ
              go_wp2_with fail
              go_ret
              exact ⟨rfl, bt HB8.out hbel⟩
end Go.Proofs.Ytjefajpipgicdaa.V
