/-
  ObjectsLay, walked under what is asked of the program's functions.
-/
import Derived.Test.YtjefajpipgicdaaOLawOld
import Derived.Test.YtjefajpipgicdaaHProg
set_option linter.unusedVariables false
namespace Go.Proofs.Ytjefajpipgicdaa.V
open Go.RowKit

theorem lay_raw (r : RawV) (s p : Nat) (hs : rawS r = s) (hp : rawP r = p) :
    layL s p (rawSlots r) = (hpack s p :: rawSlots r, 0) ∧ (∀ x, layL s p (rawSlots r ++ [x]) = ([], 1)) ∧
    (∀ k v, k < s → (¬ k < p ∨ isPtr v = true) → layL s p ((rawSlots r).set k v) = (hpack s p :: (rawSlots r).set k v, 0) ∧ walkL (hpack s p :: (rawSlots r).set k v) [] false = ([⟨0, s, p, false, 0⟩], 0)) ∧
    (∀ k v, k < s → k < p → isPtr v = false → layL s p ((rawSlots r).set k v) = ([], 3)) := by
  have h1 := rawIt_ok false 0 r
  simp only [rawIt, Bool.false_and, Bool.false_eq_true, if_false, It.ok] at h1
  rw [hs, hp] at h1
  obtain ⟨a1, a2, a3, a4, _⟩ := h1
  have hr : hright (s : Int) (p : Int) := ⟨by omega, by omega, by omega, by omega⟩
  have hset : ∀ k v, k < s → slotsOk ((rawSlots r).set k v) p false = (!decide ((k : Int) < p) || isPtr v) := fun k v hk => slotsOk_set (rawSlots r) p k v (by omega) a4
  refine ⟨?_, ?_, ?_, ?_⟩
  · unfold layL
    rw [if_pos ⟨hr, by omega⟩, if_pos a4, Int.toNat_natCast, Int.toNat_natCast]
  · intro x
    unfold layL
    rw [if_neg (by rw [List.length_append, a3, List.length_singleton]; omega)]
  · intro k v hk hv
    have hok : slotsOk ((rawSlots r).set k v) p false = true := by
      rw [hset k v hk]
      rcases hv with h | h
      · rw [show decide ((k : Int) < (p : Int)) = false by simp; omega]; rfl
      · rw [h]; simp
    refine ⟨?_, ?_⟩
    · unfold layL
      rw [if_pos ⟨hr, by rw [List.length_set]; omega⟩, if_pos hok, Int.toNat_natCast, Int.toNat_natCast]
    · have := walk_none [⟨s, p, false, 0, (rawSlots r).set k v⟩] false (by
        intro i hi
        simp at hi
        subst hi
        exact ⟨a1, a2, by simp; exact a3, hok, by simp, by simp⟩) (by simp)
      simpa [itWords, It.words, itObs] using this
  · intro k v hk hkp hv
    unfold layL
    rw [if_pos ⟨hr, by rw [List.length_set]; omega⟩, hset k v hk, hv, show decide ((k : Int) < (p : Int)) = true by simp; omega]
    rfl
theorem grown_nil {w X w' : World} (hb : Below w.heap.size w X) (hg : X.grownBy w' (Value.slice none 0 0).ownBlock) : Below w.heap.size w w' :=
  hb.grown hg hb.size (fun j hj => by simp [Value.ownBlock] at hj)
/-- append(nil, l...) behind a slice of one number: what stands, and that slice itself. -/
theorem grown_lit {w w' : World} {x : Nat} (hg : (w.alloc (.cells #[.int .u64 (x : Int)] 24)).drew.grownBy w' (Value.slice none 0 0).ownBlock) : Below w.heap.size w w' ∧ Us w' (some ⟨w.heap.size, 0, none⟩) [x] :=
  ⟨grown_nil (ba0 w _).drew hg, (us_lit1 w x).below (Nat.le_refl _) (grown_nil (Below.refl _ _).drew hg)⟩
theorem eql_sh (w : World) (a b : Int) : (binOp .eql 28 (.agg #[.int .i64 a, .int .i64 b]) (.agg #[.int .i64 a, .int .i64 b])).run Try.prog w = .ok (.bool true) w := by
  have u3 := Try.underlying3
  have a3 := Try.isAgg3
  have z3 := Try.sizeOf3
  have hS : Try.prog.underlying 28 = some (.struct (Try.prog.fieldsOf 28)) := by kernel_rfl
  have hp : Try.prog.stoodInHeld 28 = false := by kernel_rfl
  rw [run_eql_struct, show (10000 : Nat) = 9999 + 1 from rfl, run_equalIn_agg w 9999 28 _ _ hS hp]
  simp only [Program.fieldsOf, Try.underlying28]
  go_simp
theorem rawSlots_u64 (r : RawV) (h : ∀ v ∈ r.zs, v < 2 ^ 64) : ∀ v ∈ rawSlots r, v < 2 ^ 64 := by
  intro v hv
  simp only [rawSlots, List.mem_map] at hv
  obtain ⟨j, _, rfl⟩ := hv
  exact slotW_lt _ _ _ h

set_option maxRecDepth 100000 in
set_option maxHeartbeats 1000000 in
theorem objectsLay_try (C : ObjC) (r : RawV) (c : Int) (x : Nat) (w : World) (hok : r.ok w) (b0 : -9223372036854775808 ≤ c) (b1 : c ≤ 9223372036854775807) (hx : x < 2 ^ 64) :
    Calls Try.prog 8 #[.agg #[.int .i64 r.size, .int .i64 r.ptrs, .slice r.ao r.zs.length r.cap, .bool r.gone], .int .i64 c, .int .u64 x] w fun e w' => e = .returned (.bool true) ∧ Below w.heap.size w w' := by
  obtain ⟨s, hs⟩ : ∃ s, rawS r = s := ⟨_, rfl⟩
  obtain ⟨p, hp⟩ : ∃ p, rawP r = p := ⟨_, rfl⟩
  have hs7 := (rawS_lt r).1
  have hps := (rawP_le r).1
  rw [hs] at hs7 hps
  rw [hp] at hps
  have hlr := lay_raw r s p hs hp
  have hsl : (rawSlots r).length = s := by rw [rawSlots_len, hs]
  have hsv := rawSlots_u64 r hok.2.2.1
  obtain ⟨v0, hv0⟩ : ∃ v, hpack s p = v := ⟨_, rfl⟩
  have hvl : v0 < 2 ^ 64 := by rw [← hv0]; have := hpack_lt s p (by omega) hps; omega
  rw [hv0] at hlr
  have IHS := Lib.hid (fun w' (hb : Below w.heap.size w w') => shapeOf r s p w' (hok.below (Nat.le_refl _) hb) hs hp)
  have IHV := Lib.hid (fun w' (hb : Below w.heap.size w w') => slotsOf r s p w' (hok.below (Nat.le_refl _) hb) hs hp)
  have HV0 := Lib.hid hv0
  have HSL := Lib.hid hsl
  have HSV := Lib.hid hsv
  have HL1 := Lib.hid hlr.1
  have HL2 := Lib.hid hlr.2.1
  have HL3 := Lib.hid hlr.2.2.1
  have HL4 := Lib.hid hlr.2.2.2
  clear hlr hsl hsv hv0 hs hp hok
  generalize rawSlots r = SL at *
  go_enter Try.func8, Try.ntmps8
  go_wp2_with fail
  refine (awake06 C _).mono ?_
  rintro e w1 ⟨rfl, hb1'⟩
  have HB1 := Lib.hid (bt (ba0 w (.cells #[.int .i64 r.size, .int .i64 r.ptrs, .slice r.ao r.zs.length r.cap, .bool r.gone] 50)) hb1')
  have hw0 : w.heap.size < (w.alloc (.cells #[.int .i64 r.size, .int .i64 r.ptrs, .slice r.ao r.zs.length r.cap, .bool r.gone] 50)).heap.size := by simp
  have f0 : w1.cell? ⟨w.heap.size, 0, none⟩ = some (.int .i64 r.size) := cell_step hb1' hw0 (alloc_at _ _ rfl (i := 0) rfl)
  have f1 : w1.cell? ⟨w.heap.size, 1, none⟩ = some (.int .i64 r.ptrs) := cell_step hb1' hw0 (alloc_at _ _ rfl (i := 1) rfl)
  have f2 : w1.cell? ⟨w.heap.size, 2, none⟩ = some (.slice r.ao r.zs.length r.cap) := cell_step hb1' hw0 (alloc_at _ _ rfl (i := 2) rfl)
  have f3 : w1.cell? ⟨w.heap.size, 3, none⟩ = some (.bool r.gone) := cell_step hb1' hw0 (alloc_at _ _ rfl (i := 3) rfl)
  have hwl1 : w.heap.size < w1.heap.size := Nat.lt_of_lt_of_le hw0 hb1'.size
  clear hb1' hw0
  go_wp2_with fail
  refine (IHS.out _ HB1.out).mono ?_
  rintro e w2 ⟨rfl, hb2⟩
  have hb2' := ba hb2 (.cells #[.int .i64 s, .int .i64 p] 28)
  have g0 := cell_step hb2' hwl1 f0
  have g1 := cell_step hb2' hwl1 f1
  have g2 := cell_step hb2' hwl1 f2
  have g3 := cell_step hb2' hwl1 f3
  have HB2 := Lib.hid (bt HB1.out hb2')
  have HS2 := Lib.hid (ShAt.new w2 s p)
  clear hb2 hb2' f0 f1 f2 f3 hwl1 HB1
  go_wp2_with fail
  refine (IHV.out _ HB2.out).mono ?_
  rintro e w3 ⟨v3, rfl, ho3, hb3⟩
  obtain ⟨a3, c3, rfl, hu3, hl3, hm3, hn3⟩ := OwnU.out ho3 HSL.out
  have HU3 := Lib.hid hu3
  have HN3 := Lib.hid hn3
  have HB3 := Lib.hid (bt HB2.out hb3)
  have HS3 := Lib.hid (HS2.out.below hb3)
  have s0 := HS3.out.c0
  have s1 := HS3.out.c1
  generalize w2.heap.size = G at *
  clear ho3 hu3 hn3 hb3 g0 g1 g2 g3 HB2 HS2
  go_wp2_with fail
  refine (C.lay (s : Int) (p : Int) a3 c3 s SL (v0 :: SL) 0 _ HSL.out (by omega) HSV.out HU3.out hl3 hm3 HN3.out HL1.out).mono ?_
  rintro e w4 ⟨v4, rfl, ho4, hb4⟩
  obtain ⟨a4, c4, rfl, hu4, hl4, hm4, hn4⟩ := OwnU.out (n := s + 1) ho4 (by rw [List.length_cons, HSL.out])
  have HU4 := Lib.hid (HU3.out.below (Nat.le_refl _) hb4)
  have HV4 := Lib.hid hu4
  have HB4 := Lib.hid (bt HB3.out hb4)
  have HS4 := Lib.hid (HS3.out.below hb4)
  have s0 := HS4.out.c0
  have s1 := HS4.out.c1
  clear ho4 hu4 hn4 hb4 HU3 HB3 HS3
  go_wp2_with fail
  refine (hPackYes s p v0 _ (by omega) hps HV0.out).mono ?_
  rintro e w5 ⟨rfl, hb5⟩
  have HU5 := Lib.hid (HU4.out.below (Nat.le_refl _) hb5)
  have HV5 := Lib.hid (HV4.out.below (Nat.le_refl _) hb5)
  have HB5 := Lib.hid (bt HB4.out hb5)
  have HS5 := Lib.hid (HS4.out.below hb5)
  have HO5 := Lib.hid (OwnU.lit1 w5 w5.heap.size v0 (Nat.le_refl _))
  have HC5 := Lib.hid (ba0 w5 (.cells #[.int .u64 (v0 : Int)] 24))
  have HU6 := Lib.hid (HU5.out.below (Nat.le_refl _) HC5.out)
  clear hb5 HU4 HV4 HB4 HS4
  clear s0 s1
  have hsz := HC5.out.size
  go_wp2_with (at_builtin; refine wp_append_us _ (by rfl) (.tmp 49) (.tmp 50) rfl rfl w5.heap.size _ [v0] SL rfl HO5.out a3 s c3 rfl HSL.out HU6.out HN3.out ?_ hsz ?_)
  · simp; omega
  · intro v7 w7 hown7 hgrow7
    have hb7 := HC5.out.grown hgrow7 HC5.out.size (fun j hj => (World.ownsRow.lt HO5.out j hj).1)
    obtain ⟨a7, c7, rfl, hu7, hl7, hm7, hn7⟩ := OwnU.out (n := s + 1) hown7 (by rw [List.length_cons, HSL.out])
    have HU7 := Lib.hid (HU5.out.below (Nat.le_refl _) hb7)
    have HV7 := Lib.hid (HV5.out.below (Nat.le_refl _) hb7)
    have HX7 := Lib.hid hu7
    have HB7 := Lib.hid (bt HB5.out hb7)
    have HS7 := Lib.hid (HS5.out.below hb7)
    clear hown7 hgrow7 hb7 hu7 hn7 HU5 HV5 HB5 HS5 HO5 HC5 HU6 hsz
    go_wp2_with fail
    refine (nums_m _ _ _ _ (s + 1) (s + 1) (v0 :: SL) (v0 :: SL) _ (by rw [List.length_cons, HSL.out]) (by rw [List.length_cons, HSL.out]) (by omega) (by omega) HV7.out HX7.out).mono ?_
    rintro e w8 ⟨rfl, hb8⟩
    rw [show decide (v0 :: SL = v0 :: SL) = true from by simp]
    have HU8 := Lib.hid (HU7.out.below (Nat.le_refl _) hb8)
    have HB8 := Lib.hid (bt HB7.out hb8)
    have HS8 := Lib.hid (HS7.out.below hb8)
    clear hb8 HU7 HV7 HX7 HB7 HS7
    go_wp2_with fail
    have hkeep : Hid (∀ w' : World, Below w8.heap.size w8 w' → w'.cell? ⟨G, 0, none⟩ = some (.int .i64 s) ∧ w'.cell? ⟨G, 1, none⟩ = some (.int .i64 p)) := Lib.hid fun w' h => ⟨(HS8.out.below h).c0, (HS8.out.below h).c1⟩
    have HLN : Hid ((SL ++ [0]).length = s + 1) := Lib.hid (by rw [List.length_append, HSL.out]; rfl)
    have HSV2 : Hid (∀ v ∈ SL ++ [0], v < 2 ^ 64) := Lib.hid (by
      intro v hv
      rcases List.mem_append.1 hv with h | h
      · exact HSV.out v h
      · simp at h; omega)
    have HXD : Hid (Below w8.heap.size w8 (w8.alloc (.cells #[.int .u64 ((0 : Nat) : Int)] 24)).drew) := Lib.hid (ba0 w8 _).drew
    go_region_held3 (fun w' => w'.cell? ⟨G, 0, none⟩ = some (.int .i64 s) ∧ w'.cell? ⟨G, 1, none⟩ = some (.int .i64 p)) (exact hkeep.out _ (by first
      | exact (Below.refl _ w8).drew | exact Below.refl _ w8 | exact ba0 w8 _ | exact HXD.out | exact HB9.out | exact ba HB9.out _ | exact HB10.out | exact bt HB10.out HB11.out)) ((first
      | (refine step_append_us2 rfl (.const (.slice none 0 0)) (.tmp 57) rfl rfl w8.heap.size _ [] SL rfl ⟨rfl, Or.inl ⟨rfl, rfl⟩⟩ a3 s c3 rfl HSL.out (HU8.out.below (Nat.le_refl _) (Below.refl _ w8).drew) HN3.out (by have := HSL.out; simp; omega) (Below.refl w8.heap.size w8).drew.size ?_
         intro v9 w9 h1 h2
         have HB9 := Lib.hid (grown_nil (Below.refl w8.heap.size w8).drew h2)
         have HO9 := Lib.hid h1
         clear h1 h2)
      | (refine step_append_us2 rfl (.const (.slice none 0 0)) (.tmp 57) rfl rfl w8.heap.size _ [] SL rfl ⟨rfl, Or.inl ⟨rfl, rfl⟩⟩ a3 s c3 rfl HSL.out (HU8.out.below (Nat.le_refl _) HXD.out) HN3.out (by have := HSL.out; simp; omega) HXD.out.size ?_
         intro v9 w9 h1 h2
         have HG9 := Lib.hid (grown_lit (x := 0) h2)
         have HB9 := Lib.hid HG9.out.1
         have HO9 := Lib.hid h1
         clear h1 h2)
      | (refine step_append_us2 rfl (.tmp 58) (.tmp 59) rfl rfl w8.heap.size _ SL [0] rfl HO9.out _ 1 1 rfl rfl HG9.out.2 (by intro h; cases h) (by have := HLN.out; omega) HB9.out.size ?_
         intro v10 w10 h1 h2
         have HB10 := Lib.hid (HB9.out.grown h2 HB9.out.size (fun j hj => (World.ownsRow.lt HO9.out j hj).1))
         obtain ⟨a10, c10, rfl, hu10, hl10, hm10, hn10⟩ := OwnU.out h1 HLN.out
         have HU10 := Lib.hid hu10
         have HN10 := Lib.hid hn10
         clear h1 h2 hu10 hn10)
      | (refine step_append_us2 rfl (.tmp 58) (.tmp 59) rfl rfl w8.heap.size _ SL [0] rfl (HO9.out.alloc (.cells #[.int .u64 ((0 : Nat) : Int)] 24)) _ 1 1 rfl rfl (us_lit1 w9 0) (by intro h; cases h) (by have := HLN.out; omega) (ba HB9.out (.cells #[.int .u64 ((0 : Nat) : Int)] 24)).size ?_
         intro v10 w10 h1 h2
         have HB10 := Lib.hid ((ba HB9.out (.cells #[.int .u64 ((0 : Nat) : Int)] 24)).grown h2 (ba HB9.out (.cells #[.int .u64 ((0 : Nat) : Int)] 24)).size (fun j hj => (World.ownsRow.lt (HO9.out.alloc (.cells #[.int .u64 ((0 : Nat) : Int)] 24)) j hj).1))
         obtain ⟨a10, c10, rfl, hu10, hl10, hm10, hn10⟩ := OwnU.out h1 HLN.out
         have HU10 := Lib.hid hu10
         have HN10 := Lib.hid hn10
         clear h1 h2 hu10 hn10)
      | (go_at_call 20; refine (C.lay (s : Int) (p : Int) a10 c10 (s + 1) (SL ++ [0]) [] 1 _ HLN.out (by omega) HSV2.out HU10.out hl10 hm10 HN10.out (HL2.out 0)).mono ?_; rintro e w11 ⟨v11, rfl, ho11, hb11⟩; have HB11 := Lib.hid hb11; clear ho11 hb11)))
    all_goals
      have HU11 := Lib.hid (HU8.out.below (Nat.le_refl _) (bt HB10.out HB11.out))
      have HB12 := Lib.hid (bt HB8.out (bt HB10.out HB11.out))
      have HS11 := Lib.hid (HS8.out.below (bt HB10.out HB11.out))
      have s0 := HS11.out.c0
      have s1 := HS11.out.c1
      clear HU8 HB8 HS8 HB9 HB10 HB11 HO9 HU10 HN10 HXD HLN HSV2 hkeep
      by_cases hs0 : s = 0
      · have d0 : ((s : Int) == 0) = true := by simp; omega
        clear hs0
        go_wp2_with fail
        go_ret
        exact ⟨rfl, HB12.out⟩
      · have d0 : ((s : Int) == 0) = false := by simp; omega
        obtain ⟨k, hk, hk2⟩ := pk_nat c (s : Int) (by omega)
        have HK := Lib.hid hk
        have hks : k < s := by omega
        have hs1 : 0 < s := by omega
        clear hs0 hk hk2
        go_wp2_with fail
        refine (pick06_int c (s : Int) k _ b0 b1 (by omega) (by omega) HK.out).mono ?_
        rintro e w' ⟨rfl, rfl⟩
        go_wp2_with (at_builtin; refine wp_append_us _ (by rfl) (.const (.slice none 0 0)) (.tmp 74) rfl rfl w11.heap.size _ [] SL rfl ⟨rfl, Or.inl ⟨rfl, rfl⟩⟩ a3 s c3 rfl HSL.out HU11.out HN3.out ?_ (Nat.le_refl _) ?_)
        · simp; omega
        · intro v13 w13 hown13 hgrow13
          have hb13 := grown_nil (Below.refl w11.heap.size w11) hgrow13
          obtain ⟨g, c13, rfl, hg1, hg2, hu13, hfz, hl13, hm13⟩ := OwnU.some (l := SL) (by simpa using hown13) HSL.out hs1
          obtain ⟨b9, off9, he9, hbb9, hcell⟩ := hu13 k (by have := HSL.out; omega)
          cases he9
          rw [Nat.zero_add] at hcell
          have hfk := hfz k
          have HU14 := Lib.hid (hu13.set k x (by have := HSL.out; omega))
          have hb14 : Below w11.heap.size w11 (w13.setCell ⟨g, k, none⟩ (.int .u64 (x : Int))) := hb13.setCell hg1 _
          have HB14 := Lib.hid (bt HB12.out hb14)
          have HS14 := Lib.hid (HS11.out.below hb14)
          have t0 := HS14.out.c0
          have t1 := HS14.out.c1
          have HLS : Hid ((SL.set k x).length = s) := Lib.hid (by rw [List.length_set, HSL.out])
          have HVS : Hid (∀ v ∈ SL.set k x, v < 2 ^ 64) := Lib.hid (fun v hv => by rcases List.mem_or_eq_of_mem_set hv with h | h; exact HSV.out v h; rw [h]; exact hx)
          clear hown13 hgrow13 hb13 hb14 hu13 hfz HU11 HB12 HS11 hbb9 s0 s1
          go_wp2_with fail
          clear t0 t1
          obtain ⟨A1, hA1⟩ : ∃ A, (haddr x).1 = A := ⟨_, rfl⟩
          obtain ⟨A2, hA2⟩ : ∃ A, (haddr x).2 = A := ⟨_, rfl⟩
          have HAD := Lib.hid (fun w' => hAddress x w' hx)
          rw [hA1, hA2] at HAD
          by_cases hq : ¬ k < p ∨ isPtr x = true
          · obtain ⟨e1, e2⟩ := HL3.out k x hks hq
            have HE2 := Lib.hid e2
            have hcond : (decide (k < p) = false) ∨ (decide (k < p) = true ∧ ((A2 : Int) == 3) = false) := by
              by_cases hkp : k < p
              · refine Or.inr ⟨by simpa using hkp, ?_⟩
                have h1 : isPtr x = true := by rcases hq with h | h; exact absurd hkp h; exact h
                unfold isPtr at h1
                rw [hA2] at h1
                have h2 : A2 ≠ 3 := by
                  intro h3
                  rw [h3] at h1
                  have hx0 : x = 0 := by simpa using h1
                  rw [hx0] at hA2
                  simp [haddr] at hA2
                  omega
                simp; omega
              · exact Or.inl (by simpa using hkp)
            clear hA1 hA2 hq
            refine (C.lay (s : Int) (p : Int) _ c13 s (SL.set k x) (v0 :: SL.set k x) 0 _ HLS.out (by omega) HVS.out HU14.out hl13 hm13 (by intro h; cases h) e1).mono ?_
            rintro e w15 ⟨v15, rfl, ho15, hb15⟩
            obtain ⟨a15, c15, rfl, hu15, hl15, hm15, hn15⟩ := OwnU.out (n := s + 1) ho15 (by rw [List.length_cons, HLS.out])
            have HU15 := Lib.hid hu15
            have HN15 := Lib.hid hn15
            have HB15 := Lib.hid (bt HB14.out hb15)
            have HS15 := Lib.hid (HS14.out.below hb15)
            have HVV : Hid (∀ v ∈ v0 :: SL.set k x, v < 2 ^ 64) := Lib.hid (fun v hv => by rcases List.mem_cons.1 hv with h | h; rw [h]; exact hvl; exact HVS.out v h)
            clear ho15 hu15 hn15 hb15 HB14 HS14 HU14 e1 e2
            go_wp2_with fail
            refine (HAD.out _).mono ?_
            rintro e w' ⟨rfl, rfl⟩
            have s0 := HS15.out.c0
            have s1 := HS15.out.c1
            rcases hcond with dk | ⟨dk, dE⟩ <;> go_wp2_with fail
            all_goals
              refine (C.walk a15 c15 (s + 1) (v0 :: SL.set k x) [⟨0, s, p, false, 0⟩] 0 _ (by rw [List.length_cons, HLS.out]) (by omega) HVV.out HU15.out hl15 hm15 HN15.out HE2.out).mono ?_
              rintro e w16 ⟨v16, rfl, ho16, hb16⟩
              obtain ⟨a16, c16, rfl, hr16, hl16, hm16, hn16⟩ := OwnR.out oc_len (n := 1) ho16 rfl
              obtain ⟨b, off, rfl, hbb, d0, d1, d2, d3, d4⟩ := ob_cells hr16 (k := 0) rfl
              have HD := Lib.hid (And.intro d1 d2)
              have HB16 := Lib.hid (bt HB15.out hb16)
              have HS16 := Lib.hid (HS15.out.below hb16)
              have hGl := HS16.out.lt
              have hl1 : Hid (∀ w', (∃ z : GW w16, w' = z.w') → w'.cell? ⟨b, off + 1, none⟩ = some (.int .i64 s) ∧ w'.cell? ⟨b, off + 1 + 1, none⟩ = some (.int .i64 p)) := Lib.hid (by
                rintro w' ⟨z, rfl⟩
                exact ⟨cell_step z.h hbb (by simpa using HD.out.1), cell_step z.h hbb (by simpa using HD.out.2)⟩)
              have hl2 : Hid (∀ w', (∃ z : GW w16, w' = z.w') → w'.cell? ⟨G, 0, none⟩ = some (.int .i64 s) ∧ w'.cell? ⟨G, 0 + 1, none⟩ = some (.int .i64 p)) := Lib.hid (by
                rintro w' ⟨z, rfl⟩
                exact ⟨cell_step z.h hGl HS16.out.c0, cell_step z.h hGl HS16.out.c1⟩)
              have hee : ∀ w, (binOp .eql 28 (.agg #[.int .i64 (s : Int), .int .i64 (p : Int)]) (.agg #[.int .i64 (s : Int), .int .i64 (p : Int)])).run Try.prog w = .ok (.bool true) w := fun w => eql_sh w _ _
              clear s0 s1 ho16 hr16 hb16 d0 d1 d2 d3 d4 HS15 HB15
              go_wp2_with fail
              refine wp_region_grow (by kernel_rfl) (by kernel_rfl) ?_
              repeat (first | go_big_quiet_step (fail) | (refine wpQ_load_sh rfl (.tmp 131) rfl b (off + 1) rfl (s : Int) (p : Int) hl1.out ?_; simp [Act.put]) | (refine wpQ_load_sh rfl (.tmp 8) rfl G 0 rfl (s : Int) (p : Int) hl2.out ?_; simp [Act.put]))
              refine wpQuiet_nil ?_
              first | rintro _ ⟨w17, rfl⟩ | intro w17
              clear hl1 hl2 hee HD
              go_wp2_with fail
              go_ret
              exact ⟨rfl, bt HB16.out w17.h⟩
          · have hkp : k < p := by
              by_cases h : k < p
              · exact h
              · exact absurd (Or.inl h) hq
            have hip : isPtr x = false := by
              cases h : isPtr x
              · rfl
              · exact absurd (Or.inr h) hq
            have hE3 : ((A2 : Int) == 3) = true := by
              unfold isPtr at hip
              rw [hA2] at hip
              simp only [Bool.or_eq_false_iff, beq_eq_false_iff_ne] at hip
              have h3 : A2 = 3 := by
                rw [← hA2]
                unfold haddr
                rw [if_neg hip.1]
                by_cases h : x % 2 = 0 ∨ x = 1
                · rw [if_pos h]
                · exfalso
                  apply hip.2
                  rw [← hA2]
                  unfold haddr
                  rw [if_neg hip.1, if_neg h]
              simp; omega
            have e1 := HL4.out k x hks hkp hip
            have dk : decide (k < p) = true := by simpa using hkp
            clear hA1 hA2 hq hip hkp
            refine (C.lay (s : Int) (p : Int) _ c13 s (SL.set k x) [] 3 _ HLS.out (by omega) HVS.out HU14.out hl13 hm13 (by intro h; cases h) e1).mono ?_
            rintro e w15 ⟨v15, rfl, ho15, hb15⟩
            obtain ⟨a15, c15, rfl, hu15, hl15, hm15, hn15⟩ := OwnU.out (n := 0) ho15 rfl
            have HB15 := Lib.hid (bt HB14.out hb15)
            have HS15 := Lib.hid (HS14.out.below hb15)
            have s0 := HS15.out.c0
            have s1 := HS15.out.c1
            clear ho15 hu15 hn15 hb15 HB14 HS14 HU14 e1
            go_wp2_with fail
            refine (HAD.out _).mono ?_
            rintro e w' ⟨rfl, rfl⟩
            go_wp2_with fail
            go_ret
            exact ⟨rfl, HB15.out⟩
end Go.Proofs.Ytjefajpipgicdaa.V
