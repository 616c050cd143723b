/-
  PlacesMoved, walked under what is asked of the program's functions.
-/
import Derived.Test.YtifmlmbbmlnpmaaPlCnt
import Derived.Deep.CutRange
set_option linter.unusedVariables false
namespace Go.Proofs.Ytifmlmbbmlnpmaa.V
open Go.RowKit

set_option maxRecDepth 100000 in
set_option maxHeartbeats 1000000 in
theorem placesMoved_try (C : PlC) (b : Nat) (n0 n1 n2 n3 n4 n5 : Int) (ot : Nat) (mo pa at' : Int) (w : World) (hb : b < 2 ^ 64) (s0 : i64 n0) (s1 : i64 n1) (s2 : i64 n2) (s3 : i64 n3) (s4 : i64 n4) (s5 : i64 n5) (hot : ot < 2 ^ 64) (t1 : i64 mo) (t2 : i64 pa) (t3 : i64 at') :
    Calls Try.prog 7 #[.int .u64 (b : Int), .agg #[.int .i64 n0, .int .i64 n1, .int .i64 n2, .int .i64 n3, .int .i64 n4, .int .i64 n5], .int .u64 (ot : Int), .int .i64 mo, .int .i64 pa, .int .i64 at'] w fun e w' => e = .returned (.bool true) ∧ Below w.heap.size w w' := by
  obtain ⟨l, hr, h40, hlay⟩ := layout7x b n0 n1 n2 n3 n4 n5 hb s0 s1 s2 s3 s4 s5
  have HLAY := Lib.hid hlay
  have HR := Lib.hid hr
  obtain ⟨r1, ⟨r2, r3⟩, r4, ⟨r5, r6⟩, ⟨r7, r8, r9, r10⟩, r11, r12⟩ := hr
  clear hlay s0 s1 s2 s3 s4 s5
  obtain ⟨x, hx, x2⟩ := pkN mo 20 (by omega)
  have IHp := Lib.hid (fun w => pick07_int mo 20 x w t1.1 t1.2 (by omega) (by omega) hx)
  clear hx t1
  obtain ⟨c', hc'⟩ : ∃ c', l.cap + (x : Int) = c' := ⟨_, rfl⟩
  obtain ⟨m', hm'⟩ : ∃ m' : Nat, (ot : Int) % (9223372036854775808 - 2 * c') = (m' : Int) := ⟨((ot : Int) % (9223372036854775808 - 2 * c')).toNat, by have := Int.emod_nonneg (ot : Int) (b := 9223372036854775808 - 2 * c') (by omega); omega⟩
  have hm2 : (m' : Int) < 9223372036854775808 - 2 * c' := by rw [← hm']; exact Int.emod_lt_of_pos _ (by omega)
  have y1 : l.cap ≤ c' := by omega
  have y2 : c' ≤ 60 := by omega
  have y3 : c' - l.cap ≤ 20 := by omega
  have HRM := Lib.hid (show lright ⟨1 + m', c', l.to, l.low, l.high, l.old, l.far⟩ by unfold lright; dsimp only; omega)
  go_enter Try.func7, Try.ntmps7
  go_wp2_with fail
  refine (awake07 C _).mono ?_
  rintro e w1 ⟨rfl, hb1⟩
  have HA1 := Lib.hid ((Blk.new w [.int .i64 n0, .int .i64 n1, .int .i64 n2, .int .i64 n3, .int .i64 n4, .int .i64 n5] 25).below hb1)
  have HB1 := Lib.hid (bt (ba0 w _) hb1)
  clear hb1
  have a0 := HA1.out.cell (j := 0) rfl
  have a1 := HA1.out.cell (j := 1) rfl
  have a2 := HA1.out.cell (j := 2) rfl
  have a3 := HA1.out.cell (j := 3) rfl
  have a4 := HA1.out.cell (j := 4) rfl
  have a5 := HA1.out.cell (j := 5) rfl
  go_wp2_with fail
  refine (HLAY.out _).mono ?_
  rintro e w2 ⟨rfl, hb2⟩
  have HB2 := Lib.hid (bt HB1.out hb2)
  clear hb2 a0 a1 a2 a3 a4 a5 HA1 HB1 HLAY
  go_upto_region 4 with fail
  have HL3 := Lib.hid ((LoAt.new w2 l).below (ba0 _ (.cells #[.int .u64 (l.base : Int), .int .i64 l.cap, .int .i64 l.to, .int .i64 l.low, .int .i64 l.high, .int .i64 l.old, .int .i64 l.far] 24)))
  have HM3 := Lib.hid (show LoAt ((w2.alloc (.cells #[.int .u64 (l.base : Int), .int .i64 l.cap, .int .i64 l.to, .int .i64 l.low, .int .i64 l.high, .int .i64 l.old, .int .i64 l.far] 24)).alloc (.cells #[.int .u64 (l.base : Int), .int .i64 l.cap, .int .i64 l.to, .int .i64 l.low, .int .i64 l.high, .int .i64 l.old, .int .i64 l.far] 24)) (w2.heap.size + 1) l from by have := LoAt.new (w2.alloc (.cells #[.int .u64 (l.base : Int), .int .i64 l.cap, .int .i64 l.to, .int .i64 l.low, .int .i64 l.high, .int .i64 l.old, .int .i64 l.far] 24)) l; rwa [World.size_alloc] at this)
  have HB3 := Lib.hid (ba (ba HB2.out (.cells #[.int .u64 (l.base : Int), .int .i64 l.cap, .int .i64 l.to, .int .i64 l.low, .int .i64 l.high, .int .i64 l.old, .int .i64 l.far] 24)) (.cells #[.int .u64 (l.base : Int), .int .i64 l.cap, .int .i64 l.to, .int .i64 l.low, .int .i64 l.high, .int .i64 l.old, .int .i64 l.far] 24))
  generalize (w2.alloc (.cells #[.int .u64 (l.base : Int), .int .i64 l.cap, .int .i64 l.to, .int .i64 l.low, .int .i64 l.high, .int .i64 l.old, .int .i64 l.far] 24)).alloc (.cells #[.int .u64 (l.base : Int), .int .i64 l.cap, .int .i64 l.to, .int .i64 l.low, .int .i64 l.high, .int .i64 l.old, .int .i64 l.far] 24) = W at HL3 HM3 HB3 ⊢
  have hwg : w.heap.size ≤ w2.heap.size := HB2.out.size
  generalize w2.heap.size = g at HL3 HM3 hwg ⊢
  have x0 := HL3.out.cells.2.1
  have hlg := HL3.out.lt
  have f1 := Blk.frozen HM3.out 1
  have z1 := HM3.out.cells.2.1
  have hw1 : IntKind.i64.wrap c' = c' := IntWalk.i64_in _ ⟨by omega, by omega⟩
  have hk2 : Hid (∀ v, (W.setCell ⟨g + 1, 1, none⟩ v).drew.cell? ⟨g, 1, none⟩ = some (.int .i64 l.cap)) := Lib.hid fun v => (World.cell?_setCell_other _ _ _ _ (fun e => by cases e)).trans x0
  have hkeep : Hid (∀ w' : World, Below W.heap.size W w' → w'.cell? ⟨g, 1, none⟩ = some (.int .i64 l.cap)) := Lib.hid fun w' h => cellS h hlg x0
  go_region_held3 (fun w' => w'.cell? ⟨g, 1, none⟩ = some (.int .i64 l.cap)) (first | exact hk2.out _ | exact hkeep.out _ (by first | exact (Below.refl _ W).drew | exact Below.refl _ W)) ((first
      | (go_at_call 11; refine (IHp.out _).mono ?_; rintro e w3 ⟨rfl, rfl⟩)))
  have HL4 := Lib.hid (show LoAt (W.setCell ⟨g + 1, 1, none⟩ (.int .i64 c')).drew g l from blk_set_far HM3.out (by omega) 1 _ HL3.out)
  have HM4 := Lib.hid (show LoAt (W.setCell ⟨g + 1, 1, none⟩ (.int .i64 c')).drew (g + 1) ⟨l.base, c', l.to, l.low, l.high, l.old, l.far⟩ from blk_set HM3.out 1 _)
  have HB4 := Lib.hid (show Below w.heap.size w (W.setCell ⟨g + 1, 1, none⟩ (.int .i64 c')).drew from (HB3.out.setCell (p := ⟨g + 1, 1, none⟩) (by show w.heap.size ≤ g + 1; omega) _).drew)
  clear HL3 HM3 HB3 hkeep hk2 x0 f1 z1 hw1
  generalize (W.setCell ⟨g + 1, 1, none⟩ (.int .i64 c')).drew = V at HL4 HM4 HB4 ⊢
  have f0 := Blk.frozen HM4.out 0
  have z0 := HM4.out.cells.1
  have z1 := HM4.out.cells.2.1
  dsimp only at z0 z1
  have HL5 := Lib.hid (show LoAt (V.setCell ⟨g + 1, 0, none⟩ (.int .u64 (1 + (m' : Int)))) g l from blk_set_far HM4.out (by omega) 0 _ HL4.out)
  have HM5 := Lib.hid (show LoAt (V.setCell ⟨g + 1, 0, none⟩ (.int .u64 (1 + (m' : Int)))) (g + 1) ⟨1 + m', c', l.to, l.low, l.high, l.old, l.far⟩ from blk_set HM4.out 0 _)
  have HB5 := Lib.hid (show Below w.heap.size w (V.setCell ⟨g + 1, 0, none⟩ (.int .u64 (1 + (m' : Int)))) from (HB4.out.setCell (p := ⟨g + 1, 0, none⟩) (by show w.heap.size ≤ g + 1; omega) _))
  clear HL4 HM4 HB4
  go_wp2_with fail
  generalize V.setCell ⟨g + 1, 0, none⟩ (.int .u64 (1 + (m' : Int))) = U at HL5 HM5 HB5 ⊢
  clear f0 z0 z1
  -- TAIL
  rcases (show pk pa 4 = 0 ∨ pk pa 4 = 1 ∨ pk pa 4 = 2 ∨ pk pa 4 = 3 by have := pk_bd pa 4 (by omega); omega) with hp | hp | hp | hp
  · refine (pick07_int pa 4 0 _ t2.1 t2.2 (by omega) (by omega) hp).mono ?_
    rintro e w3 ⟨rfl, rfl⟩
    clear hp
    have HL6 := Lib.hid ((HL5.out.below (ba0 U (.cells #[.int .i64 1, .int .i64 0] 27))).below (ba0 _ (.cells #[.int .i64 l.low, .int .i64 l.high, .int .i64 l.old, .int .i64 l.far] 3)))
    have HM6 := Lib.hid ((HM5.out.below (ba0 U (.cells #[.int .i64 1, .int .i64 0] 27))).below (ba0 _ (.cells #[.int .i64 l.low, .int .i64 l.high, .int .i64 l.old, .int .i64 l.far] 3)))
    have HP6 := Lib.hid (show Blk ((U.alloc (.cells #[.int .i64 1, .int .i64 0] 27)).alloc (.cells #[.int .i64 l.low, .int .i64 l.high, .int .i64 l.old, .int .i64 l.far] 3)) U.heap.size [.int .i64 1, .int .i64 0] 27 from (Blk.new U [.int .i64 1, .int .i64 0] _).below (ba0 _ _))
    have HB6 := Lib.hid (ba (ba HB5.out (.cells #[.int .i64 1, .int .i64 0] 27)) (.cells #[.int .i64 l.low, .int .i64 l.high, .int .i64 l.old, .int .i64 l.far] 3))
    have hpl : (lpart l 1).2 = l.low := by simp [lpart]
    have hpm : (lpart ⟨1 + m', c', l.to, l.low, l.high, l.old, l.far⟩ 1).2 = l.low := by simp [lpart]
    by_cases hz : l.low = 0
    · have dz : (l.low == 0) = true := by simp; omega
      have HA := Lib.hid (laddr_out HR.out (p := 1) (i := 0) (by rw [hpl]; omega))
      clear hz hpl hpm
      obtain ⟨c0, c1, c2, c3, c4, c5, c6⟩ := (HL5.out.below (ba0 U (.cells #[.int .i64 1, .int .i64 0] 27))).cells
      obtain ⟨d0, d1, d2, d3, d4, d5, d6⟩ := HL6.out.cells
      go_wp2_with fail
      refine (C.addr l 1 0 0 6 _ (lright_bd HR.out) (by omega) (by omega) (by omega) (by omega) HA.out).mono ?_
      rintro e w4 ⟨rfl, hb4⟩
      have HB7 := Lib.hid (bt HB6.out hb4)
      clear hb4 c0 c1 c2 c3 c4 c5 c6 d0 d1 d2 d3 d4 d5 d6
      go_wp2_with fail
      go_ret
      exact ⟨rfl, HB7.out⟩
    · have dz : (l.low == 0) = false := by simp; omega
      obtain ⟨r, hr, hr2⟩ := pkN at' l.low (by omega)
      have HA := Lib.hid (laddr_in HR.out (p := 1) (i := r) (by rw [hpl]; omega))
      have HAM := Lib.hid (laddr_in HRM.out (p := 1) (i := r) (by rw [hpm]; omega))
      have hb1 := lpart_in HR.out (p := 1) (by omega)
      have hb2 := lpart_in HRM.out (p := 1) (by omega)
      obtain ⟨A, hA⟩ : ∃ A, (lpart l 1).1 + r = A := ⟨_, rfl⟩
      obtain ⟨B, hB⟩ : ∃ B, (lpart ⟨1 + m', c', l.to, l.low, l.high, l.old, l.far⟩ 1).1 + r = B := ⟨_, rfl⟩
      rw [hA] at HA
      rw [hB] at HAM
      rw [hpl] at hb1
      rw [hpm] at hb2
      dsimp only at hb2
      have bA1 : (l.base : Int) ≤ A := by omega
      have bA2 : A ≤ 9223372036854775808 := by omega
      have bB1 : 1 + (m' : Int) ≤ B := by omega
      have bB2 : B ≤ 9223372036854775808 := by omega
      have HAB := Lib.hid (And.intro hA hB)
      clear hA hB hpl hpm hb1 hb2 hz
      have hug : U.heap.size < ((U.alloc (.cells #[.int .i64 1, .int .i64 0] 27)).alloc (.cells #[.int .i64 l.low, .int .i64 l.high, .int .i64 l.old, .int .i64 l.far] 3)).heap.size := by simp; omega
      have hgu := HM5.out.lt
      obtain ⟨c0, c1, c2, c3, c4, c5, c6⟩ := (HL5.out.below (ba0 U (.cells #[.int .i64 1, .int .i64 0] 27))).cells
      go_wp2_with fail
      refine (pick07_int at' l.low r _ t3.1 t3.2 (by omega) (by omega) hr).mono ?_
      rintro e w3 ⟨rfl, rfl⟩
      clear c0 c1 c2 c3 c4 c5 c6 hr
      generalize (U.alloc (.cells #[.int .i64 1, .int .i64 0] 27)).alloc (.cells #[.int .i64 l.low, .int .i64 l.high, .int .i64 l.old, .int .i64 l.far] 3) = X at HL6 HM6 HP6 HB6 hug ⊢
      generalize U.heap.size = gp at HP6 hgu hug ⊢
      have f1 := Blk.frozen HP6.out 1
      have z1 := HP6.out.cell (j := 1) rfl
      have HL7 := Lib.hid (show LoAt (X.setCell ⟨gp, 1, none⟩ (.int .i64 (r : Int))) g l from blk_set_far HP6.out (by omega) 1 _ HL6.out)
      have HM7 := Lib.hid (show LoAt (X.setCell ⟨gp, 1, none⟩ (.int .i64 (r : Int))) (g + 1) ⟨1 + m', c', l.to, l.low, l.high, l.old, l.far⟩ from blk_set_far HP6.out (by omega) 1 _ HM6.out)
      have HP7 := Lib.hid (show Blk (X.setCell ⟨gp, 1, none⟩ (.int .i64 (r : Int))) gp [.int .i64 1, .int .i64 (r : Int)] 27 from blk_set HP6.out 1 _)
      have HB7 := Lib.hid (show Below w.heap.size w (X.setCell ⟨gp, 1, none⟩ (.int .i64 (r : Int))) from (HB6.out.setCell (p := ⟨gp, 1, none⟩) (by show w.heap.size ≤ gp; omega) _))
      obtain ⟨c0, c1, c2, c3, c4, c5, c6⟩ := HL7.out.cells
      have p0 := HP7.out.cell (j := 0) rfl
      have p1 := HP7.out.cell (j := 1) rfl
      clear HL6 HM6 HP6 HB6 HL5 HM5 HB5
      go_wp2_with fail
      generalize X.setCell ⟨gp, 1, none⟩ (.int .i64 (r : Int)) = Y at HL7 HM7 HP7 HB7 ⊢
      refine (C.addr l 1 r A 0 _ (lright_bd HR.out) (by omega) (by omega) (by omega) (by omega) HA.out).mono ?_
      rintro e w4 ⟨rfl, hb4⟩
      have HL8 := Lib.hid (HL7.out.below hb4)
      have HM8 := Lib.hid (HM7.out.below hb4)
      have HP8 := Lib.hid (HP7.out.below hb4)
      have HB8 := Lib.hid (bt HB7.out hb4)
      clear hb4 c0 c1 c2 c3 c4 c5 c6 p0 p1 HL7 HM7 HP7 HB7 f1 z1 HA
      obtain ⟨c0, c1, c2, c3, c4, c5, c6⟩ := HM8.out.cells
      dsimp only at c0 c1 c2 c3 c4 c5 c6
      have p0 := HP8.out.cell (j := 0) rfl
      have p1 := HP8.out.cell (j := 1) rfl
      go_wp2_with fail
      refine (C.addr ⟨1 + m', c', l.to, l.low, l.high, l.old, l.far⟩ 1 r B 0 _ (lright_bd HRM.out) (by omega) (by omega) (by omega) (by omega) HAM.out).mono ?_
      rintro e w5 ⟨rfl, hb5⟩
      have HL9 := Lib.hid (HL8.out.below hb5)
      have HM9 := Lib.hid (HM8.out.below hb5)
      have HP9 := Lib.hid (HP8.out.below hb5)
      have HB9 := Lib.hid (bt HB8.out hb5)
      clear hb5 c0 c1 c2 c3 c4 c5 c6 p0 p1 HL8 HM8 HP8 HB8 HAM dz
      obtain ⟨c0, c1, c2, c3, c4, c5, c6⟩ := HM9.out.cells
      obtain ⟨d0, d1, d2, d3, d4, d5, d6⟩ := HL9.out.cells
      dsimp only at c0 c1 c2 c3 c4 c5 c6
      have p0 := HP9.out.cell (j := 0) rfl
      rcases (show l.to = 0 ∨ l.to = 1 by omega) with ht | ht
      · skip
        have HFN := Lib.hid (show B - (1 + (m' : Int)) = A - l.base by
          have h1 := HAB.out.1
          have h2 := HAB.out.2
          rw [← h1, ← h2]
          simp [lpart, lto, ht]
          omega)
        have HRR := Lib.hid (fun w => C.right ⟨1 + m', c', 0, l.low, l.high, l.old, l.far⟩ true w (lright_bd (by have h := HRM.out; rw [ht] at h; exact h)) (decide_eq_true (by have h := HRM.out; rw [ht] at h; exact h)))
        go_wp2_with fail
        refine (HRR.out _).mono ?_
        rintro e w6 ⟨rfl, hb6⟩
        have HB10 := Lib.hid (bt HB9.out hb6)
        have k0 := (HL9.out.below hb6).cells.1
        have k1 := (HM9.out.below hb6).cells.1
        dsimp only at k1
        have hfn := HFN.out
        clear hb6 c0 c1 c2 c3 c4 c5 c6 d0 d1 d2 d3 d4 d5 d6 p0
        go_wp2_with fail
        go_ret
        exact ⟨rfl, HB10.out⟩
      · skip
        have HFN := Lib.hid (show B - (1 + (m' : Int)) = A - l.base + (c' - l.cap) by
          have h1 := HAB.out.1
          have h2 := HAB.out.2
          rw [← h1, ← h2]
          simp [lpart, lto, ht]
          omega)
        have HRR := Lib.hid (fun w => C.right ⟨1 + m', c', 1, l.low, l.high, l.old, l.far⟩ true w (lright_bd (by have h := HRM.out; rw [ht] at h; exact h)) (decide_eq_true (by have h := HRM.out; rw [ht] at h; exact h)))
        go_wp2_with fail
        refine (HRR.out _).mono ?_
        rintro e w6 ⟨rfl, hb6⟩
        have HB10 := Lib.hid (bt HB9.out hb6)
        have k0 := (HL9.out.below hb6).cells.1
        have k1 := (HM9.out.below hb6).cells.1
        dsimp only at k1
        have hfn := HFN.out
        clear hb6 c0 c1 c2 c3 c4 c5 c6 d0 d1 d2 d3 d4 d5 d6 p0
        go_wp2_with fail
        go_ret
        exact ⟨rfl, HB10.out⟩
  · refine (pick07_int pa 4 1 _ t2.1 t2.2 (by omega) (by omega) hp).mono ?_
    rintro e w3 ⟨rfl, rfl⟩
    clear hp
    have HL6 := Lib.hid ((HL5.out.below (ba0 U (.cells #[.int .i64 2, .int .i64 0] 27))).below (ba0 _ (.cells #[.int .i64 l.low, .int .i64 l.high, .int .i64 l.old, .int .i64 l.far] 3)))
    have HM6 := Lib.hid ((HM5.out.below (ba0 U (.cells #[.int .i64 2, .int .i64 0] 27))).below (ba0 _ (.cells #[.int .i64 l.low, .int .i64 l.high, .int .i64 l.old, .int .i64 l.far] 3)))
    have HP6 := Lib.hid (show Blk ((U.alloc (.cells #[.int .i64 2, .int .i64 0] 27)).alloc (.cells #[.int .i64 l.low, .int .i64 l.high, .int .i64 l.old, .int .i64 l.far] 3)) U.heap.size [.int .i64 2, .int .i64 0] 27 from (Blk.new U [.int .i64 2, .int .i64 0] _).below (ba0 _ _))
    have HB6 := Lib.hid (ba (ba HB5.out (.cells #[.int .i64 2, .int .i64 0] 27)) (.cells #[.int .i64 l.low, .int .i64 l.high, .int .i64 l.old, .int .i64 l.far] 3))
    have hpl : (lpart l 2).2 = l.high := by simp [lpart]
    have hpm : (lpart ⟨1 + m', c', l.to, l.low, l.high, l.old, l.far⟩ 2).2 = l.high := by simp [lpart]
    by_cases hz : l.high = 0
    · have dz : (l.high == 0) = true := by simp; omega
      have HA := Lib.hid (laddr_out HR.out (p := 2) (i := 0) (by rw [hpl]; omega))
      clear hz hpl hpm
      obtain ⟨c0, c1, c2, c3, c4, c5, c6⟩ := (HL5.out.below (ba0 U (.cells #[.int .i64 2, .int .i64 0] 27))).cells
      obtain ⟨d0, d1, d2, d3, d4, d5, d6⟩ := HL6.out.cells
      go_wp2_with fail
      refine (C.addr l 2 0 0 6 _ (lright_bd HR.out) (by omega) (by omega) (by omega) (by omega) HA.out).mono ?_
      rintro e w4 ⟨rfl, hb4⟩
      have HB7 := Lib.hid (bt HB6.out hb4)
      clear hb4 c0 c1 c2 c3 c4 c5 c6 d0 d1 d2 d3 d4 d5 d6
      go_wp2_with fail
      go_ret
      exact ⟨rfl, HB7.out⟩
    · have dz : (l.high == 0) = false := by simp; omega
      obtain ⟨r, hr, hr2⟩ := pkN at' l.high (by omega)
      have HA := Lib.hid (laddr_in HR.out (p := 2) (i := r) (by rw [hpl]; omega))
      have HAM := Lib.hid (laddr_in HRM.out (p := 2) (i := r) (by rw [hpm]; omega))
      have hb1 := lpart_in HR.out (p := 2) (by omega)
      have hb2 := lpart_in HRM.out (p := 2) (by omega)
      obtain ⟨A, hA⟩ : ∃ A, (lpart l 2).1 + r = A := ⟨_, rfl⟩
      obtain ⟨B, hB⟩ : ∃ B, (lpart ⟨1 + m', c', l.to, l.low, l.high, l.old, l.far⟩ 2).1 + r = B := ⟨_, rfl⟩
      rw [hA] at HA
      rw [hB] at HAM
      rw [hpl] at hb1
      rw [hpm] at hb2
      dsimp only at hb2
      have bA1 : (l.base : Int) ≤ A := by omega
      have bA2 : A ≤ 9223372036854775808 := by omega
      have bB1 : 1 + (m' : Int) ≤ B := by omega
      have bB2 : B ≤ 9223372036854775808 := by omega
      have HAB := Lib.hid (And.intro hA hB)
      clear hA hB hpl hpm hb1 hb2 hz
      have hug : U.heap.size < ((U.alloc (.cells #[.int .i64 2, .int .i64 0] 27)).alloc (.cells #[.int .i64 l.low, .int .i64 l.high, .int .i64 l.old, .int .i64 l.far] 3)).heap.size := by simp; omega
      have hgu := HM5.out.lt
      obtain ⟨c0, c1, c2, c3, c4, c5, c6⟩ := (HL5.out.below (ba0 U (.cells #[.int .i64 2, .int .i64 0] 27))).cells
      go_wp2_with fail
      refine (pick07_int at' l.high r _ t3.1 t3.2 (by omega) (by omega) hr).mono ?_
      rintro e w3 ⟨rfl, rfl⟩
      clear c0 c1 c2 c3 c4 c5 c6 hr
      generalize (U.alloc (.cells #[.int .i64 2, .int .i64 0] 27)).alloc (.cells #[.int .i64 l.low, .int .i64 l.high, .int .i64 l.old, .int .i64 l.far] 3) = X at HL6 HM6 HP6 HB6 hug ⊢
      generalize U.heap.size = gp at HP6 hgu hug ⊢
      have f1 := Blk.frozen HP6.out 1
      have z1 := HP6.out.cell (j := 1) rfl
      have HL7 := Lib.hid (show LoAt (X.setCell ⟨gp, 1, none⟩ (.int .i64 (r : Int))) g l from blk_set_far HP6.out (by omega) 1 _ HL6.out)
      have HM7 := Lib.hid (show LoAt (X.setCell ⟨gp, 1, none⟩ (.int .i64 (r : Int))) (g + 1) ⟨1 + m', c', l.to, l.low, l.high, l.old, l.far⟩ from blk_set_far HP6.out (by omega) 1 _ HM6.out)
      have HP7 := Lib.hid (show Blk (X.setCell ⟨gp, 1, none⟩ (.int .i64 (r : Int))) gp [.int .i64 2, .int .i64 (r : Int)] 27 from blk_set HP6.out 1 _)
      have HB7 := Lib.hid (show Below w.heap.size w (X.setCell ⟨gp, 1, none⟩ (.int .i64 (r : Int))) from (HB6.out.setCell (p := ⟨gp, 1, none⟩) (by show w.heap.size ≤ gp; omega) _))
      obtain ⟨c0, c1, c2, c3, c4, c5, c6⟩ := HL7.out.cells
      have p0 := HP7.out.cell (j := 0) rfl
      have p1 := HP7.out.cell (j := 1) rfl
      clear HL6 HM6 HP6 HB6 HL5 HM5 HB5
      go_wp2_with fail
      generalize X.setCell ⟨gp, 1, none⟩ (.int .i64 (r : Int)) = Y at HL7 HM7 HP7 HB7 ⊢
      refine (C.addr l 2 r A 0 _ (lright_bd HR.out) (by omega) (by omega) (by omega) (by omega) HA.out).mono ?_
      rintro e w4 ⟨rfl, hb4⟩
      have HL8 := Lib.hid (HL7.out.below hb4)
      have HM8 := Lib.hid (HM7.out.below hb4)
      have HP8 := Lib.hid (HP7.out.below hb4)
      have HB8 := Lib.hid (bt HB7.out hb4)
      clear hb4 c0 c1 c2 c3 c4 c5 c6 p0 p1 HL7 HM7 HP7 HB7 f1 z1 HA
      obtain ⟨c0, c1, c2, c3, c4, c5, c6⟩ := HM8.out.cells
      dsimp only at c0 c1 c2 c3 c4 c5 c6
      have p0 := HP8.out.cell (j := 0) rfl
      have p1 := HP8.out.cell (j := 1) rfl
      go_wp2_with fail
      refine (C.addr ⟨1 + m', c', l.to, l.low, l.high, l.old, l.far⟩ 2 r B 0 _ (lright_bd HRM.out) (by omega) (by omega) (by omega) (by omega) HAM.out).mono ?_
      rintro e w5 ⟨rfl, hb5⟩
      have HL9 := Lib.hid (HL8.out.below hb5)
      have HM9 := Lib.hid (HM8.out.below hb5)
      have HP9 := Lib.hid (HP8.out.below hb5)
      have HB9 := Lib.hid (bt HB8.out hb5)
      clear hb5 c0 c1 c2 c3 c4 c5 c6 p0 p1 HL8 HM8 HP8 HB8 HAM dz
      obtain ⟨c0, c1, c2, c3, c4, c5, c6⟩ := HM9.out.cells
      obtain ⟨d0, d1, d2, d3, d4, d5, d6⟩ := HL9.out.cells
      dsimp only at c0 c1 c2 c3 c4 c5 c6
      have p0 := HP9.out.cell (j := 0) rfl
      rcases (show l.to = 0 ∨ l.to = 1 by omega) with ht | ht
      · skip
        have HFN := Lib.hid (show B - (1 + (m' : Int)) = A - l.base + (c' - l.cap) by
          have h1 := HAB.out.1
          have h2 := HAB.out.2
          rw [← h1, ← h2]
          simp [lpart, lto, ht]
          omega)
        have HRR := Lib.hid (fun w => C.right ⟨1 + m', c', 0, l.low, l.high, l.old, l.far⟩ true w (lright_bd (by have h := HRM.out; rw [ht] at h; exact h)) (decide_eq_true (by have h := HRM.out; rw [ht] at h; exact h)))
        go_wp2_with fail
        refine (HRR.out _).mono ?_
        rintro e w6 ⟨rfl, hb6⟩
        have HB10 := Lib.hid (bt HB9.out hb6)
        have k0 := (HL9.out.below hb6).cells.1
        have k1 := (HM9.out.below hb6).cells.1
        dsimp only at k1
        have hfn := HFN.out
        clear hb6 c0 c1 c2 c3 c4 c5 c6 d0 d1 d2 d3 d4 d5 d6 p0
        go_wp2_with fail
        go_ret
        exact ⟨rfl, HB10.out⟩
      · skip
        have HFN := Lib.hid (show B - (1 + (m' : Int)) = A - l.base + (c' - l.cap + c' - l.cap) by
          have h1 := HAB.out.1
          have h2 := HAB.out.2
          rw [← h1, ← h2]
          simp [lpart, lto, ht]
          omega)
        have HRR := Lib.hid (fun w => C.right ⟨1 + m', c', 1, l.low, l.high, l.old, l.far⟩ true w (lright_bd (by have h := HRM.out; rw [ht] at h; exact h)) (decide_eq_true (by have h := HRM.out; rw [ht] at h; exact h)))
        go_wp2_with fail
        refine (HRR.out _).mono ?_
        rintro e w6 ⟨rfl, hb6⟩
        have HB10 := Lib.hid (bt HB9.out hb6)
        have k0 := (HL9.out.below hb6).cells.1
        have k1 := (HM9.out.below hb6).cells.1
        dsimp only at k1
        have hfn := HFN.out
        clear hb6 c0 c1 c2 c3 c4 c5 c6 d0 d1 d2 d3 d4 d5 d6 p0
        go_wp2_with fail
        go_ret
        exact ⟨rfl, HB10.out⟩
  · refine (pick07_int pa 4 2 _ t2.1 t2.2 (by omega) (by omega) hp).mono ?_
    rintro e w3 ⟨rfl, rfl⟩
    clear hp
    have HL6 := Lib.hid ((HL5.out.below (ba0 U (.cells #[.int .i64 3, .int .i64 0] 27))).below (ba0 _ (.cells #[.int .i64 l.low, .int .i64 l.high, .int .i64 l.old, .int .i64 l.far] 3)))
    have HM6 := Lib.hid ((HM5.out.below (ba0 U (.cells #[.int .i64 3, .int .i64 0] 27))).below (ba0 _ (.cells #[.int .i64 l.low, .int .i64 l.high, .int .i64 l.old, .int .i64 l.far] 3)))
    have HP6 := Lib.hid (show Blk ((U.alloc (.cells #[.int .i64 3, .int .i64 0] 27)).alloc (.cells #[.int .i64 l.low, .int .i64 l.high, .int .i64 l.old, .int .i64 l.far] 3)) U.heap.size [.int .i64 3, .int .i64 0] 27 from (Blk.new U [.int .i64 3, .int .i64 0] _).below (ba0 _ _))
    have HB6 := Lib.hid (ba (ba HB5.out (.cells #[.int .i64 3, .int .i64 0] 27)) (.cells #[.int .i64 l.low, .int .i64 l.high, .int .i64 l.old, .int .i64 l.far] 3))
    have hpl : (lpart l 3).2 = l.old := by simp [lpart]
    have hpm : (lpart ⟨1 + m', c', l.to, l.low, l.high, l.old, l.far⟩ 3).2 = l.old := by simp [lpart]
    by_cases hz : l.old = 0
    · have dz : (l.old == 0) = true := by simp; omega
      have HA := Lib.hid (laddr_out HR.out (p := 3) (i := 0) (by rw [hpl]; omega))
      clear hz hpl hpm
      obtain ⟨c0, c1, c2, c3, c4, c5, c6⟩ := (HL5.out.below (ba0 U (.cells #[.int .i64 3, .int .i64 0] 27))).cells
      obtain ⟨d0, d1, d2, d3, d4, d5, d6⟩ := HL6.out.cells
      go_wp2_with fail
      refine (C.addr l 3 0 0 6 _ (lright_bd HR.out) (by omega) (by omega) (by omega) (by omega) HA.out).mono ?_
      rintro e w4 ⟨rfl, hb4⟩
      have HB7 := Lib.hid (bt HB6.out hb4)
      clear hb4 c0 c1 c2 c3 c4 c5 c6 d0 d1 d2 d3 d4 d5 d6
      go_wp2_with fail
      go_ret
      exact ⟨rfl, HB7.out⟩
    · have dz : (l.old == 0) = false := by simp; omega
      obtain ⟨r, hr, hr2⟩ := pkN at' l.old (by omega)
      have HA := Lib.hid (laddr_in HR.out (p := 3) (i := r) (by rw [hpl]; omega))
      have HAM := Lib.hid (laddr_in HRM.out (p := 3) (i := r) (by rw [hpm]; omega))
      have hb1 := lpart_in HR.out (p := 3) (by omega)
      have hb2 := lpart_in HRM.out (p := 3) (by omega)
      obtain ⟨A, hA⟩ : ∃ A, (lpart l 3).1 + r = A := ⟨_, rfl⟩
      obtain ⟨B, hB⟩ : ∃ B, (lpart ⟨1 + m', c', l.to, l.low, l.high, l.old, l.far⟩ 3).1 + r = B := ⟨_, rfl⟩
      rw [hA] at HA
      rw [hB] at HAM
      rw [hpl] at hb1
      rw [hpm] at hb2
      dsimp only at hb2
      have bA1 : (l.base : Int) ≤ A := by omega
      have bA2 : A ≤ 9223372036854775808 := by omega
      have bB1 : 1 + (m' : Int) ≤ B := by omega
      have bB2 : B ≤ 9223372036854775808 := by omega
      have HAB := Lib.hid (And.intro hA hB)
      clear hA hB hpl hpm hb1 hb2 hz
      have hug : U.heap.size < ((U.alloc (.cells #[.int .i64 3, .int .i64 0] 27)).alloc (.cells #[.int .i64 l.low, .int .i64 l.high, .int .i64 l.old, .int .i64 l.far] 3)).heap.size := by simp; omega
      have hgu := HM5.out.lt
      obtain ⟨c0, c1, c2, c3, c4, c5, c6⟩ := (HL5.out.below (ba0 U (.cells #[.int .i64 3, .int .i64 0] 27))).cells
      go_wp2_with fail
      refine (pick07_int at' l.old r _ t3.1 t3.2 (by omega) (by omega) hr).mono ?_
      rintro e w3 ⟨rfl, rfl⟩
      clear c0 c1 c2 c3 c4 c5 c6 hr
      generalize (U.alloc (.cells #[.int .i64 3, .int .i64 0] 27)).alloc (.cells #[.int .i64 l.low, .int .i64 l.high, .int .i64 l.old, .int .i64 l.far] 3) = X at HL6 HM6 HP6 HB6 hug ⊢
      generalize U.heap.size = gp at HP6 hgu hug ⊢
      have f1 := Blk.frozen HP6.out 1
      have z1 := HP6.out.cell (j := 1) rfl
      have HL7 := Lib.hid (show LoAt (X.setCell ⟨gp, 1, none⟩ (.int .i64 (r : Int))) g l from blk_set_far HP6.out (by omega) 1 _ HL6.out)
      have HM7 := Lib.hid (show LoAt (X.setCell ⟨gp, 1, none⟩ (.int .i64 (r : Int))) (g + 1) ⟨1 + m', c', l.to, l.low, l.high, l.old, l.far⟩ from blk_set_far HP6.out (by omega) 1 _ HM6.out)
      have HP7 := Lib.hid (show Blk (X.setCell ⟨gp, 1, none⟩ (.int .i64 (r : Int))) gp [.int .i64 3, .int .i64 (r : Int)] 27 from blk_set HP6.out 1 _)
      have HB7 := Lib.hid (show Below w.heap.size w (X.setCell ⟨gp, 1, none⟩ (.int .i64 (r : Int))) from (HB6.out.setCell (p := ⟨gp, 1, none⟩) (by show w.heap.size ≤ gp; omega) _))
      obtain ⟨c0, c1, c2, c3, c4, c5, c6⟩ := HL7.out.cells
      have p0 := HP7.out.cell (j := 0) rfl
      have p1 := HP7.out.cell (j := 1) rfl
      clear HL6 HM6 HP6 HB6 HL5 HM5 HB5
      go_wp2_with fail
      generalize X.setCell ⟨gp, 1, none⟩ (.int .i64 (r : Int)) = Y at HL7 HM7 HP7 HB7 ⊢
      refine (C.addr l 3 r A 0 _ (lright_bd HR.out) (by omega) (by omega) (by omega) (by omega) HA.out).mono ?_
      rintro e w4 ⟨rfl, hb4⟩
      have HL8 := Lib.hid (HL7.out.below hb4)
      have HM8 := Lib.hid (HM7.out.below hb4)
      have HP8 := Lib.hid (HP7.out.below hb4)
      have HB8 := Lib.hid (bt HB7.out hb4)
      clear hb4 c0 c1 c2 c3 c4 c5 c6 p0 p1 HL7 HM7 HP7 HB7 f1 z1 HA
      obtain ⟨c0, c1, c2, c3, c4, c5, c6⟩ := HM8.out.cells
      dsimp only at c0 c1 c2 c3 c4 c5 c6
      have p0 := HP8.out.cell (j := 0) rfl
      have p1 := HP8.out.cell (j := 1) rfl
      go_wp2_with fail
      refine (C.addr ⟨1 + m', c', l.to, l.low, l.high, l.old, l.far⟩ 3 r B 0 _ (lright_bd HRM.out) (by omega) (by omega) (by omega) (by omega) HAM.out).mono ?_
      rintro e w5 ⟨rfl, hb5⟩
      have HL9 := Lib.hid (HL8.out.below hb5)
      have HM9 := Lib.hid (HM8.out.below hb5)
      have HP9 := Lib.hid (HP8.out.below hb5)
      have HB9 := Lib.hid (bt HB8.out hb5)
      clear hb5 c0 c1 c2 c3 c4 c5 c6 p0 p1 HL8 HM8 HP8 HB8 HAM dz
      obtain ⟨c0, c1, c2, c3, c4, c5, c6⟩ := HM9.out.cells
      obtain ⟨d0, d1, d2, d3, d4, d5, d6⟩ := HL9.out.cells
      dsimp only at c0 c1 c2 c3 c4 c5 c6
      have p0 := HP9.out.cell (j := 0) rfl
      rcases (show l.to = 0 ∨ l.to = 1 by omega) with ht | ht
      · skip
        have HFN := Lib.hid (show B - (1 + (m' : Int)) = A - l.base + (c' - l.cap) by
          have h1 := HAB.out.1
          have h2 := HAB.out.2
          rw [← h1, ← h2]
          simp [lpart, lfrom, ht]
          omega)
        have HRR := Lib.hid (fun w => C.right ⟨1 + m', c', 0, l.low, l.high, l.old, l.far⟩ true w (lright_bd (by have h := HRM.out; rw [ht] at h; exact h)) (decide_eq_true (by have h := HRM.out; rw [ht] at h; exact h)))
        go_wp2_with fail
        refine (HRR.out _).mono ?_
        rintro e w6 ⟨rfl, hb6⟩
        have HB10 := Lib.hid (bt HB9.out hb6)
        have k0 := (HL9.out.below hb6).cells.1
        have k1 := (HM9.out.below hb6).cells.1
        dsimp only at k1
        have hfn := HFN.out
        clear hb6 c0 c1 c2 c3 c4 c5 c6 d0 d1 d2 d3 d4 d5 d6 p0
        go_wp2_with fail
        go_ret
        exact ⟨rfl, HB10.out⟩
      · skip
        have HFN := Lib.hid (show B - (1 + (m' : Int)) = A - l.base by
          have h1 := HAB.out.1
          have h2 := HAB.out.2
          rw [← h1, ← h2]
          simp [lpart, lfrom, ht]
          omega)
        have HRR := Lib.hid (fun w => C.right ⟨1 + m', c', 1, l.low, l.high, l.old, l.far⟩ true w (lright_bd (by have h := HRM.out; rw [ht] at h; exact h)) (decide_eq_true (by have h := HRM.out; rw [ht] at h; exact h)))
        go_wp2_with fail
        refine (HRR.out _).mono ?_
        rintro e w6 ⟨rfl, hb6⟩
        have HB10 := Lib.hid (bt HB9.out hb6)
        have k0 := (HL9.out.below hb6).cells.1
        have k1 := (HM9.out.below hb6).cells.1
        dsimp only at k1
        have hfn := HFN.out
        clear hb6 c0 c1 c2 c3 c4 c5 c6 d0 d1 d2 d3 d4 d5 d6 p0
        go_wp2_with fail
        go_ret
        exact ⟨rfl, HB10.out⟩
  · refine (pick07_int pa 4 3 _ t2.1 t2.2 (by omega) (by omega) hp).mono ?_
    rintro e w3 ⟨rfl, rfl⟩
    clear hp
    have HL6 := Lib.hid ((HL5.out.below (ba0 U (.cells #[.int .i64 4, .int .i64 0] 27))).below (ba0 _ (.cells #[.int .i64 l.low, .int .i64 l.high, .int .i64 l.old, .int .i64 l.far] 3)))
    have HM6 := Lib.hid ((HM5.out.below (ba0 U (.cells #[.int .i64 4, .int .i64 0] 27))).below (ba0 _ (.cells #[.int .i64 l.low, .int .i64 l.high, .int .i64 l.old, .int .i64 l.far] 3)))
    have HP6 := Lib.hid (show Blk ((U.alloc (.cells #[.int .i64 4, .int .i64 0] 27)).alloc (.cells #[.int .i64 l.low, .int .i64 l.high, .int .i64 l.old, .int .i64 l.far] 3)) U.heap.size [.int .i64 4, .int .i64 0] 27 from (Blk.new U [.int .i64 4, .int .i64 0] _).below (ba0 _ _))
    have HB6 := Lib.hid (ba (ba HB5.out (.cells #[.int .i64 4, .int .i64 0] 27)) (.cells #[.int .i64 l.low, .int .i64 l.high, .int .i64 l.old, .int .i64 l.far] 3))
    have hpl : (lpart l 4).2 = l.far := by simp [lpart]
    have hpm : (lpart ⟨1 + m', c', l.to, l.low, l.high, l.old, l.far⟩ 4).2 = l.far := by simp [lpart]
    by_cases hz : l.far = 0
    · have dz : (l.far == 0) = true := by simp; omega
      have HA := Lib.hid (laddr_out HR.out (p := 4) (i := 0) (by rw [hpl]; omega))
      clear hz hpl hpm
      obtain ⟨c0, c1, c2, c3, c4, c5, c6⟩ := (HL5.out.below (ba0 U (.cells #[.int .i64 4, .int .i64 0] 27))).cells
      obtain ⟨d0, d1, d2, d3, d4, d5, d6⟩ := HL6.out.cells
      go_wp2_with fail
      refine (C.addr l 4 0 0 6 _ (lright_bd HR.out) (by omega) (by omega) (by omega) (by omega) HA.out).mono ?_
      rintro e w4 ⟨rfl, hb4⟩
      have HB7 := Lib.hid (bt HB6.out hb4)
      clear hb4 c0 c1 c2 c3 c4 c5 c6 d0 d1 d2 d3 d4 d5 d6
      go_wp2_with fail
      go_ret
      exact ⟨rfl, HB7.out⟩
    · have dz : (l.far == 0) = false := by simp; omega
      obtain ⟨r, hr, hr2⟩ := pkN at' l.far (by omega)
      have HA := Lib.hid (laddr_in HR.out (p := 4) (i := r) (by rw [hpl]; omega))
      have HAM := Lib.hid (laddr_in HRM.out (p := 4) (i := r) (by rw [hpm]; omega))
      have hb1 := lpart_in HR.out (p := 4) (by omega)
      have hb2 := lpart_in HRM.out (p := 4) (by omega)
      obtain ⟨A, hA⟩ : ∃ A, (lpart l 4).1 + r = A := ⟨_, rfl⟩
      obtain ⟨B, hB⟩ : ∃ B, (lpart ⟨1 + m', c', l.to, l.low, l.high, l.old, l.far⟩ 4).1 + r = B := ⟨_, rfl⟩
      rw [hA] at HA
      rw [hB] at HAM
      rw [hpl] at hb1
      rw [hpm] at hb2
      dsimp only at hb2
      have bA1 : (l.base : Int) ≤ A := by omega
      have bA2 : A ≤ 9223372036854775808 := by omega
      have bB1 : 1 + (m' : Int) ≤ B := by omega
      have bB2 : B ≤ 9223372036854775808 := by omega
      have HAB := Lib.hid (And.intro hA hB)
      clear hA hB hpl hpm hb1 hb2 hz
      have hug : U.heap.size < ((U.alloc (.cells #[.int .i64 4, .int .i64 0] 27)).alloc (.cells #[.int .i64 l.low, .int .i64 l.high, .int .i64 l.old, .int .i64 l.far] 3)).heap.size := by simp; omega
      have hgu := HM5.out.lt
      obtain ⟨c0, c1, c2, c3, c4, c5, c6⟩ := (HL5.out.below (ba0 U (.cells #[.int .i64 4, .int .i64 0] 27))).cells
      go_wp2_with fail
      refine (pick07_int at' l.far r _ t3.1 t3.2 (by omega) (by omega) hr).mono ?_
      rintro e w3 ⟨rfl, rfl⟩
      clear c0 c1 c2 c3 c4 c5 c6 hr
      generalize (U.alloc (.cells #[.int .i64 4, .int .i64 0] 27)).alloc (.cells #[.int .i64 l.low, .int .i64 l.high, .int .i64 l.old, .int .i64 l.far] 3) = X at HL6 HM6 HP6 HB6 hug ⊢
      generalize U.heap.size = gp at HP6 hgu hug ⊢
      have f1 := Blk.frozen HP6.out 1
      have z1 := HP6.out.cell (j := 1) rfl
      have HL7 := Lib.hid (show LoAt (X.setCell ⟨gp, 1, none⟩ (.int .i64 (r : Int))) g l from blk_set_far HP6.out (by omega) 1 _ HL6.out)
      have HM7 := Lib.hid (show LoAt (X.setCell ⟨gp, 1, none⟩ (.int .i64 (r : Int))) (g + 1) ⟨1 + m', c', l.to, l.low, l.high, l.old, l.far⟩ from blk_set_far HP6.out (by omega) 1 _ HM6.out)
      have HP7 := Lib.hid (show Blk (X.setCell ⟨gp, 1, none⟩ (.int .i64 (r : Int))) gp [.int .i64 4, .int .i64 (r : Int)] 27 from blk_set HP6.out 1 _)
      have HB7 := Lib.hid (show Below w.heap.size w (X.setCell ⟨gp, 1, none⟩ (.int .i64 (r : Int))) from (HB6.out.setCell (p := ⟨gp, 1, none⟩) (by show w.heap.size ≤ gp; omega) _))
      obtain ⟨c0, c1, c2, c3, c4, c5, c6⟩ := HL7.out.cells
      have p0 := HP7.out.cell (j := 0) rfl
      have p1 := HP7.out.cell (j := 1) rfl
      clear HL6 HM6 HP6 HB6 HL5 HM5 HB5
      go_wp2_with fail
      generalize X.setCell ⟨gp, 1, none⟩ (.int .i64 (r : Int)) = Y at HL7 HM7 HP7 HB7 ⊢
      refine (C.addr l 4 r A 0 _ (lright_bd HR.out) (by omega) (by omega) (by omega) (by omega) HA.out).mono ?_
      rintro e w4 ⟨rfl, hb4⟩
      have HL8 := Lib.hid (HL7.out.below hb4)
      have HM8 := Lib.hid (HM7.out.below hb4)
      have HP8 := Lib.hid (HP7.out.below hb4)
      have HB8 := Lib.hid (bt HB7.out hb4)
      clear hb4 c0 c1 c2 c3 c4 c5 c6 p0 p1 HL7 HM7 HP7 HB7 f1 z1 HA
      obtain ⟨c0, c1, c2, c3, c4, c5, c6⟩ := HM8.out.cells
      dsimp only at c0 c1 c2 c3 c4 c5 c6
      have p0 := HP8.out.cell (j := 0) rfl
      have p1 := HP8.out.cell (j := 1) rfl
      go_wp2_with fail
      refine (C.addr ⟨1 + m', c', l.to, l.low, l.high, l.old, l.far⟩ 4 r B 0 _ (lright_bd HRM.out) (by omega) (by omega) (by omega) (by omega) HAM.out).mono ?_
      rintro e w5 ⟨rfl, hb5⟩
      have HL9 := Lib.hid (HL8.out.below hb5)
      have HM9 := Lib.hid (HM8.out.below hb5)
      have HP9 := Lib.hid (HP8.out.below hb5)
      have HB9 := Lib.hid (bt HB8.out hb5)
      clear hb5 c0 c1 c2 c3 c4 c5 c6 p0 p1 HL8 HM8 HP8 HB8 HAM dz
      obtain ⟨c0, c1, c2, c3, c4, c5, c6⟩ := HM9.out.cells
      obtain ⟨d0, d1, d2, d3, d4, d5, d6⟩ := HL9.out.cells
      dsimp only at c0 c1 c2 c3 c4 c5 c6
      have p0 := HP9.out.cell (j := 0) rfl
      rcases (show l.to = 0 ∨ l.to = 1 by omega) with ht | ht
      · skip
        have HFN := Lib.hid (show B - (1 + (m' : Int)) = A - l.base + (c' - l.cap + c' - l.cap) by
          have h1 := HAB.out.1
          have h2 := HAB.out.2
          rw [← h1, ← h2]
          simp [lpart, lfrom, ht]
          omega)
        have HRR := Lib.hid (fun w => C.right ⟨1 + m', c', 0, l.low, l.high, l.old, l.far⟩ true w (lright_bd (by have h := HRM.out; rw [ht] at h; exact h)) (decide_eq_true (by have h := HRM.out; rw [ht] at h; exact h)))
        go_wp2_with fail
        refine (HRR.out _).mono ?_
        rintro e w6 ⟨rfl, hb6⟩
        have HB10 := Lib.hid (bt HB9.out hb6)
        have k0 := (HL9.out.below hb6).cells.1
        have k1 := (HM9.out.below hb6).cells.1
        dsimp only at k1
        have hfn := HFN.out
        clear hb6 c0 c1 c2 c3 c4 c5 c6 d0 d1 d2 d3 d4 d5 d6 p0
        go_wp2_with fail
        go_ret
        exact ⟨rfl, HB10.out⟩
      · skip
        have HFN := Lib.hid (show B - (1 + (m' : Int)) = A - l.base + (c' - l.cap) by
          have h1 := HAB.out.1
          have h2 := HAB.out.2
          rw [← h1, ← h2]
          simp [lpart, lfrom, ht]
          omega)
        have HRR := Lib.hid (fun w => C.right ⟨1 + m', c', 1, l.low, l.high, l.old, l.far⟩ true w (lright_bd (by have h := HRM.out; rw [ht] at h; exact h)) (decide_eq_true (by have h := HRM.out; rw [ht] at h; exact h)))
        go_wp2_with fail
        refine (HRR.out _).mono ?_
        rintro e w6 ⟨rfl, hb6⟩
        have HB10 := Lib.hid (bt HB9.out hb6)
        have k0 := (HL9.out.below hb6).cells.1
        have k1 := (HM9.out.below hb6).cells.1
        dsimp only at k1
        have hfn := HFN.out
        clear hb6 c0 c1 c2 c3 c4 c5 c6 d0 d1 d2 d3 d4 d5 d6 p0
        go_wp2_with fail
        go_ret
        exact ⟨rfl, HB10.out⟩
end Go.Proofs.Ytifmlmbbmlnpmaa.V
