/-
  PlacesBack, walked under what is asked of the program's functions.
-/
import Derived.Test.YtifmlmbbmlnpmaaPlCnt
set_option linter.unusedVariables false
namespace Go.Proofs.Ytifmlmbbmlnpmaa.V
open Go.RowKit

theorem lfind_far {l : Lo} (h : lright l) {y : Int} (hy : y < l.base ∨ (l.base : Int) + 2 * l.cap ≤ y) : lfind l y = ((0, 0), 6) := by
  refine lfind_out h fun p hp => ?_
  have h1 := lpart_in h (lin_le hp)
  unfold lin at hp
  omega

set_option maxRecDepth 100000 in
set_option maxHeartbeats 1000000 in
theorem placesBack_try (C : PlC) (b : Nat) (n0 n1 n2 n3 n4 n5 : Int) (w : World) (hb : b < 2 ^ 64) (s0 : i64 n0) (s1 : i64 n1) (s2 : i64 n2) (s3 : i64 n3) (s4 : i64 n4) (s5 : i64 n5) :
    Calls Try.prog 4 #[.int .u64 (b : Int), .agg #[.int .i64 n0, .int .i64 n1, .int .i64 n2, .int .i64 n3, .int .i64 n4, .int .i64 n5]] w fun e w' => e = .returned (.bool true) ∧ Below w.heap.size w w' := by
  obtain ⟨l, hr, h40, hlay⟩ := layout7x b n0 n1 n2 n3 n4 n5 hb s0 s1 s2 s3 s4 s5
  have HLAY := Lib.hid hlay
  have HR := Lib.hid hr
  obtain ⟨r1, ⟨r2, r3⟩, r4, ⟨r5, r6⟩, ⟨r7, r8, r9, r10⟩, r11, r12⟩ := hr
  clear hlay s0 s1 s2 s3 s4 s5
  go_enter Try.func4, Try.ntmps4
  go_wp2_with fail
  refine (awake07 C _).mono ?_
  rintro e w1 ⟨rfl, hb1⟩
  have HA1 := Lib.hid ((Blk.new w [.int .i64 n0, .int .i64 n1, .int .i64 n2, .int .i64 n3, .int .i64 n4, .int .i64 n5] 25).below hb1)
  have HB1 := Lib.hid (bt (ba0 w _) hb1)
  clear hb1
  have a0 := HA1.out.cell (j := 0) rfl
  have a1 := HA1.out.cell (j := 1) rfl
  have a2 := HA1.out.cell (j := 2) rfl
  have a3 := HA1.out.cell (j := 3) rfl
  have a4 := HA1.out.cell (j := 4) rfl
  have a5 := HA1.out.cell (j := 5) rfl
  go_wp2_with fail
  refine (HLAY.out _).mono ?_
  rintro e w2 ⟨rfl, hb2⟩
  have HB2 := Lib.hid (bt HB1.out hb2)
  clear hb2 a0 a1 a2 a3 a4 a5 HA1 HB1 HLAY
  go_wp2_with fail
  have HL3 := Lib.hid (LoAt.new w2 l)
  have HB3 := Lib.hid (ba HB2.out (.cells #[.int .u64 (l.base : Int), .int .i64 l.cap, .int .i64 l.to, .int .i64 l.low, .int .i64 l.high, .int .i64 l.old, .int .i64 l.far] 24))
  clear HB2
  generalize w2.alloc (.cells #[.int .u64 (l.base : Int), .int .i64 l.cap, .int .i64 l.to, .int .i64 l.low, .int .i64 l.high, .int .i64 l.old, .int .i64 l.far] 24) = V at HL3 HB3 ⊢
  generalize w2.heap.size = g at HL3 ⊢
  have hlg := HL3.out.lt
  obtain ⟨N, hN⟩ : ∃ N : Nat, (N : Int) = 2 * l.cap := ⟨(2 * l.cap).toNat, by omega⟩
  go_loopw [7, 8] (fun m i wr => ∃ k : Nat, m = .int .i64 (lcnt l (k : Int)) ∧ i = .int .i64 (k : Int) ∧ k ≤ N ∧ Hid (Below V.heap.size V wr)) (fun _ i _ => N - (intOf i).toNat)
  case atStart => exact ⟨0, by rw [show ((0 : Nat) : Int) = 0 from rfl, lcnt_zero HR.out], rfl, by omega, Lib.hid (Below.refl _ _)⟩
  case round =>
    obtain ⟨k, rfl, rfl, hkN, HBR⟩ := hrel
    have HLR := Lib.hid (HL3.out.below HBR.out)
    have hcb := lcnt_bd HR.out (k : Int)
    obtain ⟨Z, hZ⟩ : ∃ Z : Nat, lcnt l (k : Int) = (Z : Int) := ⟨(lcnt l (k : Int)).toNat, by omega⟩
    rw [hZ] at hcb ⊢
    have hcb2 := hcb.2
    clear hcb
    by_cases hk : k < N
    · have hk2 : (k : Int) < 2 * l.cap := by omega
      obtain ⟨c0, c1, c2, c3, c4, c5, c6⟩ := HLR.out.cells
      rcases lfind_cases HR.out ((l.base : Int) + k) with ⟨p, hp, hf⟩ | ⟨hn, hf⟩
      · have hp4 := lin_le hp
        have hin := lpart_in HR.out hp4
        have HZ := Lib.hid (show lcnt l ((k : Int) + 1) = (Z : Int) + 1 by rw [lcnt_in HR.out hp, hZ])
        have HAD := Lib.hid (laddr_find HR.out hp)
        have HF := Lib.hid hf
        have hpl := hp
        unfold lin at hpl
        obtain ⟨I, hI⟩ : ∃ I : Int, (l.base : Int) + k - (lpart l p).1 = I := ⟨_, rfl⟩
        rw [hI] at HAD HF
        obtain ⟨F, hFp⟩ : ∃ F, (lpart l p).1 = F := ⟨_, rfl⟩
        obtain ⟨n, hnp⟩ : ∃ n, (lpart l p).2 = n := ⟨_, rfl⟩
        rw [hFp] at hin hpl hI
        rw [hnp] at hin hpl
        clear hp hf hZ hFp hnp
        go_wp2_with fail
        refine (C.find l ((l.base : Int) + k) p I 0 _ (lright_bd HR.out) (by omega) (by omega) HF.out).mono ?_
        rintro e w5 ⟨rfl, hb5⟩
        have HL5 := Lib.hid ((HLR.out.below hb5).below (ba0 w5 (.cells #[.int .i64 p, .int .i64 I] 27)))
        have HB5 := Lib.hid (ba (bt HBR.out hb5) (.cells #[.int .i64 p, .int .i64 I] 27))
        clear hb5 c0 c1 c2 c3 c4 c5 c6
        obtain ⟨c0, c1, c2, c3, c4, c5, c6⟩ := HL5.out.cells
        go_wp2_with fail
        refine (C.addr l p I ((l.base : Int) + k) 0 _ (lright_bd HR.out) (by omega) (by omega) (by omega) (by omega) HAD.out).mono ?_
        rintro e w6 ⟨rfl, hb6⟩
        have HL6 := Lib.hid (HL5.out.below hb6)
        have HB6 := Lib.hid (bt HB5.out hb6)
        clear hb6 c0 c1 c2 c3 c4 c5 c6
        obtain ⟨c0, c1, c2, c3, c4, c5, c6⟩ := HL6.out.cells
        go_wp2_with fail
        go_roundw
        case rel => exact ⟨k + 1, by rw [show ((k + 1 : Nat) : Int) = (k : Int) + 1 from rfl, HZ.out], by go_num, by omega, HB6⟩
        case measure => simp [intOf]; omega
      · have HZ := Lib.hid (show lcnt l ((k : Int) + 1) = (Z : Int) by rw [lcnt_out HR.out hn, hZ])
        have HF := Lib.hid hf
        clear hf hZ hn
        go_wp2_with fail
        refine (C.find l ((l.base : Int) + k) 0 0 6 _ (lright_bd HR.out) (by omega) (by omega) HF.out).mono ?_
        rintro e w5 ⟨rfl, hb5⟩
        have HB5 := Lib.hid (ba (bt HBR.out hb5) (.cells #[.int .i64 0, .int .i64 0] 27))
        clear hb5 c0 c1 c2 c3 c4 c5 c6
        go_wp2_with fail
        go_roundw
        case rel => exact ⟨k + 1, by rw [show ((k + 1 : Nat) : Int) = (k : Int) + 1 from rfl, HZ.out], by go_num, by omega, HB5⟩
        case measure => simp [intOf]; omega
    · obtain rfl : k = N := by omega
      have hk2 : ¬ (k : Int) < 2 * l.cap := by omega
      obtain ⟨c0, c1, c2, c3, c4, c5, c6⟩ := HLR.out.cells
      have HZ := Lib.hid (show (Z : Int) = l.low + l.high + l.old + l.far by rw [← hZ, hN, lcnt_all HR.out])
      clear hZ
      go_wp2_with fail
      clear c0 c1 c2 c3 c4 c5 c6
      have hs : ∀ q : Nat, q < 4 → (wr.alloc (.cells #[.int .i64 l.low, .int .i64 l.high, .int .i64 l.old, .int .i64 l.far] 3)).cell? ⟨wr.heap.size, q, none⟩ = some (.int .i64 (lpart l ((q : Int) + 1)).2) := by
        intro q hq
        match q, hq with
        | 0, _ => exact (Blk.cell (Blk.new wr [_, _, _, _] _) (j := 0) rfl).trans (by simp [lpart])
        | 1, _ => exact (Blk.cell (Blk.new wr [_, _, _, _] _) (j := 1) rfl).trans (by simp [lpart])
        | 2, _ => exact (Blk.cell (Blk.new wr [_, _, _, _] _) (j := 2) rfl).trans (by simp [lpart])
        | 3, _ => exact (Blk.cell (Blk.new wr [_, _, _, _] _) (j := 3) rfl).trans (by simp [lpart])
      have HLV := Lib.hid (HLR.out.below (ba0 wr (.cells #[.int .i64 l.low, .int .i64 l.high, .int .i64 l.old, .int .i64 l.far] 3)))
      have HBV := Lib.hid (bt HB3.out (ba HBR.out (.cells #[.int .i64 l.low, .int .i64 l.high, .int .i64 l.old, .int .i64 l.far] 3)))
      have hvl : wr.heap.size < (wr.alloc (.cells #[.int .i64 l.low, .int .i64 l.high, .int .i64 l.old, .int .i64 l.far] 3)).heap.size := by simp
      have HSV := Lib.hid hs
      clear hs HLR HBR
      generalize wr.alloc (.cells #[.int .i64 l.low, .int .i64 l.high, .int .i64 l.old, .int .i64 l.far] 3) = V2 at HLV HBV HSV hvl ⊢
      generalize wr.heap.size = gs at HSV hvl ⊢
      go_loopw [14] (fun pt wr => ∃ q : Nat, pt = .int .i64 ((q : Int) + 1) ∧ q ≤ 4 ∧ Hid (Below V2.heap.size V2 wr)) (fun pt _ => 5 - (intOf pt).toNat)
      case atStart => exact ⟨0, rfl, by omega, Lib.hid (Below.refl _ _)⟩
      case round =>
        obtain ⟨q, rfl, hq4, HBR⟩ := hrel
        have HLR := Lib.hid (HLV.out.below HBR.out)
        by_cases hq : q < 4
        · obtain ⟨F, n, hp⟩ : ∃ F n, lpart l ((q : Int) + 1) = (F, n) := ⟨_, _, rfl⟩
          have hin := lpart_in HR.out (p := (q : Int) + 1) (by omega)
          have hcs := HSV.out q hq
          rw [hp] at hin hcs
          dsimp only at hin hcs
          obtain ⟨i1, i2, i3, i4⟩ := hin
          obtain ⟨F, rfl⟩ := Int.eq_ofNat_of_zero_le (show 0 ≤ F by omega)
          obtain ⟨n, rfl⟩ := Int.eq_ofNat_of_zero_le i3
          have HP := Lib.hid hp
          have HCS := Lib.hid (cellS HBR.out hvl hcs)
          have hgr : gs < wr.heap.size := by have := HBR.out.size; omega
          have q4 : (q : Int) + 1 ≤ 4 := by omega
          clear hp hcs
          go_wp2_with fail
          go_loopw [15] (fun i ws => ∃ k : Nat, i = .int .i64 k ∧ k ≤ n ∧ Hid (Below wr.heap.size wr ws)) (fun i _ => n - (intOf i).toNat)
          case atStart => exact ⟨0, rfl, by omega, Lib.hid (Below.refl _ _)⟩
          case round =>
            obtain ⟨k, rfl, hkn, HBS⟩ := hrel
            have csz := cellS HBS.out hgr HCS.out
            by_cases hk : k < n
            · have hk' : (k : Int) < n := by omega
              have hkk : decide (k < n) = true := by simp; omega
              have HLS := Lib.hid (HLR.out.below HBS.out)
              obtain ⟨c0, c1, c2, c3, c4, c5, c6⟩ := HLS.out.cells
              go_wp2_with fail
              refine (C.addr l ((q : Int) + 1) k ((F : Int) + k) 0 _ (lright_bd HR.out) (by omega) (by omega) (by omega) (by omega) (by have h := laddr_in HR.out (p := (q : Int) + 1) (i := k) (by rw [HP.out]; dsimp only; omega); rw [HP.out] at h; exact h)).mono ?_
              rintro e w5 ⟨rfl, hb5⟩
              have HL5 := Lib.hid (HLS.out.below hb5)
              have HB5 := Lib.hid (bt HBS.out hb5)
              clear hb5 c0 c1 c2 c3 c4 c5 c6 csz
              obtain ⟨c0, c1, c2, c3, c4, c5, c6⟩ := HL5.out.cells
              go_wp2_with fail
              refine (C.find l ((F : Int) + k) ((q : Int) + 1) k 0 _ (lright_bd HR.out) (by omega) (by omega) (by have h := lfind_addr HR.out (p := (q : Int) + 1) (i := k) (by rw [HP.out]; dsimp only; omega); rw [HP.out] at h; exact h)).mono ?_
              rintro e w6 ⟨rfl, hb6⟩
              have HB6 := Lib.hid (ba (bt HB5.out hb6) (.cells #[.int .i64 ((q : Int) + 1), .int .i64 k] 27))
              have hnn : ∀ w, (binOp .neq 27 (.agg #[.int .i64 ((q : Int) + 1), .int .i64 k]) (.agg #[.int .i64 ((q : Int) + 1), .int .i64 k])).run Try.prog w = .ok (.bool false) w := fun w => by rw [neq_pl]; simp
              clear hb6 c0 c1 c2 c3 c4 c5 c6
              go_wp2_with fail
              go_roundw
              case rel => exact ⟨k + 1, by go_num, by omega, HB6⟩
              case measure => simp [intOf]; omega
            · obtain rfl : k = n := by omega
              have hkk : decide (k < k) = false := by simp
              go_wp2_with fail
              go_roundw
              case rel => exact ⟨q + 1, by go_num, by omega, Lib.hid (bt HBR.out HBS.out)⟩
              case measure => simp [intOf]; omega
        · obtain rfl : q = 4 := by omega
          have HB4 := Lib.hid (bt HBV.out HBR.out)
          clear HBR
          obtain ⟨c0, c1, c2, c3, c4, c5, c6⟩ := HLR.out.cells
          go_wp2_with fail
          refine (C.find l ((l.base : Int) - 1) 0 0 6 _ (lright_bd HR.out) (by omega) (by omega) (lfind_far HR.out (by omega))).mono ?_
          rintro e w5 ⟨rfl, hb5⟩
          have HL5 := Lib.hid ((HLR.out.below hb5).below (ba0 w5 (.cells #[.int .i64 0, .int .i64 0] 27)))
          have HB5 := Lib.hid (ba (bt HB4.out hb5) (.cells #[.int .i64 0, .int .i64 0] 27))
          clear hb5 c0 c1 c2 c3 c4 c5 c6
          obtain ⟨c0, c1, c2, c3, c4, c5, c6⟩ := HL5.out.cells
          go_wp2_with fail
          refine (C.find l ((l.base : Int) + 2 * l.cap) 0 0 6 _ (lright_bd HR.out) (by omega) (by omega) (lfind_far HR.out (by omega))).mono ?_
          rintro e w6 ⟨rfl, hb6⟩
          have HL6 := Lib.hid ((HL5.out.below hb6).below (ba0 w6 (.cells #[.int .i64 0, .int .i64 0] 27)))
          have HB6 := Lib.hid (ba (bt HB5.out hb6) (.cells #[.int .i64 0, .int .i64 0] 27))
          clear hb6 c0 c1 c2 c3 c4 c5 c6
          obtain ⟨c0, c1, c2, c3, c4, c5, c6⟩ := HL6.out.cells
          have hz : ((Z : Int) == l.low + l.high + l.old + l.far) = true := by rw [HZ.out]; simp
          go_wp2_with fail
          go_ret
          exact ⟨rfl, HB6.out⟩
end Go.Proofs.Ytifmlmbbmlnpmaa.V
