/-
  PlacesOrder, walked under what is asked of the program's functions.
-/
import Derived.Test.YtifmlmbbmlnpmaaPlCnt
set_option linter.unusedVariables false
namespace Go.Proofs.Ytifmlmbbmlnpmaa.V
open Go.RowKit

set_option maxRecDepth 100000 in
set_option maxHeartbeats 1000000 in
theorem placesOrder_try (C : PlC) (b : Nat) (n0 n1 n2 n3 n4 n5 : Int) (w : World) (hb : b < 2 ^ 64) (s0 : i64 n0) (s1 : i64 n1) (s2 : i64 n2) (s3 : i64 n3) (s4 : i64 n4) (s5 : i64 n5) :
    Calls Try.prog 6 #[.int .u64 (b : Int), .agg #[.int .i64 n0, .int .i64 n1, .int .i64 n2, .int .i64 n3, .int .i64 n4, .int .i64 n5]] w fun e w' => e = .returned (.bool true) ∧ Below w.heap.size w w' := by
  obtain ⟨l, hr, h40, hlay⟩ := layout7x b n0 n1 n2 n3 n4 n5 hb s0 s1 s2 s3 s4 s5
  have HLAY := Lib.hid hlay
  have HR := Lib.hid hr
  obtain ⟨r1, ⟨r2, r3⟩, r4, ⟨r5, r6⟩, ⟨r7, r8, r9, r10⟩, r11, r12⟩ := hr
  clear hlay s0 s1 s2 s3 s4 s5
  go_enter Try.func6, Try.ntmps6
  go_wp2_with fail
  refine (awake07 C _).mono ?_
  rintro e w1 ⟨rfl, hb1⟩
  have HA1 := Lib.hid ((Blk.new w [.int .i64 n0, .int .i64 n1, .int .i64 n2, .int .i64 n3, .int .i64 n4, .int .i64 n5] 25).below hb1)
  have HB1 := Lib.hid (bt (ba0 w _) hb1)
  clear hb1
  have a0 := HA1.out.cell (j := 0) rfl
  have a1 := HA1.out.cell (j := 1) rfl
  have a2 := HA1.out.cell (j := 2) rfl
  have a3 := HA1.out.cell (j := 3) rfl
  have a4 := HA1.out.cell (j := 4) rfl
  have a5 := HA1.out.cell (j := 5) rfl
  go_wp2_with fail
  refine (HLAY.out _).mono ?_
  rintro e w2 ⟨rfl, hb2⟩
  have HB2 := Lib.hid (bt HB1.out hb2)
  clear hb2 a0 a1 a2 a3 a4 a5 HA1 HB1 HLAY
  rcases (show l.to = 0 ∨ l.to = 1 by omega) with ht | ht
  all_goals
    go_wp2_with fail
    generalize hV : World.alloc (World.alloc (World.alloc w2 _) _) _ = V
    have hl : LoAt V w2.heap.size l := by rw [← hV]; have h := LoAt.new w2 l; rw [ht] at h; exact (h.below (ba0 _ _)).below (ba0 _ _)
    have hf : ∀ q : Nat, q < 4 → V.cell? ⟨w2.heap.size + 1, q, none⟩ = some (.int .u64 (lpart l ((q : Int) + 1)).1) := by
      rw [← hV]
      intro q hq
      match q, hq with
      | 0, _ => exact (Blk.cell (blk2 (cs := [_, _, _, _])) (j := 0) rfl).trans (by simp [lpart, lto, ht])
      | 1, _ => exact (Blk.cell (blk2 (cs := [_, _, _, _])) (j := 1) rfl).trans (by simp [lpart, lto, ht])
      | 2, _ => exact (Blk.cell (blk2 (cs := [_, _, _, _])) (j := 2) rfl).trans (by simp [lpart, lfrom, ht])
      | 3, _ => exact (Blk.cell (blk2 (cs := [_, _, _, _])) (j := 3) rfl).trans (by simp [lpart, lfrom, ht])
    have hs : ∀ q : Nat, q < 4 → V.cell? ⟨w2.heap.size + 1 + 1, q, none⟩ = some (.int .i64 (lpart l ((q : Int) + 1)).2) := by
      rw [← hV]
      intro q hq
      match q, hq with
      | 0, _ => exact (Blk.cell (blk3 (cs := [_, _, _, _])) (j := 0) rfl).trans (by simp [lpart])
      | 1, _ => exact (Blk.cell (blk3 (cs := [_, _, _, _])) (j := 1) rfl).trans (by simp [lpart])
      | 2, _ => exact (Blk.cell (blk3 (cs := [_, _, _, _])) (j := 2) rfl).trans (by simp [lpart])
      | 3, _ => exact (Blk.cell (blk3 (cs := [_, _, _, _])) (j := 3) rfl).trans (by simp [lpart])
    have hvl : w2.heap.size + 1 + 1 < V.heap.size := by rw [← hV]; simp
    have HBV := Lib.hid (show Below w.heap.size w V by rw [← hV]; exact ba (ba (ba HB2.out _) _) _)
    clear hV HB2
    have HLV := Lib.hid hl
    have HFV := Lib.hid hf
    have HSV := Lib.hid hs
    clear hl hf hs
    generalize w2.heap.size = g at HLV HFV HSV hvl ⊢
    clear ht
    go_loopw [11] (fun pt wr => ∃ q : Nat, pt = .int .i64 ((q : Int) + 1) ∧ q ≤ 4 ∧ Hid (Below V.heap.size V wr)) (fun pt _ => 5 - (intOf pt).toNat)
    case atStart => exact ⟨0, rfl, by omega, Lib.hid (Below.refl _ _)⟩
    case round =>
      obtain ⟨q, rfl, hq4, HBR⟩ := hrel
      by_cases hq : q < 4
      · obtain ⟨F, n, hp⟩ : ∃ F n, lpart l ((q : Int) + 1) = (F, n) := ⟨_, _, rfl⟩
        have hin := lpart_in HR.out (p := (q : Int) + 1) (by omega)
        have hcf := HFV.out q hq
        have hcs := HSV.out q hq
        rw [hp] at hin hcf hcs
        dsimp only at hin hcf hcs
        obtain ⟨i1, i2, i3, i4⟩ := hin
        obtain ⟨F, rfl⟩ := Int.eq_ofNat_of_zero_le (show 0 ≤ F by omega)
        obtain ⟨n, rfl⟩ := Int.eq_ofNat_of_zero_le i3
        have HP := Lib.hid hp
        have HCF := Lib.hid (cellS HBR.out (by omega) hcf)
        have HCS := Lib.hid (cellS HBR.out hvl hcs)
        have HLR := Lib.hid (HLV.out.below HBR.out)
        have hrl : w.heap.size ≤ wr.heap.size := Nat.le_trans HBV.out.size HBR.out.size
        have hgr : g + 1 + 1 < wr.heap.size := by have := HBR.out.size; omega
        have HBW := Lib.hid (bt HBV.out HBR.out)
        have q4 : (q : Int) + 1 ≤ 4 := by omega
        clear hp hcf hcs
        go_wp2_with fail
        go_loopw [12] (fun i ws => ∃ k : Nat, i = .int .i64 k ∧ k ≤ n ∧ Hid (Below wr.heap.size wr ws)) (fun i _ => n - (intOf i).toNat)
        case atStart => exact ⟨0, rfl, by omega, Lib.hid (Below.refl _ _)⟩
        case round =>
          obtain ⟨k, rfl, hkn, HBS⟩ := hrel
          have csz := cellS HBS.out hgr HCS.out
          by_cases hk : k < n
          · have hk' : (k : Int) < n := by omega
            have hkk : decide (k < n) = true := by simp; omega
            obtain ⟨c0, c1, c2, c3, c4, c5, c6⟩ := (HLR.out.below HBS.out).cells
            go_wp2_with fail
            refine (C.addr l ((q : Int) + 1) k ((F : Int) + k) 0 _ (lright_bd HR.out) (by omega) (by omega) (by omega) (by omega) (by have h := laddr_in HR.out (p := (q : Int) + 1) (i := k) (by rw [HP.out]; dsimp only; omega); rw [HP.out] at h; exact h)).mono ?_
            rintro e w5 ⟨rfl, hb5⟩
            have ccf := cellS hb5 (by have := HBS.out.size; omega) (cellS HBS.out (by omega) HCF.out)
            have HB5 := Lib.hid (bt HBS.out hb5)
            clear hb5 c0 c1 c2 c3 c4 c5 c6 csz
            go_wp2_with fail
            go_roundw
            case rel => exact ⟨k + 1, by go_num, by omega, HB5⟩
            case measure => simp [intOf]; omega
          · obtain rfl : k = n := by omega
            have hkk : decide (k < k) = false := by simp
            have hcs2 : Hid (∀ x : GW wr, x.w'.cell? ⟨g + 1 + 1, q, none⟩ = some (.int .i64 (k : Int))) := Lib.hid (fun x => cellS (bt HBS.out x.h) hgr HCS.out)
            have hll : Hid (∀ w', (∃ x : GW wr, w' = x.w') → LoAt w' g l) := Lib.hid (by rintro w' ⟨x, rfl⟩; exact (HLR.out.below HBS.out).below x.h)
            have HAD := Lib.hid (fun w => C.addr l ((q : Int) + 1) k 0 6 w (lright_bd HR.out) (by omega) (by omega) (by omega) (by omega) (laddr_out HR.out (by rw [HP.out]; dsimp only; omega)))
            go_wp2_with fail
            have hcs3 := hcs2.out
            refine wp_region_grow (by kernel_rfl) (by kernel_rfl) ?_
            repeat (first
              | (refine wpQ_load_lo rfl (.tmp 6) rfl g rfl l hll.out ?_; simp [Act.put])
              | go_big_quiet_step ((go_at_call 18; exact grow_call (HAD.out _))))
            refine wpQuiet_nil ?_
            first | rintro _ ⟨w4, rfl⟩ | intro w4
            have HL4 := Lib.hid (hll.out _ ⟨w4, rfl⟩)
            have HB4 := Lib.hid (bt HBS.out w4.h)
            clear csz hcs2 hcs3 hll HAD
            generalize w4.w' = W4 at HL4 HB4 ⊢
            obtain ⟨c0, c1, c2, c3, c4, c5, c6⟩ := HL4.out.cells
            go_wp2_with fail
            refine (C.addr l ((q : Int) + 1) (-1) 0 6 _ (lright_bd HR.out) (by omega) (by omega) (by omega) (by omega) (laddr_out HR.out (by omega))).mono ?_
            rintro e w5 ⟨rfl, hb5⟩
            have HB5 := Lib.hid (bt HBR.out (bt HB4.out hb5))
            clear hb5 c0 c1 c2 c3 c4 c5 c6
            go_wp2_with fail
            go_roundw
            case rel => exact ⟨q + 1, by go_num, by omega, HB5⟩
            case measure => simp [intOf]; omega
      · obtain rfl : q = 4 := by omega
        go_wp2_with fail
        go_ret
        exact ⟨rfl, bt HBV.out HBR.out⟩
end Go.Proofs.Ytifmlmbbmlnpmaa.V
