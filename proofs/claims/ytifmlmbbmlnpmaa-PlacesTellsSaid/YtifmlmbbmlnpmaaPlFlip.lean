/-
  PlacesFlip, walked under what is asked of the program's functions.
-/
import Derived.Test.YtifmlmbbmlnpmaaPlCnt
set_option linter.unusedVariables false
namespace Go.Proofs.Ytifmlmbbmlnpmaa.V
open Go.RowKit

theorem flip_low {l : Lo} (h : lright l) {k : Int} (h0 : 0 ≤ k) (h1 : k < l.low) : ∃ A : Int, laddr l 1 k = (A, 0) ∧ laddr ⟨l.base, l.cap, 1 - l.to, 0, 0, l.low, l.high⟩ 3 k = (A, 0) := by
  have hm : lright ⟨l.base, l.cap, 1 - l.to, 0, 0, l.low, l.high⟩ := by have h3 := lflip_right h; unfold lflip at h3; rw [if_pos h] at h3; exact h3
  refine ⟨(lpart l 1).1 + k, laddr_in h ⟨h0, h1⟩, ?_⟩
  rw [laddr_in hm (p := 3) (i := k) ⟨h0, h1⟩]
  have hb := h.2.2.2.1
  congr 1
  unfold lpart lto lfrom
  by_cases ht : l.to = 0
  · simp [ht]
  · have h2 : l.to = 1 := by omega
    simp [h2]
theorem flip_high {l : Lo} (h : lright l) {k : Int} (h0 : 0 ≤ k) (h1 : k < l.high) : ∃ A : Int, laddr l 2 k = (A, 0) ∧ laddr ⟨l.base, l.cap, 1 - l.to, 0, 0, l.low, l.high⟩ 4 k = (A, 0) := by
  have hm : lright ⟨l.base, l.cap, 1 - l.to, 0, 0, l.low, l.high⟩ := by have h3 := lflip_right h; unfold lflip at h3; rw [if_pos h] at h3; exact h3
  refine ⟨(lpart l 2).1 + k, laddr_in h ⟨h0, h1⟩, ?_⟩
  rw [laddr_in hm (p := 4) (i := k) ⟨h0, h1⟩]
  have hb := h.2.2.2.1
  congr 1
  unfold lpart lto lfrom
  by_cases ht : l.to = 0
  · simp [ht]
  · have h2 : l.to = 1 := by omega
    simp [h2]

set_option maxRecDepth 100000 in
set_option maxHeartbeats 1000000 in
theorem placesFlip_try (C : PlC) (b : Nat) (n0 n1 n2 n3 n4 n5 at' : Int) (w : World) (hb : b < 2 ^ 64) (s0 : i64 n0) (s1 : i64 n1) (s2 : i64 n2) (s3 : i64 n3) (s4 : i64 n4) (s5 : i64 n5) (s6 : i64 at') :
    Calls Try.prog 5 #[.int .u64 (b : Int), .agg #[.int .i64 n0, .int .i64 n1, .int .i64 n2, .int .i64 n3, .int .i64 n4, .int .i64 n5], .int .i64 at'] w fun e w' => e = .returned (.bool true) ∧ Below w.heap.size w w' := by
  obtain ⟨l, hr, h40, hlay⟩ := layout7x b n0 n1 n2 n3 n4 n5 hb s0 s1 s2 s3 s4 s5
  have HLAY := Lib.hid hlay
  have HR := Lib.hid hr
  obtain ⟨r1, ⟨r2, r3⟩, r4, ⟨r5, r6⟩, ⟨r7, r8, r9, r10⟩, r11, r12⟩ := hr
  clear hlay s0 s1 s2 s3 s4 s5
  have HFL := Lib.hid (fun w => (C.flip l ⟨l.base, l.cap, 1 - l.to, 0, 0, l.low, l.high⟩ 0 w (lright_bd HR.out) (by unfold lflip; rw [if_pos HR.out])).mono (fun e w' h => show e = .returned (.tuple #[.agg #[.int .u64 (l.base : Int), .int .i64 l.cap, .int .i64 (1 - l.to), .int .i64 0, .int .i64 0, .int .i64 l.low, .int .i64 l.high], .int .i64 0]) ∧ Below w.heap.size w w' from h))
  have hm := lflip_right HR.out
  unfold lflip at hm
  rw [if_pos HR.out] at hm
  have HRM := Lib.hid hm
  have HFM := Lib.hid (fun w => (C.flip ⟨l.base, l.cap, 1 - l.to, 0, 0, l.low, l.high⟩ ⟨l.base, l.cap, l.to, 0, 0, 0, 0⟩ 0 w (lright_bd HRM.out) (by unfold lflip; rw [if_pos HRM.out]; simp; omega)).mono (fun e w' h => show e = .returned (.tuple #[.agg #[.int .u64 (l.base : Int), .int .i64 l.cap, .int .i64 l.to, .int .i64 0, .int .i64 0, .int .i64 0, .int .i64 0], .int .i64 0]) ∧ Below w.heap.size w w' from h))
  have HRR := Lib.hid (fun w => C.right ⟨l.base, l.cap, 1 - l.to, 0, 0, l.low, l.high⟩ true w (lright_bd HRM.out) (decide_eq_true HRM.out))
  have HO := Lib.hid (fun (t lo hi ol fa R : Int) (w : World) (h9 : (t = 1 - l.to ∧ lo = 0 ∧ hi = 0 ∧ ol = l.low ∧ fa = l.high ∧ R = l.cap) ∨ (t = l.to ∧ lo = l.low ∧ hi = l.high ∧ ol = l.old ∧ fa = l.far ∧ R = l.cap - l.low - l.high)) => show Calls Try.prog 16 #[.agg #[.int .u64 (l.base : Int), .int .i64 l.cap, .int .i64 t, .int .i64 lo, .int .i64 hi, .int .i64 ol, .int .i64 fa]] w fun e w' => e = .returned (.int .i64 R) ∧ Below w.heap.size w w' from by
    rcases h9 with ⟨rfl, rfl, rfl, rfl, rfl, rfl⟩ | ⟨rfl, rfl, rfl, rfl, rfl, rfl⟩
    · exact C.room ⟨l.base, l.cap, 1 - l.to, 0, 0, l.low, l.high⟩ l.cap w (lright_bd HRM.out) (by unfold lroom; rw [if_pos HRM.out]; simp)
    · exact C.room l (l.cap - l.low - l.high) w (lright_bd HR.out) (by unfold lroom; rw [if_pos HR.out]))
  clear hm
  go_enter Try.func5, Try.ntmps5
  go_wp2_with fail
  refine (awake07 C _).mono ?_
  rintro e w1 ⟨rfl, hb1⟩
  have HA1 := Lib.hid ((Blk.new w [.int .i64 n0, .int .i64 n1, .int .i64 n2, .int .i64 n3, .int .i64 n4, .int .i64 n5] 25).below hb1)
  have HB1 := Lib.hid (bt (ba0 w _) hb1)
  clear hb1
  have a0 := HA1.out.cell (j := 0) rfl
  have a1 := HA1.out.cell (j := 1) rfl
  have a2 := HA1.out.cell (j := 2) rfl
  have a3 := HA1.out.cell (j := 3) rfl
  have a4 := HA1.out.cell (j := 4) rfl
  have a5 := HA1.out.cell (j := 5) rfl
  go_wp2_with fail
  refine (HLAY.out _).mono ?_
  rintro e w2 ⟨rfl, hb2⟩
  have HB2 := Lib.hid (bt HB1.out hb2)
  clear hb2 a0 a1 a2 a3 a4 a5 HA1 HB1 HLAY
  go_wp2_with fail
  refine (HFL.out _).mono ?_
  rintro e w3 ⟨rfl, hb3⟩
  have HL3 := Lib.hid ((LoAt.new w2 l).below hb3)
  have HB3 := Lib.hid (bt (ba HB2.out _) hb3)
  clear hb3 HB2 HFL
  go_wp2_with fail
  refine (HFM.out _).mono ?_
  rintro e w4 ⟨rfl, hb4⟩
  have HM4 := Lib.hid ((LoAt.new w3 ⟨l.base, l.cap, 1 - l.to, 0, 0, l.low, l.high⟩).below hb4)
  have HL4 := Lib.hid ((HL3.out.below (ba0 w3 _)).below hb4)
  have HB4 := Lib.hid (bt (ba HB3.out _) hb4)
  clear hb4 HB3 HL3 HFM
  have HL5 := Lib.hid (HL4.out.below (ba0 w4 (.cells #[.int .u64 (l.base : Int), .int .i64 l.cap, .int .i64 l.to, .int .i64 0, .int .i64 0, .int .i64 0, .int .i64 0] 24)))
  have HM5 := Lib.hid (HM4.out.below (ba0 w4 (.cells #[.int .u64 (l.base : Int), .int .i64 l.cap, .int .i64 l.to, .int .i64 0, .int .i64 0, .int .i64 0, .int .i64 0] 24)))
  have HO5 := Lib.hid (LoAt.new w4 ⟨l.base, l.cap, l.to, 0, 0, 0, 0⟩)
  have HB5 := Lib.hid (ba HB4.out (.cells #[.int .u64 (l.base : Int), .int .i64 l.cap, .int .i64 l.to, .int .i64 0, .int .i64 0, .int .i64 0, .int .i64 0] 24))
  have ne : ((1 - l.to : Int) == l.to) = false := by simp; omega
  clear HL4 HM4 HB4
  go_wp2_with fail
  generalize w4.alloc (.cells #[.int .u64 (l.base : Int), .int .i64 l.cap, .int .i64 l.to, .int .i64 0, .int .i64 0, .int .i64 0, .int .i64 0] 24) = W at HL5 HM5 HO5 HB5 ⊢
  generalize w4.heap.size = g3 at HO5 ⊢
  generalize w3.heap.size = g2 at HM5 ⊢
  generalize w2.heap.size = g1 at HL5 ⊢
  have hll : Hid (∀ w', (∃ x : GW W, w' = x.w') → LoAt w' g1 l) := Lib.hid (by rintro w' ⟨x, rfl⟩; exact HL5.out.below x.h)
  have hlm : Hid (∀ w', (∃ x : GW W, w' = x.w') → LoAt w' g2 ⟨l.base, l.cap, 1 - l.to, 0, 0, l.low, l.high⟩) := Lib.hid (by rintro w' ⟨x, rfl⟩; exact HM5.out.below x.h)
  have c0 : ∀ x : GW W, x.w'.cell? ⟨g1, 0, none⟩ = some (.int .u64 (l.base : Int)) := fun x => (HL5.out.below x.h).cells.1
  have c1 : ∀ x : GW W, x.w'.cell? ⟨g1, 1, none⟩ = some (.int .i64 l.cap) := fun x => (HL5.out.below x.h).cells.2.1
  have c2 : ∀ x : GW W, x.w'.cell? ⟨g1, 2, none⟩ = some (.int .i64 l.to) := fun x => (HL5.out.below x.h).cells.2.2.1
  have c3 : ∀ x : GW W, x.w'.cell? ⟨g1, 3, none⟩ = some (.int .i64 l.low) := fun x => (HL5.out.below x.h).cells.2.2.2.1
  have c4 : ∀ x : GW W, x.w'.cell? ⟨g1, 4, none⟩ = some (.int .i64 l.high) := fun x => (HL5.out.below x.h).cells.2.2.2.2.1
  have d0 : ∀ x : GW W, x.w'.cell? ⟨g2, 0, none⟩ = some (.int .u64 (l.base : Int)) := fun x => (HM5.out.below x.h).cells.1
  have d1 : ∀ x : GW W, x.w'.cell? ⟨g2, 1, none⟩ = some (.int .i64 l.cap) := fun x => (HM5.out.below x.h).cells.2.1
  have d2 : ∀ x : GW W, x.w'.cell? ⟨g2, 2, none⟩ = some (.int .i64 (1 - l.to)) := fun x => (HM5.out.below x.h).cells.2.2.1
  have e2 : ∀ x : GW W, x.w'.cell? ⟨g3, 2, none⟩ = some (.int .i64 l.to) := fun x => (HO5.out.below x.h).cells.2.2.1
  have e3 : ∀ x : GW W, x.w'.cell? ⟨g3, 3, none⟩ = some (.int .i64 0) := fun x => (HO5.out.below x.h).cells.2.2.2.1
  have e4 : ∀ x : GW W, x.w'.cell? ⟨g3, 4, none⟩ = some (.int .i64 0) := fun x => (HO5.out.below x.h).cells.2.2.2.2.1
  have e5 : ∀ x : GW W, x.w'.cell? ⟨g3, 5, none⟩ = some (.int .i64 0) := fun x => (HO5.out.below x.h).cells.2.2.2.2.2.1
  have e6 : ∀ x : GW W, x.w'.cell? ⟨g3, 6, none⟩ = some (.int .i64 0) := fun x => (HO5.out.below x.h).cells.2.2.2.2.2.2
  refine wp_region_grow (by kernel_rfl) (by kernel_rfl) ?_
  simp only [List.append_eq, List.cons_append, List.nil_append]
  repeat (first
    | (refine wpQ_load_lo rfl (.tmp 9) rfl g2 rfl ⟨l.base, l.cap, 1 - l.to, 0, 0, l.low, l.high⟩ hlm.out ?_; simp [Act.put])
    | (refine wpQ_load_lo rfl (.tmp 8) rfl g1 rfl l hll.out ?_; simp [Act.put])
    | go_big_quiet_step ((first
      | (go_at_call 16; exact grow_call (HO.out _ _ _ _ _ _ _ (by first | exact Or.inl ⟨rfl, rfl, rfl, rfl, rfl, rfl⟩ | exact Or.inr ⟨rfl, rfl, rfl, rfl, rfl, rfl⟩)))
      | (go_at_call 14; exact grow_call (HRR.out _)))))
  refine wpQuiet_nil ?_
  first | rintro _ ⟨w5, rfl⟩ | intro w5
  have HL6 := Lib.hid (hll.out _ ⟨w5, rfl⟩)
  have HM6 := Lib.hid (hlm.out _ ⟨w5, rfl⟩)
  have HB6 := Lib.hid (bt HB5.out w5.h)
  clear c0 c1 c2 c3 c4 d0 d1 d2 e2 e3 e4 e5 e6 hll hlm HL5 HM5 HO5 HB5 HRR HO ne
  generalize w5.w' = W6 at HL6 HM6 HB6 ⊢
  clear w5
  have s61 := s6.1
  have s62 := s6.2
  clear s6
  by_cases hz : l.low + l.high = 0
  · have dz : ((l.low + l.high : Int) == 0) = true := by simp; omega
    obtain ⟨c0, c1, c2, c3, c4, c5, c6⟩ := HL6.out.cells
    clear hz
    go_wp2_with fail
    go_ret
    exact ⟨rfl, HB6.out⟩
  · have dz : ((l.low + l.high : Int) == 0) = false := by simp; omega
    obtain ⟨k, hk, hk2⟩ := pkN at' (l.low + l.high) (by omega)
    obtain ⟨c0, c1, c2, c3, c4, c5, c6⟩ := HL6.out.cells
    go_wp2_with fail
    refine (pick07_int at' (l.low + l.high) k _ s61 s62 (by omega) (by omega) hk).mono ?_
    rintro e w7 ⟨rfl, rfl⟩
    clear c0 c1 c2 c3 c4 c5 c6
    have HLW := Lib.hid ((HL6.out.below (ba0 W6 (.cells #[.int .i64 1, .int .i64 (k : Int)] 27))).below (ba0 _ (.cells #[.int .i64 3, .int .i64 (k : Int)] 27)))
    have HMW := Lib.hid ((HM6.out.below (ba0 W6 (.cells #[.int .i64 1, .int .i64 (k : Int)] 27))).below (ba0 _ (.cells #[.int .i64 3, .int .i64 (k : Int)] 27)))
    have HPW := Lib.hid (show Blk ((W6.alloc (.cells #[.int .i64 1, .int .i64 (k : Int)] 27)).alloc (.cells #[.int .i64 3, .int .i64 (k : Int)] 27)) W6.heap.size [.int .i64 1, .int .i64 k] 27 from (Blk.new W6 [.int .i64 1, .int .i64 k] _).below (ba0 _ _))
    have HQW := Lib.hid (show Blk ((W6.alloc (.cells #[.int .i64 1, .int .i64 (k : Int)] 27)).alloc (.cells #[.int .i64 3, .int .i64 (k : Int)] 27)) (W6.heap.size + 1) [.int .i64 3, .int .i64 k] 27 from by have := Blk.new (W6.alloc (.cells #[.int .i64 1, .int .i64 (k : Int)] 27)) [.int .i64 3, .int .i64 k] 27; rwa [World.size_alloc] at this)
    have HBW := Lib.hid (ba (ba0 W6 (.cells #[.int .i64 1, .int .i64 (k : Int)] 27)) (.cells #[.int .i64 3, .int .i64 (k : Int)] 27))
    obtain ⟨c0, c1, c2, c3, c4, c5, c6⟩ := HLW.out.cells
    by_cases hl : l.low ≤ k
    · have dl : decide (l.low ≤ (k : Int)) = true := by simp; omega
      obtain ⟨A, hA1, hA2⟩ := flip_high HR.out (k := (k : Int) - l.low) (by omega) (by omega)
      have HA1 := Lib.hid hA1
      have HA2 := Lib.hid hA2
      clear hA1 hA2 hk
      have hlg := HL6.out.lt
      have hmg := HM6.out.lt
      go_wp2_with (first
        | (refine wp_store_blk rfl (.tmp 14) (.tmp 133) rfl W6.heap.size 2 ((k : Int) - l.low) _ _ rfl rfl HPW.out ?_; intro w8 hp8 hf8 hb8; have HP8 := Lib.hid hp8; have HL8 := Lib.hid (hf8 _ _ _ (by omega) HLW.out); have HM8 := Lib.hid (hf8 _ _ _ (by omega) HMW.out); have HQ8 := Lib.hid (hf8 _ _ _ (by omega) HQW.out); have HB8 := Lib.hid (hb8 _ _ (Nat.le_refl _) HBW.out); clear hp8 hf8 hb8 c0 c1 c2 c3 c4 c5 c6; obtain ⟨c0, c1, c2, c3, c4, c5, c6⟩ := LoAt.cells HL8.out)
        | (refine wp_store_blk rfl (.tmp 15) (.tmp 138) rfl (W6.heap.size + 1) 4 ((k : Int) - l.low) _ _ rfl rfl HQ8.out ?_; intro w9 hp9 hf9 hb9; have HQ9 := Lib.hid hp9; have HL9 := Lib.hid (hf9 _ _ _ (by omega) HL8.out); have HM9 := Lib.hid (hf9 _ _ _ (by omega) HM8.out); have HP9 := Lib.hid (hf9 _ _ _ (by omega) HP8.out); have HB9 := Lib.hid (hb9 _ _ (by omega) HB8.out); clear hp9 hf9 hb9 c0 c1 c2 c3 c4 c5 c6; obtain ⟨c0, c1, c2, c3, c4, c5, c6⟩ := LoAt.cells HL9.out; have p0 := HP9.out.cell (j := 0) rfl; have p1 := HP9.out.cell (j := 1) rfl))
      refine (C.addr l 2 ((k : Int) - l.low) A 0 _ (lright_bd HR.out) (by omega) (by omega) (by omega) (by omega) HA1.out).mono ?_
      rintro e w10 ⟨rfl, hb10⟩
      obtain ⟨d0, d1, d2, d3, d4, d5, d6⟩ := (LoAt.below HM9.out hb10).cells
      have q0 := (Blk.below HQ9.out hb10).cell (j := 0) rfl
      have q1 := (Blk.below HQ9.out hb10).cell (j := 1) rfl
      have HB10 := Lib.hid (bt HB6.out (bt HB9.out hb10))
      dsimp only at d0 d1 d2 d3 d4 d5 d6
      clear hb10 c0 c1 c2 c3 c4 c5 c6 p0 p1
      go_wp2_with fail
      refine (C.addr ⟨l.base, l.cap, 1 - l.to, 0, 0, l.low, l.high⟩ 4 ((k : Int) - l.low) A 0 _ (lright_bd HRM.out) (by omega) (by omega) (by omega) (by omega) HA2.out).mono ?_
      rintro e w11 ⟨rfl, hb11⟩
      have HB11 := Lib.hid (bt HB10.out hb11)
      clear hb11
      go_wp2_with fail
      go_ret
      exact ⟨rfl, HB11.out⟩
    · have dl : decide (l.low ≤ (k : Int)) = false := by simp; omega
      obtain ⟨A, hA1, hA2⟩ := flip_low HR.out (k := (k : Int)) (by omega) (by omega)
      have HA1 := Lib.hid hA1
      have HA2 := Lib.hid hA2
      clear hA1 hA2 hk
      go_wp2_with fail
      refine (C.addr l 1 k A 0 _ (lright_bd HR.out) (by omega) (by omega) (by omega) (by omega) HA1.out).mono ?_
      rintro e w8 ⟨rfl, hb8⟩
      obtain ⟨d0, d1, d2, d3, d4, d5, d6⟩ := (HMW.out.below hb8).cells
      have q0 := (HQW.out.below hb8).cell (j := 0) rfl
      have q1 := (HQW.out.below hb8).cell (j := 1) rfl
      have HB8 := Lib.hid (bt HB6.out (bt HBW.out hb8))
      dsimp only at d0 d1 d2 d3 d4 d5 d6
      clear hb8 c0 c1 c2 c3 c4 c5 c6
      go_wp2_with fail
      refine (C.addr ⟨l.base, l.cap, 1 - l.to, 0, 0, l.low, l.high⟩ 3 k A 0 _ (lright_bd HRM.out) (by omega) (by omega) (by omega) (by omega) HA2.out).mono ?_
      rintro e w9 ⟨rfl, hb9⟩
      have HB9 := Lib.hid (bt HB8.out hb9)
      clear hb9
      go_wp2_with fail
      go_ret
      exact ⟨rfl, HB9.out⟩
end Go.Proofs.Ytifmlmbbmlnpmaa.V
