/-
  The program's function Find of package places, walked; what is asked of the program's functions stands.
-/
import Derived.Test.YtifmlmbbmlnpmaaPlProg4
set_option linter.unusedVariables false
namespace Go.Proofs.Ytifmlmbbmlnpmaa.V
open Go.RowKit

/-- What spans answers, at a part's number. -/
theorem spans_at (l : Lo) (F1 F2 F3 F4 : Int) (h1 : lpart l 1 = (F1, l.low)) (h2 : lpart l 2 = (F2, l.high)) (h3 : lpart l 3 = (F3, l.old)) (h4 : lpart l 4 = (F4, l.far)) (k : Nat) (hk : k ≤ 4) (F n : Int) (hp : lpart l k = (F, n)) (w : World) :
    (Instr.index 52 (.agg #[.int .u64 0, .int .i64 0, .int .u64 F1, .int .i64 l.low, .int .u64 F2, .int .i64 l.high, .int .u64 F3, .int .i64 l.old, .int .u64 F4, .int .i64 l.far]) (.int .i64 (k : Int))).run Try.prog w = .ok (.agg #[.int .u64 F, .int .i64 n]) w := by
  rw [run_index_sp w _ k (by omega)]
  rcases (by omega : k = 0 ∨ k = 1 ∨ k = 2 ∨ k = 3 ∨ k = 4) with rfl | rfl | rfl | rfl | rfl
  · have : lpart l ((0 : Nat) : Int) = (0, 0) := by unfold lpart; rw [if_neg (by omega), if_neg (by omega), if_neg (by omega), if_neg (by omega)]
    rw [this] at hp
    simp only [Prod.mk.injEq] at hp
    obtain ⟨rfl, rfl⟩ := hp
    rfl
  · have h9 : lpart l ((1 : Nat) : Int) = (F1, l.low) := h1
    rw [h9] at hp; simp only [Prod.mk.injEq] at hp; obtain ⟨rfl, rfl⟩ := hp; rfl
  · have h9 : lpart l ((2 : Nat) : Int) = (F2, l.high) := h2
    rw [h9] at hp; simp only [Prod.mk.injEq] at hp; obtain ⟨rfl, rfl⟩ := hp; rfl
  · have h9 : lpart l ((3 : Nat) : Int) = (F3, l.old) := h3
    rw [h9] at hp; simp only [Prod.mk.injEq] at hp; obtain ⟨rfl, rfl⟩ := hp; rfl
  · have h9 : lpart l ((4 : Nat) : Int) = (F4, l.far) := h4
    rw [h9] at hp; simp only [Prod.mk.injEq] at hp; obtain ⟨rfl, rfl⟩ := hp; rfl

set_option maxRecDepth 100000 in
set_option maxHeartbeats 1000000 in
theorem plFind (l : Lo) (Y : Nat) (P I E : Int) (w : World) (bd : l.bd) (hY : Y < 2 ^ 64) (hF : lfind l Y = ((P, I), E)) : Calls Try.prog 20 #[.agg #[.int .u64 (l.base : Int), .int .i64 l.cap, .int .i64 l.to, .int .i64 l.low, .int .i64 l.high, .int .i64 l.old, .int .i64 l.far], .int .u64 (Y : Int)] w fun e w' => e = .returned (.tuple #[.agg #[.int .i64 P, .int .i64 I], .int .i64 E]) ∧ Below w.heap.size w w' := by
  have hz : Blk ((w.alloc (.cells #[.int .u64 (l.base : Int), .int .i64 l.cap, .int .i64 l.to, .int .i64 l.low, .int .i64 l.high, .int .i64 l.old, .int .i64 l.far] 24)).alloc (.cells #[.int .i64 0, .int .i64 0] 27)) (w.heap.size + 1) [.int .i64 0, .int .i64 0] 27 := by
    have := Blk.new (w.alloc (.cells #[.int .u64 (l.base : Int), .int .i64 l.cap, .int .i64 l.to, .int .i64 l.low, .int .i64 l.high, .int .i64 l.old, .int .i64 l.far] 24)) [.int .i64 0, .int .i64 0] 27
    rwa [World.size_alloc] at this
  have HZ := Lib.hid hz
  clear hz
  by_cases h : lright l
  · have HR := Lib.hid (show decide (lright l) = true from decide_eq_true h)
    have HH := Lib.hid h
    have HF := Lib.hid hF
    clear h hF
    obtain ⟨F1, hF1⟩ : ∃ F1, lpart l 1 = (F1, l.low) := ⟨_, rfl⟩
    obtain ⟨F2, hF2⟩ : ∃ F2, lpart l 2 = (F2, l.high) := ⟨_, rfl⟩
    obtain ⟨F3, hF3⟩ : ∃ F3, lpart l 3 = (F3, l.old) := ⟨_, rfl⟩
    obtain ⟨F4, hF4⟩ : ∃ F4, lpart l 4 = (F4, l.far) := ⟨_, rfl⟩
    have HIX := Lib.hid (fun k hk F n hp w => spans_at l F1 F2 F3 F4 hF1 hF2 hF3 hF4 k hk F n hp w)
    have HSP := Lib.hid (fun w => plSpans l F1 F2 F3 F4 w HH.out hF1 hF2 hF3 hF4)
    clear hF1 hF2 hF3 hF4
    go_enter Try.func20, Try.ntmps20
    go_wp2_with fail
    refine (plRight l true _ bd HR.out).mono ?_
    rintro e w0 ⟨rfl, hb⟩
    have HL1 := Lib.hid (((LoAt.new w l).below (ba0 _ (.cells #[.int .i64 0, .int .i64 0] 27))).below hb)
    have HZ1 := Lib.hid (HZ.out.below hb)
    have HB := Lib.hid (bt (ba (ba0 w _) _) hb)
    obtain ⟨c0, c1, c2, c3, c4, c5, c6⟩ := HL1.out.cells
    clear hb HZ
    go_wp2_with fail
    refine (HSP.out _).mono ?_
    rintro e w1 ⟨rfl, hb⟩
    have HZ2 := Lib.hid (HZ1.out.below hb)
    have HB1 := Lib.hid (bt HB.out hb)
    clear hb HZ1 HB HL1 HSP c0 c1 c2 c3 c4 c5 c6
    go_wp2_with fail
    go_loopw [6, 7, 14] (fun pa pb pt wr => ∃ k : Nat, pt = .int .i64 k ∧ 0 ≤ k ∧ k ≤ 5 ∧ Hid (∀ q : Nat, q < k → ¬ lin l Y q) ∧ Hid (Below w1.heap.size w1 wr)) (fun _ _ pt _ => 5 - (intOf pt).toNat)
    case atStart => exact ⟨0, rfl, by omega, by omega, Lib.hid (fun q h1 => by omega), Lib.hid (Below.refl _ _)⟩
    case round =>
      obtain ⟨k, rfl, hk1, hk5, HN, HBR⟩ := hrel
      by_cases hk : k ≤ 4
      · obtain ⟨F, n, hp⟩ : ∃ F n, lpart l k = (F, n) := ⟨_, _, rfl⟩
        have hbd := lpart_bd HH.out k
        rw [hp] at hbd
        simp only at hbd
        obtain ⟨q1, q2, q3, q4, q5⟩ := hbd
        obtain ⟨F, rfl⟩ := Int.eq_ofNat_of_zero_le q1
        obtain ⟨n, rfl⟩ := Int.eq_ofNat_of_zero_le q2
        have HP := Lib.hid hp
        have hk4 : (k : Int) < 5 := by omega
        have hix := HIX.out k hk F n hp
        clear hp
        by_cases hf : F ≤ Y
        · have df : decide ((F : Int) ≤ (Y : Int)) = true := by simp; omega
          by_cases hn : Y < F + n
          · have dn : decide ((Y : Int) - (F : Int) < (n : Int)) = true := by simp; omega
            have hlin : lin l Y k := by unfold lin; rw [HP.out]; exact ⟨by dsimp only; omega, by dsimp only; omega⟩
            have HV := Lib.hid (show P = k ∧ I = (Y : Int) - F ∧ E = 0 by
              have h9 := HF.out
              rw [lfind_in HH.out hlin, HP.out] at h9
              simp only [Prod.mk.injEq] at h9
              exact ⟨h9.1.1.symm, h9.1.2.symm, h9.2.symm⟩)
            have HN2 := Lib.hid (pl_new HZ2.out (ba HBR.out (.cells #[.int .u64 (F : Int), .int .i64 (n : Int)] 51)))
            have HB2 := Lib.hid (bt HB1.out (ba HBR.out (.cells #[.int .u64 (F : Int), .int .i64 (n : Int)] 51)))
            clear hlin
            go_wp2_with (refine wp_store_pl rfl (.tmp 4) (.tmp 38) rfl (w.heap.size + 1) (k : Int) ((Y : Int) - F) rfl rfl HN2.out.1 HN2.out.2 ?_; intro w5 r1 r2 _ r3; have hb5 := Lib.hid (r3 _ _ (by omega) HB2.out); clear r3; have HQ1 := Lib.hid r1; have HQ2 := Lib.hid r2; clear r1 r2)
            refine bodyPost_ret (res_cell2 rfl _ _ _ (w.heap.size + 1) _ rfl (loadVar_pl HQ1.out HQ2.out)) rfl ?_
            exact ⟨by rw [HV.out.1, HV.out.2.1, HV.out.2.2]; rfl, hb5.out⟩
          · have dn : decide ((Y : Int) - (F : Int) < (n : Int)) = false := by simp; omega
            have hlin : ¬ lin l Y k := by unfold lin; rw [HP.out]; rintro ⟨_, h2⟩; dsimp only at h2; omega
            have HN3 : Hid (∀ q : Nat, q < k + 1 → ¬ lin l Y q) := Lib.hid (fun q b => by
              rcases Nat.lt_or_ge q k with h | h
              · exact HN.out q h
              · obtain rfl : q = k := by omega
                exact hlin)
            have HB2 := Lib.hid (ba HBR.out (.cells #[.int .u64 (F : Int), .int .i64 (n : Int)] 51))
            clear hlin
            go_wp2_with fail
            go_roundw
            case rel => exact ⟨k + 1, by go_num, by omega, by omega, HN3, HB2⟩
            case measure => simp [intOf]; omega
        · have df : decide ((F : Int) ≤ (Y : Int)) = false := by simp; omega
          have hlin : ¬ lin l Y k := by unfold lin; rw [HP.out]; rintro ⟨h2, _⟩; dsimp only at h2; omega
          have HN3 : Hid (∀ q : Nat, q < k + 1 → ¬ lin l Y q) := Lib.hid (fun q b => by
            rcases Nat.lt_or_ge q k with h | h
            · exact HN.out q h
            · obtain rfl : q = k := by omega
              exact hlin)
          have HB2 := Lib.hid (ba HBR.out (.cells #[.int .u64 (F : Int), .int .i64 (n : Int)] 51))
          clear hlin
          go_wp2_with fail
          go_roundw
          case rel => exact ⟨k + 1, by go_num, by omega, by omega, HN3, HB2⟩
          case measure => simp [intOf]; omega
      · obtain rfl : k = 5 := by omega
        have HV := Lib.hid (show P = 0 ∧ I = 0 ∧ E = 6 by
          have h9 := HF.out
          rw [lfind_out HH.out (fun p hp => by
            rcases lin_le hp with rfl | rfl | rfl | rfl
            · exact HN.out 1 (by omega) hp
            · exact HN.out 2 (by omega) hp
            · exact HN.out 3 (by omega) hp
            · exact HN.out 4 (by omega) hp)] at h9
          simp only [Prod.mk.injEq] at h9
          exact ⟨h9.1.1.symm, h9.1.2.symm, h9.2.symm⟩)
        have HN2 := Lib.hid (pl_new HZ2.out HBR.out)
        have HB2 := Lib.hid (bt HB1.out HBR.out)
        go_wp2_with (refine wp_store_pl rfl (.tmp 4) (.tmp 40) rfl (w.heap.size + 1) 0 0 rfl rfl HN2.out.1 HN2.out.2 ?_; intro w5 r1 r2 _ r3; have hb5 := Lib.hid (r3 _ _ (by omega) HB2.out); clear r3; have HQ1 := Lib.hid r1; have HQ2 := Lib.hid r2; clear r1 r2)
        refine bodyPost_ret (res_cell2 rfl _ _ _ (w.heap.size + 1) _ rfl (loadVar_pl HQ1.out HQ2.out)) rfl ?_
        exact ⟨by rw [HV.out.1, HV.out.2.1, HV.out.2.2]; rfl, hb5.out⟩
  · have HR := Lib.hid (show decide (lright l) = false from decide_eq_false h)
    have HV := Lib.hid (show P = 0 ∧ I = 0 ∧ E = 1 by
      unfold lfind at hF
      rw [if_neg h] at hF
      simp only [Prod.mk.injEq] at hF
      exact ⟨hF.1.1.symm, hF.1.2.symm, hF.2.symm⟩)
    clear h hF
    go_enter Try.func20, Try.ntmps20
    go_wp2_with fail
    refine (plRight l false _ bd HR.out).mono ?_
    rintro e w1 ⟨rfl, hb⟩
    have hn2 := pl_new HZ.out hb
    have HN2 := Lib.hid hn2
    have HB := Lib.hid (bt (ba (ba0 w _) _) hb)
    clear hb HZ hn2
    go_wp2_with (refine wp_store_pl rfl (.tmp 4) (.tmp 11) rfl (w.heap.size + 1) 0 0 rfl rfl HN2.out.1 HN2.out.2 ?_; intro w5 r1 r2 _ r3; have hb5 := Lib.hid (r3 _ _ (by omega) HB.out); clear r3; have HQ1 := Lib.hid r1; have HQ2 := Lib.hid r2; clear r1 r2)
    refine bodyPost_ret (res_cell2 rfl _ _ _ (w.heap.size + 1) _ rfl (loadVar_pl HQ1.out HQ2.out)) rfl ?_
    exact ⟨by rw [HV.out.1, HV.out.2.1, HV.out.2.2]; rfl, hb5.out⟩

/-- The program's functions are what is asked. -/
theorem plC : PlC where
  right := fun l R w bd h => plRight l R w bd h
  room := fun l R w bd h => plRoom l R w bd h
  flip := fun l m E w bd h => plFlip l m E w bd h
  addr := fun l p i A E w bd h1 h2 h3 h4 h => plAddr l p i A E w bd h h1 h2 h3 h4
  find := fun l Y P I E w bd h1 h2 h => by
    obtain ⟨y, rfl⟩ := Int.eq_ofNat_of_zero_le h1
    exact plFind l y P I E w bd (by omega) h
end Go.Proofs.Ytifmlmbbmlnpmaa.V
