/-
  The program's function Address of package places, walked.
-/
import Derived.Test.YtifmlmbbmlnpmaaPlProg3
import Derived.Deep.RegionHeld3
import Derived.Deep.CutBlock
import Derived.Deep.CutRange
set_option linter.unusedVariables false
namespace Go.Proofs.Ytifmlmbbmlnpmaa.V
open Go.RowKit

/-- An array of structs, as a value, indexed. -/
theorem run_index_sp (w : World) (cs : Array Value) (p : Nat) (hp : p < 5) : (Instr.index 52 (.agg cs) (.int .i64 (p : Int))).run Try.prog w = .ok (.agg (cs.extract (p * 2) (p * 2 + 2))) w := by
  have u1 := Try.underlying52
  have a1 := Try.isAgg51
  have z1 := Try.sizeOf51
  simp [Instr.index, asIntOf, run_underlying u1, part, a1, z1, Sem.run_bind]
  intro h; omega
/-- A span's block, made ahead of a call. -/
theorem sp_blk {w w9 : World} (hb : Below (w.alloc (.cells #[.int .u64 0, .int .i64 0] 51)).drew.heap.size (w.alloc (.cells #[.int .u64 0, .int .i64 0] 51)).drew w9) : Blk w9 w.heap.size [.int .u64 0, .int .i64 0] 51 :=
  Blk.below (w := (w.alloc (.cells #[.int .u64 0, .int .i64 0] 51)).drew) (show Blk (w.alloc (.cells #[.int .u64 0, .int .i64 0] 51)) w.heap.size [.int .u64 0, .int .i64 0] 51 from Blk.new w _ _) hb
theorem sp_old {w w9 : World} (hb : Below (w.alloc (.cells #[.int .u64 0, .int .i64 0] 51)).drew.heap.size (w.alloc (.cells #[.int .u64 0, .int .i64 0] 51)).drew w9) : w9.cell? ⟨w.heap.size, 0, none⟩ = some (.int .u64 0) ∧ w9.cell? ⟨w.heap.size, 1, none⟩ = some (.int .i64 0) ∧ w9.frozen? ⟨w.heap.size, 0, none⟩ = false ∧ w9.frozen? ⟨w.heap.size, 1, none⟩ = false := by
  have h := sp_blk hb
  exact ⟨h.cell rfl, h.cell rfl, h.frozen 0, h.frozen 1⟩
set_option maxRecDepth 100000 in
set_option maxHeartbeats 1000000 in
theorem plAddr_1 (l : Lo) (i A E : Int) (w : World) (bd : l.bd) (h : lright l) (hA : laddr l 1 i = (A, E)) (i0 : -9223372036854775808 ≤ i) (i9 : i ≤ 9223372036854775807) : Calls Try.prog 18 #[.agg #[.int .u64 (l.base : Int), .int .i64 l.cap, .int .i64 l.to, .int .i64 l.low, .int .i64 l.high, .int .i64 l.old, .int .i64 l.far], .agg #[.int .i64 1, .int .i64 i]] w fun e w' => e = .returned (.tuple #[.int .u64 A, .int .i64 E]) ∧ Below w.heap.size w w' := by
  have HR := Lib.hid (show decide (lright l) = true from decide_eq_true h)
  have HH := Lib.hid h
  have HA := Lib.hid hA
  clear hA h
  obtain ⟨F1, hF1⟩ : ∃ F1, lpart l 1 = (F1, l.low) := ⟨_, rfl⟩
  obtain ⟨F2, hF2⟩ : ∃ F2, lpart l 2 = (F2, l.high) := ⟨_, rfl⟩
  obtain ⟨F3, hF3⟩ : ∃ F3, lpart l 3 = (F3, l.old) := ⟨_, rfl⟩
  obtain ⟨F4, hF4⟩ : ∃ F4, lpart l 4 = (F4, l.far) := ⟨_, rfl⟩
  have hbd := lpart_bd HH.out 1
  rw [hF1] at hbd
  simp only at hbd
  obtain ⟨q1, q2, q3, q4, q5⟩ := hbd
  obtain ⟨F, rfl⟩ := Int.eq_ofNat_of_zero_le q1
  have HSP := Lib.hid (fun w => plSpans l (F : Int) F2 F3 F4 w HH.out hF1 hF2 hF3 hF4)
  have HP := Lib.hid hF1
  clear hF1 hF2 hF3 hF4
  go_enter Try.func18, Try.ntmps18
  go_wp2_with fail
  refine (plRight l true _ bd HR.out).mono ?_
  rintro e w1 ⟨rfl, hb⟩
  have HL := Lib.hid (((LoAt.new w l).below (ba0 _ (.cells #[.int .i64 1, .int .i64 i] 27))).below hb)
  have HPB : Hid (Blk w1 (w.heap.size + 1) [.int .i64 1, .int .i64 i] 27) := Lib.hid (by have := (Blk.new (w.alloc (.cells #[.int .u64 (l.base : Int), .int .i64 l.cap, .int .i64 l.to, .int .i64 l.low, .int .i64 l.high, .int .i64 l.old, .int .i64 l.far] 24)) [.int .i64 1, .int .i64 i] 27).below hb; rwa [World.size_alloc] at this)
  have e0 : w1.cell? ⟨w.heap.size + 1, 0, none⟩ = some (.int .i64 1) := HPB.out.cell rfl
  have HB := Lib.hid (bt (ba (ba0 w _) _) hb)
  clear hb
  go_upto_region 5 with fail
  have hix : ∀ w9 : World, (Instr.index 52 (.agg #[.int .u64 0, .int .i64 0, .int .u64 (F : Int), .int .i64 l.low, .int .u64 F2, .int .i64 l.high, .int .u64 F3, .int .i64 l.old, .int .u64 F4, .int .i64 l.far]) (.int .i64 1)).run Try.prog w9 = .ok (.agg #[.int .u64 (F : Int), .int .i64 l.low]) w9 := fun w9 => run_index_sp w9 _ 1 (by omega)
  have hkeep : Hid (∀ w' : World, Below w1.heap.size w1 w' → (w'.cell? ⟨w.heap.size, 0, none⟩ = some (.int .u64 (l.base : Int)) ∧ w'.cell? ⟨w.heap.size, 1, none⟩ = some (.int .i64 l.cap) ∧ w'.cell? ⟨w.heap.size, 2, none⟩ = some (.int .i64 l.to) ∧ w'.cell? ⟨w.heap.size, 3, none⟩ = some (.int .i64 l.low) ∧ w'.cell? ⟨w.heap.size, 4, none⟩ = some (.int .i64 l.high) ∧ w'.cell? ⟨w.heap.size, 5, none⟩ = some (.int .i64 l.old) ∧ w'.cell? ⟨w.heap.size, 6, none⟩ = some (.int .i64 l.far)) ∧ w'.cell? ⟨w.heap.size + 1, 0, none⟩ = some (.int .i64 1)) := Lib.hid fun w' hb => ⟨(HL.out.below hb).cells, (HPB.out.below hb).cell rfl⟩
  go_cut [6] from 18 (fun v wx => ∃ G : Nat, v = .pointer (some ⟨G, 0, none⟩) ∧ Hid (Blk wx G [.int .u64 (F : Int), .int .i64 l.low] 51) ∧ Hid (Blk wx (w.heap.size + 1) [.int .i64 1, .int .i64 i] 27) ∧ Hid (Below w.heap.size w wx))
  case first =>
    go_region_held3 (fun w' => (w'.cell? ⟨w.heap.size, 0, none⟩ = some (.int .u64 (l.base : Int)) ∧ w'.cell? ⟨w.heap.size, 1, none⟩ = some (.int .i64 l.cap) ∧ w'.cell? ⟨w.heap.size, 2, none⟩ = some (.int .i64 l.to) ∧ w'.cell? ⟨w.heap.size, 3, none⟩ = some (.int .i64 l.low) ∧ w'.cell? ⟨w.heap.size, 4, none⟩ = some (.int .i64 l.high) ∧ w'.cell? ⟨w.heap.size, 5, none⟩ = some (.int .i64 l.old) ∧ w'.cell? ⟨w.heap.size, 6, none⟩ = some (.int .i64 l.far)) ∧ w'.cell? ⟨w.heap.size + 1, 0, none⟩ = some (.int .i64 1)) (exact hkeep.out _ (by first | exact (Below.refl _ w1).drew | exact Below.refl _ w1 | exact ba (Below.refl _ w1).drew _ | exact ba0 w1 _ | exact bt (Below.refl _ w1).drew hb9 | exact bt (ba0 w1 _).drew hb9 | exact ba (bt (Below.refl _ w1).drew hb9) _ | exact ((bt (ba0 w1 _).drew hb9).setCell (Nat.le_refl _) _).setCell (Nat.le_refl _) _)) ((first
      | (go_at_call 23; (with_reducible (refine (HSP.out (World.drew (World.alloc w1 _))).mono ?_)); rintro e w9 ⟨rfl, hb9⟩; obtain ⟨q0, q1, f0, f1⟩ := sp_old hb9)
      | (go_at_call 23; refine (HSP.out _).mono ?_; rintro e w9 ⟨rfl, hb9⟩)))
    all_goals (
      go_wp2_with fail
      go_meet
      first
        | exact ⟨_, rfl, Lib.hid (Blk.new w9 [.int .u64 (F : Int), .int .i64 l.low] _), Lib.hid (HPB.out.below (ba (bt (Below.refl _ w1).drew hb9) _)), Lib.hid (bt HB.out (ba (bt (Below.refl _ w1).drew hb9) _))⟩
        | exact ⟨_, rfl, Lib.hid (blk_set (blk_set (sp_blk hb9) 0 _) 1 _), Lib.hid (HPB.out.below (((bt (ba0 w1 _).drew hb9).setCell (Nat.le_refl _) _).setCell (Nat.le_refl _) _)), Lib.hid (bt HB.out (((bt (ba0 w1 _).drew hb9).setCell (Nat.le_refl _) _).setCell (Nat.le_refl _) _))⟩)
  case rest =>
    obtain ⟨G, rfl, HG, HP9, HBX⟩ := hcut
    have e1 : wc.cell? ⟨w.heap.size + 1, 1, none⟩ = some (.int .i64 i) := HP9.out.cell rfl
    have g0 : wc.cell? ⟨G, 0, none⟩ = some (.int .u64 (F : Int)) := by exact HG.out.cell (j := 0) rfl
    have g1 : wc.cell? ⟨G, 1, none⟩ = some (.int .i64 l.low) := HG.out.cell rfl
    clear e0 hix hkeep HG HP9 HSP HL HPB HB
    by_cases hi : 0 ≤ i
    · obtain ⟨I, rfl⟩ := Int.eq_ofNat_of_zero_le hi
      by_cases hn : (I : Int) < l.low
      · have HV := Lib.hid (show A = F + I ∧ E = 0 by
          have h9 := HA.out
          rw [laddr_in HH.out (by rw [HP.out]; exact ⟨hi, hn⟩), HP.out] at h9
          simp only [Prod.mk.injEq] at h9
          exact ⟨h9.1.symm, h9.2.symm⟩)
        have dn : decide (l.low ≤ (I : Int)) = false := by simp; omega
        go_wp2_with fail
        go_ret2
        exact ⟨by rw [HV.out.1, HV.out.2]; rfl, HBX.out⟩
      · have HV := Lib.hid (show A = 0 ∧ E = 6 by
          have h9 := HA.out
          rw [laddr_out HH.out (by rw [HP.out]; exact fun h => hn h.2)] at h9
          simp only [Prod.mk.injEq] at h9
          exact ⟨h9.1.symm, h9.2.symm⟩)
        have dn : decide (l.low ≤ (I : Int)) = true := by simp; omega
        go_wp2_with fail
        go_ret2
        exact ⟨by rw [HV.out.1, HV.out.2]; rfl, HBX.out⟩
    · have HV := Lib.hid (show A = 0 ∧ E = 6 by
        have h9 := HA.out
        rw [laddr_out HH.out (fun h => hi h.1)] at h9
        simp only [Prod.mk.injEq] at h9
        exact ⟨h9.1.symm, h9.2.symm⟩)
      have dn : decide (i < 0) = true := by simp; omega
      go_wp2_with fail
      go_ret2
      exact ⟨by rw [HV.out.1, HV.out.2]; rfl, HBX.out⟩
set_option maxRecDepth 100000 in
set_option maxHeartbeats 1000000 in
theorem plAddr_2 (l : Lo) (i A E : Int) (w : World) (bd : l.bd) (h : lright l) (hA : laddr l 2 i = (A, E)) (i0 : -9223372036854775808 ≤ i) (i9 : i ≤ 9223372036854775807) : Calls Try.prog 18 #[.agg #[.int .u64 (l.base : Int), .int .i64 l.cap, .int .i64 l.to, .int .i64 l.low, .int .i64 l.high, .int .i64 l.old, .int .i64 l.far], .agg #[.int .i64 2, .int .i64 i]] w fun e w' => e = .returned (.tuple #[.int .u64 A, .int .i64 E]) ∧ Below w.heap.size w w' := by
  have HR := Lib.hid (show decide (lright l) = true from decide_eq_true h)
  have HH := Lib.hid h
  have HA := Lib.hid hA
  clear hA h
  obtain ⟨F1, hF1⟩ : ∃ F1, lpart l 1 = (F1, l.low) := ⟨_, rfl⟩
  obtain ⟨F2, hF2⟩ : ∃ F2, lpart l 2 = (F2, l.high) := ⟨_, rfl⟩
  obtain ⟨F3, hF3⟩ : ∃ F3, lpart l 3 = (F3, l.old) := ⟨_, rfl⟩
  obtain ⟨F4, hF4⟩ : ∃ F4, lpart l 4 = (F4, l.far) := ⟨_, rfl⟩
  have hbd := lpart_bd HH.out 2
  rw [hF2] at hbd
  simp only at hbd
  obtain ⟨q1, q2, q3, q4, q5⟩ := hbd
  obtain ⟨F, rfl⟩ := Int.eq_ofNat_of_zero_le q1
  have HSP := Lib.hid (fun w => plSpans l F1 (F : Int) F3 F4 w HH.out hF1 hF2 hF3 hF4)
  have HP := Lib.hid hF2
  clear hF1 hF2 hF3 hF4
  go_enter Try.func18, Try.ntmps18
  go_wp2_with fail
  refine (plRight l true _ bd HR.out).mono ?_
  rintro e w1 ⟨rfl, hb⟩
  have HL := Lib.hid (((LoAt.new w l).below (ba0 _ (.cells #[.int .i64 2, .int .i64 i] 27))).below hb)
  have HPB : Hid (Blk w1 (w.heap.size + 1) [.int .i64 2, .int .i64 i] 27) := Lib.hid (by have := (Blk.new (w.alloc (.cells #[.int .u64 (l.base : Int), .int .i64 l.cap, .int .i64 l.to, .int .i64 l.low, .int .i64 l.high, .int .i64 l.old, .int .i64 l.far] 24)) [.int .i64 2, .int .i64 i] 27).below hb; rwa [World.size_alloc] at this)
  have e0 : w1.cell? ⟨w.heap.size + 1, 0, none⟩ = some (.int .i64 2) := HPB.out.cell rfl
  have HB := Lib.hid (bt (ba (ba0 w _) _) hb)
  clear hb
  go_upto_region 5 with fail
  have hix : ∀ w9 : World, (Instr.index 52 (.agg #[.int .u64 0, .int .i64 0, .int .u64 F1, .int .i64 l.low, .int .u64 (F : Int), .int .i64 l.high, .int .u64 F3, .int .i64 l.old, .int .u64 F4, .int .i64 l.far]) (.int .i64 2)).run Try.prog w9 = .ok (.agg #[.int .u64 (F : Int), .int .i64 l.high]) w9 := fun w9 => run_index_sp w9 _ 2 (by omega)
  have hkeep : Hid (∀ w' : World, Below w1.heap.size w1 w' → (w'.cell? ⟨w.heap.size, 0, none⟩ = some (.int .u64 (l.base : Int)) ∧ w'.cell? ⟨w.heap.size, 1, none⟩ = some (.int .i64 l.cap) ∧ w'.cell? ⟨w.heap.size, 2, none⟩ = some (.int .i64 l.to) ∧ w'.cell? ⟨w.heap.size, 3, none⟩ = some (.int .i64 l.low) ∧ w'.cell? ⟨w.heap.size, 4, none⟩ = some (.int .i64 l.high) ∧ w'.cell? ⟨w.heap.size, 5, none⟩ = some (.int .i64 l.old) ∧ w'.cell? ⟨w.heap.size, 6, none⟩ = some (.int .i64 l.far)) ∧ w'.cell? ⟨w.heap.size + 1, 0, none⟩ = some (.int .i64 2)) := Lib.hid fun w' hb => ⟨(HL.out.below hb).cells, (HPB.out.below hb).cell rfl⟩
  go_cut [6] from 18 (fun v wx => ∃ G : Nat, v = .pointer (some ⟨G, 0, none⟩) ∧ Hid (Blk wx G [.int .u64 (F : Int), .int .i64 l.high] 51) ∧ Hid (Blk wx (w.heap.size + 1) [.int .i64 2, .int .i64 i] 27) ∧ Hid (Below w.heap.size w wx))
  case first =>
    go_region_held3 (fun w' => (w'.cell? ⟨w.heap.size, 0, none⟩ = some (.int .u64 (l.base : Int)) ∧ w'.cell? ⟨w.heap.size, 1, none⟩ = some (.int .i64 l.cap) ∧ w'.cell? ⟨w.heap.size, 2, none⟩ = some (.int .i64 l.to) ∧ w'.cell? ⟨w.heap.size, 3, none⟩ = some (.int .i64 l.low) ∧ w'.cell? ⟨w.heap.size, 4, none⟩ = some (.int .i64 l.high) ∧ w'.cell? ⟨w.heap.size, 5, none⟩ = some (.int .i64 l.old) ∧ w'.cell? ⟨w.heap.size, 6, none⟩ = some (.int .i64 l.far)) ∧ w'.cell? ⟨w.heap.size + 1, 0, none⟩ = some (.int .i64 2)) (exact hkeep.out _ (by first | exact (Below.refl _ w1).drew | exact Below.refl _ w1 | exact ba (Below.refl _ w1).drew _ | exact ba0 w1 _ | exact bt (Below.refl _ w1).drew hb9 | exact bt (ba0 w1 _).drew hb9 | exact ba (bt (Below.refl _ w1).drew hb9) _ | exact ((bt (ba0 w1 _).drew hb9).setCell (Nat.le_refl _) _).setCell (Nat.le_refl _) _)) ((first
      | (go_at_call 23; (with_reducible (refine (HSP.out (World.drew (World.alloc w1 _))).mono ?_)); rintro e w9 ⟨rfl, hb9⟩; obtain ⟨q0, q1, f0, f1⟩ := sp_old hb9)
      | (go_at_call 23; refine (HSP.out _).mono ?_; rintro e w9 ⟨rfl, hb9⟩)))
    all_goals (
      go_wp2_with fail
      go_meet
      first
        | exact ⟨_, rfl, Lib.hid (Blk.new w9 [.int .u64 (F : Int), .int .i64 l.high] _), Lib.hid (HPB.out.below (ba (bt (Below.refl _ w1).drew hb9) _)), Lib.hid (bt HB.out (ba (bt (Below.refl _ w1).drew hb9) _))⟩
        | exact ⟨_, rfl, Lib.hid (blk_set (blk_set (sp_blk hb9) 0 _) 1 _), Lib.hid (HPB.out.below (((bt (ba0 w1 _).drew hb9).setCell (Nat.le_refl _) _).setCell (Nat.le_refl _) _)), Lib.hid (bt HB.out (((bt (ba0 w1 _).drew hb9).setCell (Nat.le_refl _) _).setCell (Nat.le_refl _) _))⟩)
  case rest =>
    obtain ⟨G, rfl, HG, HP9, HBX⟩ := hcut
    have e1 : wc.cell? ⟨w.heap.size + 1, 1, none⟩ = some (.int .i64 i) := HP9.out.cell rfl
    have g0 : wc.cell? ⟨G, 0, none⟩ = some (.int .u64 (F : Int)) := by exact HG.out.cell (j := 0) rfl
    have g1 : wc.cell? ⟨G, 1, none⟩ = some (.int .i64 l.high) := HG.out.cell rfl
    clear e0 hix hkeep HG HP9 HSP HL HPB HB
    by_cases hi : 0 ≤ i
    · obtain ⟨I, rfl⟩ := Int.eq_ofNat_of_zero_le hi
      by_cases hn : (I : Int) < l.high
      · have HV := Lib.hid (show A = F + I ∧ E = 0 by
          have h9 := HA.out
          rw [laddr_in HH.out (by rw [HP.out]; exact ⟨hi, hn⟩), HP.out] at h9
          simp only [Prod.mk.injEq] at h9
          exact ⟨h9.1.symm, h9.2.symm⟩)
        have dn : decide (l.high ≤ (I : Int)) = false := by simp; omega
        go_wp2_with fail
        go_ret2
        exact ⟨by rw [HV.out.1, HV.out.2]; rfl, HBX.out⟩
      · have HV := Lib.hid (show A = 0 ∧ E = 6 by
          have h9 := HA.out
          rw [laddr_out HH.out (by rw [HP.out]; exact fun h => hn h.2)] at h9
          simp only [Prod.mk.injEq] at h9
          exact ⟨h9.1.symm, h9.2.symm⟩)
        have dn : decide (l.high ≤ (I : Int)) = true := by simp; omega
        go_wp2_with fail
        go_ret2
        exact ⟨by rw [HV.out.1, HV.out.2]; rfl, HBX.out⟩
    · have HV := Lib.hid (show A = 0 ∧ E = 6 by
        have h9 := HA.out
        rw [laddr_out HH.out (fun h => hi h.1)] at h9
        simp only [Prod.mk.injEq] at h9
        exact ⟨h9.1.symm, h9.2.symm⟩)
      have dn : decide (i < 0) = true := by simp; omega
      go_wp2_with fail
      go_ret2
      exact ⟨by rw [HV.out.1, HV.out.2]; rfl, HBX.out⟩
set_option maxRecDepth 100000 in
set_option maxHeartbeats 1000000 in
theorem plAddr_3 (l : Lo) (i A E : Int) (w : World) (bd : l.bd) (h : lright l) (hA : laddr l 3 i = (A, E)) (i0 : -9223372036854775808 ≤ i) (i9 : i ≤ 9223372036854775807) : Calls Try.prog 18 #[.agg #[.int .u64 (l.base : Int), .int .i64 l.cap, .int .i64 l.to, .int .i64 l.low, .int .i64 l.high, .int .i64 l.old, .int .i64 l.far], .agg #[.int .i64 3, .int .i64 i]] w fun e w' => e = .returned (.tuple #[.int .u64 A, .int .i64 E]) ∧ Below w.heap.size w w' := by
  have HR := Lib.hid (show decide (lright l) = true from decide_eq_true h)
  have HH := Lib.hid h
  have HA := Lib.hid hA
  clear hA h
  obtain ⟨F1, hF1⟩ : ∃ F1, lpart l 1 = (F1, l.low) := ⟨_, rfl⟩
  obtain ⟨F2, hF2⟩ : ∃ F2, lpart l 2 = (F2, l.high) := ⟨_, rfl⟩
  obtain ⟨F3, hF3⟩ : ∃ F3, lpart l 3 = (F3, l.old) := ⟨_, rfl⟩
  obtain ⟨F4, hF4⟩ : ∃ F4, lpart l 4 = (F4, l.far) := ⟨_, rfl⟩
  have hbd := lpart_bd HH.out 3
  rw [hF3] at hbd
  simp only at hbd
  obtain ⟨q1, q2, q3, q4, q5⟩ := hbd
  obtain ⟨F, rfl⟩ := Int.eq_ofNat_of_zero_le q1
  have HSP := Lib.hid (fun w => plSpans l F1 F2 (F : Int) F4 w HH.out hF1 hF2 hF3 hF4)
  have HP := Lib.hid hF3
  clear hF1 hF2 hF3 hF4
  go_enter Try.func18, Try.ntmps18
  go_wp2_with fail
  refine (plRight l true _ bd HR.out).mono ?_
  rintro e w1 ⟨rfl, hb⟩
  have HL := Lib.hid (((LoAt.new w l).below (ba0 _ (.cells #[.int .i64 3, .int .i64 i] 27))).below hb)
  have HPB : Hid (Blk w1 (w.heap.size + 1) [.int .i64 3, .int .i64 i] 27) := Lib.hid (by have := (Blk.new (w.alloc (.cells #[.int .u64 (l.base : Int), .int .i64 l.cap, .int .i64 l.to, .int .i64 l.low, .int .i64 l.high, .int .i64 l.old, .int .i64 l.far] 24)) [.int .i64 3, .int .i64 i] 27).below hb; rwa [World.size_alloc] at this)
  have e0 : w1.cell? ⟨w.heap.size + 1, 0, none⟩ = some (.int .i64 3) := HPB.out.cell rfl
  have HB := Lib.hid (bt (ba (ba0 w _) _) hb)
  clear hb
  go_upto_region 5 with fail
  have hix : ∀ w9 : World, (Instr.index 52 (.agg #[.int .u64 0, .int .i64 0, .int .u64 F1, .int .i64 l.low, .int .u64 F2, .int .i64 l.high, .int .u64 (F : Int), .int .i64 l.old, .int .u64 F4, .int .i64 l.far]) (.int .i64 3)).run Try.prog w9 = .ok (.agg #[.int .u64 (F : Int), .int .i64 l.old]) w9 := fun w9 => run_index_sp w9 _ 3 (by omega)
  have hkeep : Hid (∀ w' : World, Below w1.heap.size w1 w' → (w'.cell? ⟨w.heap.size, 0, none⟩ = some (.int .u64 (l.base : Int)) ∧ w'.cell? ⟨w.heap.size, 1, none⟩ = some (.int .i64 l.cap) ∧ w'.cell? ⟨w.heap.size, 2, none⟩ = some (.int .i64 l.to) ∧ w'.cell? ⟨w.heap.size, 3, none⟩ = some (.int .i64 l.low) ∧ w'.cell? ⟨w.heap.size, 4, none⟩ = some (.int .i64 l.high) ∧ w'.cell? ⟨w.heap.size, 5, none⟩ = some (.int .i64 l.old) ∧ w'.cell? ⟨w.heap.size, 6, none⟩ = some (.int .i64 l.far)) ∧ w'.cell? ⟨w.heap.size + 1, 0, none⟩ = some (.int .i64 3)) := Lib.hid fun w' hb => ⟨(HL.out.below hb).cells, (HPB.out.below hb).cell rfl⟩
  go_cut [6] from 18 (fun v wx => ∃ G : Nat, v = .pointer (some ⟨G, 0, none⟩) ∧ Hid (Blk wx G [.int .u64 (F : Int), .int .i64 l.old] 51) ∧ Hid (Blk wx (w.heap.size + 1) [.int .i64 3, .int .i64 i] 27) ∧ Hid (Below w.heap.size w wx))
  case first =>
    go_region_held3 (fun w' => (w'.cell? ⟨w.heap.size, 0, none⟩ = some (.int .u64 (l.base : Int)) ∧ w'.cell? ⟨w.heap.size, 1, none⟩ = some (.int .i64 l.cap) ∧ w'.cell? ⟨w.heap.size, 2, none⟩ = some (.int .i64 l.to) ∧ w'.cell? ⟨w.heap.size, 3, none⟩ = some (.int .i64 l.low) ∧ w'.cell? ⟨w.heap.size, 4, none⟩ = some (.int .i64 l.high) ∧ w'.cell? ⟨w.heap.size, 5, none⟩ = some (.int .i64 l.old) ∧ w'.cell? ⟨w.heap.size, 6, none⟩ = some (.int .i64 l.far)) ∧ w'.cell? ⟨w.heap.size + 1, 0, none⟩ = some (.int .i64 3)) (exact hkeep.out _ (by first | exact (Below.refl _ w1).drew | exact Below.refl _ w1 | exact ba (Below.refl _ w1).drew _ | exact ba0 w1 _ | exact bt (Below.refl _ w1).drew hb9 | exact bt (ba0 w1 _).drew hb9 | exact ba (bt (Below.refl _ w1).drew hb9) _ | exact ((bt (ba0 w1 _).drew hb9).setCell (Nat.le_refl _) _).setCell (Nat.le_refl _) _)) ((first
      | (go_at_call 23; (with_reducible (refine (HSP.out (World.drew (World.alloc w1 _))).mono ?_)); rintro e w9 ⟨rfl, hb9⟩; obtain ⟨q0, q1, f0, f1⟩ := sp_old hb9)
      | (go_at_call 23; refine (HSP.out _).mono ?_; rintro e w9 ⟨rfl, hb9⟩)))
    all_goals (
      go_wp2_with fail
      go_meet
      first
        | exact ⟨_, rfl, Lib.hid (Blk.new w9 [.int .u64 (F : Int), .int .i64 l.old] _), Lib.hid (HPB.out.below (ba (bt (Below.refl _ w1).drew hb9) _)), Lib.hid (bt HB.out (ba (bt (Below.refl _ w1).drew hb9) _))⟩
        | exact ⟨_, rfl, Lib.hid (blk_set (blk_set (sp_blk hb9) 0 _) 1 _), Lib.hid (HPB.out.below (((bt (ba0 w1 _).drew hb9).setCell (Nat.le_refl _) _).setCell (Nat.le_refl _) _)), Lib.hid (bt HB.out (((bt (ba0 w1 _).drew hb9).setCell (Nat.le_refl _) _).setCell (Nat.le_refl _) _))⟩)
  case rest =>
    obtain ⟨G, rfl, HG, HP9, HBX⟩ := hcut
    have e1 : wc.cell? ⟨w.heap.size + 1, 1, none⟩ = some (.int .i64 i) := HP9.out.cell rfl
    have g0 : wc.cell? ⟨G, 0, none⟩ = some (.int .u64 (F : Int)) := by exact HG.out.cell (j := 0) rfl
    have g1 : wc.cell? ⟨G, 1, none⟩ = some (.int .i64 l.old) := HG.out.cell rfl
    clear e0 hix hkeep HG HP9 HSP HL HPB HB
    by_cases hi : 0 ≤ i
    · obtain ⟨I, rfl⟩ := Int.eq_ofNat_of_zero_le hi
      by_cases hn : (I : Int) < l.old
      · have HV := Lib.hid (show A = F + I ∧ E = 0 by
          have h9 := HA.out
          rw [laddr_in HH.out (by rw [HP.out]; exact ⟨hi, hn⟩), HP.out] at h9
          simp only [Prod.mk.injEq] at h9
          exact ⟨h9.1.symm, h9.2.symm⟩)
        have dn : decide (l.old ≤ (I : Int)) = false := by simp; omega
        go_wp2_with fail
        go_ret2
        exact ⟨by rw [HV.out.1, HV.out.2]; rfl, HBX.out⟩
      · have HV := Lib.hid (show A = 0 ∧ E = 6 by
          have h9 := HA.out
          rw [laddr_out HH.out (by rw [HP.out]; exact fun h => hn h.2)] at h9
          simp only [Prod.mk.injEq] at h9
          exact ⟨h9.1.symm, h9.2.symm⟩)
        have dn : decide (l.old ≤ (I : Int)) = true := by simp; omega
        go_wp2_with fail
        go_ret2
        exact ⟨by rw [HV.out.1, HV.out.2]; rfl, HBX.out⟩
    · have HV := Lib.hid (show A = 0 ∧ E = 6 by
        have h9 := HA.out
        rw [laddr_out HH.out (fun h => hi h.1)] at h9
        simp only [Prod.mk.injEq] at h9
        exact ⟨h9.1.symm, h9.2.symm⟩)
      have dn : decide (i < 0) = true := by simp; omega
      go_wp2_with fail
      go_ret2
      exact ⟨by rw [HV.out.1, HV.out.2]; rfl, HBX.out⟩
set_option maxRecDepth 100000 in
set_option maxHeartbeats 1000000 in
theorem plAddr_4 (l : Lo) (i A E : Int) (w : World) (bd : l.bd) (h : lright l) (hA : laddr l 4 i = (A, E)) (i0 : -9223372036854775808 ≤ i) (i9 : i ≤ 9223372036854775807) : Calls Try.prog 18 #[.agg #[.int .u64 (l.base : Int), .int .i64 l.cap, .int .i64 l.to, .int .i64 l.low, .int .i64 l.high, .int .i64 l.old, .int .i64 l.far], .agg #[.int .i64 4, .int .i64 i]] w fun e w' => e = .returned (.tuple #[.int .u64 A, .int .i64 E]) ∧ Below w.heap.size w w' := by
  have HR := Lib.hid (show decide (lright l) = true from decide_eq_true h)
  have HH := Lib.hid h
  have HA := Lib.hid hA
  clear hA h
  obtain ⟨F1, hF1⟩ : ∃ F1, lpart l 1 = (F1, l.low) := ⟨_, rfl⟩
  obtain ⟨F2, hF2⟩ : ∃ F2, lpart l 2 = (F2, l.high) := ⟨_, rfl⟩
  obtain ⟨F3, hF3⟩ : ∃ F3, lpart l 3 = (F3, l.old) := ⟨_, rfl⟩
  obtain ⟨F4, hF4⟩ : ∃ F4, lpart l 4 = (F4, l.far) := ⟨_, rfl⟩
  have hbd := lpart_bd HH.out 4
  rw [hF4] at hbd
  simp only at hbd
  obtain ⟨q1, q2, q3, q4, q5⟩ := hbd
  obtain ⟨F, rfl⟩ := Int.eq_ofNat_of_zero_le q1
  have HSP := Lib.hid (fun w => plSpans l F1 F2 F3 (F : Int) w HH.out hF1 hF2 hF3 hF4)
  have HP := Lib.hid hF4
  clear hF1 hF2 hF3 hF4
  go_enter Try.func18, Try.ntmps18
  go_wp2_with fail
  refine (plRight l true _ bd HR.out).mono ?_
  rintro e w1 ⟨rfl, hb⟩
  have HL := Lib.hid (((LoAt.new w l).below (ba0 _ (.cells #[.int .i64 4, .int .i64 i] 27))).below hb)
  have HPB : Hid (Blk w1 (w.heap.size + 1) [.int .i64 4, .int .i64 i] 27) := Lib.hid (by have := (Blk.new (w.alloc (.cells #[.int .u64 (l.base : Int), .int .i64 l.cap, .int .i64 l.to, .int .i64 l.low, .int .i64 l.high, .int .i64 l.old, .int .i64 l.far] 24)) [.int .i64 4, .int .i64 i] 27).below hb; rwa [World.size_alloc] at this)
  have e0 : w1.cell? ⟨w.heap.size + 1, 0, none⟩ = some (.int .i64 4) := HPB.out.cell rfl
  have HB := Lib.hid (bt (ba (ba0 w _) _) hb)
  clear hb
  go_upto_region 5 with fail
  have hix : ∀ w9 : World, (Instr.index 52 (.agg #[.int .u64 0, .int .i64 0, .int .u64 F1, .int .i64 l.low, .int .u64 F2, .int .i64 l.high, .int .u64 F3, .int .i64 l.old, .int .u64 (F : Int), .int .i64 l.far]) (.int .i64 4)).run Try.prog w9 = .ok (.agg #[.int .u64 (F : Int), .int .i64 l.far]) w9 := fun w9 => run_index_sp w9 _ 4 (by omega)
  have hkeep : Hid (∀ w' : World, Below w1.heap.size w1 w' → (w'.cell? ⟨w.heap.size, 0, none⟩ = some (.int .u64 (l.base : Int)) ∧ w'.cell? ⟨w.heap.size, 1, none⟩ = some (.int .i64 l.cap) ∧ w'.cell? ⟨w.heap.size, 2, none⟩ = some (.int .i64 l.to) ∧ w'.cell? ⟨w.heap.size, 3, none⟩ = some (.int .i64 l.low) ∧ w'.cell? ⟨w.heap.size, 4, none⟩ = some (.int .i64 l.high) ∧ w'.cell? ⟨w.heap.size, 5, none⟩ = some (.int .i64 l.old) ∧ w'.cell? ⟨w.heap.size, 6, none⟩ = some (.int .i64 l.far)) ∧ w'.cell? ⟨w.heap.size + 1, 0, none⟩ = some (.int .i64 4)) := Lib.hid fun w' hb => ⟨(HL.out.below hb).cells, (HPB.out.below hb).cell rfl⟩
  go_cut [6] from 18 (fun v wx => ∃ G : Nat, v = .pointer (some ⟨G, 0, none⟩) ∧ Hid (Blk wx G [.int .u64 (F : Int), .int .i64 l.far] 51) ∧ Hid (Blk wx (w.heap.size + 1) [.int .i64 4, .int .i64 i] 27) ∧ Hid (Below w.heap.size w wx))
  case first =>
    go_region_held3 (fun w' => (w'.cell? ⟨w.heap.size, 0, none⟩ = some (.int .u64 (l.base : Int)) ∧ w'.cell? ⟨w.heap.size, 1, none⟩ = some (.int .i64 l.cap) ∧ w'.cell? ⟨w.heap.size, 2, none⟩ = some (.int .i64 l.to) ∧ w'.cell? ⟨w.heap.size, 3, none⟩ = some (.int .i64 l.low) ∧ w'.cell? ⟨w.heap.size, 4, none⟩ = some (.int .i64 l.high) ∧ w'.cell? ⟨w.heap.size, 5, none⟩ = some (.int .i64 l.old) ∧ w'.cell? ⟨w.heap.size, 6, none⟩ = some (.int .i64 l.far)) ∧ w'.cell? ⟨w.heap.size + 1, 0, none⟩ = some (.int .i64 4)) (exact hkeep.out _ (by first | exact (Below.refl _ w1).drew | exact Below.refl _ w1 | exact ba (Below.refl _ w1).drew _ | exact ba0 w1 _ | exact bt (Below.refl _ w1).drew hb9 | exact bt (ba0 w1 _).drew hb9 | exact ba (bt (Below.refl _ w1).drew hb9) _ | exact ((bt (ba0 w1 _).drew hb9).setCell (Nat.le_refl _) _).setCell (Nat.le_refl _) _)) ((first
      | (go_at_call 23; (with_reducible (refine (HSP.out (World.drew (World.alloc w1 _))).mono ?_)); rintro e w9 ⟨rfl, hb9⟩; obtain ⟨q0, q1, f0, f1⟩ := sp_old hb9)
      | (go_at_call 23; refine (HSP.out _).mono ?_; rintro e w9 ⟨rfl, hb9⟩)))
    all_goals (
      go_wp2_with fail
      go_meet
      first
        | exact ⟨_, rfl, Lib.hid (Blk.new w9 [.int .u64 (F : Int), .int .i64 l.far] _), Lib.hid (HPB.out.below (ba (bt (Below.refl _ w1).drew hb9) _)), Lib.hid (bt HB.out (ba (bt (Below.refl _ w1).drew hb9) _))⟩
        | exact ⟨_, rfl, Lib.hid (blk_set (blk_set (sp_blk hb9) 0 _) 1 _), Lib.hid (HPB.out.below (((bt (ba0 w1 _).drew hb9).setCell (Nat.le_refl _) _).setCell (Nat.le_refl _) _)), Lib.hid (bt HB.out (((bt (ba0 w1 _).drew hb9).setCell (Nat.le_refl _) _).setCell (Nat.le_refl _) _))⟩)
  case rest =>
    obtain ⟨G, rfl, HG, HP9, HBX⟩ := hcut
    have e1 : wc.cell? ⟨w.heap.size + 1, 1, none⟩ = some (.int .i64 i) := HP9.out.cell rfl
    have g0 : wc.cell? ⟨G, 0, none⟩ = some (.int .u64 (F : Int)) := by exact HG.out.cell (j := 0) rfl
    have g1 : wc.cell? ⟨G, 1, none⟩ = some (.int .i64 l.far) := HG.out.cell rfl
    clear e0 hix hkeep HG HP9 HSP HL HPB HB
    by_cases hi : 0 ≤ i
    · obtain ⟨I, rfl⟩ := Int.eq_ofNat_of_zero_le hi
      by_cases hn : (I : Int) < l.far
      · have HV := Lib.hid (show A = F + I ∧ E = 0 by
          have h9 := HA.out
          rw [laddr_in HH.out (by rw [HP.out]; exact ⟨hi, hn⟩), HP.out] at h9
          simp only [Prod.mk.injEq] at h9
          exact ⟨h9.1.symm, h9.2.symm⟩)
        have dn : decide (l.far ≤ (I : Int)) = false := by simp; omega
        go_wp2_with fail
        go_ret2
        exact ⟨by rw [HV.out.1, HV.out.2]; rfl, HBX.out⟩
      · have HV := Lib.hid (show A = 0 ∧ E = 6 by
          have h9 := HA.out
          rw [laddr_out HH.out (by rw [HP.out]; exact fun h => hn h.2)] at h9
          simp only [Prod.mk.injEq] at h9
          exact ⟨h9.1.symm, h9.2.symm⟩)
        have dn : decide (l.far ≤ (I : Int)) = true := by simp; omega
        go_wp2_with fail
        go_ret2
        exact ⟨by rw [HV.out.1, HV.out.2]; rfl, HBX.out⟩
    · have HV := Lib.hid (show A = 0 ∧ E = 6 by
        have h9 := HA.out
        rw [laddr_out HH.out (fun h => hi h.1)] at h9
        simp only [Prod.mk.injEq] at h9
        exact ⟨h9.1.symm, h9.2.symm⟩)
      have dn : decide (i < 0) = true := by simp; omega
      go_wp2_with fail
      go_ret2
      exact ⟨by rw [HV.out.1, HV.out.2]; rfl, HBX.out⟩
set_option maxRecDepth 100000 in
set_option maxHeartbeats 1000000 in
theorem plAddr (l : Lo) (p i A E : Int) (w : World) (bd : l.bd) (hA : laddr l p i = (A, E)) (p0 : -9223372036854775808 ≤ p) (p9 : p ≤ 9223372036854775807) (i0 : -9223372036854775808 ≤ i) (i9 : i ≤ 9223372036854775807) : Calls Try.prog 18 #[.agg #[.int .u64 (l.base : Int), .int .i64 l.cap, .int .i64 l.to, .int .i64 l.low, .int .i64 l.high, .int .i64 l.old, .int .i64 l.far], .agg #[.int .i64 p, .int .i64 i]] w fun e w' => e = .returned (.tuple #[.int .u64 A, .int .i64 E]) ∧ Below w.heap.size w w' := by
  by_cases h : lright l
  · have HR := Lib.hid (show decide (lright l) = true from decide_eq_true h)
    have HH := Lib.hid h
    have HA := Lib.hid hA
    clear hA h
    have HV6 : Hid (¬ (1 ≤ p ∧ p ≤ 4) → A = 0 ∧ E = 6) := Lib.hid (fun hn => by
      have h9 := HA.out
      rw [laddr_out HH.out (by
        have : lpart l p = (0, 0) := by unfold lpart; rw [if_neg (by omega), if_neg (by omega), if_neg (by omega), if_neg (by omega)]
        rw [this]; dsimp only; omega)] at h9
      simp only [Prod.mk.injEq] at h9
      exact ⟨h9.1.symm, h9.2.symm⟩)
    by_cases h1 : p < 1
    · have d1 : decide (p < 1) = true := by simp; omega
      have HV := Lib.hid (HV6.out (by omega))
      clear HV6
      go_enter Try.func18, Try.ntmps18
      go_wp2_with fail
      refine (plRight l true _ bd HR.out).mono ?_
      rintro e w1 ⟨rfl, hb⟩
      have HPB := Lib.hid ((Blk.new (w.alloc (.cells #[.int .u64 (l.base : Int), .int .i64 l.cap, .int .i64 l.to, .int .i64 l.low, .int .i64 l.high, .int .i64 l.old, .int .i64 l.far] 24)) [.int .i64 p, .int .i64 i] 27).below hb)
      have e0 : w1.cell? ⟨w.heap.size + 1, 0, none⟩ = some (.int .i64 p) := by have := HPB.out.cell (j := 0) rfl; rwa [World.size_alloc] at this
      have HB := Lib.hid (bt (ba (ba0 w _) _) hb)
      clear hb HPB
      go_wp2_with fail
      go_ret2
      exact ⟨by rw [HV.out.1, HV.out.2]; rfl, HB.out⟩
    have d1 : decide (p < 1) = false := by simp; omega
    by_cases h4 : 4 < p
    · have d4 : decide (4 < p) = true := by simp; omega
      have HV := Lib.hid (HV6.out (by omega))
      clear HV6
      go_enter Try.func18, Try.ntmps18
      go_wp2_with fail
      refine (plRight l true _ bd HR.out).mono ?_
      rintro e w1 ⟨rfl, hb⟩
      have HPB := Lib.hid ((Blk.new (w.alloc (.cells #[.int .u64 (l.base : Int), .int .i64 l.cap, .int .i64 l.to, .int .i64 l.low, .int .i64 l.high, .int .i64 l.old, .int .i64 l.far] 24)) [.int .i64 p, .int .i64 i] 27).below hb)
      have e0 : w1.cell? ⟨w.heap.size + 1, 0, none⟩ = some (.int .i64 p) := by have := HPB.out.cell (j := 0) rfl; rwa [World.size_alloc] at this
      have HB := Lib.hid (bt (ba (ba0 w _) _) hb)
      clear hb HPB
      go_wp2_with fail
      go_ret2
      exact ⟨by rw [HV.out.1, HV.out.2]; rfl, HB.out⟩
    have d4 : decide (4 < p) = false := by simp; omega
    clear HV6
    have h14 : p = 1 ∨ p = 2 ∨ p = 3 ∨ p = 4 := by omega
    clear d1 d4 h1 h4 p0 p9
    rcases h14 with rfl | rfl | rfl | rfl
    · exact plAddr_1 l i A E w bd HH.out HA.out i0 i9
    · exact plAddr_2 l i A E w bd HH.out HA.out i0 i9
    · exact plAddr_3 l i A E w bd HH.out HA.out i0 i9
    · exact plAddr_4 l i A E w bd HH.out HA.out i0 i9
  · have HR := Lib.hid (show decide (lright l) = false from decide_eq_false h)
    have HV := Lib.hid (show A = 0 ∧ E = 1 by
      unfold laddr at hA
      rw [if_neg h] at hA
      simp only [Prod.mk.injEq] at hA
      exact ⟨hA.1.symm, hA.2.symm⟩)
    clear h hA
    go_enter Try.func18, Try.ntmps18
    go_wp2_with fail
    refine (plRight l false _ bd HR.out).mono ?_
    rintro e w1 ⟨rfl, hb⟩
    have HB := Lib.hid (bt (ba (ba0 w _) _) hb)
    clear hb
    go_wp2_with fail
    go_ret2
    exact ⟨by rw [HV.out.1, HV.out.2]; rfl, HB.out⟩
end Go.Proofs.Ytifmlmbbmlnpmaa.V
