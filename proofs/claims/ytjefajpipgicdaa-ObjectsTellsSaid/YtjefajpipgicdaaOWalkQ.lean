/-
  The program's Walk and Lay, walked.
-/
import Derived.Test.YtjefajpipgicdaaOWalkP
set_option linter.unusedVariables false
namespace Go.Proofs.Ytjefajpipgicdaa.V
open Go.RowKit

theorem headOf_nil (w : Nat) : headOf w [] true = headOf w [] false := by
  unfold headOf
  by_cases h : (haddr w).2 = 0
  · have ho : w % 2 = 1 := by
      rcases Nat.mod_two_eq_zero_or_one w with h2 | h2
      · exact absurd h (haddr_even w h2)
      · exact h2
    have hu := hunpack_odd w ho
    simp [h, hu]
  · simp [h]
theorem headOf_rest {w : Nat} {x : (Nat × Nat × Bool × Nat)} {sh' : List Shp} (h : headOf w [] false = some (x, sh')) : sh' = [] := by
  unfold headOf at h
  split at h
  · cases h
  · split at h
    · simp only [Option.some.injEq, Prod.mk.injEq] at h; exact h.2.symm
    · cases h
theorem walkF_nil : ∀ (f pos : Nat) (ws : List Nat), walkF f pos ws [] true = walkF f pos ws [] false
  | 0, _, _ => rfl
  | f + 1, pos, [] => rfl
  | f + 1, pos, w :: r => by
    simp only [walkF, headOf_nil]
    cases hh : headOf w [] false with
    | none => rfl
    | some v =>
      obtain ⟨⟨s, p, g, t⟩, sh'⟩ := v
      have := headOf_rest hh
      subst this
      simp only [walkF_nil f]
theorem walkC : WalkC 12 := by
  intro ao ca m ws L E w hm hml hv hu hmc hcm han hwalk
  have hw2 : walkL ws [] true = (L, E) := by unfold walkL at hwalk ⊢; rw [walkF_nil]; exact hwalk
  have HV := Lib.hid hv
  have HU := Lib.hid hu
  have HM := Lib.hid hm
  have HW := Lib.hid hw2
  have HAN := Lib.hid han
  clear hv hu hm hwalk hw2 han
  go_enter Try.func12, Try.ntmps12
  go_wp2_with fail
  refine (walkOldC ao none ca 0 m 0 ws [] L E _ HM.out rfl hml (by decide) HV.out HU.out (Rw.nil _ _) hmc hcm (Nat.le_refl _) (by decide) HAN.out (fun _ => rfl) HW.out).mono ?_
  rintro e w1 ⟨v', rfl, ho, hb⟩
  have HO := Lib.hid ho
  have HB := Lib.hid hb
  clear ho hb
  go_wp2_with fail
  go_ret2
  exact ⟨_, rfl, HO.out, HB.out⟩
theorem hpackI_no {s p : Int} (h : ¬ hright s p) : hpackI s p = (0, 1) := by unfold hpackI; rw [if_neg h]
set_option maxRecDepth 100000 in
theorem layC : LayC 20 := by
  intro S0 P0 ao cap m l V E w hm hml hv hu hmc hcm han hlay
  have HV := Lib.hid hv
  have HU := Lib.hid hu
  have HM := Lib.hid hm
  have HAN := Lib.hid han
  clear hv hu han
  unfold layL at hlay
  rw [hm] at hlay
  clear hm
  by_cases hr : hright S0 P0
  · obtain ⟨r1, r2, r3, r4⟩ := hr
    obtain ⟨s, rfl⟩ := Int.eq_ofNat_of_zero_le r1
    obtain ⟨p, rfl⟩ := Int.eq_ofNat_of_zero_le r3
    by_cases hs : m = s
    · subst hs
      rw [if_pos ⟨⟨r1, r2, r3, r4⟩, rfl⟩] at hlay
      obtain ⟨hp, hhp⟩ : ∃ hp, hpack m p = hp := ⟨_, rfl⟩
      rw [show (m : Int).toNat = m from rfl, show (p : Int).toNat = p from rfl, hhp, slotsOk_live] at hlay
      have HHP := Lib.hid hhp
      have hpm : p ≤ m := by omega
      clear r1 r3 r4 hhp
      obtain ⟨Q, hQ⟩ : ∃ Q, (l.take p).all isPtr = Q := ⟨_, rfl⟩
      rw [hQ] at hlay
      have HQ := Lib.hid hQ
      have HL := Lib.hid hlay
      clear hQ hlay
      go_enter Try.func20, Try.ntmps20
      go_wp2_with fail
      refine (hPackYes m p hp _ (by omega) hpm HHP.out).mono ?_
      rintro e w1 ⟨rfl, hb1⟩
      have c0 : w1.cell? ⟨w.heap.size, 0, none⟩ = some (.int .i64 m) := (hb1.cell (p := ⟨w.heap.size, 0, none⟩) (by simp)).trans (by simp)
      have c1 : w1.cell? ⟨w.heap.size, 1, none⟩ = some (.int .i64 p) := (hb1.cell (p := ⟨w.heap.size, 1, none⟩) (by simp)).trans (by simp)
      have HB1 := Lib.hid (bt (ba0 w _) hb1)
      have HU1 := Lib.hid (HU.out.below (Nat.le_refl _) HB1.out)
      clear hb1
      cases Q with
      | true =>
        have HE := Lib.hid (show V = hp :: l ∧ E = 0 by have h9 := HL.out; simp only [if_true, Prod.mk.injEq] at h9; exact ⟨h9.1.symm, h9.2.symm⟩)
        go_wp2_with fail
        refine (oPointers ao cap p (l.take p) true _ (by rw [List.length_take, HM.out]; omega) (by omega) (fun v h => HV.out v (List.mem_of_mem_take h)) (HU1.out.take p) HQ.out).mono ?_
        rintro e w2 ⟨rfl, rfl⟩
        have HO2 := Lib.hid (OwnU.lit1 w1 w.heap.size hp HB1.out.size)
        have HU2 := Lib.hid (HU1.out.below (Nat.le_refl _) (ba0 w1 (.cells #[.int .u64 (hp : Int)] 24)))
        have HB2 := Lib.hid (ba HB1.out (.cells #[.int .u64 (hp : Int)] 24))
        go_wp2_with (at_builtin; refine wp_append_us _ (by rfl) (.tmp 29) (.tmp 30) rfl rfl w.heap.size _ [hp] l rfl HO2.out ao m cap rfl HM.out HU2.out HAN.out ?_ ?_ ?_)
        · simp; omega
        · exact HB2.out.size
        · intro v' w5 hown' hgrow
          have hb' : Below w.heap.size w w5 := HB2.out.grown hgrow HB2.out.size (fun j hj => (World.ownsRow.lt HO2.out j hj).1)
          have HO5 := Lib.hid hown'
          clear hgrow hown'
          go_wp2_with fail
          go_ret2
          exact ⟨_, by rw [HE.out.2]; rfl, by rw [HE.out.1]; exact HO5.out, hb'⟩
      | false =>
        have HE := Lib.hid (show V = [] ∧ E = 3 by have h9 := HL.out; simp only [Bool.false_eq_true, if_false, Prod.mk.injEq] at h9; exact ⟨h9.1.symm, h9.2.symm⟩)
        go_wp2_with fail
        refine (oPointers ao cap p (l.take p) false _ (by rw [List.length_take, HM.out]; omega) (by omega) (fun v h => HV.out v (List.mem_of_mem_take h)) (HU1.out.take p) HQ.out).mono ?_
        rintro e w2 ⟨rfl, rfl⟩
        go_wp2_with fail
        go_ret2
        exact ⟨_, by rw [HE.out.2]; rfl, by rw [HE.out.1]; exact ⟨rfl, Or.inl ⟨rfl, rfl⟩⟩, HB1.out⟩
    · rw [if_neg (by rintro ⟨_, h⟩; omega)] at hlay
      have HE := Lib.hid (show V = [] ∧ E = 1 by simp only [Prod.mk.injEq] at hlay; exact ⟨hlay.1.symm, hlay.2.symm⟩)
      obtain ⟨hp, hhp⟩ : ∃ hp, hpack s p = hp := ⟨_, rfl⟩
      have HHP := Lib.hid hhp
      have d1 : ((m : Int) != s) = true := by simp; omega
      have hps : p ≤ s := by omega
      clear hlay r1 r3 r4 hhp hs
      go_enter Try.func20, Try.ntmps20
      go_wp2_with fail
      refine (hPackYes s p hp _ (by omega) hps HHP.out).mono ?_
      rintro e w1 ⟨rfl, hb1⟩
      have c0 : w1.cell? ⟨w.heap.size, 0, none⟩ = some (.int .i64 s) := (hb1.cell (p := ⟨w.heap.size, 0, none⟩) (by simp)).trans (by simp)
      have HB1 := Lib.hid (bt (ba0 w _) hb1)
      clear hb1
      go_wp2_with fail
      go_ret2
      exact ⟨_, by rw [HE.out.2]; rfl, by rw [HE.out.1]; exact ⟨rfl, Or.inl ⟨rfl, rfl⟩⟩, HB1.out⟩
  · rw [if_neg (fun h => hr h.1)] at hlay
    have HE := Lib.hid (show V = [] ∧ E = 1 by simp only [Prod.mk.injEq] at hlay; exact ⟨hlay.1.symm, hlay.2.symm⟩)
    have HR := Lib.hid hr
    clear hlay hr
    go_enter Try.func20, Try.ntmps20
    go_wp2_with fail
    refine (hPackNo S0 P0 _ HR.out).mono ?_
    rintro e w1 ⟨rfl, hb1⟩
    have HB1 := Lib.hid (bt (ba0 w _) hb1)
    clear hb1
    go_wp2_with fail
    go_ret2
    exact ⟨_, by rw [HE.out.2]; rfl, by rw [HE.out.1]; exact ⟨rfl, Or.inl ⟨rfl, rfl⟩⟩, HB1.out⟩
end Go.Proofs.Ytjefajpipgicdaa.V
