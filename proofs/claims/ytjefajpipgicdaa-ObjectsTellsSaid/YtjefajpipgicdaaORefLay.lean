/-
  The document's own Lay, and its comparison of lists of numbers and of objects (Ints, Same), walked.
-/
import Derived.Test.YtjefajpipgicdaaORefKinds
set_option linter.unusedVariables false
namespace Go.Proofs.Ytjefajpipgicdaa.V
open Go.RowKit

theorem slotsOk_nop : ∀ (l : List Nat) (p : Int), p ≤ 0 → slotsOk l p false = true
  | [], _, _ => rfl
  | x :: r, p, h => by
    simp only [slotsOk, slotsOk_nop r (p - 1) (by omega), Bool.and_true]
    have : ¬ 0 < p := by omega
    simp [this]

set_option maxRecDepth 100000 in
set_option maxHeartbeats 1000000 in
theorem refLay (S0 P0 : Int) (ao : Option Addr) (cap m : Nat) (l : List Nat) (V : List Nat) (E : Nat) (w : World) (hm : l.length = m) (hl : m ≤ 1000000) (hv : ∀ v ∈ l, v < 2 ^ 64) (hu : Us w ao l) (hn : ao = none → cap = 0) (hL : layL S0 P0 l = (V, E)) :
    Calls Try.prog 21 #[.agg #[.int .i64 S0, .int .i64 P0], .slice ao m cap] w fun e w' => ∃ v', e = .returned (.tuple #[v', .int .i64 E]) ∧ OwnU w' w.heap.size v' V ∧ Below w.heap.size w w' := by
  have HV := Lib.hid hv
  have HU := Lib.hid hu
  have HM := Lib.hid hm
  have HN := Lib.hid hn
  by_cases hri : hright S0 P0
  · obtain ⟨s, rfl⟩ := Int.eq_ofNat_of_zero_le hri.1
    obtain ⟨p, rfl⟩ := Int.eq_ofNat_of_zero_le hri.2.2.1
    have q1 : s ≤ 255 := by have := hri.2.1; omega
    have q2 : p ≤ s := by have := hri.2.2.2; omega
    by_cases hms : m = s
    · subst hms
      obtain ⟨u, hu0⟩ : ∃ u, hpack m p = u := ⟨_, rfl⟩
      have hL2 : (if slotsOk l p false = true then (u :: l, 0) else ([], 3)) = (V, E) := by
        have h9 : layL (m : Int) (p : Int) l = if slotsOk l p false = true then (u :: l, 0) else ([], 3) := by
          rw [layL, if_pos ⟨hri, by rw [hm]⟩, ← hu0]; simp
        rw [← hL, h9]
      have HL := Lib.hid hL2
      have HU0 := Lib.hid hu0
      have dl : ((m : Int) != (m : Int)) = false := by simp
      clear hu0 hri hm hv hu hn hL hL2
      go_enter Try.func21, Try.ntmps21
      go_wp2_with fail
      refine (refPackYes m p u _ q1 q2 HU0.out).mono ?_
      rintro e w1 ⟨rfl, hb1⟩
      have c0 : w1.cell? ⟨w.heap.size, 0, none⟩ = some (.int .i64 m) := cell_step hb1 (by simp) (by simp)
      have c1 : w1.cell? ⟨w.heap.size, 1, none⟩ = some (.int .i64 p) := cell_step hb1 (by simp) (by simp)
      have HB1 := Lib.hid (bt (ba0 _ _) hb1)
      have HU1 := Lib.hid (HU.out.below (Nat.le_refl _) HB1.out)
      clear hb1
      go_wp2_with fail
      go_loopw [8] (fun i wr => ∃ k : Nat, k ≤ p ∧ i = .int .i64 k ∧ Hid (slotsOk (l.drop k) ((p : Int) - k) false = slotsOk l p false) ∧ wr = w1) (fun i _ => p - (intOf i).toNat)
      case atStart => exact ⟨0, by omega, rfl, Lib.hid (by simp), rfl⟩
      case round =>
        obtain ⟨k, hk, rfl, HT, rfl⟩ := hrel
        by_cases hkp : k < p
        · have hkl : k < l.length := by have := HM.out; omega
          obtain ⟨b, off, rfl, hbb, hc⟩ := HU1.out k hkl
          have hxk : l.getD k 0 < 2 ^ 64 := HV.out _ (by simp [List.getD, hkl])
          have hst := slotsOk_drop l p false k hkl
          generalize hx : l.getD k 0 = x at hc hxk hst
          rw [HT.out] at hst
          have dk : decide ((k : Int) < (p : Int)) = true := by simp; omega
          rw [dk] at hst
          have HS := Lib.hid hst
          have hkm : k < m := by omega
          clear hx hst hkl dk
          cases hq : isPtr x with
          | false =>
            have hf : slotsOk l p false = false := by rw [HS.out, hq]; simp
            have h1 := HL.out
            rw [hf] at h1
            obtain ⟨rfl, rfl⟩ : [] = V ∧ 3 = E := by simpa using h1
            have HQ := Lib.hid hq
            clear hf h1 hq
            go_wp2_with fail
            refine (refPointer x _ hxk).mono ?_
            rintro e w' ⟨rfl, rfl⟩
            rw [HQ.out]
            go_wp2_with fail
            go_ret2
            exact ⟨_, rfl, ⟨rfl, Or.inl ⟨rfl, rfl⟩⟩, HB1.out⟩
          | true =>
            have HT2 : Hid (slotsOk (l.drop (k + 1)) ((p : Int) - (k + 1 : Nat)) false = slotsOk l p false) := Lib.hid (by rw [HS.out, hq]; simp)
            have HQ := Lib.hid hq
            clear hq
            go_wp2_with fail
            refine (refPointer x _ hxk).mono ?_
            rintro e w' ⟨rfl, rfl⟩
            rw [HQ.out]
            go_wp2_with fail
            go_roundw
            case rel => exact ⟨k + 1, by omega, by go_num, HT2, by trivial⟩
            case measure => simp [intOf]; omega
        · have dk : decide (k < p) = false := by simp; omega
          have hf : slotsOk l p false = true := by rw [← HT.out]; exact slotsOk_nop _ _ (by omega)
          have h1 := HL.out
          rw [hf] at h1
          obtain ⟨rfl, rfl⟩ : u :: l = V ∧ 0 = E := by simpa using h1
          have HB2 := Lib.hid (ba HB1.out (.cells #[.int .u64 (u : Int)] 24))
          have HO2 := Lib.hid (OwnU.lit1 wr w.heap.size u HB1.out.size)
          have HU2 := Lib.hid (HU.out.below (Nat.le_refl _) HB2.out)
          have hsz := HB2.out.size
          clear hf h1
          go_wp2_with (at_builtin; refine wp_append_us _ (by rfl) (.tmp 38) (.tmp 39) rfl rfl w.heap.size _ [u] l rfl HO2.out ao m cap rfl HM.out HU2.out HN.out ?_ ?_ ?_)
          · simp; omega
          · exact hsz
          · intro v' w5 hown' hgrow
            have hb' : Below w.heap.size w w5 := HB2.out.grown hgrow HB2.out.size (fun j hj => (World.ownsRow.lt HO2.out j hj).1)
            have HO5 := Lib.hid hown'
            clear hgrow hown'
            go_wp2_with fail
            go_ret2
            exact ⟨_, rfl, by simpa using HO5.out, hb'⟩
    · have hL2 : layL (s : Int) (p : Int) l = ([], 1) := by
        rw [layL, if_neg (by rintro ⟨_, h⟩; rw [hm] at h; omega)]
      obtain ⟨rfl, rfl⟩ : [] = V ∧ 1 = E := by rw [hL2] at hL; simpa using hL
      obtain ⟨u, hu0⟩ : ∃ u, hpack s p = u := ⟨_, rfl⟩
      have HU0 := Lib.hid hu0
      have dl : ((m : Int) != (s : Int)) = true := by simp; omega
      clear hu0 hri hm hv hu hn hL hL2 hms
      go_enter Try.func21, Try.ntmps21
      go_wp2_with fail
      refine (refPackYes s p u _ q1 q2 HU0.out).mono ?_
      rintro e w1 ⟨rfl, hb1⟩
      have c0 : w1.cell? ⟨w.heap.size, 0, none⟩ = some (.int .i64 s) := cell_step hb1 (by simp) (by simp)
      have HB1 := Lib.hid (bt (ba0 _ _) hb1)
      clear hb1
      go_wp2_with fail
      go_ret2
      exact ⟨_, rfl, ⟨rfl, Or.inl ⟨rfl, rfl⟩⟩, HB1.out⟩
  · have hL2 : layL S0 P0 l = ([], 1) := by rw [layL, if_neg (fun h => hri h.1)]
    obtain ⟨rfl, rfl⟩ : [] = V ∧ 1 = E := by rw [hL2] at hL; simpa using hL
    have HRI := Lib.hid hri
    clear hri hm hv hu hn hL hL2
    go_enter Try.func21, Try.ntmps21
    go_wp2_with fail
    refine (refPackNo S0 P0 _ HRI.out).mono ?_
    rintro e w1 ⟨rfl, hb1⟩
    have HB1 := Lib.hid (bt (ba0 _ _) hb1)
    clear hb1
    go_wp2_with fail
    go_ret2
    exact ⟨_, rfl, ⟨rfl, Or.inl ⟨rfl, rfl⟩⟩, HB1.out⟩
end Go.Proofs.Ytjefajpipgicdaa.V
