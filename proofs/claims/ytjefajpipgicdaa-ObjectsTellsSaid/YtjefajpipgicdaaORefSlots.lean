/-
  The document's own look at an object's slots (slots), walked.
-/
import Derived.Test.YtjefajpipgicdaaObjs
set_option linter.unusedVariables false
namespace Go.Proofs.Ytjefajpipgicdaa.V
open Go.RowKit

theorem slotsOk_drop (l : List Nat) (p : Int) (g : Bool) (k : Nat) (hk : k < l.length) : slotsOk (l.drop k) (p - k) g = ((!g || l.getD k 0 == 0) && (!decide ((k : Int) < p) || isPtr (l.getD k 0)) && slotsOk (l.drop (k + 1)) (p - (k + 1 : Nat)) g) := by
  rw [List.drop_eq_getElem_cons hk]
  simp only [slotsOk]
  have e1 : l.getD k 0 = l[k] := by simp [List.getD, hk]
  have e2 : decide (0 < p - (k : Int)) = decide ((k : Int) < p) := by rw [decide_eq_decide]; omega
  have e3 : p - (k : Int) - 1 = p - ((k + 1 : Nat) : Int) := by omega
  rw [e1, e2, e3]

set_option maxRecDepth 100000 in
set_option maxHeartbeats 1000000 in
theorem refSlots (ao : Option Addr) (cap m : Nat) (l : List Nat) (o : Ob) (R : Bool) (E : Int) (w : World) (hm : l.length = m) (hl : m ≤ 1000000000) (hv : ∀ v ∈ l, v < 2 ^ 64) (hu : Us w ao l) (hR : slotsOk l o.ptrs o.gone = R) (hE : (if R then (0 : Int) else 3) = E) :
    Calls Try.prog 38 #[.slice ao m cap, .agg #[.int .i64 o.pos, .int .i64 o.size, .int .i64 o.ptrs, .bool o.gone, .int .u64 (o.tgt : Int)]] w fun e w' => e = .returned (.int .i64 E) ∧ Below w.heap.size w w' := by
  have HV := Lib.hid hv
  have HU := Lib.hid hu
  have HR := Lib.hid hR
  have HM := Lib.hid hm
  have HE := Lib.hid hE
  obtain ⟨pos, size, ptrs, gone, tgt⟩ := o
  simp only at HR ⊢
  clear hv hu hR hm hE
  go_enter Try.func38, Try.ntmps38
  go_wp2_with fail
  have h2 : (w.alloc (.cells #[.int .i64 pos, .int .i64 size, .int .i64 ptrs, .bool gone, .int .u64 (tgt : Int)] 53)).cell? ⟨w.heap.size, 2, none⟩ = some (.int .i64 ptrs) := by simp
  have h3 : (w.alloc (.cells #[.int .i64 pos, .int .i64 size, .int .i64 ptrs, .bool gone, .int .u64 (tgt : Int)] 53)).cell? ⟨w.heap.size, 3, none⟩ = some (.bool gone) := by simp
  have HB := Lib.hid (ba0 w (.cells #[.int .i64 pos, .int .i64 size, .int .i64 ptrs, .bool gone, .int .u64 (tgt : Int)] 53))
  have HU2 := Lib.hid (HU.out.below (Nat.le_refl _) HB.out)
  generalize w.alloc (.cells #[.int .i64 pos, .int .i64 size, .int .i64 ptrs, .bool gone, .int .u64 (tgt : Int)] 53) = W at h2 h3 HB HU2 ⊢
  generalize w.heap.size = g0 at h2 h3 ⊢
  go_loopw [5] (fun i wr => ∃ k : Nat, k ≤ m ∧ i = .int .i64 k ∧ Hid (slotsOk (l.drop k) (ptrs - k) gone = R) ∧ wr = W) (fun i _ => m - (intOf i).toNat)
  case atStart => exact ⟨0, by omega, rfl, Lib.hid (by simpa using HR.out), rfl⟩
  case round =>
    obtain ⟨k, hk, rfl, HT, rfl⟩ := hrel
    by_cases hkm : k < m
    · have hkl : k < l.length := by have := HM.out; omega
      obtain ⟨b, off, rfl, hbb, hc⟩ := HU2.out k hkl
      have hxk : l.getD k 0 < 2 ^ 64 := HV.out _ (by simp [List.getD, hkl])
      have hst := slotsOk_drop l ptrs gone k hkl
      rw [HT.out] at hst
      generalize hx : l.getD k 0 = x at hc hxk hst
      have HX := Lib.hid hx
      have HS := Lib.hid hst
      clear hx hst hkl
      cases gone with
      | true =>
        by_cases h0 : x = 0
        · have d0 : ((x : Int) != 0) = false := by simp; omega
          have H0 := Lib.hid h0
          clear h0
          by_cases hp : (k : Int) < ptrs
          · have dp : decide ((k : Int) < ptrs) = true := by simp; omega
            cases hq : isPtr x with
            | false =>
              have hf : E = 3 := by rw [← HE.out, HS.out, hq, dp]; simp
              have HF := Lib.hid hf
              have HQ := Lib.hid hq
              clear hf hq hp
              go_wp2_with fail
              refine (refPointer x _ hxk).mono ?_
              rintro e w' ⟨rfl, rfl⟩
              rw [HQ.out]
              go_wp2_with fail
              go_ret
              exact ⟨by rw [HF.out]; rfl, HB.out⟩
            | true =>
              have HT2 : Hid (slotsOk (l.drop (k + 1)) (ptrs - (k + 1 : Nat)) true = R) := Lib.hid (by rw [HS.out, hq]; simp [H0.out])
              have HQ := Lib.hid hq
              clear hq hp
              go_wp2_with fail
              refine (refPointer x _ hxk).mono ?_
              rintro e w' ⟨rfl, rfl⟩
              rw [HQ.out]
              go_wp2_with fail
              go_roundw
              case rel => exact ⟨k + 1, by omega, by go_num, HT2, by trivial⟩
              case measure => simp [intOf]; omega
          · have dp : decide ((k : Int) < ptrs) = false := by simp; omega
            have HT2 : Hid (slotsOk (l.drop (k + 1)) (ptrs - (k + 1 : Nat)) true = R) := Lib.hid (by rw [HS.out, dp]; simp [H0.out])
            clear hp
            go_wp2_with fail
            go_roundw
            case rel => exact ⟨k + 1, by omega, by go_num, HT2, by trivial⟩
            case measure => simp [intOf]; omega
        · have d0 : ((x : Int) != 0) = true := by simp; omega
          have hf : E = 3 := by rw [← HE.out, HS.out]; simp [h0]
          have HF := Lib.hid hf
          clear hf
          go_wp2_with fail
          go_ret
          exact ⟨by rw [HF.out]; rfl, HB.out⟩
      | false =>
        by_cases hp : (k : Int) < ptrs
        · have dp : decide ((k : Int) < ptrs) = true := by simp; omega
          cases hq : isPtr x with
          | false =>
            have hf : E = 3 := by rw [← HE.out, HS.out, hq, dp]; simp
            have HF := Lib.hid hf
            have HQ := Lib.hid hq
            clear hf hq hp
            go_wp2_with fail
            refine (refPointer x _ hxk).mono ?_
            rintro e w' ⟨rfl, rfl⟩
            rw [HQ.out]
            go_wp2_with fail
            go_ret
            exact ⟨by rw [HF.out]; rfl, HB.out⟩
          | true =>
            have HT2 : Hid (slotsOk (l.drop (k + 1)) (ptrs - (k + 1 : Nat)) false = R) := Lib.hid (by rw [HS.out, hq]; simp)
            have HQ := Lib.hid hq
            clear hq hp
            go_wp2_with fail
            refine (refPointer x _ hxk).mono ?_
            rintro e w' ⟨rfl, rfl⟩
            rw [HQ.out]
            go_wp2_with fail
            go_roundw
            case rel => exact ⟨k + 1, by omega, by go_num, HT2, by trivial⟩
            case measure => simp [intOf]; omega
        · have dp : decide ((k : Int) < ptrs) = false := by simp; omega
          have HT2 : Hid (slotsOk (l.drop (k + 1)) (ptrs - (k + 1 : Nat)) false = R) := Lib.hid (by rw [HS.out, dp]; simp)
          clear hp
          go_wp2_with fail
          go_roundw
          case rel => exact ⟨k + 1, by omega, by go_num, HT2, by trivial⟩
          case measure => simp [intOf]; omega
    · have hf : E = 0 := by
        rw [← HE.out, ← HT.out, List.drop_eq_nil_of_le (by have := HM.out; omega)]; rfl
      have HF := Lib.hid hf
      have dk : decide (k < m) = false := by simp; omega
      clear hf
      go_wp2_with fail
      go_ret
      exact ⟨by rw [HF.out]; rfl, HB.out⟩
end Go.Proofs.Ytjefajpipgicdaa.V
