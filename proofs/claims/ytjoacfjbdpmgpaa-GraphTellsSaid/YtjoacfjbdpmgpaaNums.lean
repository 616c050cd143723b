/-
  The statements' own comparison of two lists of numbers (Nums), walked.
-/
import Derived.Test.YtjoacfjbdpmgpaaUs
import Derived.Deep.QuietTactic
import Derived.BigQuiet
namespace Go.Proofs.Ytjoacfjbdpmgpaa.V
open Go.RowKit

theorem take_eq_step {x y : List Nat} {k : Nat} (hl : x.length = y.length) (hk : k < x.length) (h : x.take k = y.take k) : (x.take (k + 1) = y.take (k + 1)) ↔ x.getD k 0 = y.getD k 0 := by
  have hk2 : k < y.length := by omega
  rw [List.take_add_one (l := x), List.take_add_one (l := y), h, List.getElem?_eq_getElem hk, List.getElem?_eq_getElem hk2, List.append_cancel_left_eq]
  simp only [List.getD, List.getElem?_eq_getElem hk, List.getElem?_eq_getElem hk2, Option.toList_some, Option.getD_some, List.cons.injEq, and_true]

set_option maxRecDepth 100000 in
set_option maxHeartbeats 1000000 in
theorem nums_any (ao bo : Option Addr) (ca cb : Nat) (x y : List Nat) (w : World) (hx : x.length ≤ 1000000000) (_hy : y.length ≤ 1000000000) (ha : Us w ao x) (hb : Us w bo y) :
    Calls Try.prog 31 #[.slice ao x.length ca, .slice bo y.length cb] w fun e w' => e = .returned (.bool (decide (x = y))) ∧ Below w.heap.size w w' := by
  by_cases hl : x.length = y.length
  · have hne : ((x.length : Int) != y.length) = false := by simp [hl]
    have HL := Lib.hid hl
    have HA := Lib.hid ha
    have HB := Lib.hid hb
    clear hl ha hb
    go_enter Try.func31, Try.ntmps31
    go_wp2_with fail
    clear hne
    go_loopw [5] (fun i wr => ∃ k : Nat, k ≤ x.length ∧ i = .int .i64 k ∧ Hid (x.take k = y.take k) ∧ Below w.heap.size w wr) (fun i _ => x.length - (intOf i).toNat)
    case atStart => exact ⟨0, by omega, rfl, Lib.hid (by simp), Below.refl _ _⟩
    case round =>
      obtain ⟨k, hk, rfl, HT, hbel⟩ := hrel
      by_cases hlt : k < x.length
      · obtain ⟨b1, o1, rfl, hb1, hc1⟩ := HA.out k hlt
        obtain ⟨b2, o2, rfl, hb2, hc2⟩ := HB.out k (by have := HL.out; omega)
        have hc1' := (hbel.cell (p := ⟨b1, o1 + k, none⟩) hb1).trans hc1
        have hc2' := (hbel.cell (p := ⟨b2, o2 + k, none⟩) hb2).trans hc2
        have hlt2 : k < y.length := by have := HL.out; omega
        have hst := take_eq_step HL.out hlt HT.out
        clear hc1 hc2
        generalize hp : x.getD k 0 = p at hc1' hst
        generalize hq : y.getD k 0 = q at hc2' hst
        have HS := Lib.hid hst
        clear hp hq hst
        by_cases hpq : p = q
        · have hnn : ((p : Int) != q) = false := by simp [hpq]
          have HT2 : Hid (x.take (k + 1) = y.take (k + 1)) := HS.out.2 hpq
          clear hpq HS
          go_wp2_with fail
          go_quiet (fail)
          go_wp2
          go_roundw
          case rel => exact ⟨k + 1, by omega, by go_num, HT2, Below.drewN hbel _⟩
          case measure => simp [intOf]; omega
        · have hnn : ((p : Int) != q) = true := by simp; omega
          have hf : decide (x = y) = false := by
            rw [decide_eq_false_iff_not]; intro h; exact hpq (HS.out.1 (by rw [h]))
          have HF := Lib.hid hf
          clear hpq HS hf
          go_wp2_with fail
          go_quiet (fail)
          go_wp2
          go_ret
          exact ⟨by rw [HF.out]; rfl, Below.drewN hbel _⟩
      · have hke : k = x.length := by omega
        have hf : decide (x = y) = true := by
          have := HT.out
          rw [hke, List.take_length, HL.out, List.take_length] at this
          simp [this]
        have HF := Lib.hid hf
        clear hf
        go_wp2_with fail
        go_ret
        exact ⟨by rw [HF.out]; rfl, hbel⟩
  · have hne : ((x.length : Int) != y.length) = true := by simp; omega
    have hf : decide (x = y) = false := by
      rw [decide_eq_false_iff_not]; intro h; exact hl (by rw [h])
    have HF := Lib.hid hf
    clear hf
    go_enter Try.func31, Try.ntmps31
    go_wp2_with fail
    go_ret
    exact ⟨by rw [HF.out]; rfl, Below.refl _ _⟩
end Go.Proofs.Ytjoacfjbdpmgpaa.V
