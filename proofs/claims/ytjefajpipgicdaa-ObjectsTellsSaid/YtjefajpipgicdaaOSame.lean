/-
  The statements' comparison of two lists of numbers (Ints) and of objects (Same), walked.
-/
import Derived.Test.YtjefajpipgicdaaORefWalk
set_option linter.unusedVariables false
namespace Go.Proofs.Ytjefajpipgicdaa.V
open Go.RowKit

theorem take_step {α : Type} {x y : List α} {k : Nat} {p q : α} (hp : x[k]? = some p) (hq : y[k]? = some q) (h : x.take k = y.take k) : (x.take (k + 1) = y.take (k + 1)) ↔ p = q := by
  rw [List.take_add_one (l := x), List.take_add_one (l := y), h, List.append_cancel_left_eq, hp, hq]
  simp

theorem neq_ob (w : World) (a b : Ob) : (binOp .neq 53 (obv a) (obv b)).run Try.prog w = .ok (.bool (!decide (a = b))) w := by
  have u3 := Try.underlying3
  have a3 := Try.isAgg3
  have z3 := Try.sizeOf3
  have u4 := Try.underlying4
  have a4 := Try.isAgg4
  have z4 := Try.sizeOf4
  have u5 := Try.underlying24
  have a5 := Try.isAgg24
  have z5 := Try.sizeOf24
  have u6 := Try.underlying28
  have a6 := Try.isAgg28
  have z6 := Try.sizeOf28
  have hS : Try.prog.underlying 53 = some (.struct (Try.prog.fieldsOf 53)) := by kernel_rfl
  have hp : Try.prog.stoodInHeld 53 = false := by kernel_rfl
  obtain ⟨p1, s1, q1, g1, t1⟩ := a
  obtain ⟨p2, s2, q2, g2, t2⟩ := b
  unfold obv
  rw [run_neq_struct, show (10000 : Nat) = 9999 + 1 from rfl, run_equalIn_agg w 9999 53 _ _ hS hp]
  simp only [Program.fieldsOf, Try.underlying53]
  go_simp
  by_cases h1 : p1 = p2
  · by_cases h2 : s1 = s2
    · by_cases h3 : q1 = q2
      · by_cases h4 : g1 = g2
        · by_cases h5 : t1 = t2
          · simp [h1, h2, h3, h4, h5]
          · have h6 : ¬ (t1 : Int) = (t2 : Int) := by omega
            simp [h1, h2, h3, h4, h5, h6]
        · simp [h1, h2, h3, h4]
      · simp [h1, h2, h3]
    · simp [h1, h2]
  · simp [h1]

set_option maxRecDepth 100000 in
set_option maxHeartbeats 1000000 in
theorem ints_any (ao bo : Option Addr) (ca cb m n : Nat) (x y : List Int) (w : World) (hm : x.length = m) (hn : y.length = n) (hx : m ≤ 1000000000) (hy : n ≤ 1000000000) (ha : Rw ic 1 w ao x) (hb : Rw ic 1 w bo y) :
    Calls Try.prog 19 #[.slice ao m ca, .slice bo n cb] w fun e w' => e = .returned (.bool (decide (x = y))) ∧ Below w.heap.size w w' := by
  obtain ⟨R, hR⟩ : ∃ R, decide (x = y) = R := ⟨_, rfl⟩
  rw [hR]
  have HR := Lib.hid hR
  have HA := Lib.hid ha
  have HB := Lib.hid hb
  have HM := Lib.hid hm
  have HN := Lib.hid hn
  clear ha hb hm hn hR
  by_cases hl : m = n
  · subst hl
    have hne : ((m : Int) != (m : Int)) = false := by simp
    go_enter Try.func19, Try.ntmps19
    go_wp2_with fail
    clear hne
    go_loopw [5] (fun i wr => ∃ k : Nat, k ≤ m ∧ i = .int .i64 k ∧ Hid (x.take k = y.take k) ∧ Below w.heap.size w wr) (fun i _ => m - (intOf i).toNat)
    case atStart => exact ⟨0, by omega, rfl, Lib.hid (by simp), Below.refl _ _⟩
    case round =>
      obtain ⟨k, hk, rfl, HT, hbel⟩ := hrel
      by_cases hlt : k < m
      · obtain ⟨p, hp⟩ : ∃ p, x[k]? = some p := ⟨_, List.getElem?_eq_getElem (by have := HM.out; omega)⟩
        obtain ⟨q, hq⟩ : ∃ q, y[k]? = some q := ⟨_, List.getElem?_eq_getElem (by have := HN.out; omega)⟩
        obtain ⟨b1, o1, rfl, hb1, hc1⟩ := in_cells HA.out hp
        obtain ⟨b2, o2, rfl, hb2, hc2⟩ := in_cells HB.out hq
        have HS := Lib.hid (take_step hp hq HT.out)
        have hz1 : ∀ z : GW wr, z.w'.cell? ⟨b1, o1 + k, none⟩ = some (.int .i64 p) := fun z => cell_step (hbel.trans (z.h.mono hbel.size)) hb1 hc1
        have hz2 : ∀ z : GW wr, z.w'.cell? ⟨b2, o2 + k, none⟩ = some (.int .i64 q) := fun z => cell_step (hbel.trans (z.h.mono hbel.size)) hb2 hc2
        clear hc1 hc2 hp hq
        have hk1 : (k : Int) < (m : Int) := by omega
        by_cases hpq : p = q
        · subst hpq
          have HT2 : Hid (x.take (k + 1) = y.take (k + 1)) := HS.out.2 rfl
          have hnn : (p != p) = false := by simp
          clear HS
          go_wp2_with fail
          refine wp_region_grow (by kernel_rfl) (by kernel_rfl) ?_
          repeat (go_big_quiet_step (fail))
          refine wpQuiet_nil ?_
          first | rintro _ ⟨w4, rfl⟩ | intro w4
          clear hz1 hz2
          go_wp2_with fail
          go_roundw
          case rel => exact ⟨k + 1, by omega, by go_num, HT2, bt hbel w4.h⟩
          case measure => simp [intOf]; omega
        · have hf : R = false := by rw [← HR.out, decide_eq_false_iff_not]; intro h; exact hpq (HS.out.1 (by rw [h]))
          have hnn : (p != q) = true := by simp; omega
          have HF := Lib.hid hf
          clear HS hpq hf
          go_wp2_with fail
          refine wp_region_grow (by kernel_rfl) (by kernel_rfl) ?_
          repeat (go_big_quiet_step (fail))
          refine wpQuiet_nil ?_
          first | rintro _ ⟨w4, rfl⟩ | intro w4
          clear hz1 hz2
          go_wp2_with fail
          go_ret
          exact ⟨by rw [HF.out]; rfl, bt hbel w4.h⟩
      · have hf : R = true := by
          have h1 := HT.out
          rw [List.take_of_length_le (by have := HM.out; omega), List.take_of_length_le (by have := HN.out; omega)] at h1
          rw [← HR.out, h1]; simp
        have HF := Lib.hid hf
        have dk : decide (k < m) = false := by simp; omega
        clear hf
        go_wp2_with fail
        go_ret
        exact ⟨by rw [HF.out]; rfl, hbel⟩
  · have hne : ((m : Int) != (n : Int)) = true := by simp; omega
    have hf : R = false := by
      rw [← HR.out, decide_eq_false_iff_not]; intro h; have h1 := HM.out; have h2 := HN.out; rw [h] at h1; omega
    have HF := Lib.hid hf
    clear hf
    go_enter Try.func19, Try.ntmps19
    go_wp2_with fail
    go_ret
    exact ⟨by rw [HF.out]; rfl, Below.refl _ _⟩

set_option maxRecDepth 100000 in
set_option maxHeartbeats 1000000 in
theorem sameObs (ao bo : Option Addr) (ca cb m n : Nat) (x y : List Ob) (w : World) (hm : x.length = m) (hn : y.length = n) (hx : m ≤ 1000000000) (hy : n ≤ 1000000000) (ha : Rw oc 5 w ao x) (hb : Rw oc 5 w bo y) :
    Calls Try.prog 14 #[.slice ao m ca, .slice bo n cb] w fun e w' => e = .returned (.bool (decide (x = y))) ∧ Below w.heap.size w w' := by
  obtain ⟨R, hR⟩ : ∃ R, decide (x = y) = R := ⟨_, rfl⟩
  rw [hR]
  have HR := Lib.hid hR
  have HA := Lib.hid ha
  have HB := Lib.hid hb
  have HM := Lib.hid hm
  have HN := Lib.hid hn
  clear ha hb hm hn hR
  by_cases hl : m = n
  · subst hl
    have hne : ((m : Int) != (m : Int)) = false := by simp
    go_enter Try.func14, Try.ntmps14
    go_wp2_with fail
    clear hne
    go_loopw [5] (fun i wr => ∃ k : Nat, k ≤ m ∧ i = .int .i64 k ∧ Hid (x.take k = y.take k) ∧ Below w.heap.size w wr) (fun i _ => m - (intOf i).toNat)
    case atStart => exact ⟨0, by omega, rfl, Lib.hid (by simp), Below.refl _ _⟩
    case round =>
      obtain ⟨k, hk, rfl, HT, hbel⟩ := hrel
      by_cases hlt : k < m
      · obtain ⟨p, hp⟩ : ∃ p, x[k]? = some p := ⟨_, List.getElem?_eq_getElem (by have := HM.out; omega)⟩
        obtain ⟨q, hq⟩ : ∃ q, y[k]? = some q := ⟨_, List.getElem?_eq_getElem (by have := HN.out; omega)⟩
        obtain ⟨b1, o1, rfl, hb1, hc1⟩ := ob_cells HA.out hp
        obtain ⟨b2, o2, rfl, hb2, hc2⟩ := ob_cells HB.out hq
        have HS := Lib.hid (take_step hp hq HT.out)
        have hz1 : Hid (∀ w', (∃ z : GW wr, w' = z.w') → w'.cell? ⟨b1, o1 + k * 5, none⟩ = some (.int .i64 p.pos) ∧ w'.cell? ⟨b1, o1 + k * 5 + 1, none⟩ = some (.int .i64 p.size) ∧ w'.cell? ⟨b1, o1 + k * 5 + 2, none⟩ = some (.int .i64 p.ptrs) ∧ w'.cell? ⟨b1, o1 + k * 5 + 3, none⟩ = some (.bool p.gone) ∧ w'.cell? ⟨b1, o1 + k * 5 + 4, none⟩ = some (.int .u64 (p.tgt : Int))) := Lib.hid (by
          rintro w' ⟨z, rfl⟩
          have hb := hbel.trans (z.h.mono hbel.size)
          exact ⟨cell_step hb hb1 hc1.1, cell_step hb hb1 hc1.2.1, cell_step hb hb1 hc1.2.2.1, cell_step hb hb1 hc1.2.2.2.1, cell_step hb hb1 hc1.2.2.2.2⟩)
        have hz2 : Hid (∀ w', (∃ z : GW wr, w' = z.w') → w'.cell? ⟨b2, o2 + k * 5, none⟩ = some (.int .i64 q.pos) ∧ w'.cell? ⟨b2, o2 + k * 5 + 1, none⟩ = some (.int .i64 q.size) ∧ w'.cell? ⟨b2, o2 + k * 5 + 2, none⟩ = some (.int .i64 q.ptrs) ∧ w'.cell? ⟨b2, o2 + k * 5 + 3, none⟩ = some (.bool q.gone) ∧ w'.cell? ⟨b2, o2 + k * 5 + 4, none⟩ = some (.int .u64 (q.tgt : Int))) := Lib.hid (by
          rintro w' ⟨z, rfl⟩
          have hb := hbel.trans (z.h.mono hbel.size)
          exact ⟨cell_step hb hb2 hc2.1, cell_step hb hb2 hc2.2.1, cell_step hb hb2 hc2.2.2.1, cell_step hb hb2 hc2.2.2.2.1, cell_step hb hb2 hc2.2.2.2.2⟩)
        clear hc1 hc2 hp hq
        have hk1 : (k : Int) < (m : Int) := by omega
        by_cases hpq : p = q
        · have HT2 : Hid (x.take (k + 1) = y.take (k + 1)) := HS.out.2 hpq
          have hnn : ∀ w, (binOp .neq 53 (obv p) (obv q)).run Try.prog w = .ok (.bool false) w := fun w => by rw [neq_ob, hpq]; simp
          unfold obv at hnn
          clear HS hpq
          go_wp2_with fail
          refine wp_region_grow (by kernel_rfl) (by kernel_rfl) ?_
          repeat (first | go_big_quiet_step (fail) | (refine wpQ_load_ob rfl (.tmp 19) rfl b1 (o1 + k * 5) rfl p hz1.out ?_; simp [Act.put, obv]) | (refine wpQ_load_ob rfl (.tmp 23) rfl b2 (o2 + k * 5) rfl q hz2.out ?_; simp [Act.put, obv]))
          refine wpQuiet_nil ?_
          first | rintro _ ⟨w4, rfl⟩ | intro w4
          go_wp2_with fail
          go_roundw
          case rel => exact ⟨k + 1, by omega, by go_num, HT2, bt hbel w4.h⟩
          case measure => simp [intOf]; omega
        · have hf : R = false := by rw [← HR.out, decide_eq_false_iff_not]; intro h; exact hpq (HS.out.1 (by rw [h]))
          have hnn : ∀ w, (binOp .neq 53 (obv p) (obv q)).run Try.prog w = .ok (.bool true) w := fun w => by rw [neq_ob]; simp [hpq]
          unfold obv at hnn
          have HF := Lib.hid hf
          clear HS hpq hf
          go_wp2_with fail
          refine wp_region_grow (by kernel_rfl) (by kernel_rfl) ?_
          repeat (first | go_big_quiet_step (fail) | (refine wpQ_load_ob rfl (.tmp 19) rfl b1 (o1 + k * 5) rfl p hz1.out ?_; simp [Act.put, obv]) | (refine wpQ_load_ob rfl (.tmp 23) rfl b2 (o2 + k * 5) rfl q hz2.out ?_; simp [Act.put, obv]))
          refine wpQuiet_nil ?_
          first | rintro _ ⟨w4, rfl⟩ | intro w4
          go_wp2_with fail
          go_ret
          exact ⟨by rw [HF.out]; rfl, bt hbel w4.h⟩
      · have hf : R = true := by
          have h1 := HT.out
          rw [List.take_of_length_le (by have := HM.out; omega), List.take_of_length_le (by have := HN.out; omega)] at h1
          rw [← HR.out, h1]; simp
        have HF := Lib.hid hf
        have dk : decide (k < m) = false := by simp; omega
        clear hf
        go_wp2_with fail
        go_ret
        exact ⟨by rw [HF.out]; rfl, hbel⟩
  · have hne : ((m : Int) != (n : Int)) = true := by simp; omega
    have hf : R = false := by
      rw [← HR.out, decide_eq_false_iff_not]; intro h; have h1 := HM.out; have h2 := HN.out; rw [h] at h1; omega
    have HF := Lib.hid hf
    clear hf
    go_enter Try.func14, Try.ntmps14
    go_wp2_with fail
    go_ret
    exact ⟨by rw [HF.out]; rfl, Below.refl _ _⟩
end Go.Proofs.Ytjefajpipgicdaa.V
