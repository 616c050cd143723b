/-
  Slices of ints: their cells; the statements' comparison of two lists of numbers (Ints), walked.
-/
import Derived.Test.YtjoacfjbdpmgpaaGen
import Derived.Test.YtjoacfjbdpmgpaaRws
import Derived.Test.YtjoacfjbdpmgpaaUs
import Derived.Laws.StructEq
import Derived.Deep.QuietTactic
import Derived.BigQuiet
set_option linter.unusedVariables false
namespace Go.Proofs.Ytjoacfjbdpmgpaa.V
open Go.RowKit

def ic (x : Int) : List Value := [.int .i64 x]
theorem ic_len (x : Int) : (ic x).length = 1 := rfl
theorem ic_one (x : Int) : ∀ u ∈ ic x, u.oneCell' = true := by intro u hu; simp [ic] at hu; subst hu; rfl
theorem info_in : (Try.prog.info? 3).map (fun i => (i.zero, i.size, i.bytes)) = some (some (.int .i64 0), 1, 8) := by kernel_rfl

theorem in_cells {w : World} {ao : Option Addr} {l : List Int} (h : Rw ic 1 w ao l) {k : Nat} {o : Int} (hk : l[k]? = some o) : ∃ b off, ao = some ⟨b, off, none⟩ ∧ b < w.heap.size ∧ w.cell? ⟨b, off + k, none⟩ = some (.int .i64 o) := by
  obtain ⟨b, off, rfl, hb, hc⟩ := h k o hk
  exact ⟨b, off, rfl, hb, by simpa using hc 0 _ rfl⟩

theorem take_step {α : Type} {x y : List α} {k : Nat} {p q : α} (hp : x[k]? = some p) (hq : y[k]? = some q) (h : x.take k = y.take k) : (x.take (k + 1) = y.take (k + 1)) ↔ p = q := by
  rw [List.take_add_one (l := x), List.take_add_one (l := y), h, List.append_cancel_left_eq, hp, hq]
  simp

set_option maxRecDepth 100000 in
set_option maxHeartbeats 1000000 in
theorem ints_any (ao bo : Option Addr) (ca cb m n : Nat) (x y : List Int) (w : World) (hm : x.length = m) (hn : y.length = n) (hx : m ≤ 1000000000) (hy : n ≤ 1000000000) (ha : Rw ic 1 w ao x) (hb : Rw ic 1 w bo y) :
    Calls Try.prog 30 #[.slice ao m ca, .slice bo n cb] w fun e w' => e = .returned (.bool (decide (x = y))) ∧ Below w.heap.size w w' := by
  obtain ⟨R, hR⟩ : ∃ R, decide (x = y) = R := ⟨_, rfl⟩
  rw [hR]
  have HR := Lib.hid hR
  have HA := Lib.hid ha
  have HB := Lib.hid hb
  have HM := Lib.hid hm
  have HN := Lib.hid hn
  clear ha hb hm hn hR
  by_cases hl : m = n
  · subst hl
    have hne : ((m : Int) != (m : Int)) = false := by simp
    go_enter Try.func30, Try.ntmps30
    go_wp2_with fail
    clear hne
    go_loopw [5] (fun i wr => ∃ k : Nat, k ≤ m ∧ i = .int .i64 k ∧ Hid (x.take k = y.take k) ∧ Below w.heap.size w wr) (fun i _ => m - (intOf i).toNat)
    case atStart => exact ⟨0, by omega, rfl, Lib.hid (by simp), Below.refl _ _⟩
    case round =>
      obtain ⟨k, hk, rfl, HT, hbel⟩ := hrel
      by_cases hlt : k < m
      · obtain ⟨p, hp⟩ : ∃ p, x[k]? = some p := ⟨_, List.getElem?_eq_getElem (by have := HM.out; omega)⟩
        obtain ⟨q, hq⟩ : ∃ q, y[k]? = some q := ⟨_, List.getElem?_eq_getElem (by have := HN.out; omega)⟩
        obtain ⟨b1, o1, rfl, hb1, hc1⟩ := in_cells HA.out hp
        obtain ⟨b2, o2, rfl, hb2, hc2⟩ := in_cells HB.out hq
        have HS := Lib.hid (take_step hp hq HT.out)
        have hz1 : ∀ z : GW wr, z.w'.cell? ⟨b1, o1 + k, none⟩ = some (.int .i64 p) := fun z => cellS (hbel.trans (z.h.mono hbel.size)) hb1 hc1
        have hz2 : ∀ z : GW wr, z.w'.cell? ⟨b2, o2 + k, none⟩ = some (.int .i64 q) := fun z => cellS (hbel.trans (z.h.mono hbel.size)) hb2 hc2
        clear hc1 hc2 hp hq
        have hk1 : (k : Int) < (m : Int) := by omega
        by_cases hpq : p = q
        · subst hpq
          have HT2 : Hid (x.take (k + 1) = y.take (k + 1)) := HS.out.2 rfl
          have hnn : (p != p) = false := by simp
          clear HS
          go_wp2_with fail
          refine wp_region_grow (by kernel_rfl) (by kernel_rfl) ?_
          repeat (go_big_quiet_step (fail))
          refine wpQuiet_nil ?_
          first | rintro _ ⟨w4, rfl⟩ | intro w4
          clear hz1 hz2
          go_wp2_with fail
          go_roundw
          case rel => exact ⟨k + 1, by omega, by go_num, HT2, bt hbel w4.h⟩
          case measure => simp [intOf]; omega
        · have hf : R = false := by rw [← HR.out, decide_eq_false_iff_not]; intro h; exact hpq (HS.out.1 (by rw [h]))
          have hnn : (p != q) = true := by simp; omega
          have HF := Lib.hid hf
          clear HS hpq hf
          go_wp2_with fail
          refine wp_region_grow (by kernel_rfl) (by kernel_rfl) ?_
          repeat (go_big_quiet_step (fail))
          refine wpQuiet_nil ?_
          first | rintro _ ⟨w4, rfl⟩ | intro w4
          clear hz1 hz2
          go_wp2_with fail
          go_ret
          exact ⟨by rw [HF.out]; rfl, bt hbel w4.h⟩
      · have hf : R = true := by
          have h1 := HT.out
          rw [List.take_of_length_le (by have := HM.out; omega), List.take_of_length_le (by have := HN.out; omega)] at h1
          rw [← HR.out, h1]; simp
        have HF := Lib.hid hf
        have dk : decide (k < m) = false := by simp; omega
        clear hf
        go_wp2_with fail
        go_ret
        exact ⟨by rw [HF.out]; rfl, hbel⟩
  · have hne : ((m : Int) != (n : Int)) = true := by simp; omega
    have hf : R = false := by
      rw [← HR.out, decide_eq_false_iff_not]; intro h; have h1 := HM.out; have h2 := HN.out; rw [h] at h1; omega
    have HF := Lib.hid hf
    clear hf
    go_enter Try.func30, Try.ntmps30
    go_wp2_with fail
    go_ret
    exact ⟨by rw [HF.out]; rfl, Below.refl _ _⟩
end Go.Proofs.Ytjoacfjbdpmgpaa.V
