/-
  Slices of objects, of shapes and of numbers: their cells; the document's own Pointer, slots, Ints, Same.
-/
import Derived.Test.YtjefajpipgicdaaOPure
import Derived.Test.YtjefajpipgicdaaHRefI
import Derived.Test.YtjefajpipgicdaaRws
import Derived.Test.YtjefajpipgicdaaUs
import Derived.Laws.StructEq
import Derived.Deep.QuietTactic
import Derived.BigQuiet
set_option linter.unusedVariables false
namespace Go.Proofs.Ytjefajpipgicdaa.V
open Go.RowKit

def oc (o : Ob) : List Value := [.int .i64 o.pos, .int .i64 o.size, .int .i64 o.ptrs, .bool o.gone, .int .u64 (o.tgt : Int)]
def sc (s : Shp) : List Value := [.int .i64 s.1, .int .i64 s.2]
def ic (x : Int) : List Value := [.int .i64 x]
def obv (o : Ob) : Value := .agg #[.int .i64 o.pos, .int .i64 o.size, .int .i64 o.ptrs, .bool o.gone, .int .u64 (o.tgt : Int)]
theorem oc_len (x : Ob) : (oc x).length = 5 := rfl
theorem sc_len (x : Shp) : (sc x).length = 2 := rfl
theorem ic_len (x : Int) : (ic x).length = 1 := rfl
theorem oc_one (x : Ob) : ∀ u ∈ oc x, u.oneCell' = true := by intro u hu; simp [oc] at hu; rcases hu with rfl | rfl | rfl | rfl | rfl <;> rfl
theorem sc_one (x : Shp) : ∀ u ∈ sc x, u.oneCell' = true := by intro u hu; simp [sc] at hu; rcases hu with rfl | rfl <;> rfl
theorem ic_one (x : Int) : ∀ u ∈ ic x, u.oneCell' = true := by intro u hu; simp [ic] at hu; subst hu; rfl
theorem info_ob : (Try.prog.info? 53).map (fun i => (i.zero, i.size, i.bytes)) = some (some (.agg #[.int .i64 0, .int .i64 0, .int .i64 0, .bool false, .int .u64 0]), 5, 40) := by kernel_rfl
theorem info_sh : (Try.prog.info? 28).map (fun i => (i.zero, i.size, i.bytes)) = some (some (.agg #[.int .i64 0, .int .i64 0]), 2, 16) := by kernel_rfl
theorem info_in : (Try.prog.info? 3).map (fun i => (i.zero, i.size, i.bytes)) = some (some (.int .i64 0), 1, 8) := by kernel_rfl

theorem ob_cells {w : World} {ao : Option Addr} {l : List Ob} (h : Rw oc 5 w ao l) {k : Nat} {o : Ob} (hk : l[k]? = some o) : ∃ b off, ao = some ⟨b, off, none⟩ ∧ b < w.heap.size ∧ w.cell? ⟨b, off + k * 5, none⟩ = some (.int .i64 o.pos) ∧ w.cell? ⟨b, off + k * 5 + 1, none⟩ = some (.int .i64 o.size) ∧ w.cell? ⟨b, off + k * 5 + 2, none⟩ = some (.int .i64 o.ptrs) ∧ w.cell? ⟨b, off + k * 5 + 3, none⟩ = some (.bool o.gone) ∧ w.cell? ⟨b, off + k * 5 + 4, none⟩ = some (.int .u64 (o.tgt : Int)) := by
  obtain ⟨b, off, rfl, hb, hc⟩ := h k o hk
  exact ⟨b, off, rfl, hb, by simpa using hc 0 _ rfl, by simpa [Nat.add_assoc] using hc 1 _ rfl, by simpa [Nat.add_assoc] using hc 2 _ rfl, by simpa [Nat.add_assoc] using hc 3 _ rfl, by simpa [Nat.add_assoc] using hc 4 _ rfl⟩
theorem sh_cells {w : World} {ao : Option Addr} {l : List Shp} (h : Rw sc 2 w ao l) {k : Nat} {o : Shp} (hk : l[k]? = some o) : ∃ b off, ao = some ⟨b, off, none⟩ ∧ b < w.heap.size ∧ w.cell? ⟨b, off + k * 2, none⟩ = some (.int .i64 o.1) ∧ w.cell? ⟨b, off + k * 2 + 1, none⟩ = some (.int .i64 o.2) := by
  obtain ⟨b, off, rfl, hb, hc⟩ := h k o hk
  exact ⟨b, off, rfl, hb, by simpa using hc 0 _ rfl, by simpa [Nat.add_assoc] using hc 1 _ rfl⟩
theorem in_cells {w : World} {ao : Option Addr} {l : List Int} (h : Rw ic 1 w ao l) {k : Nat} {o : Int} (hk : l[k]? = some o) : ∃ b off, ao = some ⟨b, off, none⟩ ∧ b < w.heap.size ∧ w.cell? ⟨b, off + k, none⟩ = some (.int .i64 o) := by
  obtain ⟨b, off, rfl, hb, hc⟩ := h k o hk
  exact ⟨b, off, rfl, hb, by simpa using hc 0 _ rfl⟩

theorem refPointer (a : Nat) (w : World) (ha : a < 2 ^ 64) : Calls Try.prog 35 #[.int .u64 a] w fun e w' => e = .returned (.bool (isPtr a)) ∧ w = w' := by
  obtain ⟨v, hv⟩ : ∃ v : Int, ((haddr a).1 : Int) = v := ⟨_, rfl⟩
  obtain ⟨e, he⟩ : ∃ e : Int, ((haddr a).2 : Int) = e := ⟨_, rfl⟩
  have HV := Lib.hid hv
  have HE := Lib.hid he
  clear hv he
  by_cases h0 : a = 0
  · subst h0
    go_enter Try.func35, Try.ntmps35
    go_wp2_with fail
    refine (refAddressI _ 0 v e _ rfl ha HV.out HE.out).mono ?_
    rintro e w' ⟨rfl, rfl⟩
    go_wp2_with fail
    go_ret
    exact ⟨rfl, rfl⟩
  · have d0 : ((a : Int) == 0) = false := by simp; omega
    by_cases h1 : e = 0
    · subst h1
      have hp : isPtr a = true := by unfold isPtr; have := HE.out; simp; omega
      have HP := Lib.hid hp
      clear hp
      go_enter Try.func35, Try.ntmps35
      go_wp2_with fail
      refine (refAddressI _ a v 0 _ rfl ha HV.out HE.out).mono ?_
      rintro e w' ⟨rfl, rfl⟩
      go_wp2_with fail
      go_ret
      exact ⟨by rw [HP.out]; rfl, rfl⟩
    · have hp : isPtr a = false := by unfold isPtr; have := HE.out; simp; omega
      have d1 : (e == 0) = false := by simp; omega
      have HP := Lib.hid hp
      clear hp
      go_enter Try.func35, Try.ntmps35
      go_wp2_with fail
      refine (refAddressI _ a v e _ rfl ha HV.out HE.out).mono ?_
      rintro e w' ⟨rfl, rfl⟩
      go_wp2_with fail
      go_ret
      exact ⟨by rw [HP.out]; rfl, rfl⟩
end Go.Proofs.Ytjefajpipgicdaa.V
