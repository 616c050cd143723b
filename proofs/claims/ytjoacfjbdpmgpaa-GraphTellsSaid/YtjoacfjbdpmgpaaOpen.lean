/-
  How the arguments of this program's statements are opened: numbers, strings, slices of 64-bit numbers.
-/
import Derived.Test.YtjoacfjbdpmgpaaUs
import Derived.Test.YtjoacfjbdpmgpaaRows
import Derived.ProofKit
import Derived.OpenShut
import Derived.ShutString
import Derived.ChangeOld
set_option linter.unusedVariables false
namespace Go.Proofs.Ytjoacfjbdpmgpaa.V
open Go.ChangeShapes Go.WideShapes Go.ChangeAt Go.RowKit
open Go.ChangeMaps (open_string shut_string)

theorem own : ownKnob Try.prog.godebug = none := by kernel_rfl
theorem laidOut : laidOutB Try.prog = true := by kernel_rfl

theorem nat_u64 {a : Int} (h : (Lit.int .u64 a).wf = true) : ∃ n : Nat, a = (n : Int) ∧ n < 2 ^ 64 := by
  have := bounds_u64 h
  exact ⟨a.toNat, by omega, by omega⟩
theorem nat_u32 {a : Int} (h : (Lit.int .u32 a).wf = true) : ∃ n : Nat, a = (n : Int) ∧ n < 2 ^ 32 := by
  have := bounds_u32 h
  exact ⟨a.toNat, by omega, by omega⟩
theorem nat_u8 {a : Int} (h : (Lit.int .u8 a).wf = true) : ∃ n : UInt8, a = (n.toNat : Int) := by
  have := bounds_u8 h
  exact ⟨UInt8.ofNat a.toNat, by rw [UInt8.toNat_ofNat']; omega⟩

theorem open_us {H : Type} {enc : TypeId × Value → H} {W : World} {a : Option Addr} {len cap : Nat} {d : DataW H} {p : List MemPlace} (h : DataW.Trod enc Try.prog W 0 (fun _ => true) true 34 (.slice a len cap) d p) :
    ∃ zs : List Nat, len = zs.length ∧ (∀ v ∈ zs, v < 2 ^ 64) ∧ Us W a zs ∧ zs.length ≤ cap ∧ cap ≤ 9223372036854775807 ∧ (a = none → cap = 0) := by
  obtain ⟨fuel, hf⟩ := h
  rcases open_ints Try.underlying34 Try.underlying29 (by kernel_rfl) hf with ⟨hcs, _⟩ | ⟨x, l, c, zs, hcs, _, hl, hm, hz, _, hcell, hwz⟩
  · simp [Value.cells] at hcs
    obtain ⟨rfl, rfl, rfl⟩ := hcs
    exact ⟨[], rfl, by simp, fun j hj => by simp at hj, by simp, by omega, fun _ => rfl⟩
  · simp [Value.cells] at hcs
    obtain ⟨rfl, rfl, rfl⟩ := hcs
    have hzc : zs.length = cap := by simpa using hz
    have hnn : ∀ z ∈ zs, 0 ≤ z ∧ z < 2 ^ 64 := fun z h => by have := bounds_u64 (hwz z h); omega
    refine ⟨(zs.take len).map Int.toNat, by simp; omega, ?_, ?_, by simp; omega, by unfold maxLen at hm; omega, fun h => by cases h⟩
    · intro v hv
      obtain ⟨z, hz1, rfl⟩ := List.mem_map.1 hv
      have := hnn z (List.mem_of_mem_take hz1)
      omega
    · intro j hj
      simp at hj
      have hjz : j < zs.length := by omega
      have hc := hcell j hjz
      obtain ⟨b, off, spot⟩ := x
      have hc0 := hcell 0 (by omega)
      have hspot : spot = none := by simpa [Addr.add] using World.cell?_spot hc0
      subst hspot
      have hc' : W.cell? ⟨b, off + j, none⟩ = some (.int .u64 (zs.getD j 0)) := by rw [Addr.add_lit] at hc; exact hc
      refine ⟨b, off, rfl, World.block_lt_of_cell? W _ hc', ?_⟩
      rw [hc']
      have h0 := hnn (zs[j]) (List.getElem_mem hjz)
      have hj2 : j < len := by omega
      simp [List.getD, hjz, hj2, Int.toNat_of_nonneg h0.1]
end Go.Proofs.Ytjoacfjbdpmgpaa.V
