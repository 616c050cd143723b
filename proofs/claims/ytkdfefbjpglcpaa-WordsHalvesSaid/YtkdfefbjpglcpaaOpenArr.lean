/-
  How an argument that is an array of eight bytes is opened.
-/
import Derived.Test.YtkdfefbjpglcpaaOpen
set_option linter.unusedVariables false
namespace Go.Proofs.Ytkdfefbjpglcpaa.V
open Go.ChangeShapes Go.WideShapes Go.ChangeAt Go.RowKit

theorem cellsArr8 : Try.prog.cellsOf 41 = 8 := by kernel_rfl
theorem cellsU8 : Try.prog.cellsOf 5 = 1 := by kernel_rfl
theorem bytes_list : ∀ cs : List Value, (∀ c ∈ cs, ∃ b : UInt8, c = B b) → ∃ bs : List UInt8, cs = bs.map B
  | [], _ => ⟨[], rfl⟩
  | c :: r, h => by
    obtain ⟨b, rfl⟩ := h c (by simp)
    obtain ⟨bs, rfl⟩ := bytes_list r (fun x hx => h x (by simp [hx]))
    exact ⟨b :: bs, rfl⟩
theorem open_arr8 {H : Type} {enc : TypeId × Value → H} {W : World} {base : Nat} {v : Value} {d : DataW H} {p : List MemPlace} (hval : Value.okWide Try.prog W .any base 41 v)
    (h : DataW.Trod enc Try.prog W 0 (fun _ => true) true 41 v d p) : ∃ bs : List UInt8, bs.length = 8 ∧ v = .agg (bs.map B).toArray := by
  obtain ⟨cs, rfl, hsz, _⟩ : ∃ cs, v = .agg cs ∧ cs.size = Try.prog.cellsOf 41 ∧ Row.okWide Try.prog W .any base 41 cs := by
    simpa [Value.okWide, Try.underlying41] using hval
  rw [cellsArr8] at hsz
  obtain ⟨fuel, hf⟩ := h
  obtain ⟨xs, m, _, _, _, hlen, hx⟩ := DataW.trod_array Try.underlying41 hf
  have hall : ∀ c ∈ cs.toList, ∃ b : UInt8, c = B b := by
    intro c hc
    obtain ⟨i, hi, rfl⟩ := List.mem_iff_getElem.1 hc
    have hi8 : i < 8 := by simp at hi; omega
    have h1 := hx i hi8
    rw [cellsU8, Nat.mul_one, List.getElem?_eq_getElem (by omega)] at h1
    have h2 : ((Value.agg cs).cells.toList.drop i).take 1 = [cs.toList[i]] := by
      show (cs.toList.drop i).take 1 = _
      rw [List.drop_eq_getElem_cons hi]
      rfl
    rw [h2] at h1
    obtain ⟨n, e0, _, w0⟩ := DataW.trod_int Try.underlying5 h1
    have h3 : cs.toList[i] = .int .u8 n := by simpa using e0
    obtain ⟨b, hb⟩ := nat_u8 w0
    exact ⟨b, by rw [h3, hb]; rfl⟩
  obtain ⟨bs, hbs⟩ := bytes_list cs.toList hall
  refine ⟨bs, ?_, ?_⟩
  · have := congrArg List.length hbs
    simp at this; omega
  · rw [← hbs]
end Go.Proofs.Ytkdfefbjpglcpaa.V
