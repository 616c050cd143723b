/-
  How arguments are opened that are places, layouts, and arrays of six numbers.
-/
import Derived.Test.YtifmlmbbmlnpmaaOpen
import Derived.Test.YtifmlmbbmlnpmaaPlCnt
import Derived.Lib.SmallJoins
set_option linter.unusedVariables false
namespace Go.Proofs.Ytifmlmbbmlnpmaa.V
open Go.ChangeShapes Go.WideShapes Go.ChangeAt Go.RowKit

theorem open_place {H : Type} {enc : TypeId × Value → H} {W : World} {base : Nat} {v : Value} {d : DataW H} {p : List MemPlace} (hval : Value.okWide Try.prog W .any base 27 v)
    (h : DataW.Trod enc Try.prog W 0 (fun _ => true) true 27 v d p) :
    ∃ a b : Int, v = .agg #[.int .i64 a, .int .i64 b] ∧ i64 a ∧ i64 b := by
  obtain ⟨v0, v1, y0, y1, n, rfl, _, _, h0, h1⟩ := Go.Joins.open_agg2 Try.underlying27 (by kernel_rfl) (by kernel_rfl) hval h
  obtain ⟨a, e0, _, w0⟩ := DataW.trod_int Try.underlying3 h0
  obtain ⟨b, e1, _, w1⟩ := DataW.trod_int Try.underlying3 h1
  have e0' : v0 = .int .i64 a := by simpa using e0
  have e1' : v1 = .int .i64 b := by simpa using e1
  have := bounds_i64 w0
  have := bounds_i64 w1
  exact ⟨a, b, by rw [e0', e1'], ⟨by omega, by omega⟩, ⟨by omega, by omega⟩⟩
theorem dec_lo {H : Type} {enc : TypeId × Value → H} {W : World} (fuel : Nat) (cs : List Value) (x : DataW H × List MemPlace) (h : DataW.trod enc Try.prog W 0 (fun _ => true) true fuel 24 cs = some x) (hl : cs.length = 7) :
    ∃ l : Lo, cs = loc l ∧ l.bd := by
  match cs, hl with
  | [c0, c1, c2, c3, c4, c5, c6], _ =>
    obtain ⟨xs, n, _, _, _, hlen, hg⟩ := DataW.trod_struct Try.underlying24 h
    have k1 : Try.prog.cellsOf 3 = 1 := by kernel_rfl
    have k3 : Try.prog.cellsOf 22 = 1 := by kernel_rfl
    have hlen2 : xs.length = 7 := by simpa using hlen
    match xs, hlen2 with
    | [y0, y1, y2, y3, y4, y5, y6], _ =>
      obtain ⟨a, e0, _, w0⟩ := DataW.trod_int (x := y0) Try.underlying22 (by simpa [k1, k3] using hg 0 _ rfl)
      obtain ⟨a1, e1, _, w1⟩ := DataW.trod_int (x := y1) Try.underlying3 (by simpa [k1, k3] using hg 1 _ rfl)
      obtain ⟨a2, e2, _, w2⟩ := DataW.trod_int (x := y2) Try.underlying3 (by simpa [k1, k3] using hg 2 _ rfl)
      obtain ⟨a3, e3, _, w3⟩ := DataW.trod_int (x := y3) Try.underlying3 (by simpa [k1, k3] using hg 3 _ rfl)
      obtain ⟨a4, e4, _, w4⟩ := DataW.trod_int (x := y4) Try.underlying3 (by simpa [k1, k3] using hg 4 _ rfl)
      obtain ⟨a5, e5, _, w5⟩ := DataW.trod_int (x := y5) Try.underlying3 (by simpa [k1, k3] using hg 5 _ rfl)
      obtain ⟨a6, e6, _, w6⟩ := DataW.trod_int (x := y6) Try.underlying3 (by simpa [k1, k3] using hg 6 _ rfl)
      obtain ⟨b, rfl, hb⟩ := nat_u64 w0
      have b1 := bounds_i64 w1
      have b2 := bounds_i64 w2
      have b3 := bounds_i64 w3
      have b4 := bounds_i64 w4
      have b5 := bounds_i64 w5
      have b6 := bounds_i64 w6
      refine ⟨⟨b, a1, a2, a3, a4, a5, a6⟩, ?_, ?_⟩
      · simp at e0 e1 e2 e3 e4 e5 e6
        rw [e0, e1, e2, e3, e4, e5, e6]
        rfl
      · unfold Lo.bd; dsimp only; omega
theorem open_lo {H : Type} {enc : TypeId × Value → H} {W : World} {base : Nat} {v : Value} {d : DataW H} {p : List MemPlace} (hval : Value.okWide Try.prog W .any base 24 v)
    (h : DataW.Trod enc Try.prog W 0 (fun _ => true) true 24 v d p) : ∃ l : Lo, v = .agg #[.int .u64 (l.base : Int), .int .i64 l.cap, .int .i64 l.to, .int .i64 l.low, .int .i64 l.high, .int .i64 l.old, .int .i64 l.far] ∧ l.bd := by
  obtain ⟨cs, rfl, hsz⟩ := okWide_struct Try.underlying24 hval
  have kC : Try.prog.cellsOf 24 = 7 := by kernel_rfl
  obtain ⟨fuel, hf⟩ := h
  obtain ⟨l, hl, hok⟩ := dec_lo fuel cs.toList _ hf (by simpa [kC] using hsz)
  refine ⟨l, ?_, hok⟩
  obtain ⟨cs⟩ := cs
  simp at hl
  rw [hl]
  rfl
theorem ints6 (cs : List Value) (hl : cs.length = 6) (h : ∀ c ∈ cs, ∃ z : Int, c = .int .i64 z ∧ i64 z) :
    ∃ n0 n1 n2 n3 n4 n5 : Int, cs = [.int .i64 n0, .int .i64 n1, .int .i64 n2, .int .i64 n3, .int .i64 n4, .int .i64 n5] ∧ i64 n0 ∧ i64 n1 ∧ i64 n2 ∧ i64 n3 ∧ i64 n4 ∧ i64 n5 := by
  match cs, hl with
  | [c0, c1, c2, c3, c4, c5], _ =>
    obtain ⟨z0, rfl, h0⟩ := h c0 (by simp)
    obtain ⟨z1, rfl, h1⟩ := h c1 (by simp)
    obtain ⟨z2, rfl, h2⟩ := h c2 (by simp)
    obtain ⟨z3, rfl, h3⟩ := h c3 (by simp)
    obtain ⟨z4, rfl, h4⟩ := h c4 (by simp)
    obtain ⟨z5, rfl, h5⟩ := h c5 (by simp)
    exact ⟨z0, z1, z2, z3, z4, z5, rfl, h0, h1, h2, h3, h4, h5⟩
theorem open_arr6 {H : Type} {enc : TypeId × Value → H} {W : World} {base : Nat} {v : Value} {d : DataW H} {p : List MemPlace} (hval : Value.okWide Try.prog W .any base 25 v)
    (h : DataW.Trod enc Try.prog W 0 (fun _ => true) true 25 v d p) :
    ∃ n0 n1 n2 n3 n4 n5 : Int, v = .agg #[.int .i64 n0, .int .i64 n1, .int .i64 n2, .int .i64 n3, .int .i64 n4, .int .i64 n5] ∧ i64 n0 ∧ i64 n1 ∧ i64 n2 ∧ i64 n3 ∧ i64 n4 ∧ i64 n5 := by
  obtain ⟨cs, rfl, hsz, _⟩ : ∃ cs, v = .agg cs ∧ cs.size = Try.prog.cellsOf 25 ∧ Row.okWide Try.prog W .any base 25 cs := by
    simpa [Value.okWide, Try.underlying25] using hval
  have k6 : Try.prog.cellsOf 25 = 6 := by kernel_rfl
  have k1 : Try.prog.cellsOf 3 = 1 := by kernel_rfl
  rw [k6] at hsz
  obtain ⟨fuel, hf⟩ := h
  obtain ⟨xs, m, _, _, _, hlen, hx⟩ := DataW.trod_array Try.underlying25 hf
  have hall : ∀ c ∈ cs.toList, ∃ z : Int, c = .int .i64 z ∧ i64 z := by
    intro c hc
    obtain ⟨i, hi, rfl⟩ := List.mem_iff_getElem.1 hc
    have hi6 : i < 6 := by simp at hi; omega
    have h1 := hx i hi6
    rw [k1, Nat.mul_one, List.getElem?_eq_getElem (by omega)] at h1
    have h2 : ((Value.agg cs).cells.toList.drop i).take 1 = [cs.toList[i]] := by
      show (cs.toList.drop i).take 1 = _
      rw [List.drop_eq_getElem_cons hi]
      rfl
    rw [h2] at h1
    obtain ⟨z, e0, _, w0⟩ := DataW.trod_int Try.underlying3 h1
    have h3 : cs.toList[i] = .int .i64 z := by simpa using e0
    have := bounds_i64 w0
    exact ⟨z, h3, ⟨by omega, by omega⟩⟩
  obtain ⟨n0, n1, n2, n3, n4, n5, hcs, hb⟩ := ints6 cs.toList (by simpa using hsz) hall
  refine ⟨n0, n1, n2, n3, n4, n5, ?_, hb⟩
  obtain ⟨cs⟩ := cs
  simp at hcs
  rw [hcs]
end Go.Proofs.Ytifmlmbbmlnpmaa.V
