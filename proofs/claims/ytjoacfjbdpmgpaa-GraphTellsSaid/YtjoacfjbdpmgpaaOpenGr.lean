/-
  How arguments are opened that are graphs, acts, raw nodes, slices of ints, arrays of five ints and slices of them.
-/
import Derived.Test.YtjoacfjbdpmgpaaOpenRecs
import Derived.Test.YtjoacfjbdpmgpaaGOwn
import Derived.Lib.SmallJoins
set_option linter.unusedVariables false
namespace Go.Proofs.Ytjoacfjbdpmgpaa.V
open Go.ChangeShapes Go.WideShapes Go.ChangeAt Go.RowKit

theorem dec_in {H : Type} {enc : TypeId × Value → H} {W : World} (fuel : Nat) (cs : List Value) (x : DataW H × List MemPlace) (h : DataW.trod enc Try.prog W 0 (fun _ => true) true fuel 3 cs = some x) (hl : cs.length = 1) : ∃ r : Int, cs = ic r ∧ ib r := by
  match cs, hl with
  | [c0], _ =>
    obtain ⟨z, e0, _, w0⟩ := DataW.trod_int Try.underlying3 h
    have e1 : c0 = .int .i64 z := by simpa using e0
    have := bounds_i64 w0
    exact ⟨z, by rw [e1]; rfl, by unfold ib; omega⟩
theorem open_in_cs {H : Type} {enc : TypeId × Value → H} {W : World} {fuel : Nat} {cs : List Value} {x : DataW H × List MemPlace} (h : DataW.trod enc Try.prog W 0 (fun _ => true) true fuel 23 cs = some x) :
    ∃ (ao : Option Addr) (cap : Nat) (zs : List Int), cs = [.slice ao zs.length cap] ∧ Rw ic 1 W ao zs ∧ (∀ p ∈ zs, ib p) ∧ zs.length ≤ cap ∧ cap ≤ 9223372036854775807 ∧ (ao = none → cap = 0) := by
  have hcs : ∃ a l c, cs = [.slice a l c] := by
    rcases open_ints Try.underlying23 Try.underlying3 (by kernel_rfl) h with ⟨h1, _⟩ | ⟨a, l, c, _, h1, _⟩
    · exact ⟨_, _, _, h1⟩
    · exact ⟨_, _, _, h1⟩
  obtain ⟨a, l, c, rfl⟩ := hcs
  obtain ⟨zs, rfl, h1, h2, h3, h4, h5⟩ := open_recs (by decide) Try.underlying23 (by kernel_rfl) dec_in (d := x.1) (p := x.2) (show DataW.Trod enc Try.prog W 0 (fun _ => true) true 23 (.slice a l c) x.1 x.2 from ⟨fuel, h⟩)
  exact ⟨a, c, zs, rfl, h1, h2, h3, h4, h5⟩
theorem dec_raw8 {H : Type} {enc : TypeId × Value → H} {W : World} (fuel : Nat) (cs : List Value) (x : DataW H × List MemPlace) (h : DataW.trod enc Try.prog W 0 (fun _ => true) true fuel 54 cs = some x) (hl : cs.length = 2) : ∃ r : NdV, cs = nc r ∧ r.ok W := by
  match cs, hl with
  | [c0, c1], _ =>
    obtain ⟨xs, n, _, _, _, hlen, hg⟩ := DataW.trod_struct Try.underlying54 h
    have k1 : Try.prog.cellsOf 23 = 1 := by kernel_rfl
    have k3 : Try.prog.cellsOf 34 = 1 := by kernel_rfl
    have hlen2 : xs.length = 2 := by simpa using hlen
    match xs, hlen2 with
    | [y0, y1], _ =>
      obtain ⟨pa, pcap, ps, e0, u1, u2, u3, u4, u5⟩ := open_in_cs (x := y0) (by simpa [k1] using hg 0 _ rfl)
      obtain ⟨da, dcap, ds, e1, v1, v2, v3, v4, v5⟩ := open_us_cs (x := y1) (by simpa [k1, k3] using hg 1 _ rfl)
      refine ⟨⟨pa, pcap, ps, da, dcap, ds⟩, ?_, u1, v2, u3, v3, u4, v4, u5, v5, u2, v1⟩
      simp at e0 e1
      rw [e0, e1]
      rfl
theorem dec_nd {H : Type} {enc : TypeId × Value → H} {W : World} (fuel : Nat) (cs : List Value) (x : DataW H × List MemPlace) (h : DataW.trod enc Try.prog W 0 (fun _ => true) true fuel 36 cs = some x) (hl : cs.length = 2) : ∃ r : NdV, cs = nc r ∧ r.ok W := by
  match cs, hl with
  | [c0, c1], _ =>
    obtain ⟨xs, n, _, _, _, hlen, hg⟩ := DataW.trod_struct Try.underlying36 h
    have k1 : Try.prog.cellsOf 23 = 1 := by kernel_rfl
    have k3 : Try.prog.cellsOf 34 = 1 := by kernel_rfl
    have hlen2 : xs.length = 2 := by simpa using hlen
    match xs, hlen2 with
    | [y0, y1], _ =>
      obtain ⟨pa, pcap, ps, e0, u1, u2, u3, u4, u5⟩ := open_in_cs (x := y0) (by simpa [k1] using hg 0 _ rfl)
      obtain ⟨da, dcap, ds, e1, v1, v2, v3, v4, v5⟩ := open_us_cs (x := y1) (by simpa [k1, k3] using hg 1 _ rfl)
      refine ⟨⟨pa, pcap, ps, da, dcap, ds⟩, ?_, u1, v2, u3, v3, u4, v4, u5, v5, u2, v1⟩
      simp at e0 e1
      rw [e0, e1]
      rfl
theorem open_sl_cs {H : Type} {enc : TypeId × Value → H} {W : World} {t e : TypeId} (ht : Try.prog.underlying t = some (.slice e)) {fuel : Nat} {cs : List Value} {x : DataW H × List MemPlace} (h : DataW.trod enc Try.prog W 0 (fun _ => true) true fuel t cs = some x) : ∃ a l c, cs = [.slice a l c] := by
  rcases Go.Deep.open_slice ht h with ⟨hcs, _⟩ | ⟨ad, l0, c0, m, k, D, Pl, hcs, _⟩
  · exact ⟨_, _, _, hcs⟩
  · exact ⟨_, _, _, hcs⟩
theorem open_gr {H : Type} {enc : TypeId × Value → H} {W : World} {base : Nat} {v : Value} {d : DataW H} {p : List MemPlace} (hval : Value.okWide Try.prog W .any base 25 v)
    (h : DataW.Trod enc Try.prog W 0 (fun _ => true) true 25 v d p) : ∃ (na ra : Option Addr) (nq rq : Nat) (nodes : List NdV) (roots : List Int), v = .agg #[.slice na nodes.length nq, .slice ra roots.length rq] ∧ Rw nc 2 W na nodes ∧ (∀ x ∈ nodes, x.ok W) ∧ Rw ic 1 W ra roots ∧ (∀ p ∈ roots, ib p) ∧ nodes.length ≤ nq ∧ nq ≤ 9223372036854775807 ∧ (na = none → nq = 0) ∧ roots.length ≤ rq ∧ rq ≤ 9223372036854775807 ∧ (ra = none → rq = 0) := by
  obtain ⟨v0, v1, y0, y1, n, rfl, o0, o1, h0, h1⟩ := Go.Joins.open_agg2 Try.underlying25 (by kernel_rfl) (by kernel_rfl) hval h
  obtain ⟨na, nl, nq, e0⟩ := open_sl_cs Try.underlying22 h0
  obtain ⟨ra, rl, rq, e1⟩ := open_sl_cs Try.underlying23 h1
  obtain rfl : v0 = .slice na nl nq := by simpa using e0
  obtain rfl : v1 = .slice ra rl rq := by simpa using e1
  obtain ⟨zs, rfl, a1, a2, a3, a4, a5⟩ := open_recs (by decide) Try.underlying22 (by kernel_rfl) dec_nd (d := y0.1) (p := y0.2) ⟨n, h0⟩
  obtain ⟨rs, rfl, b1, b2, b3, b4, b5⟩ := open_recs (by decide) Try.underlying23 (by kernel_rfl) dec_in (d := y1.1) (p := y1.2) ⟨n, h1⟩
  exact ⟨na, ra, nq, rq, zs, rs, rfl, a1, a2, b1, b2, a3, a4, a5, b3, b4, b5⟩
/-- Five ints. -/
structure I5 where
  n0 : Int
  n1 : Int
  n2 : Int
  n3 : Int
  n4 : Int
deriving Inhabited
def i5c (x : I5) : List Value := [.int .i64 x.n0, .int .i64 x.n1, .int .i64 x.n2, .int .i64 x.n3, .int .i64 x.n4]
def I5.ok (x : I5) : Prop := ib x.n0 ∧ ib x.n1 ∧ ib x.n2 ∧ ib x.n3 ∧ ib x.n4
theorem ints5 (cs : List Value) (hl : cs.length = 5) (h : ∀ c ∈ cs, ∃ z : Int, c = .int .i64 z ∧ ib z) : ∃ x : I5, cs = i5c x ∧ x.ok := by
  match cs, hl with
  | [c0, c1, c2, c3, c4], _ =>
    obtain ⟨z0, rfl, h0⟩ := h c0 (by simp)
    obtain ⟨z1, rfl, h1⟩ := h c1 (by simp)
    obtain ⟨z2, rfl, h2⟩ := h c2 (by simp)
    obtain ⟨z3, rfl, h3⟩ := h c3 (by simp)
    obtain ⟨z4, rfl, h4⟩ := h c4 (by simp)
    exact ⟨⟨z0, z1, z2, z3, z4⟩, rfl, h0, h1, h2, h3, h4⟩
theorem dec_i5 {H : Type} {enc : TypeId × Value → H} {W : World} (fuel : Nat) (cs : List Value) (x : DataW H × List MemPlace) (h : DataW.trod enc Try.prog W 0 (fun _ => true) true fuel 32 cs = some x) (hl : cs.length = 5) : ∃ r : I5, cs = i5c r ∧ r.ok := by
  have k1 : Try.prog.cellsOf 3 = 1 := by kernel_rfl
  obtain ⟨xs, m, _, _, _, hlen, hx⟩ := DataW.trod_array Try.underlying32 h
  refine ints5 cs hl fun c hc => ?_
  obtain ⟨i, hi, rfl⟩ := List.mem_iff_getElem.1 hc
  have hi5 : i < 5 := by omega
  have h1 := hx i hi5
  rw [k1, Nat.mul_one, List.getElem?_eq_getElem (by omega)] at h1
  have h2 : (cs.drop i).take 1 = [cs[i]] := by rw [List.drop_eq_getElem_cons hi]; rfl
  rw [h2] at h1
  obtain ⟨z, e0, _, w0⟩ := DataW.trod_int Try.underlying3 h1
  have h3 : cs[i] = .int .i64 z := by simpa using e0
  have := bounds_i64 w0
  exact ⟨z, h3, by unfold ib; omega⟩
theorem open_i5 {H : Type} {enc : TypeId × Value → H} {W : World} {base : Nat} {v : Value} {d : DataW H} {p : List MemPlace} (hval : Value.okWide Try.prog W .any base 32 v)
    (h : DataW.Trod enc Try.prog W 0 (fun _ => true) true 32 v d p) : ∃ x : I5, v = .agg #[.int .i64 x.n0, .int .i64 x.n1, .int .i64 x.n2, .int .i64 x.n3, .int .i64 x.n4] ∧ x.ok := by
  obtain ⟨cs, rfl, hsz, _⟩ : ∃ cs, v = .agg cs ∧ cs.size = Try.prog.cellsOf 32 ∧ Row.okWide Try.prog W .any base 32 cs := by
    simpa [Value.okWide, Try.underlying32] using hval
  have k5 : Try.prog.cellsOf 32 = 5 := by kernel_rfl
  rw [k5] at hsz
  obtain ⟨fuel, hf⟩ := h
  obtain ⟨x, hx, hok⟩ := dec_i5 fuel cs.toList _ hf (by simpa using hsz)
  refine ⟨x, ?_, hok⟩
  obtain ⟨cs⟩ := cs
  simp at hx
  rw [hx]
  rfl
theorem dec_sh8 {H : Type} {enc : TypeId × Value → H} {W : World} (fuel : Nat) (cs : List Value) (x : DataW H × List MemPlace) (h : DataW.trod enc Try.prog W 0 (fun _ => true) true fuel 28 cs = some x) (hl : cs.length = 2) :
    ∃ a b : Int, cs = [.int .i64 a, .int .i64 b] ∧ ib a ∧ ib b := by
  match cs, hl with
  | [c0, c1], _ =>
    obtain ⟨xs, n, _, _, _, hlen, hg⟩ := DataW.trod_struct Try.underlying28 h
    have k1 : Try.prog.cellsOf 3 = 1 := by kernel_rfl
    have hlen2 : xs.length = 2 := by simpa using hlen
    match xs, hlen2 with
    | [y0, y1], _ =>
      obtain ⟨a, e0, b0⟩ := dec_in n [c0] y0 (by simpa [k1] using hg 0 _ rfl) rfl
      obtain ⟨b, e1, b1⟩ := dec_in n [c1] y1 (by simpa [k1] using hg 1 _ rfl) rfl
      simp [ic] at e0 e1
      exact ⟨a, b, by rw [e0, e1], b0, b1⟩
theorem dec_ac {H : Type} {enc : TypeId × Value → H} {W : World} (fuel : Nat) (cs : List Value) (x : DataW H × List MemPlace) (h : DataW.trod enc Try.prog W 0 (fun _ => true) true fuel 31 cs = some x) (hl : cs.length = 7) :
    ∃ A : Ac, cs = [.int .i64 A.kind, .int .i64 A.r, .int .i64 A.s, .int .i64 A.i, .int .i64 A.size, .int .i64 A.ptrs, .int .u64 (A.v : Int)] ∧ (ib A.kind ∧ ib A.r ∧ ib A.s ∧ ib A.i ∧ ib A.size ∧ ib A.ptrs) ∧ A.v < 2 ^ 64 := by
  match cs, hl with
  | [c0, c1, c2, c3, c4, c5, c6], _ =>
    obtain ⟨xs, n, _, _, _, hlen, hg⟩ := DataW.trod_struct Try.underlying31 h
    have k1 : Try.prog.cellsOf 3 = 1 := by kernel_rfl
    have k2 : Try.prog.cellsOf 28 = 2 := by kernel_rfl
    have k3 : Try.prog.cellsOf 29 = 1 := by kernel_rfl
    have hlen2 : xs.length = 6 := by simpa using hlen
    match xs, hlen2 with
    | [y0, y1, y2, y3, y4, y5], _ =>
      obtain ⟨a0, e0, b0⟩ := dec_in n [c0] y0 (by simpa [k1, k2, k3] using hg 0 _ rfl) rfl
      obtain ⟨a1, e1, b1⟩ := dec_in n [c1] y1 (by simpa [k1, k2, k3] using hg 1 _ rfl) rfl
      obtain ⟨a2, e2, b2⟩ := dec_in n [c2] y2 (by simpa [k1, k2, k3] using hg 2 _ rfl) rfl
      obtain ⟨a3, e3, b3⟩ := dec_in n [c3] y3 (by simpa [k1, k2, k3] using hg 3 _ rfl) rfl
      obtain ⟨a4, a5, e4, b4, b5⟩ := dec_sh8 n [c4, c5] y4 (by simpa [k1, k2, k3] using hg 4 _ rfl) rfl
      obtain ⟨t, e5, _, w5⟩ := DataW.trod_int (x := y5) Try.underlying29 (by simpa [k1, k2, k3] using hg 5 _ rfl)
      obtain ⟨v, rfl, hv⟩ := nat_u64 w5
      refine ⟨⟨a0, a1, a2, a3, a4, a5, v⟩, ?_, ⟨b0, b1, b2, b3, b4, b5⟩, hv⟩
      simp [ic] at e0 e1 e2 e3 e4 e5
      rw [e0, e1, e2, e3, e4.1, e4.2, e5]
theorem open_ac {H : Type} {enc : TypeId × Value → H} {W : World} {base : Nat} {v : Value} {d : DataW H} {p : List MemPlace} (hval : Value.okWide Try.prog W .any base 31 v)
    (h : DataW.Trod enc Try.prog W 0 (fun _ => true) true 31 v d p) : ∃ A : Ac, v = .agg #[.int .i64 A.kind, .int .i64 A.r, .int .i64 A.s, .int .i64 A.i, .int .i64 A.size, .int .i64 A.ptrs, .int .u64 (A.v : Int)] ∧ (ib A.kind ∧ ib A.r ∧ ib A.s ∧ ib A.i ∧ ib A.size ∧ ib A.ptrs) ∧ A.v < 2 ^ 64 := by
  obtain ⟨cs, rfl, hsz⟩ := okWide_struct Try.underlying31 hval
  have kC : Try.prog.cellsOf 31 = 7 := by kernel_rfl
  obtain ⟨fuel, hf⟩ := h
  obtain ⟨A, hA, hok⟩ := dec_ac fuel cs.toList _ hf (by simpa [kC] using hsz)
  refine ⟨A, ?_, hok⟩
  obtain ⟨cs⟩ := cs
  simp at hA
  rw [hA]
end Go.Proofs.Ytjoacfjbdpmgpaa.V
