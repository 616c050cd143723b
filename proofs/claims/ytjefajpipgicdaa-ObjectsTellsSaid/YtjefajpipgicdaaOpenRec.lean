/-
  How arguments are opened that are slices of records: of shapes, of objects, of raw objects; and a raw object alone.
-/
import Derived.Test.YtjefajpipgicdaaOpen
import Derived.Test.YtjefajpipgicdaaOpenSh
import Derived.Test.YtjefajpipgicdaaORaw
import Derived.Deep.Slices
set_option linter.unusedVariables false
namespace Go.Proofs.Ytjefajpipgicdaa.V
open Go.ChangeShapes Go.WideShapes Go.ChangeAt Go.RowKit

theorem pick_fun {α : Type} [Inhabited α] {Q : Nat → α → Prop} {m : Nat} (h : ∀ i, i < m → ∃ r, Q i r) : ∃ f : Nat → α, ∀ i, i < m → Q i (f i) := by
  have h2 : ∀ i, ∃ r, i < m → Q i r := fun i => by
    by_cases hi : i < m
    · obtain ⟨r, hr⟩ := h i hi
      exact ⟨r, fun _ => hr⟩
    · exact ⟨default, fun hh => absurd hh hi⟩
  exact ⟨fun i => Classical.choose (h2 i), fun i => Classical.choose_spec (h2 i)⟩
theorem open_recs {α : Type} [Inhabited α] {c : α → List Value} {n : Nat} (hn : 0 < n) {R : α → Prop} {H : Type} {enc : TypeId × Value → H} {W : World} {t e : TypeId} (ht : Try.prog.underlying t = some (.slice e)) (hC : Try.prog.cellsOf e = n)
    (dec : ∀ fuel cs x, DataW.trod enc Try.prog W 0 (fun _ => true) true fuel e cs = some x → cs.length = n → ∃ r, cs = c r ∧ R r)
    {a : Option Addr} {len cap : Nat} {d : DataW H} {p : List MemPlace} (h : DataW.Trod enc Try.prog W 0 (fun _ => true) true t (.slice a len cap) d p) :
    ∃ l : List α, len = l.length ∧ Rw c n W a l ∧ (∀ r ∈ l, R r) ∧ l.length ≤ cap ∧ cap ≤ 9223372036854775807 ∧ (a = none → cap = 0) := by
  obtain ⟨fuel, hf⟩ := h
  rcases Go.Deep.open_slice ht hf with ⟨hcs, _⟩ | ⟨ad, l0, c0, m, k, D, Pl, hcs, _, hl, hm, hmm, _, hi⟩
  · simp [Value.cells] at hcs
    obtain ⟨rfl, rfl, rfl⟩ := hcs
    exact ⟨[], rfl, Rw.nil _ _, by simp, by simp, by omega, fun _ => rfl⟩
  · simp [Value.cells] at hcs
    obtain ⟨rfl, rfl, rfl⟩ := hcs
    simp only [if_true] at hmm
    subst hmm
    rw [hC] at hi
    obtain ⟨f, hfn⟩ := pick_fun (α := α) (m := len) (Q := fun i r => (∀ j v, (c r)[j]? = some v → W.cell? ((ad.add (i * n)).add j) = some v) ∧ (c r).length = n ∧ R r) (fun i hlt => by
      obtain ⟨cs', hc, htr⟩ := hi i (by omega)
      obtain ⟨_, hcl, hat⟩ := World.cells?_some hc
      obtain ⟨r, hr, hp⟩ := dec k cs' _ htr hcl
      subst hr
      exact ⟨r, fun j v hj => by rw [hat j (by rw [← hcl]; exact (List.getElem?_eq_some_iff.1 hj).1), hj], hcl, hp⟩)
    refine ⟨(List.range len).map f, by simp, fun j x hj => ?_, ?_, by simpa using hl, by unfold maxLen at hm; omega, fun h => by cases h⟩
    · have hjl : j < len := by
        have := (List.getElem?_eq_some_iff.1 hj).1
        simpa using this
      have hx : f j = x := by simpa [hjl] using hj
      subst hx
      obtain ⟨h1, h2, _⟩ := hfn j hjl
      obtain ⟨b, off, spot⟩ := ad
      obtain ⟨v0, hv0⟩ : ∃ v0, (c (f j))[0]? = some v0 := ⟨_, List.getElem?_eq_getElem (by omega)⟩
      have hc0 := h1 0 v0 hv0
      obtain ⟨u1, u2, _⟩ := hfn 0 (by omega)
      obtain ⟨v1, hv1⟩ : ∃ v1, (c (f 0))[0]? = some v1 := ⟨_, List.getElem?_eq_getElem (by omega)⟩
      have hspot : spot = none := by
        have := World.cell?_spot (u1 0 v1 hv1)
        simpa [Addr.add] using this
      subst hspot
      rw [Addr.add_lit, Addr.add_lit] at hc0
      refine ⟨b, off, rfl, World.block_lt_of_cell? W _ hc0, fun i v hiv => ?_⟩
      have := h1 i v hiv
      rw [Addr.add_lit, Addr.add_lit, Nat.add_assoc] at this
      exact this
    · intro r hr
      obtain ⟨i, hi2, rfl⟩ := List.mem_map.1 hr
      exact (hfn i (by simpa using hi2)).2.2

theorem open_us_cs {H : Type} {enc : TypeId × Value → H} {W : World} {fuel : Nat} {cs : List Value} {x : DataW H × List MemPlace} (h : DataW.trod enc Try.prog W 0 (fun _ => true) true fuel 22 cs = some x) :
    ∃ (ao : Option Addr) (cap : Nat) (zs : List Nat), cs = [.slice ao zs.length cap] ∧ (∀ v ∈ zs, v < 2 ^ 64) ∧ Us W ao zs ∧ zs.length ≤ cap ∧ cap ≤ 9223372036854775807 ∧ (ao = none → cap = 0) := by
  have hcs : ∃ a l c, cs = [.slice a l c] := by
    rcases open_ints Try.underlying22 Try.underlying24 (by kernel_rfl) h with ⟨h1, _⟩ | ⟨a, l, c, _, h1, _⟩
    · exact ⟨_, _, _, h1⟩
    · exact ⟨_, _, _, h1⟩
  obtain ⟨a, l, c, rfl⟩ := hcs
  obtain ⟨zs, rfl, h1, h2, h3, h4, h5⟩ := open_us (d := x.1) (p := x.2) ⟨fuel, h⟩
  exact ⟨a, c, zs, rfl, h1, h2, h3, h4, h5⟩

theorem dec_sh {H : Type} {enc : TypeId × Value → H} {W : World} (fuel : Nat) (cs : List Value) (x : DataW H × List MemPlace) (h : DataW.trod enc Try.prog W 0 (fun _ => true) true fuel 28 cs = some x) (hl : cs.length = 2) :
    ∃ r : Shp, cs = sc r ∧ (-9223372036854775808 ≤ r.1 ∧ r.1 ≤ 9223372036854775807) ∧ (-9223372036854775808 ≤ r.2 ∧ r.2 ≤ 9223372036854775807) := by
  match cs, hl with
  | [c0, c1], _ =>
    obtain ⟨xs, n, _, _, _, hlen, hg⟩ := DataW.trod_struct Try.underlying28 h
    have k1 : Try.prog.cellsOf 3 = 1 := by kernel_rfl
    have hlen2 : xs.length = 2 := by simpa using hlen
    match xs, hlen2 with
    | [y0, y1], _ =>
      obtain ⟨a, e0, _, w0⟩ := DataW.trod_int (x := y0) Try.underlying3 (by simpa [k1] using hg 0 _ rfl)
      obtain ⟨b, e1, _, w1⟩ := DataW.trod_int (x := y1) Try.underlying3 (by simpa [k1] using hg 1 _ rfl)
      have b0 := bounds_i64 w0
      have b1 := bounds_i64 w1
      exact ⟨(a, b), by simp at e0 e1; rw [e0, e1]; rfl, ⟨by simp; omega, by simp; omega⟩, ⟨by simp; omega, by simp; omega⟩⟩
theorem dec_ob {H : Type} {enc : TypeId × Value → H} {W : World} (fuel : Nat) (cs : List Value) (x : DataW H × List MemPlace) (h : DataW.trod enc Try.prog W 0 (fun _ => true) true fuel 53 cs = some x) (hl : cs.length = 5) :
    ∃ r : Ob, cs = oc r ∧ True := by
  match cs, hl with
  | [c0, c1, c2, c3, c4], _ =>
    obtain ⟨xs, n, _, _, _, hlen, hg⟩ := DataW.trod_struct Try.underlying53 h
    have k1 : Try.prog.cellsOf 3 = 1 := by kernel_rfl
    have k2 : Try.prog.cellsOf 4 = 1 := by kernel_rfl
    have k3 : Try.prog.cellsOf 24 = 1 := by kernel_rfl
    have k4 : Try.prog.cellsOf 28 = 2 := by kernel_rfl
    have hlen2 : xs.length = 4 := by simpa using hlen
    match xs, hlen2 with
    | [y0, y1, y2, y3], _ =>
      obtain ⟨a, e0, _, w0⟩ := DataW.trod_int (x := y0) Try.underlying3 (by simpa [k1] using hg 0 _ rfl)
      obtain ⟨sh, e1, _, _⟩ := dec_sh n [c1, c2] y1 (by simpa [k4] using hg 1 _ rfl) rfl
      obtain ⟨g, e2, _⟩ := DataW.trod_bool (x := y2) Try.underlying4 (by simpa [k2] using hg 2 _ rfl)
      obtain ⟨t, e3, _, w3⟩ := DataW.trod_int (x := y3) Try.underlying24 (by simpa [k3] using hg 3 _ rfl)
      obtain ⟨tg, rfl, _⟩ := nat_u64 w3
      refine ⟨⟨a, sh.1, sh.2, g, tg⟩, ?_, trivial⟩
      simp [sc] at e0 e1 e2 e3
      rw [e0, e1.1, e1.2, e2, e3]
      rfl
theorem dec_raw {H : Type} {enc : TypeId × Value → H} {W : World} (fuel : Nat) (cs : List Value) (x : DataW H × List MemPlace) (h : DataW.trod enc Try.prog W 0 (fun _ => true) true fuel 50 cs = some x) (hl : cs.length = 4) :
    ∃ r : RawV, cs = rc r ∧ r.ok W := by
  match cs, hl with
  | [c0, c1, c2, c3], _ =>
    obtain ⟨xs, n, _, _, _, hlen, hg⟩ := DataW.trod_struct Try.underlying50 h
    have k1 : Try.prog.cellsOf 3 = 1 := by kernel_rfl
    have k2 : Try.prog.cellsOf 4 = 1 := by kernel_rfl
    have k3 : Try.prog.cellsOf 22 = 1 := by kernel_rfl
    have hlen2 : xs.length = 4 := by simpa using hlen
    match xs, hlen2 with
    | [y0, y1, y2, y3], _ =>
      obtain ⟨a, e0, _, w0⟩ := DataW.trod_int (x := y0) Try.underlying3 (by simpa [k1] using hg 0 _ rfl)
      obtain ⟨b, e1, _, w1⟩ := DataW.trod_int (x := y1) Try.underlying3 (by simpa [k1] using hg 1 _ rfl)
      obtain ⟨ao, cap, zs, e2, u1, u2, u3, u4, u5⟩ := open_us_cs (x := y2) (by simpa [k3] using hg 2 _ rfl)
      obtain ⟨g, e3, _⟩ := DataW.trod_bool (x := y3) Try.underlying4 (by simpa [k2] using hg 3 _ rfl)
      have b0 := bounds_i64 w0
      have b1 := bounds_i64 w1
      refine ⟨⟨a, b, ao, cap, zs, g⟩, ?_, ⟨by simp; omega, by simp; omega⟩, ⟨by simp; omega, by simp; omega⟩, u1, u2, u3, u4, u5⟩
      simp at e0 e1 e2 e3
      rw [e0, e1, e2, e3]
      rfl
theorem open_raw {H : Type} {enc : TypeId × Value → H} {W : World} {base : Nat} {v : Value} {d : DataW H} {p : List MemPlace} (hval : Value.okWide Try.prog W .any base 50 v)
    (h : DataW.Trod enc Try.prog W 0 (fun _ => true) true 50 v d p) : ∃ r : RawV, v = .agg #[.int .i64 r.size, .int .i64 r.ptrs, .slice r.ao r.zs.length r.cap, .bool r.gone] ∧ r.ok W := by
  obtain ⟨cs, rfl, hsz⟩ := okWide_struct Try.underlying50 hval
  have kC : Try.prog.cellsOf 50 = 4 := by kernel_rfl
  obtain ⟨fuel, hf⟩ := h
  obtain ⟨r, hr, hok⟩ := dec_raw fuel cs.toList _ hf (by simpa [kC] using hsz)
  refine ⟨r, ?_, hok⟩
  obtain ⟨l⟩ := cs
  simp at hr
  rw [hr]
  rfl
end Go.Proofs.Ytjefajpipgicdaa.V
