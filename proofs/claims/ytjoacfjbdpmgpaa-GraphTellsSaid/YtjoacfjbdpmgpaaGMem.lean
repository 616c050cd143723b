/-
  Graphs in memory: nodes whose lists are slices, and roots.
-/
import Derived.Test.YtjoacfjbdpmgpaaGKeeps
import Derived.Test.YtjoacfjbdpmgpaaInts
import Derived.Test.YtjoacfjbdpmgpaaHRef
set_option linter.unusedVariables false
namespace Go.Proofs.Ytjoacfjbdpmgpaa.V
open Go.RowKit

/-- A node, with where its lists lie. -/
structure NdV where
  pa : Option Addr
  pcap : Nat
  ptrs : List Int
  da : Option Addr
  dcap : Nat
  data : List Nat
deriving Inhabited
def nc (x : NdV) : List Value := [.slice x.pa x.ptrs.length x.pcap, .slice x.da x.data.length x.dcap]
theorem nc_len (x : NdV) : (nc x).length = 2 := rfl
theorem nc_one (x : NdV) : ∀ u ∈ nc x, u.oneCell' = true := by intro u hu; simp [nc] at hu; rcases hu with rfl | rfl <;> rfl
def NdV.nd (x : NdV) : Nd := ⟨x.ptrs, x.data⟩
def ib (p : Int) : Prop := -9223372036854775808 ≤ p ∧ p ≤ 9223372036854775807
/-- Its lists hold what is said. -/
structure NdV.ok (w : World) (x : NdV) : Prop where
  p : Rw ic 1 w x.pa x.ptrs
  d : Us w x.da x.data
  pl : x.ptrs.length ≤ x.pcap
  dl : x.data.length ≤ x.dcap
  pc : x.pcap ≤ 9223372036854775807
  dc : x.dcap ≤ 9223372036854775807
  pn : x.pa = none → x.pcap = 0
  dn : x.da = none → x.dcap = 0
  pb : ∀ p ∈ x.ptrs, ib p
  db : ∀ v ∈ x.data, v < 2 ^ 64
theorem NdV.ok.below {w w' : World} {x : NdV} {S : Nat} (h : x.ok w) (hS : w.heap.size ≤ S) (hb : Below S w w') : x.ok w' :=
  ⟨h.p.below hS hb, h.d.below hS hb, h.pl, h.dl, h.pc, h.dc, h.pn, h.dn, h.pb, h.db⟩
/-- A graph, with where its lists lie. -/
structure GV where
  na : Option Addr
  ncap : Nat
  nodes : List NdV
  ra : Option Addr
  rcap : Nat
  roots : List Int
deriving Inhabited
def gc (g : GV) : List Value := [.slice g.na g.nodes.length g.ncap, .slice g.ra g.roots.length g.rcap]
theorem gc_len (x : GV) : (gc x).length = 2 := rfl
theorem gc_one (x : GV) : ∀ u ∈ gc x, u.oneCell' = true := by intro u hu; simp [gc] at hu; rcases hu with rfl | rfl <;> rfl
def GV.gr (g : GV) : Gr := ⟨g.nodes.map NdV.nd, g.roots⟩
structure GV.ok (w : World) (g : GV) : Prop where
  n : Rw nc 2 w g.na g.nodes
  k : ∀ x ∈ g.nodes, x.ok w
  r : Rw ic 1 w g.ra g.roots
  nl : g.nodes.length ≤ g.ncap
  rl : g.roots.length ≤ g.rcap
  ncp : g.ncap ≤ 9223372036854775807
  rcp : g.rcap ≤ 9223372036854775807
  nn : g.na = none → g.ncap = 0
  rn : g.ra = none → g.rcap = 0
  rb : ∀ p ∈ g.roots, ib p
theorem GV.ok.below {w w' : World} {g : GV} {S : Nat} (h : g.ok w) (hS : w.heap.size ≤ S) (hb : Below S w w') : g.ok w' :=
  ⟨h.n.below hS hb, fun x hx => (h.k x hx).below hS hb, h.r.below hS hb, h.nl, h.rl, h.ncp, h.rcp, h.nn, h.rn, h.rb⟩
/-- No list of it is too long for any machine. -/
structure GV.sm (g : GV) : Prop where
  n : g.nodes.length ≤ 1000000
  k : ∀ x ∈ g.nodes, x.ptrs.length ≤ 1000000 ∧ x.data.length ≤ 1000000
  r : g.roots.length ≤ 1000000
theorem nd_cells {w : World} {ao : Option Addr} {l : List NdV} (h : Rw nc 2 w ao l) {k : Nat} {x : NdV} (hk : l[k]? = some x) : ∃ b off, ao = some ⟨b, off, none⟩ ∧ b < w.heap.size ∧ w.cell? ⟨b, off + k * 2, none⟩ = some (.slice x.pa x.ptrs.length x.pcap) ∧ w.cell? ⟨b, off + k * 2 + 1, none⟩ = some (.slice x.da x.data.length x.dcap) := by
  obtain ⟨b, off, rfl, hb, hc⟩ := h k x hk
  exact ⟨b, off, rfl, hb, by simpa using hc 0 _ rfl, by simpa [Nat.add_assoc] using hc 1 _ rfl⟩
theorem us_cell {w : World} {ao : Option Addr} {l : List Nat} (h : Us w ao l) {k : Nat} {x : Nat} (hk : l[k]? = some x) : ∃ b off, ao = some ⟨b, off, none⟩ ∧ b < w.heap.size ∧ w.cell? ⟨b, off + k, none⟩ = some (.int .u64 (x : Int)) := by
  have hkl : k < l.length := (List.getElem?_eq_some_iff.1 hk).1
  obtain ⟨b, off, rfl, hb, hc⟩ := h k hkl
  refine ⟨b, off, rfl, hb, ?_⟩
  rw [hc]
  have : l.getD k 0 = x := by simp [List.getD, hk]
  rw [this]

theorem refIn (p : Int) (n : Nat) (R : Bool) (w : World) (hn : n ≤ 1000000) (hR : decide (gin n p) = R) : Calls Try.prog 22 #[.int .i64 p, .int .i64 (n : Int)] w fun e w' => e = .returned (.bool R) ∧ w = w' := by
  have HR := Lib.hid hR
  clear hR
  by_cases h1 : -1 ≤ p
  · have d1 : decide (-1 ≤ p) = true := by simp; omega
    by_cases h2 : p < (n : Int)
    · have d2 : decide (p < (n : Int)) = true := by simp; omega
      have HV := Lib.hid (show R = true by rw [← HR.out, decide_eq_true_iff]; exact ⟨h1, h2⟩)
      go_enter Try.func22, Try.ntmps22
      go_wp2_with fail
      go_ret
      exact ⟨by rw [HV.out]; rfl, rfl⟩
    · have d2 : decide (p < (n : Int)) = false := by simp; omega
      have HV := Lib.hid (show R = false by rw [← HR.out, decide_eq_false_iff_not]; exact fun h => h2 h.2)
      go_enter Try.func22, Try.ntmps22
      go_wp2_with fail
      go_ret
      exact ⟨by rw [HV.out]; rfl, rfl⟩
  · have d1 : decide (-1 ≤ p) = false := by simp; omega
    have HV := Lib.hid (show R = false by rw [← HR.out, decide_eq_false_iff_not]; exact fun h => h1 h.1)
    go_enter Try.func22, Try.ntmps22
    go_wp2_with fail
    go_ret
    exact ⟨by rw [HV.out]; rfl, rfl⟩
end Go.Proofs.Ytjoacfjbdpmgpaa.V
