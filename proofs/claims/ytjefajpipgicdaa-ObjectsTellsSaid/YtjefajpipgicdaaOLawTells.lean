/-
  ObjectsTells, walked under what is asked of the program's functions.
-/
import Derived.Test.YtjefajpipgicdaaOLawBack
set_option linter.unusedVariables false
namespace Go.Proofs.Ytjefajpipgicdaa.V
open Go.RowKit

theorem walkF_len : ∀ (f pos : Nat) (ws : List Nat) (sh : List Shp) (old : Bool), (walkF f pos ws sh old).1.length ≤ ws.length
  | 0, pos, ws, sh, old => by simp [walkF]
  | f + 1, pos, [], sh, old => by unfold walkF; split <;> simp
  | f + 1, pos, w :: r, sh, old => by
    unfold walkF
    cases hh : headOf w sh old with
    | none => simp
    | some x =>
      obtain ⟨⟨s, p, g, t⟩, sh2⟩ := x
      simp only
      split
      · simp
      · split
        · have := walkF_len f (pos + 1 + s) (r.drop s) sh2 old
          rw [List.length_drop] at this
          split <;> simp_all <;> omega
        · simp
theorem walkL_len {ws : List Nat} {sh : List Shp} {old : Bool} {L : List Ob} {E : Nat} (h : walkL ws sh old = (L, E)) : L.length ≤ ws.length := by
  have := walkF_len (ws.length + 1) 0 ws sh old
  unfold walkL at h
  rw [h] at this
  exact this
theorem kindsL_len {n : Nat} {l : List Ob} {K : List Int} {E : Nat} (h : kindsL n l = (K, E)) : K.length ≤ n := by
  unfold kindsL at h
  split at h
  · split at h
    · cases h; omega
    · cases h; simp
  · cases h; simp
theorem layL_len {s p : Int} {l V : List Nat} {E : Nat} (h : layL s p l = (V, E)) : V.length ≤ l.length + 1 := by
  unfold layL at h
  split at h
  · split at h
    · cases h; simp
    · cases h; simp
  · cases h; simp

/-- A slice of words, and one of shapes, as an element of a slice. -/
structure SlU where
  ao : Option Addr
  n : Nat
  cap : Nat
  ws : List Nat
structure SlS where
  ao : Option Addr
  n : Nat
  cap : Nat
  sh : List Shp
def suc (x : SlU) : List Value := [.slice x.ao x.n x.cap]
def ssc (x : SlS) : List Value := [.slice x.ao x.n x.cap]
theorem suc_len (x : SlU) : (suc x).length = 1 := rfl
theorem ssc_len (x : SlS) : (ssc x).length = 1 := rfl
def SlU.ok (w : World) (x : SlU) : Prop := (x.ws.length = x.n ∧ x.n ≤ 3000 ∧ (∀ v ∈ x.ws, v < 2 ^ 64)) ∧ Us w x.ao x.ws ∧ x.n ≤ x.cap ∧ x.cap ≤ 9223372036854775807 ∧ (x.ao = none → x.cap = 0)
def SlS.ok (w : World) (x : SlS) : Prop := (x.sh.length = x.n ∧ x.n ≤ 3000) ∧ Rw sc 2 w x.ao x.sh ∧ x.n ≤ x.cap ∧ x.cap ≤ 9223372036854775807 ∧ (x.ao = none → x.cap = 0)
theorem SlU.ok.below {w w' : World} {x : SlU} {S : Nat} (h : x.ok w) (hS : w.heap.size ≤ S) (hb : Below S w w') : x.ok w' := ⟨h.1, h.2.1.below hS hb, h.2.2⟩
theorem SlS.ok.below {w w' : World} {x : SlS} {S : Nat} (h : x.ok w) (hS : w.heap.size ≤ S) (hb : Below S w w') : x.ok w' := ⟨h.1, h.2.1.below hS hb, h.2.2⟩

theorem SlU.mkOk {w : World} {ao : Option Addr} {n cap : Nat} {ws : List Nat} (h1 : ws.length = n) (h2 : n ≤ 3000) (h3 : ∀ v ∈ ws, v < 2 ^ 64) (h4 : Us w ao ws) (h5 : n ≤ cap) (h6 : cap ≤ 9223372036854775807) (h7 : ao = none → cap = 0) : SlU.ok w ⟨ao, n, cap, ws⟩ := ⟨⟨h1, h2, h3⟩, h4, h5, h6, h7⟩
theorem SlS.mkOk {w : World} {ao : Option Addr} {n cap : Nat} {sh : List Shp} (h1 : sh.length = n) (h2 : n ≤ 3000) (h4 : Rw sc 2 w ao sh) (h5 : n ≤ cap) (h6 : cap ≤ 9223372036854775807) (h7 : ao = none → cap = 0) : SlS.ok w ⟨ao, n, cap, sh⟩ := ⟨⟨h1, h2⟩, h4, h5, h6, h7⟩

end Go.Proofs.Ytjefajpipgicdaa.V
