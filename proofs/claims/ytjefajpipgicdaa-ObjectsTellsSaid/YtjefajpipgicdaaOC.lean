/-
  What is asked of the program's Walk, WalkOld, Kinds and Lay, as hypotheses; and the statements' fixed calls of stage 6 under them.
-/
import Derived.Test.YtjefajpipgicdaaORefLay
import Derived.Test.YtjefajpipgicdaaOSame
import Derived.Test.YtjefajpipgicdaaNums
import Derived.Test.YtjefajpipgicdaaOWords
import Derived.Test.YtjefajpipgicdaaHForms
set_option linter.unusedVariables false
namespace Go.Proofs.Ytjefajpipgicdaa.V
open Go.RowKit

def WalkC (f : FuncId) : Prop := ∀ (ao : Option Addr) (ca m : Nat) (ws : List Nat) (L : List Ob) (E : Nat) (w : World), ws.length = m → m ≤ 1000000 → (∀ v ∈ ws, v < 2 ^ 64) → Us w ao ws → m ≤ ca → ca ≤ 9223372036854775807 → (ao = none → ca = 0) → walkL ws [] false = (L, E) →
  Calls Try.prog f #[.slice ao m ca] w fun e w' => ∃ v', e = .returned (.tuple #[v', .int .i64 E]) ∧ OwnR 53 oc 5 w' w.heap.size v' L ∧ Below w.heap.size w w'
def WalkOldC (f : FuncId) : Prop := ∀ (ao bo : Option Addr) (ca cb m n : Nat) (ws : List Nat) (sh : List Shp) (L : List Ob) (E : Nat) (w : World), ws.length = m → sh.length = n → m ≤ 1000000 → n ≤ 1000000 → (∀ v ∈ ws, v < 2 ^ 64) → Us w ao ws → Rw sc 2 w bo sh → m ≤ ca → ca ≤ 9223372036854775807 → n ≤ cb → cb ≤ 9223372036854775807 → (ao = none → ca = 0) → (bo = none → cb = 0) → walkL ws sh true = (L, E) →
  Calls Try.prog f #[.slice ao m ca, .slice bo n cb] w fun e w' => ∃ v', e = .returned (.tuple #[v', .int .i64 E]) ∧ OwnR 53 oc 5 w' w.heap.size v' L ∧ Below w.heap.size w w'
def KindsC (f : FuncId) : Prop := ∀ (ao bo : Option Addr) (ca cb m n : Nat) (l : List Ob) (K : List Int) (E : Nat) (w : World), l.length = n → m ≤ 1000000 → n ≤ 1000000 → Rw oc 5 w bo l → kindsL m l = (K, E) →
  Calls Try.prog f #[.slice ao m ca, .slice bo n cb] w fun e w' => ∃ v', e = .returned (.tuple #[v', .int .i64 E]) ∧ OwnR 3 ic 1 w' w.heap.size v' K ∧ Below w.heap.size w w'
def LayC (f : FuncId) : Prop := ∀ (S0 P0 : Int) (ao : Option Addr) (cap m : Nat) (l : List Nat) (V : List Nat) (E : Nat) (w : World), l.length = m → m ≤ 1000000 → (∀ v ∈ l, v < 2 ^ 64) → Us w ao l → m ≤ cap → cap ≤ 9223372036854775807 → (ao = none → cap = 0) → layL S0 P0 l = (V, E) →
  Calls Try.prog f #[.agg #[.int .i64 S0, .int .i64 P0], .slice ao m cap] w fun e w' => ∃ v', e = .returned (.tuple #[v', .int .i64 E]) ∧ OwnU w' w.heap.size v' V ∧ Below w.heap.size w w'

/-- All that is asked. -/
structure ObjC : Prop where
  walk : WalkC 12
  old : WalkOldC 15
  kinds : KindsC 17
  lay : LayC 20

theorem OwnU.out {w : World} {S : Nat} {v : Value} {l : List Nat} {n : Nat} (h : OwnU w S v l) (hn : l.length = n) : ∃ ao cap, v = .slice ao n cap ∧ Us w ao l ∧ n ≤ cap ∧ cap ≤ 9223372036854775807 ∧ (ao = none → cap = 0) := by
  subst hn
  have h' := h
  obtain ⟨_, ⟨rfl, h0⟩ | ⟨g, cap, cur, rfl, _, _, h1, h2, _⟩⟩ := h
  · have : l = [] := List.eq_nil_of_length_eq_zero h0
    subst this
    exact ⟨none, 0, rfl, fun j hj => by simp at hj, by simp, by omega, fun _ => rfl⟩
  · obtain ⟨ao2, cap2, he, hu⟩ := OwnU.us h'
    simp only [Value.slice.injEq] at he
    obtain ⟨rfl, _, rfl⟩ := he
    exact ⟨_, _, rfl, hu, h1, by unfold maxLen at h2; omega, fun h => by cases h⟩
theorem OwnR.out {α : Type} {c : α → List Value} {k : Nat} (hc : ∀ x, (c x).length = k) {e : TypeId} {w : World} {S : Nat} {v : Value} {l : List α} {n : Nat} (h : OwnR e c k w S v l) (hn : l.length = n) : ∃ ao cap, v = .slice ao n cap ∧ Rw c k w ao l ∧ n ≤ cap ∧ cap ≤ 9223372036854775807 ∧ (ao = none → cap = 0) := by
  subst hn
  exact OwnR.rw' hc h
theorem us_lit (w : World) (l : List Nat) : Us (w.alloc (.cells (l.map U).toArray 24)) (some ⟨w.heap.size, 0, none⟩) l := by
  intro j hj
  refine ⟨_, _, rfl, by simp, ?_⟩
  rw [Nat.zero_add, World.cell?_alloc_new]
  simp [List.getD, hj, U]
theorem rw_lit {α : Type} {c : α → List Value} {n : Nat} (hc : ∀ x, (c x).length = n) (w : World) (t : TypeId) (l : List α) : Rw c n (w.alloc (.cells (l.flatMap c).toArray t)) (some ⟨w.heap.size, 0, none⟩) l := by
  intro j x hj
  refine ⟨_, _, rfl, by simp, fun i v hi => ?_⟩
  have hin : i < n := by rw [← hc x]; exact (List.getElem?_eq_some_iff.1 hi).1
  rw [Nat.zero_add, World.cell?_alloc_new]
  have := flat_at hc l j i x hj hin
  simpa [hi] using this
theorem rw_litAt {α : Type} {c : α → List Value} {n : Nat} (hc : ∀ x, (c x).length = n) (w : World) (t : TypeId) (l : List α) (g : Nat) (hg : g = w.heap.size) : Rw c n (w.alloc (.cells (l.flatMap c).toArray t)) (some ⟨g, 0, none⟩) l := by subst hg; exact rw_lit hc w t l
theorem nums_m (ao bo : Option Addr) (ca cb m n : Nat) (x y : List Nat) (w : World) (hm : x.length = m) (hn : y.length = n) (hx : m ≤ 1000000000) (hy : n ≤ 1000000000) (ha : Us w ao x) (hb : Us w bo y) :
    Calls Try.prog 22 #[.slice ao m ca, .slice bo n cb] w fun e w' => e = .returned (.bool (decide (x = y))) ∧ Below w.heap.size w w' := by
  subst hm; subst hn
  exact nums_any ao bo ca cb x y w hx hy ha hb

set_option maxRecDepth 100000 in
set_option maxHeartbeats 4000000 in
theorem awake06 (C : ObjC) (w : World) : Calls Try.prog 9 #[] w fun e w' => e = .returned (.bool true) ∧ Below w.heap.size w w' := by
  go_enter Try.func9, Try.ntmps9
  go_wp2_with fail
  have HU := Lib.hid (us_lit w [131078, 11, 5, 6])
  have HB0 := Lib.hid (ba0 w (.cells #[.int .u64 131078, .int .u64 11, .int .u64 5, .int .u64 6] 24))
  refine (C.walk _ 4 4 [131078, 11, 5, 6] [⟨0, 3, 1, false, 0⟩] 0 _ rfl (by decide) (by decide) HU.out (by decide) (by decide) (by intro h; cases h) (by decide +kernel)).mono ?_
  rintro e w1 ⟨v1, rfl, ho1, hb1⟩
  obtain ⟨a1, c1, rfl, hr1, hl1, hm1, hn1⟩ := OwnR.out oc_len (n := 1) ho1 rfl
  have HR1 := Lib.hid hr1
  have HB1 := Lib.hid hb1
  clear ho1 hr1 hb1 hn1
  go_wp2_with fail
  refine (C.kinds _ _ 4 _ 4 1 [⟨0, 3, 1, false, 0⟩] [1, 2, 3, 3] 0 _ rfl (by decide) (by decide) HR1.out (by decide +kernel)).mono ?_
  rintro e w2 ⟨v2, rfl, ho2, hb2⟩
  obtain ⟨a2, c2, rfl, hr2, hl2, hm2, hn2⟩ := OwnR.out ic_len (n := 4) ho2 rfl
  have HB2 := Lib.hid (bt (bt HB0.out HB1.out) hb2)
  have HU2 := Lib.hid ((HU.out.below (Nat.le_refl _) HB1.out).below (Nat.le_refl _) hb2)
  have HR2 := Lib.hid (HR1.out.below (Nat.le_refl _) hb2)
  have HK2 := Lib.hid hr2
  clear ho2 hr2 hb2 hn2 HU HR1 HB0 HB1
  go_wp2_with fail
  refine (C.walk _ 4 3 [131078, 11, 5] [] 2 _ rfl (by decide) (by decide) (HU2.out.take 3) (by decide) (by decide) (by intro h; cases h) (by decide +kernel)).mono ?_
  rintro e w3 ⟨v3, rfl, ho3, hb3⟩
  have HB3 := Lib.hid (bt HB2.out hb3)
  have HU3 := Lib.hid (HU2.out.below (Nat.le_refl _) hb3)
  have HR3 := Lib.hid (HR2.out.below (Nat.le_refl _) hb3)
  have HK3 := Lib.hid (HK2.out.below (Nat.le_refl _) hb3)
  clear ho3 hb3 HB2 HU2 HR2 HK2
  go_wp2_with fail
  refine (C.walk _ 4 4 [131078, 10, 5, 6] [] 3 _ rfl (by decide) (by decide) (us_lit w3 [131078, 10, 5, 6]) (by decide) (by decide) (by intro h; cases h) (by decide +kernel)).mono ?_
  rintro e w4 ⟨v4, rfl, ho4, hb4'⟩
  have hb4 : Below w3.heap.size w3 w4 := bt (ba0 w3 _) hb4'
  have HB4 := Lib.hid (bt HB3.out hb4)
  have HU4 := Lib.hid (HU3.out.below (Nat.le_refl _) hb4)
  have HR4 := Lib.hid (HR3.out.below (Nat.le_refl _) hb4)
  have HK4 := Lib.hid (HK3.out.below (Nat.le_refl _) hb4)
  clear ho4 hb4 hb4' HB3 HU3 HR3 HK3
  go_wp2_with fail
  refine (C.old _ _ 4 1 4 1 [9, 0, 2, 8] [(1, 0)] [⟨0, 1, 0, true, 4⟩, ⟨2, 1, 0, false, 0⟩] 0 _ rfl rfl (by decide) (by decide) (by decide) ((us_lit w4 [9, 0, 2, 8]).below (Nat.le_refl _) (ba0 _ _)) (rw_litAt sc_len _ _ [((1 : Int), (0 : Int))] (w4.heap.size + 1) (by simp)) (by decide) (by decide) (by decide) (by decide) (by intro h; cases h) (by intro h; cases h) (by decide +kernel)).mono ?_
  rintro e w5 ⟨v5, rfl, ho5, hb5'⟩
  obtain ⟨a5, c5, rfl, hr5, hl5, hm5, hn5⟩ := OwnR.out oc_len (n := 2) ho5 rfl
  have hb5 : Below w4.heap.size w4 w5 := bt (ba (ba0 w4 _) _) hb5'
  have HB5 := Lib.hid (bt HB4.out hb5)
  have HU5 := Lib.hid (HU4.out.below (Nat.le_refl _) hb5)
  have HR5 := Lib.hid (HR4.out.below (Nat.le_refl _) hb5)
  have HK5 := Lib.hid (HK4.out.below (Nat.le_refl _) hb5)
  have HM5 := Lib.hid hr5
  clear ho5 hr5 hb5 hb5' hn5 HB4 HU4 HR4 HK4
  go_wp2_with fail
  refine (C.old _ none 1 0 1 0 [9] [] [] 3 _ rfl rfl (by decide) (by decide) (by decide) (us_lit w5 [9]) (Rw.nil _ _) (by decide) (by decide) (by decide) (by decide) (by intro h; cases h) (fun _ => rfl) (by decide +kernel)).mono ?_
  rintro e w6 ⟨v6, rfl, ho6, hb6'⟩
  have hb6 : Below w5.heap.size w5 w6 := bt (ba0 w5 _) hb6'
  have HB6 := Lib.hid (bt HB5.out hb6)
  have HU6 := Lib.hid (HU5.out.below (Nat.le_refl _) hb6)
  have HR6 := Lib.hid (HR5.out.below (Nat.le_refl _) hb6)
  have HK6 := Lib.hid (HK5.out.below (Nat.le_refl _) hb6)
  have HM6 := Lib.hid (HM5.out.below (Nat.le_refl _) hb6)
  clear ho6 hb6 hb6' HB5 HU5 HR5 HK5 HM5
  go_wp2_with fail
  refine (C.lay 3 1 _ 3 3 [11, 5, 6] [131078, 11, 5, 6] 0 _ rfl (by decide) (by decide) (us_lit w6 [11, 5, 6]) (by decide) (by decide) (by intro h; cases h) (by decide +kernel)).mono ?_
  rintro e w7 ⟨v7, rfl, ho7, hb7'⟩
  obtain ⟨a7, c7, rfl, hr7, hl7, hm7, hn7⟩ := OwnU.out (n := 4) ho7 rfl
  have hb7 : Below w6.heap.size w6 w7 := bt (ba0 w6 _) hb7'
  have HB7 := Lib.hid (bt HB6.out hb7)
  have HU7 := Lib.hid (HU6.out.below (Nat.le_refl _) hb7)
  have HR7 := Lib.hid (HR6.out.below (Nat.le_refl _) hb7)
  have HK7 := Lib.hid (HK6.out.below (Nat.le_refl _) hb7)
  have HM7 := Lib.hid (HM6.out.below (Nat.le_refl _) hb7)
  have HV7 := Lib.hid hr7
  clear ho7 hr7 hb7 hb7' hn7 HB6 HU6 HR6 HK6 HM6
  go_wp2_with fail
  refine (C.lay 3 1 none 0 0 [] [] 1 _ rfl (by decide) (by decide) (fun j hj => by simp at hj) (by decide) (by decide) (fun _ => rfl) (by decide +kernel)).mono ?_
  rintro e w8 ⟨v8, rfl, ho8, hb8⟩
  have HB8 := Lib.hid (bt HB7.out hb8)
  have HU8 := Lib.hid (HU7.out.below (Nat.le_refl _) hb8)
  have HR8 := Lib.hid (HR7.out.below (Nat.le_refl _) hb8)
  have HK8 := Lib.hid (HK7.out.below (Nat.le_refl _) hb8)
  have HM8 := Lib.hid (HM7.out.below (Nat.le_refl _) hb8)
  have HV8 := Lib.hid (HV7.out.below (Nat.le_refl _) hb8)
  clear ho8 hb8 HB7 HU7 HR7 HK7 HM7 HV7
  go_wp2_with fail
  refine (sameObs _ _ _ 1 1 1 [⟨0, 3, 1, false, 0⟩] [⟨0, 3, 1, false, 0⟩] _ rfl rfl (by decide) (by decide) (HR8.out.below (Nat.le_refl _) (ba0 _ _)) (rw_lit oc_len w8 _ [(⟨0, 3, 1, false, 0⟩ : Ob)])).mono ?_
  rintro e w9 ⟨rfl, hb9'⟩
  have hb9 : Below w8.heap.size w8 w9 := bt (ba0 w8 _) hb9'
  have HB9 := Lib.hid (bt HB8.out hb9)
  have HU9 := Lib.hid (HU8.out.below (Nat.le_refl _) hb9)
  have HK9 := Lib.hid (HK8.out.below (Nat.le_refl _) hb9)
  have HM9 := Lib.hid (HM8.out.below (Nat.le_refl _) hb9)
  have HV9 := Lib.hid (HV8.out.below (Nat.le_refl _) hb9)
  clear hb9 hb9' HB8 HU8 HR8 HK8 HM8 HV8
  go_wp2_with fail
  refine (ints_any _ _ _ 4 4 4 [1, 2, 3, 3] [1, 2, 3, 3] _ rfl rfl (by decide) (by decide) (HK9.out.below (Nat.le_refl _) (ba0 _ _)) (rw_lit ic_len w9 _ [(1 : Int), 2, 3, 3])).mono ?_
  rintro e w10 ⟨rfl, hb10'⟩
  have hb10 : Below w9.heap.size w9 w10 := bt (ba0 w9 _) hb10'
  have HB10 := Lib.hid (bt HB9.out hb10)
  have HU10 := Lib.hid (HU9.out.below (Nat.le_refl _) hb10)
  have HM10 := Lib.hid (HM9.out.below (Nat.le_refl _) hb10)
  have HV10 := Lib.hid (HV9.out.below (Nat.le_refl _) hb10)
  clear hb10 hb10' HB9 HU9 HK9 HM9 HV9
  go_wp2_with fail
  refine (sameObs _ _ _ 2 2 2 [⟨0, 1, 0, true, 4⟩, ⟨2, 1, 0, false, 0⟩] [⟨0, 1, 0, true, 4⟩, ⟨2, 1, 0, false, 0⟩] _ rfl rfl (by decide) (by decide) (HM10.out.below (Nat.le_refl _) (ba0 _ _)) (rw_lit oc_len w10 _ [(⟨0, 1, 0, true, 4⟩ : Ob), ⟨2, 1, 0, false, 0⟩])).mono ?_
  rintro e w11 ⟨rfl, hb11'⟩
  have hb11 : Below w10.heap.size w10 w11 := bt (ba0 w10 _) hb11'
  have HB11 := Lib.hid (bt HB10.out hb11)
  have HU11 := Lib.hid (HU10.out.below (Nat.le_refl _) hb11)
  have HV11 := Lib.hid (HV10.out.below (Nat.le_refl _) hb11)
  clear hb11 hb11' HB10 HU10 HM10 HV10
  go_wp2_with fail
  refine (nums_m _ _ _ 4 4 4 [131078, 11, 5, 6] [131078, 11, 5, 6] _ rfl rfl (by decide) (by decide) HV11.out HU11.out).mono ?_
  rintro e w12 ⟨rfl, hb12⟩
  go_wp2_with fail
  go_ret
  exact ⟨rfl, bt HB11.out hb12⟩
end Go.Proofs.Ytjefajpipgicdaa.V
