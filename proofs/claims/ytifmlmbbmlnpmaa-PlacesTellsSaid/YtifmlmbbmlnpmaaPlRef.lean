/-
  The document's own Room, Address, Find, Flip, walked.
-/
import Derived.Test.YtifmlmbbmlnpmaaPlRefP
set_option linter.unusedVariables false
namespace Go.Proofs.Ytifmlmbbmlnpmaa.V
open Go.RowKit

def loc (l : Lo) : List Value := [.int .u64 (l.base : Int), .int .i64 l.cap, .int .i64 l.to, .int .i64 l.low, .int .i64 l.high, .int .i64 l.old, .int .i64 l.far]
def lov (l : Lo) : Value := .agg #[.int .u64 (l.base : Int), .int .i64 l.cap, .int .i64 l.to, .int .i64 l.low, .int .i64 l.high, .int .i64 l.old, .int .i64 l.far]
/-- A layout in a block of its own. -/
def LoAt (w : World) (g : Nat) (l : Lo) : Prop := Blk w g (loc l) 24
theorem LoAt.new (w : World) (l : Lo) : LoAt (w.alloc (.cells #[.int .u64 (l.base : Int), .int .i64 l.cap, .int .i64 l.to, .int .i64 l.low, .int .i64 l.high, .int .i64 l.old, .int .i64 l.far] 24)) w.heap.size l := Blk.new w (loc l) _
theorem LoAt.below {w w' : World} {g : Nat} {l : Lo} (h : LoAt w g l) (hb : Below w.heap.size w w') : LoAt w' g l := Blk.below h hb
theorem LoAt.lt {w : World} {g : Nat} {l : Lo} (h : LoAt w g l) : g < w.heap.size := Blk.lt h
/-- Its seven cells, as the walk reads them. -/
theorem LoAt.cells {w : World} {g : Nat} {l : Lo} (h : LoAt w g l) : w.cell? ⟨g, 0, none⟩ = some (.int .u64 (l.base : Int)) ∧ w.cell? ⟨g, 1, none⟩ = some (.int .i64 l.cap) ∧ w.cell? ⟨g, 2, none⟩ = some (.int .i64 l.to) ∧ w.cell? ⟨g, 3, none⟩ = some (.int .i64 l.low) ∧ w.cell? ⟨g, 4, none⟩ = some (.int .i64 l.high) ∧ w.cell? ⟨g, 5, none⟩ = some (.int .i64 l.old) ∧ w.cell? ⟨g, 6, none⟩ = some (.int .i64 l.far) :=
  ⟨Blk.cell h rfl, Blk.cell h rfl, Blk.cell h rfl, Blk.cell h rfl, Blk.cell h rfl, Blk.cell h rfl, Blk.cell h rfl⟩

set_option maxRecDepth 100000 in
theorem refRoom7 (l : Lo) (R : Int) (w : World) (bd : l.bd) (hR : lroom l = R) : Calls Try.prog 17 #[.agg #[.int .u64 (l.base : Int), .int .i64 l.cap, .int .i64 l.to, .int .i64 l.low, .int .i64 l.high, .int .i64 l.old, .int .i64 l.far]] w fun e w' => e = .returned (.int .i64 R) ∧ Below w.heap.size w w' := by
  by_cases h : lright l
  · have hr : decide (lright l) = true := decide_eq_true h
    have HR := Lib.hid hr
    unfold lroom at hR
    rw [if_pos h] at hR
    have HV := Lib.hid hR
    obtain ⟨_, ⟨h2, h3⟩, _, _, ⟨h7, h8, _, _⟩, h11, _⟩ := h
    clear hr hR
    go_enter Try.func17, Try.ntmps17
    go_wp2_with fail
    refine (refRight7 l true _ bd HR.out).mono ?_
    rintro e w1 ⟨rfl, hb⟩
    obtain ⟨c0, c1, c2, c3, c4, c5, c6⟩ := ((LoAt.new w l).below hb).cells
    have HB := Lib.hid (bt (ba0 w _) hb)
    clear hb c0 c2 c5 c6
    go_wp2_with fail
    go_ret
    exact ⟨by rw [← HV.out]; rfl, HB.out⟩
  · have hr : decide (lright l) = false := decide_eq_false h
    have HR := Lib.hid hr
    unfold lroom at hR
    rw [if_neg h] at hR
    have HV := Lib.hid hR
    clear hr hR h
    go_enter Try.func17, Try.ntmps17
    go_wp2_with fail
    refine (refRight7 l false _ bd HR.out).mono ?_
    rintro e w1 ⟨rfl, hb⟩
    have HB := Lib.hid (bt (ba0 w _) hb)
    clear hb
    go_wp2_with fail
    go_ret
    exact ⟨by rw [← HV.out]; rfl, HB.out⟩
set_option maxRecDepth 100000 in
theorem refAddr7 (l : Lo) (p i A E : Int) (w : World) (bd : l.bd) (hA : laddr l p i = (A, E)) : Calls Try.prog 19 #[.agg #[.int .u64 (l.base : Int), .int .i64 l.cap, .int .i64 l.to, .int .i64 l.low, .int .i64 l.high, .int .i64 l.old, .int .i64 l.far], .agg #[.int .i64 p, .int .i64 i]] w fun e w' => e = .returned (.tuple #[.int .u64 A, .int .i64 E]) ∧ Below w.heap.size w w' := by
  by_cases h : lright l
  · have HR := Lib.hid (show decide (lright l) = true from decide_eq_true h)
    obtain ⟨F, n, hp⟩ : ∃ F n, lpart l p = (F, n) := ⟨_, _, rfl⟩
    have hbd := lpart_bd h p
    rw [hp] at hbd
    simp only at hbd
    obtain ⟨q1, q2, q3, q4, q5⟩ := hbd
    have HP := Lib.hid hp
    have HH := Lib.hid h
    have HA := Lib.hid hA
    clear hp hA h
    by_cases hi : 0 ≤ i
    · obtain ⟨I, rfl⟩ := Int.eq_ofNat_of_zero_le hi
      obtain ⟨F, rfl⟩ := Int.eq_ofNat_of_zero_le q1
      by_cases hn : (I : Int) < n
      · have HV := Lib.hid (show A = F + I ∧ E = 0 by
          have h9 := HA.out
          rw [laddr_in HH.out (by rw [HP.out]; exact ⟨hi, hn⟩), HP.out] at h9
          simp only [Prod.mk.injEq] at h9
          exact ⟨h9.1.symm, h9.2.symm⟩)
        have dn : decide (n ≤ (I : Int)) = false := by simp; omega
        go_enter Try.func19, Try.ntmps19
        go_wp2_with fail
        refine (refRight7 l true _ bd HR.out).mono ?_
        rintro e w1 ⟨rfl, hb⟩
        obtain ⟨c0, c1, c2, c3, c4, c5, c6⟩ := (((LoAt.new w l).below (ba0 _ _)).below hb).cells
        have HPB := Lib.hid ((Blk.new (w.alloc (.cells #[.int .u64 (l.base : Int), .int .i64 l.cap, .int .i64 l.to, .int .i64 l.low, .int .i64 l.high, .int .i64 l.old, .int .i64 l.far] 24)) [.int .i64 p, .int .i64 (I : Int)] 27).below hb)
        have e0 : w1.cell? ⟨w.heap.size + 1, 0, none⟩ = some (.int .i64 p) := by have := HPB.out.cell (j := 0) rfl; rwa [World.size_alloc] at this
        have HB := Lib.hid (bt (ba (ba0 w _) _) hb)
        clear hb
        go_wp2_with fail
        refine (refParts7 l p F n _ HH.out HP.out).mono ?_
        rintro e w2 ⟨rfl, hb⟩
        have e1 : w2.cell? ⟨w.heap.size + 1, 1, none⟩ = some (.int .i64 (I : Int)) := by have := (HPB.out.below hb).cell (j := 1) rfl; rwa [World.size_alloc] at this
        have HB2 := Lib.hid (bt HB.out hb)
        clear hb HPB e0 c0 c1 c2 c3 c4 c5 c6
        go_wp2_with fail
        go_ret2
        exact ⟨by rw [HV.out.1, HV.out.2]; rfl, HB2.out⟩
      · have HV := Lib.hid (show A = 0 ∧ E = 6 by
          have h9 := HA.out
          rw [laddr_out HH.out (by rw [HP.out]; exact fun h => hn h.2)] at h9
          simp only [Prod.mk.injEq] at h9
          exact ⟨h9.1.symm, h9.2.symm⟩)
        have dn : decide (n ≤ (I : Int)) = true := by simp; omega
        go_enter Try.func19, Try.ntmps19
        go_wp2_with fail
        refine (refRight7 l true _ bd HR.out).mono ?_
        rintro e w1 ⟨rfl, hb⟩
        obtain ⟨c0, c1, c2, c3, c4, c5, c6⟩ := (((LoAt.new w l).below (ba0 _ _)).below hb).cells
        have HPB := Lib.hid ((Blk.new (w.alloc (.cells #[.int .u64 (l.base : Int), .int .i64 l.cap, .int .i64 l.to, .int .i64 l.low, .int .i64 l.high, .int .i64 l.old, .int .i64 l.far] 24)) [.int .i64 p, .int .i64 (I : Int)] 27).below hb)
        have e0 : w1.cell? ⟨w.heap.size + 1, 0, none⟩ = some (.int .i64 p) := by have := HPB.out.cell (j := 0) rfl; rwa [World.size_alloc] at this
        have HB := Lib.hid (bt (ba (ba0 w _) _) hb)
        clear hb
        go_wp2_with fail
        refine (refParts7 l p F n _ HH.out HP.out).mono ?_
        rintro e w2 ⟨rfl, hb⟩
        have e1 : w2.cell? ⟨w.heap.size + 1, 1, none⟩ = some (.int .i64 (I : Int)) := by have := (HPB.out.below hb).cell (j := 1) rfl; rwa [World.size_alloc] at this
        have HB2 := Lib.hid (bt HB.out hb)
        clear hb HPB e0 c0 c1 c2 c3 c4 c5 c6
        go_wp2_with fail
        go_ret2
        exact ⟨by rw [HV.out.1, HV.out.2]; rfl, HB2.out⟩
    · have HV := Lib.hid (show A = 0 ∧ E = 6 by
        have h9 := HA.out
        rw [laddr_out HH.out (fun h => hi h.1)] at h9
        simp only [Prod.mk.injEq] at h9
        exact ⟨h9.1.symm, h9.2.symm⟩)
      have dn : decide (i < 0) = true := by simp; omega
      go_enter Try.func19, Try.ntmps19
      go_wp2_with fail
      refine (refRight7 l true _ bd HR.out).mono ?_
      rintro e w1 ⟨rfl, hb⟩
      obtain ⟨c0, c1, c2, c3, c4, c5, c6⟩ := (((LoAt.new w l).below (ba0 _ _)).below hb).cells
      have HPB := Lib.hid ((Blk.new (w.alloc (.cells #[.int .u64 (l.base : Int), .int .i64 l.cap, .int .i64 l.to, .int .i64 l.low, .int .i64 l.high, .int .i64 l.old, .int .i64 l.far] 24)) [.int .i64 p, .int .i64 i] 27).below hb)
      have e0 : w1.cell? ⟨w.heap.size + 1, 0, none⟩ = some (.int .i64 p) := by have := HPB.out.cell (j := 0) rfl; rwa [World.size_alloc] at this
      have HB := Lib.hid (bt (ba (ba0 w _) _) hb)
      clear hb
      go_wp2_with fail
      refine (refParts7 l p F n _ HH.out HP.out).mono ?_
      rintro e w2 ⟨rfl, hb⟩
      have e1 : w2.cell? ⟨w.heap.size + 1, 1, none⟩ = some (.int .i64 i) := by have := (HPB.out.below hb).cell (j := 1) rfl; rwa [World.size_alloc] at this
      have HB2 := Lib.hid (bt HB.out hb)
      clear hb HPB e0 c0 c1 c2 c3 c4 c5 c6
      go_wp2_with fail
      go_ret2
      exact ⟨by rw [HV.out.1, HV.out.2]; rfl, HB2.out⟩
  · have HR := Lib.hid (show decide (lright l) = false from decide_eq_false h)
    have HV := Lib.hid (show A = 0 ∧ E = 1 by
      unfold laddr at hA
      rw [if_neg h] at hA
      simp only [Prod.mk.injEq] at hA
      exact ⟨hA.1.symm, hA.2.symm⟩)
    clear h hA
    go_enter Try.func19, Try.ntmps19
    go_wp2_with fail
    refine (refRight7 l false _ bd HR.out).mono ?_
    rintro e w1 ⟨rfl, hb⟩
    have HB := Lib.hid (bt (ba (ba0 w _) _) hb)
    clear hb
    go_wp2_with fail
    go_ret2
    exact ⟨by rw [HV.out.1, HV.out.2]; rfl, HB.out⟩
end Go.Proofs.Ytifmlmbbmlnpmaa.V
