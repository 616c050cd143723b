/-
  What the statements of places begin with: the chapter's example.
-/
import Derived.Test.YtifmlmbbmlnpmaaPlLay
set_option linter.unusedVariables false
namespace Go.Proofs.Ytifmlmbbmlnpmaa.V
open Go.RowKit

def exl : Lo := ⟨10, 5, 1, 2, 1, 0, 0⟩
theorem exl_bd : exl.bd := lright_bd (by decide)
theorem zero_bd : (⟨0, 0, 0, 0, 0, 0, 0⟩ : Lo).bd := by unfold Lo.bd; decide

set_option maxRecDepth 100000 in
set_option maxHeartbeats 1000000 in
theorem awake07 (C : PlC) (w : World) : Calls Try.prog 9 #[] w fun e w' => e = .returned (.bool true) ∧ Below w.heap.size w w' := by
  have HA1 := Lib.hid (fun w => C.addr exl 2 0 19 0 w exl_bd (by omega) (by omega) (by omega) (by omega) (by decide))
  have HF1 := Lib.hid (fun w => C.find exl 16 1 1 0 w exl_bd (by omega) (by omega) (by decide))
  have HF2 := Lib.hid (fun w => C.find exl 17 0 0 6 w exl_bd (by omega) (by omega) (by decide))
  have HA2 := Lib.hid (fun w => C.addr exl 1 2 0 6 w exl_bd (by omega) (by omega) (by omega) (by omega) (by decide))
  have HT1 := Lib.hid (fun w => (C.flip exl ⟨10, 5, 0, 0, 0, 2, 1⟩ 0 w exl_bd (by decide)).mono (fun e w' h => show e = .returned (.tuple #[.agg #[.int .u64 10, .int .i64 5, .int .i64 0, .int .i64 0, .int .i64 0, .int .i64 2, .int .i64 1], .int .i64 0]) ∧ Below w.heap.size w w' from h))
  have HT2 := Lib.hid (fun w => (C.flip ⟨0, 0, 0, 0, 0, 0, 0⟩ ⟨0, 0, 0, 0, 0, 0, 0⟩ 1 w zero_bd (by decide)).mono (fun e w' h => show e = .returned (.tuple #[.agg #[.int .u64 0, .int .i64 0, .int .i64 0, .int .i64 0, .int .i64 0, .int .i64 0, .int .i64 0], .int .i64 1]) ∧ Below w.heap.size w w' from h))
  have HR1 := Lib.hid (fun w => C.right exl true w exl_bd (by decide))
  have HR2 := Lib.hid (fun w => C.right ⟨0, 0, 0, 0, 0, 0, 0⟩ false w zero_bd (by decide))
  have HO := Lib.hid (fun w => C.room exl 2 w exl_bd (by decide))
  go_enter Try.func9, Try.ntmps9
  go_wp2_with fail
  refine (HA1.out _).mono ?_
  rintro e w1 ⟨rfl, hb1⟩
  have HL1 := Lib.hid ((LoAt.new w exl).below hb1)
  have HB1 := Lib.hid (bt (ba0 w _) hb1)
  clear hb1
  obtain ⟨c0, c1, cc2, c3, c4, c5, c6⟩ := HL1.out.cells
  go_wp2_with fail
  refine (HF1.out _).mono ?_
  rintro e w2 ⟨rfl, hb2⟩
  have HL2 := Lib.hid (HL1.out.below hb2)
  have HB2 := Lib.hid (bt HB1.out hb2)
  clear hb2 c0 c1 cc2 c3 c4 c5 c6 HL1 HB1
  have HL3 := Lib.hid (HL2.out.below (ba0 w2 (.cells #[.int .i64 1, .int .i64 1] 27)))
  obtain ⟨c0, c1, cc2, c3, c4, c5, c6⟩ := HL3.out.cells
  go_wp2_with fail
  refine (HF2.out _).mono ?_
  rintro e w3 ⟨rfl, hb3⟩
  have HL4 := Lib.hid (HL3.out.below hb3)
  have HP4 := Lib.hid ((Blk.new w2 [.int .i64 1, .int .i64 1] 27).below hb3)
  have HB4 := Lib.hid (bt (ba HB2.out _) hb3)
  clear hb3 c0 c1 cc2 c3 c4 c5 c6 HL3 HL2 HB2
  have HL5 := Lib.hid (HL4.out.below (ba0 w3 (.cells #[.int .i64 0, .int .i64 0] 27)))
  obtain ⟨c0, c1, cc2, c3, c4, c5, c6⟩ := HL5.out.cells
  go_wp2_with fail
  refine (HA2.out _).mono ?_
  rintro e w4 ⟨rfl, hb4⟩
  have HL6 := Lib.hid (HL5.out.below hb4)
  have HP6 := Lib.hid ((HP4.out.below (ba0 w3 _)).below hb4)
  have HB6 := Lib.hid (bt (ba HB4.out _) hb4)
  clear hb4 c0 c1 cc2 c3 c4 c5 c6 HL4 HL5 HP4 HB4
  obtain ⟨c0, c1, cc2, c3, c4, c5, c6⟩ := HL6.out.cells
  go_wp2_with fail
  refine (HT1.out _).mono ?_
  rintro e w5 ⟨rfl, hb5⟩
  have HL7 := Lib.hid (HL6.out.below hb5)
  have HP7 := Lib.hid (HP6.out.below hb5)
  have HB7 := Lib.hid (bt HB6.out hb5)
  clear hb5 c0 c1 cc2 c3 c4 c5 c6 HL6 HP6 HB6
  go_wp2_with fail
  refine (HT2.out _).mono ?_
  rintro e w6 ⟨rfl, hb6⟩
  have HL8 := Lib.hid ((HL7.out.below (ba0 w5 _)).below hb6)
  have HP8 := Lib.hid ((HP7.out.below (ba0 w5 _)).below hb6)
  have HM8 := Lib.hid ((LoAt.new w5 ⟨10, 5, 0, 0, 0, 2, 1⟩).below hb6)
  have HB8 := Lib.hid (bt (ba HB7.out _) hb6)
  clear hb6 HL7 HP7 HB7
  have HL9 := Lib.hid (HL8.out.below (ba0 w6 (.cells #[.int .u64 0, .int .i64 0, .int .i64 0, .int .i64 0, .int .i64 0, .int .i64 0, .int .i64 0] 24)))
  have HP9 := Lib.hid (HP8.out.below (ba0 w6 (.cells #[.int .u64 0, .int .i64 0, .int .i64 0, .int .i64 0, .int .i64 0, .int .i64 0, .int .i64 0] 24)))
  have HM9 := Lib.hid (HM8.out.below (ba0 w6 (.cells #[.int .u64 0, .int .i64 0, .int .i64 0, .int .i64 0, .int .i64 0, .int .i64 0, .int .i64 0] 24)))
  have HB9 := Lib.hid (ba HB8.out (.cells #[.int .u64 0, .int .i64 0, .int .i64 0, .int .i64 0, .int .i64 0, .int .i64 0, .int .i64 0] 24))
  clear HL8 HP8 HM8 HB8
  obtain ⟨c0, c1, cc2, c3, c4, c5, c6⟩ := HL9.out.cells
  obtain ⟨d0, d1, d2, d3, d4, d5, d6⟩ := HM9.out.cells
  have p0 := HP9.out.cell (j := 0) rfl
  have p1 := HP9.out.cell (j := 1) rfl
  have E1 : ∀ w, (binOp .eql 27 (.agg #[.int .i64 1, .int .i64 1]) (.agg #[.int .i64 1, .int .i64 1])).run Try.prog w = .ok (.bool true) w := fun w => eql_pl w 1 1 1 1
  have E2 : ∀ w, (binOp .eql 24 (.agg #[.int .u64 10, .int .i64 5, .int .i64 0, .int .i64 0, .int .i64 0, .int .i64 2, .int .i64 1]) (.agg #[.int .u64 10, .int .i64 5, .int .i64 0, .int .i64 0, .int .i64 0, .int .i64 2, .int .i64 1])).run Try.prog w = .ok (.bool true) w := fun w => eql_lo w ⟨10, 5, 0, 0, 0, 2, 1⟩ ⟨10, 5, 0, 0, 0, 2, 1⟩
  go_wp2_with fail
  refine (HR1.out _).mono ?_
  rintro e w7 ⟨rfl, hb7⟩
  have HL10 := Lib.hid (HL9.out.below hb7)
  have HB10 := Lib.hid (bt HB9.out hb7)
  clear hb7 c0 c1 cc2 c3 c4 c5 c6 d0 d1 d2 d3 d4 d5 d6 p0 p1 HL9 HP9 HM9 HB9
  obtain ⟨c0, c1, cc2, c3, c4, c5, c6⟩ := HL10.out.cells
  go_wp2_with fail
  refine (HO.out _).mono ?_
  rintro e w8 ⟨rfl, hb8⟩
  have HB11 := Lib.hid (bt HB10.out hb8)
  clear hb8 c0 c1 cc2 c3 c4 c5 c6 HL10 HB10
  go_wp2_with fail
  refine (HR2.out _).mono ?_
  rintro e w9 ⟨rfl, hb9⟩
  have HB12 := Lib.hid (bt HB11.out hb9)
  clear hb9
  go_wp2_with fail
  go_ret
  exact ⟨rfl, HB12.out⟩
end Go.Proofs.Ytifmlmbbmlnpmaa.V
