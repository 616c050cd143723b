/-
  PlacesTells, walked under what is asked of the program's functions.
-/
import Derived.Test.YtifmlmbbmlnpmaaPlCnt
import Derived.Deep.CutRange
import Derived.Deep.CutBlock
set_option linter.unusedVariables false
namespace Go.Proofs.Ytifmlmbbmlnpmaa.V
open Go.RowKit

theorem u64w (n : Int) : ∃ N : Nat, IntKind.u64.wrap n = (N : Int) ∧ N < 2 ^ 64 := by
  have h : 0 ≤ IntKind.u64.wrap n ∧ IntKind.u64.wrap n < 18446744073709551616 := by simp [IntKind.wrap, IntKind.bits, IntKind.signed]; omega
  exact ⟨(IntKind.u64.wrap n).toNat, by omega, by omega⟩

set_option maxRecDepth 100000 in
set_option maxHeartbeats 2000000 in
theorem placesTells_try (C : PlC) (od : Lo) (b : Nat) (n0 n1 n2 n3 n4 n5 wh x p1 p2 : Int) (ad : Nat) (w : World) (hod : od.bd) (hb : b < 2 ^ 64) (s0 : i64 n0) (s1 : i64 n1) (s2 : i64 n2) (s3 : i64 n3) (s4 : i64 n4) (s5 : i64 n5) (t1 : i64 wh) (t2 : i64 x) (t3 : i64 p1) (t4 : i64 p2) (had : ad < 2 ^ 64) :
    Calls Try.prog 3 #[.agg #[.int .u64 (od.base : Int), .int .i64 od.cap, .int .i64 od.to, .int .i64 od.low, .int .i64 od.high, .int .i64 od.old, .int .i64 od.far], .int .u64 (b : Int), .agg #[.int .i64 n0, .int .i64 n1, .int .i64 n2, .int .i64 n3, .int .i64 n4, .int .i64 n5], .int .i64 wh, .int .i64 x, .agg #[.int .i64 p1, .int .i64 p2], .int .u64 (ad : Int)] w fun e w' => e = .returned (.bool true) ∧ Below w.heap.size w w' := by
  obtain ⟨l, hr, h40, hlay⟩ := layout7x b n0 n1 n2 n3 n4 n5 hb s0 s1 s2 s3 s4 s5
  have HLAY := Lib.hid hlay
  have HR := Lib.hid hr
  obtain ⟨r1, ⟨r2, r3⟩, r4, ⟨r5, r6⟩, ⟨r7, r8, r9, r10⟩, r11, r12⟩ := hr
  clear hlay s0 s1 s2 s3 s4 s5
  have HOD := Lib.hid hod
  have HX := Lib.hid t2
  have HP1 := Lib.hid t3
  have HP2 := Lib.hid t4
  clear hod t2 t3 t4
  have HO0 := Lib.hid (((LoAt.new w od).below (ba0 _ (.cells #[.int .i64 n0, .int .i64 n1, .int .i64 n2, .int .i64 n3, .int .i64 n4, .int .i64 n5] 25))).below (ba0 _ (.cells #[.int .i64 p1, .int .i64 p2] 27)))
  have HA0 := Lib.hid (show Blk (((w.alloc (.cells #[.int .u64 (od.base : Int), .int .i64 od.cap, .int .i64 od.to, .int .i64 od.low, .int .i64 od.high, .int .i64 od.old, .int .i64 od.far] 24)).alloc (.cells #[.int .i64 n0, .int .i64 n1, .int .i64 n2, .int .i64 n3, .int .i64 n4, .int .i64 n5] 25)).alloc (.cells #[.int .i64 p1, .int .i64 p2] 27)) (w.heap.size + 1) [.int .i64 n0, .int .i64 n1, .int .i64 n2, .int .i64 n3, .int .i64 n4, .int .i64 n5] 25 from blk2 (cs := [.int .i64 n0, .int .i64 n1, .int .i64 n2, .int .i64 n3, .int .i64 n4, .int .i64 n5]))
  have HQ0 := Lib.hid (show Blk (((w.alloc (.cells #[.int .u64 (od.base : Int), .int .i64 od.cap, .int .i64 od.to, .int .i64 od.low, .int .i64 od.high, .int .i64 od.old, .int .i64 od.far] 24)).alloc (.cells #[.int .i64 n0, .int .i64 n1, .int .i64 n2, .int .i64 n3, .int .i64 n4, .int .i64 n5] 25)).alloc (.cells #[.int .i64 p1, .int .i64 p2] 27)) (w.heap.size + 1 + 1) [.int .i64 p1, .int .i64 p2] 27 from blk3 (cs := [.int .i64 p1, .int .i64 p2]))
  have HB0 := Lib.hid (ba (ba (ba0 w (.cells #[.int .u64 (od.base : Int), .int .i64 od.cap, .int .i64 od.to, .int .i64 od.low, .int .i64 od.high, .int .i64 od.old, .int .i64 od.far] 24)) (.cells #[.int .i64 n0, .int .i64 n1, .int .i64 n2, .int .i64 n3, .int .i64 n4, .int .i64 n5] 25)) (.cells #[.int .i64 p1, .int .i64 p2] 27))
  go_enter Try.func3, Try.ntmps3
  go_wp2_with fail
  generalize ((w.alloc (.cells #[.int .u64 (od.base : Int), .int .i64 od.cap, .int .i64 od.to, .int .i64 od.low, .int .i64 od.high, .int .i64 od.old, .int .i64 od.far] 24)).alloc (.cells #[.int .i64 n0, .int .i64 n1, .int .i64 n2, .int .i64 n3, .int .i64 n4, .int .i64 n5] 25)).alloc (.cells #[.int .i64 p1, .int .i64 p2] 27) = W0 at HO0 HA0 HQ0 HB0 ⊢
  generalize w.heap.size = g0 at HO0 HA0 HQ0 ⊢
  refine (awake07 C _).mono ?_
  rintro e w1 ⟨rfl, hb1⟩
  have HA1 := Lib.hid (HA0.out.below hb1)
  have HO1 := Lib.hid (HO0.out.below hb1)
  have HQ1 := Lib.hid (HQ0.out.below hb1)
  have HB1 := Lib.hid (bt HB0.out hb1)
  clear hb1 HA0 HO0 HQ0 HB0
  have c0 := HA1.out.cell (j := 0) rfl
  have c1 := HA1.out.cell (j := 1) rfl
  have c2 := HA1.out.cell (j := 2) rfl
  have c3 := HA1.out.cell (j := 3) rfl
  have c4 := HA1.out.cell (j := 4) rfl
  have c5 := HA1.out.cell (j := 5) rfl
  go_wp2_with fail
  refine (HLAY.out _).mono ?_
  rintro e w2 ⟨rfl, hb2⟩
  have HL3 := Lib.hid ((LoAt.new w2 l).below (ba0 _ (.cells #[.int .u64 (l.base : Int), .int .i64 l.cap, .int .i64 l.to, .int .i64 l.low, .int .i64 l.high, .int .i64 l.old, .int .i64 l.far] 24)))
  have HM3 := Lib.hid (show LoAt ((w2.alloc (.cells #[.int .u64 (l.base : Int), .int .i64 l.cap, .int .i64 l.to, .int .i64 l.low, .int .i64 l.high, .int .i64 l.old, .int .i64 l.far] 24)).alloc (.cells #[.int .u64 (l.base : Int), .int .i64 l.cap, .int .i64 l.to, .int .i64 l.low, .int .i64 l.high, .int .i64 l.old, .int .i64 l.far] 24)) (w2.heap.size + 1) l from by have := LoAt.new (w2.alloc (.cells #[.int .u64 (l.base : Int), .int .i64 l.cap, .int .i64 l.to, .int .i64 l.low, .int .i64 l.high, .int .i64 l.old, .int .i64 l.far] 24)) l; rwa [World.size_alloc] at this)
  have HO3 := Lib.hid (((HO1.out.below hb2).below (ba0 w2 (.cells #[.int .u64 (l.base : Int), .int .i64 l.cap, .int .i64 l.to, .int .i64 l.low, .int .i64 l.high, .int .i64 l.old, .int .i64 l.far] 24))).below (ba0 _ (.cells #[.int .u64 (l.base : Int), .int .i64 l.cap, .int .i64 l.to, .int .i64 l.low, .int .i64 l.high, .int .i64 l.old, .int .i64 l.far] 24)))
  have HQ3 := Lib.hid (((HQ1.out.below hb2).below (ba0 w2 (.cells #[.int .u64 (l.base : Int), .int .i64 l.cap, .int .i64 l.to, .int .i64 l.low, .int .i64 l.high, .int .i64 l.old, .int .i64 l.far] 24))).below (ba0 _ (.cells #[.int .u64 (l.base : Int), .int .i64 l.cap, .int .i64 l.to, .int .i64 l.low, .int .i64 l.high, .int .i64 l.old, .int .i64 l.far] 24)))
  have HB3 := Lib.hid (ba (ba (bt HB1.out hb2) (.cells #[.int .u64 (l.base : Int), .int .i64 l.cap, .int .i64 l.to, .int .i64 l.low, .int .i64 l.high, .int .i64 l.old, .int .i64 l.far] 24)) (.cells #[.int .u64 (l.base : Int), .int .i64 l.cap, .int .i64 l.to, .int .i64 l.low, .int .i64 l.high, .int .i64 l.old, .int .i64 l.far] 24))
  have hol := (HO1.out.below hb2).lt
  have hql := (HQ1.out.below hb2).lt
  have hwg : w.heap.size ≤ w2.heap.size := (bt HB1.out hb2).size
  clear hb2 c0 c1 c2 c3 c4 c5 HA1 HO1 HQ1 HB1 HLAY
  obtain ⟨r, hr, hr7⟩ := pkN wh 7 (by omega)
  have t11 := t1.1
  have t12 := t1.2
  clear t1
  go_wp2_with fail
  refine (pick07_int wh 7 r _ t11 t12 (by omega) (by omega) hr).mono ?_
  rintro e w3 ⟨rfl, rfl⟩
  generalize (w2.alloc (.cells #[.int .u64 (l.base : Int), .int .i64 l.cap, .int .i64 l.to, .int .i64 l.low, .int .i64 l.high, .int .i64 l.old, .int .i64 l.far] 24)).alloc (.cells #[.int .u64 (l.base : Int), .int .i64 l.cap, .int .i64 l.to, .int .i64 l.low, .int .i64 l.high, .int .i64 l.old, .int .i64 l.far] 24) = W at HL3 HM3 HO3 HQ3 HB3 ⊢
  generalize w2.heap.size = g at HL3 HM3 hol hql hwg ⊢
  clear hr t11 t12
  have HXB := Lib.hid (show ∀ T, T ∈ [(⟨l.base, x, l.to, l.low, l.high, l.old, l.far⟩ : Lo), ⟨l.base, l.cap, x, l.low, l.high, l.old, l.far⟩, ⟨l.base, l.cap, l.to, x, l.high, l.old, l.far⟩, ⟨l.base, l.cap, l.to, l.low, x, l.old, l.far⟩, ⟨l.base, l.cap, l.to, l.low, l.high, x, l.far⟩, ⟨l.base, l.cap, l.to, l.low, l.high, l.old, x⟩, ⟨ad, l.cap, l.to, l.low, l.high, l.old, l.far⟩] → T.bd by
    have h9 := lright_bd HR.out
    unfold Lo.bd at h9
    have hx := HX.out
    unfold i64 at hx
    intro T hT
    simp only [List.mem_cons, List.not_mem_nil, or_false] at hT
    unfold Lo.bd
    rcases hT with rfl | rfl | rfl | rfl | rfl | rfl | rfl <;> dsimp only <;> omega)
  go_upto_block 0 with fail
  go_cut [] from 43 (fun wx => ∃ T : Lo, Hid T.bd ∧ Hid (LoAt wx (g + 1) T) ∧ Hid (LoAt wx g l) ∧ Hid (LoAt wx g0 od) ∧ Hid (Blk wx (g0 + 1 + 1) [.int .i64 p1, .int .i64 p2] 27) ∧ Hid (Below w.heap.size w wx))
  case first =>
    have hkeep : Hid (∀ j v, Hid (LoAt (W.setCell ⟨g + 1, j, none⟩ v) g l) ∧ Hid (LoAt (W.setCell ⟨g + 1, j, none⟩ v) g0 od) ∧ Hid (Blk (W.setCell ⟨g + 1, j, none⟩ v) (g0 + 1 + 1) [.int .i64 p1, .int .i64 p2] 27) ∧ Hid (Below w.heap.size w (W.setCell ⟨g + 1, j, none⟩ v))) := Lib.hid fun j v =>
      ⟨Lib.hid (blk_set_far HM3.out (by omega) j v HL3.out), Lib.hid (blk_set_far HM3.out (by omega) j v HO3.out), Lib.hid (blk_set_far HM3.out (by omega) j v HQ3.out), Lib.hid (HB3.out.setCell (p := ⟨g + 1, j, none⟩) (by show w.heap.size ≤ g + 1; omega) v)⟩
    have HMS := Lib.hid (fun j v => blk_set HM3.out j v)
    rcases (show (r : Int) = 0 ∨ (r : Int) = 1 ∨ (r : Int) = 2 ∨ (r : Int) = 3 ∨ (r : Int) = 4 ∨ (r : Int) = 5 ∨ (r : Int) = 6 by omega) with h | h | h | h | h | h | h
    · have f0 := Blk.frozen HM3.out 1
      obtain ⟨c0, c1, c2, c3, c4, c5, c6⟩ := HM3.out.cells
      go_wp2_with fail
      go_meet
      exact ⟨⟨l.base, x, l.to, l.low, l.high, l.old, l.far⟩, Lib.hid (HXB.out _ (by simp)), Lib.hid (HMS.out 1 (.int .i64 x)), (hkeep.out 1 _).1, (hkeep.out 1 _).2.1, (hkeep.out 1 _).2.2.1, (hkeep.out 1 _).2.2.2⟩
    · have f0 := Blk.frozen HM3.out 2
      obtain ⟨c0, c1, c2, c3, c4, c5, c6⟩ := HM3.out.cells
      go_wp2_with fail
      go_meet
      exact ⟨⟨l.base, l.cap, x, l.low, l.high, l.old, l.far⟩, Lib.hid (HXB.out _ (by simp)), Lib.hid (HMS.out 2 (.int .i64 x)), (hkeep.out 2 _).1, (hkeep.out 2 _).2.1, (hkeep.out 2 _).2.2.1, (hkeep.out 2 _).2.2.2⟩
    · have f0 := Blk.frozen HM3.out 3
      obtain ⟨c0, c1, c2, c3, c4, c5, c6⟩ := HM3.out.cells
      go_wp2_with fail
      go_meet
      exact ⟨⟨l.base, l.cap, l.to, x, l.high, l.old, l.far⟩, Lib.hid (HXB.out _ (by simp)), Lib.hid (HMS.out 3 (.int .i64 x)), (hkeep.out 3 _).1, (hkeep.out 3 _).2.1, (hkeep.out 3 _).2.2.1, (hkeep.out 3 _).2.2.2⟩
    · have f0 := Blk.frozen HM3.out 4
      obtain ⟨c0, c1, c2, c3, c4, c5, c6⟩ := HM3.out.cells
      go_wp2_with fail
      go_meet
      exact ⟨⟨l.base, l.cap, l.to, l.low, x, l.old, l.far⟩, Lib.hid (HXB.out _ (by simp)), Lib.hid (HMS.out 4 (.int .i64 x)), (hkeep.out 4 _).1, (hkeep.out 4 _).2.1, (hkeep.out 4 _).2.2.1, (hkeep.out 4 _).2.2.2⟩
    · have f0 := Blk.frozen HM3.out 5
      obtain ⟨c0, c1, c2, c3, c4, c5, c6⟩ := HM3.out.cells
      go_wp2_with fail
      go_meet
      exact ⟨⟨l.base, l.cap, l.to, l.low, l.high, x, l.far⟩, Lib.hid (HXB.out _ (by simp)), Lib.hid (HMS.out 5 (.int .i64 x)), (hkeep.out 5 _).1, (hkeep.out 5 _).2.1, (hkeep.out 5 _).2.2.1, (hkeep.out 5 _).2.2.2⟩
    · have f0 := Blk.frozen HM3.out 6
      obtain ⟨c0, c1, c2, c3, c4, c5, c6⟩ := HM3.out.cells
      go_wp2_with fail
      go_meet
      exact ⟨⟨l.base, l.cap, l.to, l.low, l.high, l.old, x⟩, Lib.hid (HXB.out _ (by simp)), Lib.hid (HMS.out 6 (.int .i64 x)), (hkeep.out 6 _).1, (hkeep.out 6 _).2.1, (hkeep.out 6 _).2.2.1, (hkeep.out 6 _).2.2.2⟩
    · have f0 := Blk.frozen HM3.out 0
      obtain ⟨c0, c1, c2, c3, c4, c5, c6⟩ := HM3.out.cells
      go_wp2_with fail
      go_meet
      exact ⟨⟨ad, l.cap, l.to, l.low, l.high, l.old, l.far⟩, Lib.hid (HXB.out _ (by simp)), Lib.hid (HMS.out 0 (.int .u64 (ad : Int))), (hkeep.out 0 _).1, (hkeep.out 0 _).2.1, (hkeep.out 0 _).2.2.1, (hkeep.out 0 _).2.2.2⟩
  case rest =>
    obtain ⟨T, HTB, HT4, HL4, HO4, HQ4, HB4⟩ := hcut
    clear HL3 HM3 HO3 HQ3 HB3 HXB
    obtain ⟨d0, d1, d2, d3, d4, d5, d6⟩ := HO4.out.cells
    obtain ⟨e0, e1, e2, e3, e4, e5, e6⟩ := HL4.out.cells
    obtain ⟨f0, f1, f2, f3, f4, f5, f6⟩ := HT4.out.cells
    go_wp2_with fail
    generalize hV : World.alloc wc _ = V
    have hbk : Blk V wc.heap.size (loc od ++ loc l ++ loc T) 24 := by rw [← hV]; exact Blk.new wc _ _
    have hcs : ∀ j : Nat, j < 3 → ∃ y : Lo, Hid y.bd ∧ V.cell? ⟨wc.heap.size, j * 7, none⟩ = some (.int .u64 (y.base : Int)) ∧ V.cell? ⟨wc.heap.size, j * 7 + 1, none⟩ = some (.int .i64 y.cap) ∧ V.cell? ⟨wc.heap.size, j * 7 + 2, none⟩ = some (.int .i64 y.to) ∧ V.cell? ⟨wc.heap.size, j * 7 + 3, none⟩ = some (.int .i64 y.low) ∧ V.cell? ⟨wc.heap.size, j * 7 + 4, none⟩ = some (.int .i64 y.high) ∧ V.cell? ⟨wc.heap.size, j * 7 + 5, none⟩ = some (.int .i64 y.old) ∧ V.cell? ⟨wc.heap.size, j * 7 + 6, none⟩ = some (.int .i64 y.far) := by
      intro j hj
      match j, hj with
      | 0, _ => exact ⟨od, HOD, hbk.cell rfl, hbk.cell rfl, hbk.cell rfl, hbk.cell rfl, hbk.cell rfl, hbk.cell rfl, hbk.cell rfl⟩
      | 1, _ => exact ⟨l, Lib.hid (lright_bd HR.out), hbk.cell rfl, hbk.cell rfl, hbk.cell rfl, hbk.cell rfl, hbk.cell rfl, hbk.cell rfl, hbk.cell rfl⟩
      | 2, _ => exact ⟨T, HTB, hbk.cell rfl, hbk.cell rfl, hbk.cell rfl, hbk.cell rfl, hbk.cell rfl, hbk.cell rfl, hbk.cell rfl⟩
    have hbl := hbk.lt
    have HCS := Lib.hid hcs
    have HQ5 := Lib.hid (show Blk V (g0 + 1 + 1) [.int .i64 p1, .int .i64 p2] 27 by rw [← hV]; exact HQ4.out.below (ba0 _ _))
    have HL5 := Lib.hid (show LoAt V g l by rw [← hV]; exact HL4.out.below (ba0 _ _))
    have HB5 := Lib.hid (show Below w.heap.size w V by rw [← hV]; exact ba HB4.out _)
    clear hV hbk hcs d0 d1 d2 d3 d4 d5 d6 e0 e1 e2 e3 e4 e5 e6 f0 f1 f2 f3 f4 f5 f6 HT4 HL4 HO4 HQ4 HB4 HTB HOD
    generalize wc.heap.size = gs at hbl HCS ⊢
    go_loopw [74] (fun i wr => ∃ j : Nat, j ≤ 3 ∧ i = .int .i64 j ∧ Hid (Below V.heap.size V wr)) (fun i _ => 3 - (intOf i).toNat)
    case atStart => exact ⟨0, by omega, rfl, Lib.hid (Below.refl _ _)⟩
    case round =>
      obtain ⟨j, hj3, rfl, HBR⟩ := hrel
      by_cases hj : j < 3
      · obtain ⟨y, HY, k0, k1, k2, k3, k4, k5, k6⟩ := HCS.out j hj
        obtain ⟨m, E, hm⟩ : ∃ m E, lflip y = (m, E) := ⟨_, _, rfl⟩
        obtain ⟨R, hR⟩ : ∃ R, decide (lright y) = R := ⟨_, rfl⟩
        obtain ⟨Z, hZ⟩ : ∃ Z, lroom y = Z := ⟨_, rfl⟩
        have HF := Lib.hid (fun w => (C.flip y m E w HY.out hm).mono (fun e w' h => show e = .returned (.tuple #[.agg #[.int .u64 (m.base : Int), .int .i64 m.cap, .int .i64 m.to, .int .i64 m.low, .int .i64 m.high, .int .i64 m.old, .int .i64 m.far], .int .i64 E]) ∧ Below w.heap.size w w' from h))
        have HG := Lib.hid (fun w => (refFlip7 y m E w HY.out hm).mono (fun e w' h => show e = .returned (.tuple #[.agg #[.int .u64 (m.base : Int), .int .i64 m.cap, .int .i64 m.to, .int .i64 m.low, .int .i64 m.high, .int .i64 m.old, .int .i64 m.far], .int .i64 E]) ∧ Below w.heap.size w w' from h))
        have HR1 := Lib.hid (fun w => C.right y R w HY.out hR)
        have HR2 := Lib.hid (fun w => refRight7 y R w HY.out hR)
        have HZ1 := Lib.hid (fun w => C.room y Z w HY.out hZ)
        have HZ2 := Lib.hid (fun w => refRoom7 y Z w HY.out hZ)
        clear hm hR hZ
        have k0 := cellS HBR.out hbl k0
        have k1 := cellS HBR.out hbl k1
        have k2 := cellS HBR.out hbl k2
        have k3 := cellS HBR.out hbl k3
        have k4 := cellS HBR.out hbl k4
        have k5 := cellS HBR.out hbl k5
        have k6 := cellS HBR.out hbl k6
        have hj' : (j : Int) < 3 := by omega
        go_wp2_with fail
        refine (HF.out _).mono ?_
        rintro e w5 ⟨rfl, hb5⟩
        have HY5 := Lib.hid (((LoAt.new wr y).below hb5).below (ba0 w5 (.cells #[.int .u64 (m.base : Int), .int .i64 m.cap, .int .i64 m.to, .int .i64 m.low, .int .i64 m.high, .int .i64 m.old, .int .i64 m.far] 24)))
        have HB6 := Lib.hid (ba (bt (ba HBR.out (.cells #[.int .u64 (y.base : Int), .int .i64 y.cap, .int .i64 y.to, .int .i64 y.low, .int .i64 y.high, .int .i64 y.old, .int .i64 y.far] 24)) hb5) (.cells #[.int .u64 (m.base : Int), .int .i64 m.cap, .int .i64 m.to, .int .i64 m.low, .int .i64 m.high, .int .i64 m.old, .int .i64 m.far] 24))
        clear hb5 k0 k1 k2 k3 k4 k5 k6 HF
        obtain ⟨c0, c1, c2, c3, c4, c5, c6⟩ := HY5.out.cells
        go_wp2_with fail
        refine (HG.out _).mono ?_
        rintro e w6 ⟨rfl, hb6⟩
        have HY7 := Lib.hid ((HY5.out.below hb6).below (ba0 w6 (.cells #[.int .u64 (m.base : Int), .int .i64 m.cap, .int .i64 m.to, .int .i64 m.low, .int .i64 m.high, .int .i64 m.old, .int .i64 m.far] 24)))
        have HM7 := Lib.hid (((LoAt.new w5 m).below hb6).below (ba0 w6 (.cells #[.int .u64 (m.base : Int), .int .i64 m.cap, .int .i64 m.to, .int .i64 m.low, .int .i64 m.high, .int .i64 m.old, .int .i64 m.far] 24)))
        have HN7 := Lib.hid (LoAt.new w6 m)
        have HB7 := Lib.hid (ba (bt HB6.out hb6) (.cells #[.int .u64 (m.base : Int), .int .i64 m.cap, .int .i64 m.to, .int .i64 m.low, .int .i64 m.high, .int .i64 m.old, .int .i64 m.far] 24))
        clear hb6 c0 c1 c2 c3 c4 c5 c6 HY5 HB6 HG
        go_wp2_with fail
        generalize w6.alloc (.cells #[.int .u64 (m.base : Int), .int .i64 m.cap, .int .i64 m.to, .int .i64 m.low, .int .i64 m.high, .int .i64 m.old, .int .i64 m.far] 24) = W7 at HY7 HM7 HN7 HB7 ⊢
        generalize w6.heap.size = gn at HN7 ⊢
        generalize w5.heap.size = gm at HM7 ⊢
        generalize wr.heap.size = gy at HY7 ⊢
        have hly : Hid (∀ w', (∃ x : GW W7, w' = x.w') → LoAt w' gy y) := Lib.hid (by rintro w' ⟨x, rfl⟩; exact HY7.out.below x.h)
        have hlm : Hid (∀ w', (∃ x : GW W7, w' = x.w') → LoAt w' gm m) := Lib.hid (by rintro w' ⟨x, rfl⟩; exact HM7.out.below x.h)
        have hln : Hid (∀ w', (∃ x : GW W7, w' = x.w') → LoAt w' gn m) := Lib.hid (by rintro w' ⟨x, rfl⟩; exact HN7.out.below x.h)
        have hnn : ∀ w, (binOp .neq 24 (.agg #[.int .u64 (m.base : Int), .int .i64 m.cap, .int .i64 m.to, .int .i64 m.low, .int .i64 m.high, .int .i64 m.old, .int .i64 m.far]) (.agg #[.int .u64 (m.base : Int), .int .i64 m.cap, .int .i64 m.to, .int .i64 m.low, .int .i64 m.high, .int .i64 m.old, .int .i64 m.far])).run Try.prog w = .ok (.bool false) w := fun w => by have h := neq_lo w m m; simp at h; exact h
        refine wp_region_grow (by kernel_rfl) (by kernel_rfl) ?_
        repeat (first
          | (refine wpQ_load_lo rfl (.tmp 19) rfl gy rfl y hly.out ?_; simp [Act.put])
          | (refine wpQ_load_lo rfl (.tmp 20) rfl gm rfl m hlm.out ?_; simp [Act.put])
          | (refine wpQ_load_lo rfl (.tmp 22) rfl gn rfl m hln.out ?_; simp [Act.put])
          | go_big_quiet_step ((first
            | (go_at_call 16; exact grow_call (HZ1.out _))
            | (go_at_call 17; exact grow_call (HZ2.out _))
            | (go_at_call 14; exact grow_call (HR1.out _))
            | (go_at_call 15; exact grow_call (HR2.out _)))))
        refine wpQuiet_nil ?_
        first | rintro _ ⟨w8, rfl⟩ | intro w8
        have HY8 := Lib.hid (hly.out _ ⟨w8, rfl⟩)
        have HQ8 := Lib.hid ((HQ5.out.below HB7.out).below w8.h)
        have HL8 := Lib.hid ((HL5.out.below HB7.out).below w8.h)
        have HB8 := Lib.hid (bt HB7.out w8.h)
        clear hly hlm hln hnn HY7 HM7 HN7 HB7 HBR HR1 HR2 HZ1 HZ2
        generalize w8.w' = W8 at HY8 HQ8 HL8 HB8 ⊢
        clear w8
        obtain ⟨u1, hu1, hu12⟩ := pkN p1 6 (by omega)
        obtain ⟨u2, hu2, hu22⟩ := pkN p2 50 (by omega)
        have IHp := Lib.hid (fun (q n r : Int) w (h : (q = p1 ∧ n = 6 ∧ r = u1) ∨ (q = p2 ∧ n = 50 ∧ r = u2)) => show Calls Try.prog 11 #[.int .i64 q, .int .i64 n] w fun e w' => e = .returned (.int .i64 r) ∧ w = w' from
          pick07_int q n r w (by rcases h with ⟨rfl, _⟩ | ⟨rfl, _⟩; exact HP1.out.1; exact HP2.out.1) (by rcases h with ⟨rfl, _⟩ | ⟨rfl, _⟩; exact HP1.out.2; exact HP2.out.2) (by omega) (by omega) (by rcases h with ⟨rfl, rfl, rfl⟩ | ⟨rfl, rfl, rfl⟩ <;> assumption))
        clear hu1 hu2
        go_wp2_with fail
        have x0 := HQ8.out.cell (j := 0) rfl
        have x1 := HQ8.out.cell (j := 1) rfl
        have hql := HQ8.out.lt
        have hw1 : IntKind.i64.wrap ((u2 : Int) - 2) = (u2 : Int) - 2 := IntWalk.i64_in _ ⟨by omega, by omega⟩
        have hkeep : Hid (∀ w' : World, Below W8.heap.size W8 w' → w'.cell? ⟨g0 + 1 + 1, 0, none⟩ = some (.int .i64 p1) ∧ w'.cell? ⟨g0 + 1 + 1, 1, none⟩ = some (.int .i64 p2)) := Lib.hid fun w' h => ⟨cellS h hql x0, cellS h hql x1⟩
        go_region_held3 (fun w' => w'.cell? ⟨g0 + 1 + 1, 0, none⟩ = some (.int .i64 p1) ∧ w'.cell? ⟨g0 + 1 + 1, 1, none⟩ = some (.int .i64 p2)) (exact hkeep.out _ (by first | exact (Below.refl _ W8).drew | exact Below.refl _ W8 | exact ba (Below.refl _ W8).drew _ | exact ba0 W8 _)) ((first
          | (go_at_call 11; refine (IHp.out _ _ _ _ (by first | exact Or.inl ⟨rfl, rfl, rfl⟩ | exact Or.inr ⟨rfl, rfl, rfl⟩)).mono ?_; rintro e w2 ⟨rfl, rfl⟩)))
        have hbk : Blk (W8.alloc (.cells #[.int .i64 p1, .int .i64 p2, .int .i64 (u1 : Int), .int .i64 ((u2 : Int) - 2)] 27)).drew W8.heap.size [.int .i64 p1, .int .i64 p2, .int .i64 (u1 : Int), .int .i64 ((u2 : Int) - 2)] 27 := Blk.new W8 _ _
        have hcs : ∀ t : Nat, t < 2 → ∃ a b : Int, Hid (i64 a) ∧ Hid (i64 b) ∧ (W8.alloc (.cells #[.int .i64 p1, .int .i64 p2, .int .i64 (u1 : Int), .int .i64 ((u2 : Int) - 2)] 27)).drew.cell? ⟨W8.heap.size, t * 2, none⟩ = some (.int .i64 a) ∧ (W8.alloc (.cells #[.int .i64 p1, .int .i64 p2, .int .i64 (u1 : Int), .int .i64 ((u2 : Int) - 2)] 27)).drew.cell? ⟨W8.heap.size, t * 2 + 1, none⟩ = some (.int .i64 b) := by
          intro t ht
          match t, ht with
          | 0, _ => exact ⟨p1, p2, HP1, HP2, hbk.cell rfl, hbk.cell rfl⟩
          | 1, _ => exact ⟨u1, (u2 : Int) - 2, Lib.hid ⟨by omega, by omega⟩, Lib.hid ⟨by omega, by omega⟩, hbk.cell rfl, hbk.cell rfl⟩
        have hbl8 := hbk.lt
        have HCP := Lib.hid hcs
        have HY9 := Lib.hid (HY8.out.below (ba0 W8 (.cells #[.int .i64 p1, .int .i64 p2, .int .i64 (u1 : Int), .int .i64 ((u2 : Int) - 2)] 27)).drew)
        have HL9 := Lib.hid (HL8.out.below (ba0 W8 (.cells #[.int .i64 p1, .int .i64 p2, .int .i64 (u1 : Int), .int .i64 ((u2 : Int) - 2)] 27)).drew)
        have HB9 := Lib.hid (ba HB8.out (.cells #[.int .i64 p1, .int .i64 p2, .int .i64 (u1 : Int), .int .i64 ((u2 : Int) - 2)] 27)).drew
        clear hbk hcs hkeep x0 x1 hw1 IHp HQ8 HY8 HL8 HB8
        generalize (W8.alloc (.cells #[.int .i64 p1, .int .i64 p2, .int .i64 (u1 : Int), .int .i64 ((u2 : Int) - 2)] 27)).drew = W9 at HCP HY9 HL9 HB9 hbl8 ⊢
        generalize W8.heap.size = gp at HCP hbl8 ⊢
        go_wp2_with fail
        go_loopw [121] (fun i wr => ∃ t : Nat, t ≤ 2 ∧ i = .int .i64 t ∧ Hid (Below W9.heap.size W9 wr)) (fun i _ => 2 - (intOf i).toNat)
        case atStart => exact ⟨0, by omega, rfl, Lib.hid (Below.refl _ _)⟩
        case round =>
          obtain ⟨t, ht2, rfl, HBS⟩ := hrel
          by_cases ht : t < 2
          · obtain ⟨a, b', HIA, HIB, x0, x1⟩ := HCP.out t ht
            obtain ⟨A, E2, hA⟩ : ∃ A E2, laddr y a b' = (A, E2) := ⟨_, _, rfl⟩
            have HC1 := Lib.hid (fun w => C.addr y a b' A E2 w HY.out HIA.out.1 HIA.out.2 HIB.out.1 HIB.out.2 hA)
            have HC2 := Lib.hid (fun w => refAddr7 y a b' A E2 w HY.out hA)
            have x0 := cellS HBS.out hbl8 x0
            have x1 := cellS HBS.out hbl8 x1
            have ht' : (t : Int) < 2 := by omega
            have HYa := Lib.hid ((HY9.out.below HBS.out).below (ba0 wr (.cells #[.int .i64 a, .int .i64 b'] 27)))
            have HBa := Lib.hid (ba HBS.out (.cells #[.int .i64 a, .int .i64 b'] 27))
            clear hA
            obtain ⟨c0, c1, c2, c3, c4, c5, c6⟩ := HYa.out.cells
            go_wp2_with fail
            refine (HC1.out _).mono ?_
            rintro e w5 ⟨rfl, hb5⟩
            have HYb := Lib.hid (HYa.out.below hb5)
            have HPb := Lib.hid ((Blk.new wr [.int .i64 a, .int .i64 b'] 27).below hb5)
            have HBb := Lib.hid (bt HBa.out hb5)
            clear hb5 c0 c1 c2 c3 c4 c5 c6 x0 x1 HYa HBa
            obtain ⟨c0, c1, c2, c3, c4, c5, c6⟩ := HYb.out.cells
            have x0 := HPb.out.cell (j := 0) rfl
            have x1 := HPb.out.cell (j := 1) rfl
            go_wp2_with fail
            refine (HC2.out _).mono ?_
            rintro e w6 ⟨rfl, hb6⟩
            have HBc := Lib.hid (bt HBb.out hb6)
            clear hb6 c0 c1 c2 c3 c4 c5 c6 x0 x1
            go_wp2_with fail
            go_roundw
            case rel => exact ⟨t + 1, by omega, by go_num, HBc⟩
            case measure => simp [intOf]; omega
          · obtain rfl : t = 2 := by omega
            have HYs := Lib.hid (HY9.out.below HBS.out)
            have HLs := Lib.hid (HL9.out.below HBS.out)
            have HBs := Lib.hid (bt HB9.out HBS.out)
            obtain ⟨Y3, hy3, hY3⟩ := u64w ((l.base : Int) - (ad : Int) % 5)
            obtain ⟨Y4, hy4, hY4⟩ := u64w ((y.base : Int) + (ad : Int) % 90)
            have k0 := HLs.out.cells.1
            have q0 := HYs.out.cells.1
            have hyb := HY.out.1
            go_wp2_with fail
            have hbk : Blk (wr.alloc (.cells #[.int .u64 (ad : Int), .int .u64 ((l.base : Int) + (ad : Int) % 90), .int .u64 (Y3 : Int), .int .u64 (Y4 : Int)] 22)) wr.heap.size [.int .u64 (ad : Int), .int .u64 ((l.base : Int) + (ad : Int) % 90), .int .u64 (Y3 : Int), .int .u64 (Y4 : Int)] 22 := Blk.new wr _ _
            have hcs : ∀ q : Nat, q < 4 → ∃ Y : Nat, Y < 2 ^ 64 ∧ (wr.alloc (.cells #[.int .u64 (ad : Int), .int .u64 ((l.base : Int) + (ad : Int) % 90), .int .u64 (Y3 : Int), .int .u64 (Y4 : Int)] 22)).cell? ⟨wr.heap.size, q, none⟩ = some (.int .u64 (Y : Int)) := by
              intro q hq
              match q, hq with
              | 0, _ => exact ⟨ad, had, hbk.cell rfl⟩
              | 1, _ => exact ⟨l.base + ad % 90, by omega, hbk.cell (j := 1) rfl⟩
              | 2, _ => exact ⟨Y3, hY3, hbk.cell rfl⟩
              | 3, _ => exact ⟨Y4, hY4, hbk.cell rfl⟩
            have hblq := hbk.lt
            have HCQ := Lib.hid hcs
            have HYt := Lib.hid (HYs.out.below (ba0 wr (.cells #[.int .u64 (ad : Int), .int .u64 ((l.base : Int) + (ad : Int) % 90), .int .u64 (Y3 : Int), .int .u64 (Y4 : Int)] 22)))
            have HBt := Lib.hid (ba HBs.out (.cells #[.int .u64 (ad : Int), .int .u64 ((l.base : Int) + (ad : Int) % 90), .int .u64 (Y3 : Int), .int .u64 (Y4 : Int)] 22))
            clear hbk hcs hy3 hy4 hY3 hY4 k0 q0 hyb HLs HYs HBs HCP HY9 HL9 HB9 HBS
            generalize wr.alloc (.cells #[.int .u64 (ad : Int), .int .u64 ((l.base : Int) + (ad : Int) % 90), .int .u64 (Y3 : Int), .int .u64 (Y4 : Int)] 22) = W10 at HCQ HYt HBt hblq ⊢
            generalize wr.heap.size = gq at HCQ hblq ⊢
            go_loopw [164] (fun i wr => ∃ t : Nat, t ≤ 4 ∧ i = .int .i64 t ∧ Hid (Below W10.heap.size W10 wr)) (fun i _ => 4 - (intOf i).toNat)
            case atStart => exact ⟨0, by omega, rfl, Lib.hid (Below.refl _ _)⟩
            case round =>
              obtain ⟨t, ht4, rfl, HBS⟩ := hrel
              by_cases ht : t < 4
              · obtain ⟨Y, hY64, x0⟩ := HCQ.out t ht
                obtain ⟨P, I, E3, hA⟩ : ∃ P I E3, lfind y Y = ((P, I), E3) := ⟨_, _, _, rfl⟩
                have HC1 := Lib.hid (fun w => C.find y Y P I E3 w HY.out (by omega) (by omega) hA)
                have HC2 := Lib.hid (fun w => refFind7 y Y P I E3 w HY.out hY64 hA)
                have x0 := cellS HBS.out hblq x0
                have ht' : (t : Int) < 4 := by omega
                have HYa := Lib.hid (HYt.out.below HBS.out)
                clear hA
                obtain ⟨c0, c1, c2, c3, c4, c5, c6⟩ := HYa.out.cells
                go_wp2_with fail
                refine (HC1.out _).mono ?_
                rintro e w5 ⟨rfl, hb5⟩
                have HYb := Lib.hid ((HYa.out.below hb5).below (ba0 w5 (.cells #[.int .i64 P, .int .i64 I] 27)))
                have HPb := Lib.hid (Blk.new w5 [.int .i64 P, .int .i64 I] 27)
                have HBb := Lib.hid (ba (bt HBS.out hb5) (.cells #[.int .i64 P, .int .i64 I] 27))
                clear hb5 c0 c1 c2 c3 c4 c5 c6 x0 HYa
                obtain ⟨c0, c1, c2, c3, c4, c5, c6⟩ := HYb.out.cells
                go_wp2_with fail
                refine (HC2.out _).mono ?_
                rintro e w6 ⟨rfl, hb6⟩
                have x0 := ((HPb.out.below hb6).below (ba0 w6 (.cells #[.int .i64 P, .int .i64 I] 27))).cell (j := 0) rfl
                have x1 := ((HPb.out.below hb6).below (ba0 w6 (.cells #[.int .i64 P, .int .i64 I] 27))).cell (j := 1) rfl
                have HBc := Lib.hid (ba (bt HBb.out hb6) (.cells #[.int .i64 P, .int .i64 I] 27))
                have hnn : ∀ w, (binOp .neq 27 (.agg #[.int .i64 P, .int .i64 I]) (.agg #[.int .i64 P, .int .i64 I])).run Try.prog w = .ok (.bool false) w := fun w => by rw [neq_pl]; simp
                clear hb6 c0 c1 c2 c3 c4 c5 c6
                go_wp2_with fail
                go_roundw
                case rel =>
                  (repeat apply Exists.intro)
                  exact ⟨⟨t + 1, by omega, by go_num, HBc⟩, rfl⟩
                case measure => simp [intOf]; omega
              · obtain rfl : t = 4 := by omega
                have HBe := Lib.hid (bt HBt.out HBS.out)
                go_wp2_with fail
                go_roundw
                case rel => exact ⟨j + 1, by omega, by go_num, HBe⟩
                case measure => simp [intOf]; omega
      · obtain rfl : j = 3 := by omega
        go_wp2_with fail
        go_ret
        exact ⟨rfl, bt HB5.out HBR.out⟩
end Go.Proofs.Ytifmlmbbmlnpmaa.V
