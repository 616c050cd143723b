/-
  The program's iterator over an object's words (told and its closure), walked: whatever is done with each object, it hands over those that are there, in order, and ends, or panics with the error.
-/
import Derived.Test.YtjefajpipgicdaaOProg2
import Derived.Test.YtjefajpipgicdaaORefWalk
import Derived.StillTailTactics
import Derived.RangeFuncNested
import Derived.RangeFuncBound
import Derived.RangeFuncCalls
import Derived.RangeFuncLeaves
import Derived.Shelf.Abstract
import Derived.OwnWalkIn
import Derived.TacticsInMore
set_option linter.unusedVariables false
namespace Go.Proofs.Ytjefajpipgicdaa.V
open Go.RowKit

theorem run_slice_us2 (w : World) (ao : Option Addr) (m cap i k : Nat) (hk : i + k ≤ m) (hmc : m ≤ cap) :
    (Instr.sliceAt 22 (.slice ao m cap) (some (.int .i64 (i : Int))) (some (.int .i64 ((i + k : Nat) : Int))) none).run Try.prog w = .ok (.slice (if cap = i then ao else Option.map (fun x => x.add i) ao) k (cap - i)) w := by
  have u1 := Try.underlying22
  have u2 := Try.underlying24
  have z2 := Try.sizeOf24
  have h1 : ((i + k : Nat) : Int) ≤ (m : Int) := by omega
  have h2 : (m : Int) ≤ (cap : Int) := by omega
  have h3 : ((i + k : Nat) : Int) ≤ (cap : Int) := by omega
  have h0 : (0 : Int) ≤ (i : Int) := by omega
  have h4 : (i : Int) ≤ ((i + k : Nat) : Int) := by omega
  have h5 : (0 : Int) ≤ ((i + k : Nat) : Int) := by omega
  have h6 : i + k - i = k := by omega
  generalize i + k = j at *
  subst h6
  go_simp
theorem run_slice_sh1 (w : World) (ao : Option Addr) (m cap : Nat) (hk : 1 ≤ m) (hmc : m ≤ cap) :
    (Instr.sliceAt 25 (.slice ao m cap) (some (.int .i64 1)) none none).run Try.prog w = .ok (.slice (if cap = 1 then ao else Option.map (fun x => x.add 2) ao) (m - 1) (cap - 1)) w := by
  have u1 := Try.underlying25
  have u2 := Try.underlying28
  have z2 := Try.sizeOf28
  have h1 : (1 : Int) ≤ (m : Int) := by omega
  have h2 : (m : Int) ≤ (cap : Int) := by omega
  have h3 : (1 : Int) ≤ (cap : Int) := by omega
  go_simp
theorem Rw.tailIf {w : World} {ao : Option Addr} {l : List Shp} {cap : Nat} (h : Rw sc 2 w ao l) (hc : l.length ≤ cap) : Rw sc 2 w (if cap = 1 then ao else Option.map (fun x => x.add 2) ao) (l.drop 1) := by
  intro j x hj
  rw [List.getElem?_drop] at hj
  have hlt := (List.getElem?_eq_some_iff.1 hj).1
  rw [if_neg (by omega)]
  obtain ⟨b, off, rfl, hb, hcell⟩ := h (1 + j) x hj
  refine ⟨b, off + 2, by simp [Addr.add], hb, fun i v hi => ?_⟩
  rw [← hcell i v hi]
  congr 2
  omega
theorem wp_slice_sh {ops : Array Oper} {rest : List Oper} {op : Oper} {a : Act} {w : World} {Q : Exit → Act → World → Prop} (hgd : op.guard = none) (x : Operand) (ho : op.op = .slice 25 x (some (.const (.int .i64 1))) none none)
    (ao : Option Addr) (m cap : Nat) (hx : a.eval x = .slice ao m cap) (hk : 1 ≤ m) (hmc : m ≤ cap)
    (h : ∀ X c', (∀ W l, l.length = m → Rw sc 2 W ao l → Rw sc 2 W X (l.drop 1)) → m - 1 ≤ c' → c' ≤ cap → wpList Try.prog ops Q rest (a.put op.dst (.slice X (m - 1) c')) w) : wpList Try.prog ops Q (op :: rest) a w := by
  refine BigFrame.wpList_want (by simp [Region.wanted, hgd]) fun K hK => ?_
  have hy : a.eval (.const (.int .i64 1)) = .int .i64 1 := rfl
  unfold Oper.wp execOp
  simp only [ho, hx, hy, Sem.run_bind, Sem.run_pure, Result.andThen_ok, Option.map_some, Option.map_none, run_slice_sh1 w ao m cap hk hmc]
  exact hK _ _ (h _ _ (fun W l hl hr => hr.tailIf (by omega)) (by omega) (by omega))

theorem slice_us2' (w : World) (ao : Option Addr) (m ca p s : Nat) (ws : List Nat) (hm : ws.length = m) (hu : Us w ao ws) (hps : p + 1 + s ≤ m) (hmc : m ≤ ca) :
    ∃ Y cy, (Instr.sliceAt 22 (.slice ao m ca) (some (.int .i64 ((p : Int) + 1))) (some (.int .i64 ((p : Int) + 1 + s))) none).run Try.prog w = .ok (.slice Y s cy) w ∧ Us w Y ((ws.drop (p + 1)).take s) ∧ s ≤ cy ∧ cy ≤ ca :=
  ⟨_, _, by simpa using run_slice_us2 w ao m ca (p + 1) s (by omega) hmc, (hu.dropIf (by omega)).take s, by omega, by omega⟩
theorem headOf_some {x tk s p t : Nat} {g : Bool} {sh sh' : List Shp} (h : headOf x (sh.drop tk) true = some ((s, p, g, t), sh')) : s ≤ 255 ∧ p ≤ s ∧ sh' = sh.drop (if g then tk + 1 else tk) ∧ (g = true → tk < sh.length) := by
  unfold headOf at h
  split at h
  · split at h
    · cases h
    · rename_i a b r hd
      split at h
      · rename_i hr
        simp only [Option.some.injEq, Prod.mk.injEq] at h
        obtain ⟨⟨h1, h2, rfl, h3⟩, rfl⟩ := h
        obtain ⟨r1, r2, r3, r4⟩ := hr
        have hlt : tk < sh.length := by
          rcases Nat.lt_or_ge tk sh.length with h | h
          · exact h
          · rw [List.drop_eq_nil_of_le h] at hd; cases hd
        refine ⟨by omega, by omega, ?_, fun _ => hlt⟩
        rw [List.drop_eq_getElem_cons hlt] at hd
        simp only [List.cons.injEq] at hd
        simp [hd.2]
      · cases h
  · split at h
    · rename_i hu
      simp only [Option.some.injEq, Prod.mk.injEq] at h
      obtain ⟨⟨h1, h2, rfl, h3⟩, rfl⟩ := h
      have hu0 : (hunpack x).2.2 = 0 := by simpa using hu
      unfold hunpack at h1 h2 hu0
      split at hu0
      · rename_i hc
        rw [if_pos hc] at h1 h2
        simp only at h1 h2
        exact ⟨by omega, by omega, by simp, by simp⟩
      · simp at hu0
    · cases h

set_option maxRecDepth 100000 in
set_option maxHeartbeats 1000000 in
theorem told1 (ao bo : Option Addr) (ca cb m n : Nat) (ws : List Nat) (sh : List Shp) (L : List Ob) (E : Nat) (l Bs Bw : Nat) (J : List Ob → World → Prop) (w : World)
    (hm : ws.length = m) (hn : sh.length = n) (hml : m ≤ 1000000) (hnl : n ≤ 1000000) (hv : ∀ v ∈ ws, v < 2 ^ 64) (hmc : m ≤ ca) (hcm : ca ≤ 9223372036854775807) (hnc : n ≤ cb) (hcb : cb ≤ 9223372036854775807)
    (hA : ∀ O W W', J O W → Below W.heap.size W W' → J O W')
    (hJ : ∀ O W, J O W → W.cell? ⟨Bw, 0, none⟩ = some (.slice ao m ca) ∧ Us W ao ws ∧ Rw sc 2 W bo sh)
    (hY : ∀ O o W, J O W → O.length < m → YieldAt Fence.wide 0 Try.prog l #[obv o] W fun e W' => e = .returned (.bool true) ∧ J (O ++ [o]) W')
    (h0 : J [] w) (hBs : w.cell? ⟨Bs, 0, none⟩ = some (.slice bo n cb)) (hwalk : walkL ws sh true = (L, E)) :
    Calls Try.prog 39 #[.func (.yield l) #[] #[], .pointer (some ⟨Bs, 0, none⟩), .pointer (some ⟨Bw, 0, none⟩)] w fun e W' =>
      (E = 0 ∧ (∃ v, e = .returned v) ∧ J L W') ∨ (E ≠ 0 ∧ e = .panicked [{ v := .iface 34 (.int .i64 (E : Int)), recovered := false }] ∧ ∃ O, J O W') := by
  have HV := Lib.hid hv
  have HA := Lib.hid hA
  have HJ := Lib.hid hJ
  have HY := Lib.hid hY
  have HJ0 := Lib.hid h0
  have HM := Lib.hid hm
  have HN := Lib.hid hn
  have HW0 := Lib.hid (WInv.start ws sh true L E hwalk)
  clear hv hA hJ hY h0 hm hn hwalk
  go_enter Try.func39, Try.ntmps39
  go_wp2_with fail
  go_loopw [4, 5] (fun lf i wr => ∃ (O : List Ob) (tk p n' c' : Nat) (X : Option Addr), lf = .slice X n' c' ∧ i = .int .i64 p ∧ p ≤ m ∧ O.length ≤ p ∧ tk + n' = n ∧ n' ≤ c' ∧ c' ≤ 9223372036854775807 ∧ Hid (∀ W, Rw sc 2 W bo sh → Rw sc 2 W X (sh.drop tk)) ∧ Hid (WInv ws sh true L E O tk p) ∧ Hid (J O wr)) (fun _ i _ => m - (intOf i).toNat)
  case atStart => exact ⟨[], 0, 0, n, cb, bo, rfl, rfl, by omega, by simp, by omega, hnc, hcb, Lib.hid (fun W h => by simpa using h), HW0, HJ0⟩
  case round =>
    obtain ⟨O, tk, p, n', c', X, rfl, rfl, hpm, hop, htk, hnc', hcb', HS, HW, HJO⟩ := hrel
    obtain ⟨hcw, hus, hrs⟩ := HJ.out _ _ HJO.out
    have HUS := Lib.hid hus
    have HRS := Lib.hid hrs
    clear hus hrs
    by_cases hp : p < m
    · have hpl : p < ws.length := by rw [HM.out]; exact hp
      obtain ⟨b, off, rfl, hbb, hc⟩ := HUS.out p hpl
      have hx : ws.getD p 0 < 2 ^ 64 := HV.out _ (by simp [List.getD, hpl])
      have HPL := Lib.hid hpl
      have hln : (sh.drop tk).length = n' := by rw [List.length_drop, HN.out]; omega
      have HLN := Lib.hid hln
      clear hpl hln
      cases hh : headOf (ws.getD p 0) (sh.drop tk) true with
      | none =>
        have HF := Lib.hid (HW.out.none HPL.out hh).2
        have HH := Lib.hid hh
        clear hh
        generalize hxx : ws.getD p 0 = x at hc hx HH
        clear hxx
        go_wp2_with fail
        refine (oBeginNo x X c' n' (sh.drop tk) _ hx HLN.out (HS.out _ HRS.out) HH.out).mono ?_
        rintro e w1 ⟨rfl, hb1⟩
        exact ⟨rfl, .inr ⟨by rw [HF.out]; decide, by rw [HF.out]; rfl, O, HA.out _ _ _ HJO.out hb1⟩⟩
      | some v =>
        obtain ⟨⟨s, pp, g, t⟩, sh'⟩ := v
        obtain ⟨hs255, hps, hsh, hgt⟩ := headOf_some hh
        subst hsh
        have HST := Lib.hid (HW.out.some HPL.out hh)
        have HH := Lib.hid hh
        have HGT := Lib.hid hgt
        clear hh hgt
        generalize hxx : ws.getD p 0 = x at hc hx HH
        clear hxx
        by_cases hle : p + 1 + s ≤ m
        · have dle : decide ((p : Int) + 1 + s ≤ (m : Int)) = true := by simp; omega
          cases g with
          | false =>
            go_wp2_with fail
            refine (oBeginOk x X c' n' (sh.drop tk) _ s pp t false _ hx HLN.out (HS.out _ HRS.out) HH.out).mono ?_
            rintro e w1 ⟨rfl, hb1⟩
            have HB1 := Lib.hid hb1
            have hcw1 := (HJ.out _ _ (HA.out _ _ _ HJO.out hb1)).1
            clear hb1
            unfold obv
            go_wp2_with (refine wp_store_ob rfl (.tmp 6) (.tmp 18) rfl w1.heap.size ⟨0, s, pp, false, t⟩ rfl rfl (ob_new w1).1 (ob_new w1).2 ?_; intro w2 q0 q1 q2 q3 q4 q5 q6; have z0 := set_at (.int .i64 (p : Int)) q0; have z1 := set_no (j := 0) (.int .i64 (p : Int)) (by decide) q1; have z2 := set_no (j := 0) (.int .i64 (p : Int)) (by decide) q2; have z3 := set_no (j := 0) (.int .i64 (p : Int)) (by decide) q3; have z4 := set_no (j := 0) (.int .i64 (p : Int)) (by decide) q4; have hbs := Lib.hid ((q6 _ _ (Nat.le_refl _) (ba0 w1 _)).setCell (p := ⟨w1.heap.size, 0, none⟩) (Nat.le_refl _) (.int .i64 (p : Int))); clear q6; have HJ2 := Lib.hid (HA.out _ _ _ (HA.out _ _ _ HJO.out HB1.out) hbs.out); have hcw2 := (HJ.out _ _ HJ2.out).1)
            refine (oDemandYes 2 _).mono ?_
            rintro e w9 ⟨rfl, rfl⟩
            generalize w2.setCell ⟨w1.heap.size, 0, none⟩ (.int .i64 (p : Int)) = w3 at z0 z1 z2 z3 z4 hbs HJ2 hcw2 ⊢
            clear q0 q1 q2 q3 q4 q5 w2
            go_wp2_with fail
            have z0d : w3.drew.cell? ⟨w1.heap.size, 0, none⟩ = some (.int .i64 (p : Int)) := z0
            have hld : (Instr.loadAt 53 (.pointer (some ⟨w1.heap.size, 0, none⟩))).run Try.prog w3.drew = .ok (.agg #[.int .i64 (p : Int), .int .i64 (s : Int), .int .i64 (pp : Int), .bool false, .int .u64 (t : Int)]) w3.drew := load_ob (w := w3.drew) (b := w1.heap.size) (off := 0) (o := ⟨p, s, pp, false, t⟩) z0 z1 z2 z3 z4
            have hcd : w3.drew.cell? ⟨Bw, 0, none⟩ = some (.slice (some ⟨b, off, none⟩) m ca) := hcw2
            have HJ3 := Lib.hid (HA.out _ _ _ HJ2.out ((Below.refl _ w3).drew))
            obtain ⟨Y, cy, hsl, hyu, hy1, hy2⟩ := slice_us2' w3.drew _ m ca p s ws HM.out (HJ.out _ _ HJ3.out).2.1 hle hmc
            have HYU := Lib.hid hyu
            clear hyu
            have hwr : IntKind.i64.wrap ((p : Int) + 1) = (p : Int) + 1 := IntWalk.i64_in _ (by omega)
            go_still_tail 6, (by kernel_rfl)
            have hg : w3.drew = { heap := w3.heap, tape := w3.tape, drawn := w3.drawn + 1, os := w3.os, output := w3.output } := rfl
            rw [← hg]
            clear hg
            have hlen : ((ws.drop (p + 1)).take s).length = s := by rw [List.length_take, List.length_drop, HM.out]; omega
            have HLEN := Lib.hid hlen
            clear hlen
            have HVS := Lib.hid (fun v (h : v ∈ (ws.drop (p + 1)).take s) => HV.out v (List.mem_of_mem_drop (List.mem_of_mem_take h)))
            cases hq : slotsOk ((ws.drop (p + 1)).take s) pp false with
            | false =>
              have HQ := Lib.hid hq
              have HF := Lib.hid (show E = 3 by have h9 := HST.out; rw [if_neg (by rw [HM.out]; omega), hq, if_neg (by decide)] at h9; exact h9.2)
              clear hq
              go_wp2_with fail
              refine (oFits ⟨p, s, pp, false, t⟩ pp Y cy s _ false _ HLEN.out (by omega) HVS.out HYU.out rfl hps hy1 (by omega) HQ.out).mono ?_
              rintro e w4 ⟨rfl, hb4⟩
              have HB4 := Lib.hid hb4
              clear hb4
              go_wp2_with fail
              refine (oDemandNo 3 _).mono ?_
              rintro e w9 ⟨rfl, rfl⟩
              exact ⟨rfl, .inr ⟨by rw [HF.out]; decide, by rw [HF.out]; rfl, O, HA.out _ _ _ HJ3.out HB4.out⟩⟩
            | true =>
              have HQ := Lib.hid hq
              have HW2 := Lib.hid (show WInv ws sh true L E (O ++ [⟨p, s, pp, false, t⟩]) (if false = true then tk + 1 else tk) (p + 1 + s) by have h9 := HST.out; rw [if_neg (by rw [HM.out]; omega), hq, if_pos rfl] at h9; exact h9)
              clear hq
              go_wp2_with fail
              refine (oFits ⟨p, s, pp, false, t⟩ pp Y cy s _ true _ HLEN.out (by omega) HVS.out HYU.out rfl hps hy1 (by omega) HQ.out).mono ?_
              rintro e w4 ⟨rfl, hb4⟩
              have HJ4 := Lib.hid (HA.out _ _ _ HJ3.out hb4)
              have hlt : w1.heap.size < w3.drew.heap.size := by obtain ⟨o9, ho9, _⟩ := cells_of_cell z0; exact (Array.getElem?_eq_some_iff.1 ho9).1
              have y0 := cell_step hb4 hlt z0
              have y1 := cell_step hb4 hlt z1
              have y2 := cell_step hb4 hlt z2
              have y3 := cell_step hb4 hlt z3
              have y4 := cell_step hb4 hlt z4
              clear hb4 hlt z0 z1 z2 z3 z4 hld hcd hsl hcw2
              go_wp2_with fail
              refine (oDemandYes 3 _).mono ?_
              rintro e w9 ⟨rfl, rfl⟩
              dsimp only
              rename_i K1 hK1 K2 hK2
              refine hK2 _ _ (hK1 _ _ ?_)
              clear hK2 K2
              refine wp_seq (wp_seq ((wpIn_wide (n := 1)).1 ?_))
              have hl4 : (Instr.loadAt 53 (.pointer (some ⟨w1.heap.size, 0, none⟩))).run Try.prog w4 = .ok (obv ⟨p, s, pp, false, t⟩) w4 := load_ob (o := ⟨p, s, pp, false, t⟩) y0 y1 y2 y3 y4
              obtain ⟨fn, tmps, assign, body, hy, hR⟩ := HY.out O ⟨p, s, pp, false, t⟩ w4 HJ4.out (by omega)
              unfold obv at hy hl4
              dsimp only at hy hl4
              gi_wp2
              refine hR.mono ?_
              rintro e w5 ⟨rfl, hJ5⟩
              have HJ5 := Lib.hid hJ5
              clear hJ5 hR hy
              gi_wp2
              go_wp2_with fail
              go_roundw
              case rel => exact ⟨O ++ [⟨p, s, pp, false, t⟩], tk, p + 1 + s, n', c', X, rfl, by go_num, hle, by simp; omega, htk, hnc', hcb', HS, HW2, HJ5⟩
              case measure => simp [intOf]; omega
          | true =>
            have HN1 : Hid (1 ≤ n') := Lib.hid (by have := HGT.out rfl; rw [HN.out] at this; omega)
            go_wp2_with fail
            refine (oBeginOk x X c' n' (sh.drop tk) _ s pp t true _ hx HLN.out (HS.out _ HRS.out) HH.out).mono ?_
            rintro e w1 ⟨rfl, hb1⟩
            have HB1 := Lib.hid hb1
            have hcw1 := (HJ.out _ _ (HA.out _ _ _ HJO.out hb1)).1
            clear hb1
            unfold obv
            go_wp2_with (first | (refine wp_slice_sh rfl (.tmp 23) rfl X n' c' rfl HN1.out hnc' ?_; intro Y0 cy0 hY1 hY2 hY3; have HY1 := Lib.hid hY1; clear hY1) | (refine wp_store_ob rfl (.tmp 6) (.tmp 18) rfl w1.heap.size ⟨0, s, pp, true, t⟩ rfl rfl (ob_new w1).1 (ob_new w1).2 ?_; intro w2 q0 q1 q2 q3 q4 q5 q6; have z0 := set_at (.int .i64 (p : Int)) q0; have z1 := set_no (j := 0) (.int .i64 (p : Int)) (by decide) q1; have z2 := set_no (j := 0) (.int .i64 (p : Int)) (by decide) q2; have z3 := set_no (j := 0) (.int .i64 (p : Int)) (by decide) q3; have z4 := set_no (j := 0) (.int .i64 (p : Int)) (by decide) q4; have hbs := Lib.hid ((q6 _ _ (Nat.le_refl _) (ba0 w1 _)).setCell (p := ⟨w1.heap.size, 0, none⟩) (Nat.le_refl _) (.int .i64 (p : Int))); clear q6; have HJ2 := Lib.hid (HA.out _ _ _ (HA.out _ _ _ HJO.out HB1.out) hbs.out); have hcw2 := (HJ.out _ _ HJ2.out).1))
            refine (oDemandYes 2 _).mono ?_
            rintro e w9 ⟨rfl, rfl⟩
            generalize w2.setCell ⟨w1.heap.size, 0, none⟩ (.int .i64 (p : Int)) = w3 at z0 z1 z2 z3 z4 hbs HJ2 hcw2 ⊢
            clear q0 q1 q2 q3 q4 q5 w2
            go_wp2_with fail
            have z0d : w3.drew.cell? ⟨w1.heap.size, 0, none⟩ = some (.int .i64 (p : Int)) := z0
            have hld : (Instr.loadAt 53 (.pointer (some ⟨w1.heap.size, 0, none⟩))).run Try.prog w3.drew = .ok (.agg #[.int .i64 (p : Int), .int .i64 (s : Int), .int .i64 (pp : Int), .bool true, .int .u64 (t : Int)]) w3.drew := load_ob (w := w3.drew) (b := w1.heap.size) (off := 0) (o := ⟨p, s, pp, true, t⟩) z0 z1 z2 z3 z4
            have hcd : w3.drew.cell? ⟨Bw, 0, none⟩ = some (.slice (some ⟨b, off, none⟩) m ca) := hcw2
            have HJ3 := Lib.hid (HA.out _ _ _ HJ2.out ((Below.refl _ w3).drew))
            obtain ⟨Y, cy, hsl, hyu, hy1, hy2⟩ := slice_us2' w3.drew _ m ca p s ws HM.out (HJ.out _ _ HJ3.out).2.1 hle hmc
            have HYU := Lib.hid hyu
            clear hyu
            have hwr : IntKind.i64.wrap ((p : Int) + 1) = (p : Int) + 1 := IntWalk.i64_in _ (by omega)
            go_still_tail 6, (by kernel_rfl)
            have hg : w3.drew = { heap := w3.heap, tape := w3.tape, drawn := w3.drawn + 1, os := w3.os, output := w3.output } := rfl
            rw [← hg]
            clear hg
            have hlen : ((ws.drop (p + 1)).take s).length = s := by rw [List.length_take, List.length_drop, HM.out]; omega
            have HLEN := Lib.hid hlen
            clear hlen
            have HVS := Lib.hid (fun v (h : v ∈ (ws.drop (p + 1)).take s) => HV.out v (List.mem_of_mem_drop (List.mem_of_mem_take h)))
            cases hq : slotsOk ((ws.drop (p + 1)).take s) pp true with
            | false =>
              have HQ := Lib.hid hq
              have HF := Lib.hid (show E = 3 by have h9 := HST.out; rw [if_neg (by rw [HM.out]; omega), hq, if_neg (by decide)] at h9; exact h9.2)
              clear hq
              go_wp2_with fail
              refine (oFits ⟨p, s, pp, true, t⟩ pp Y cy s _ false _ HLEN.out (by omega) HVS.out HYU.out rfl hps hy1 (by omega) HQ.out).mono ?_
              rintro e w4 ⟨rfl, hb4⟩
              have HB4 := Lib.hid hb4
              clear hb4
              go_wp2_with fail
              refine (oDemandNo 3 _).mono ?_
              rintro e w9 ⟨rfl, rfl⟩
              exact ⟨rfl, .inr ⟨by rw [HF.out]; decide, by rw [HF.out]; rfl, O, HA.out _ _ _ HJ3.out HB4.out⟩⟩
            | true =>
              have HQ := Lib.hid hq
              have HW2 := Lib.hid (show WInv ws sh true L E (O ++ [⟨p, s, pp, true, t⟩]) (if true = true then tk + 1 else tk) (p + 1 + s) by have h9 := HST.out; rw [if_neg (by rw [HM.out]; omega), hq, if_pos rfl] at h9; exact h9)
              clear hq
              go_wp2_with fail
              refine (oFits ⟨p, s, pp, true, t⟩ pp Y cy s _ true _ HLEN.out (by omega) HVS.out HYU.out rfl hps hy1 (by omega) HQ.out).mono ?_
              rintro e w4 ⟨rfl, hb4⟩
              have HJ4 := Lib.hid (HA.out _ _ _ HJ3.out hb4)
              have hlt : w1.heap.size < w3.drew.heap.size := by obtain ⟨o9, ho9, _⟩ := cells_of_cell z0; exact (Array.getElem?_eq_some_iff.1 ho9).1
              have y0 := cell_step hb4 hlt z0
              have y1 := cell_step hb4 hlt z1
              have y2 := cell_step hb4 hlt z2
              have y3 := cell_step hb4 hlt z3
              have y4 := cell_step hb4 hlt z4
              clear hb4 hlt z0 z1 z2 z3 z4 hld hcd hsl hcw2
              go_wp2_with fail
              refine (oDemandYes 3 _).mono ?_
              rintro e w9 ⟨rfl, rfl⟩
              dsimp only
              rename_i K1 hK1 K2 hK2
              refine hK2 _ _ (hK1 _ _ ?_)
              clear hK2 K2
              refine wp_seq (wp_seq ((wpIn_wide (n := 1)).1 ?_))
              have hl4 : (Instr.loadAt 53 (.pointer (some ⟨w1.heap.size, 0, none⟩))).run Try.prog w4 = .ok (obv ⟨p, s, pp, true, t⟩) w4 := load_ob (o := ⟨p, s, pp, true, t⟩) y0 y1 y2 y3 y4
              obtain ⟨fn, tmps, assign, body, hy, hR⟩ := HY.out O ⟨p, s, pp, true, t⟩ w4 HJ4.out (by omega)
              unfold obv at hy hl4
              dsimp only at hy hl4
              gi_wp2
              refine hR.mono ?_
              rintro e w5 ⟨rfl, hJ5⟩
              have HJ5 := Lib.hid hJ5
              clear hJ5 hR hy
              gi_wp2
              go_wp2_with fail
              go_roundw
              case rel => exact ⟨O ++ [⟨p, s, pp, true, t⟩], tk + 1, p + 1 + s, n' - 1, cy0, Y0, rfl, by go_num, hle, by simp; omega, by have := HN1.out; omega, hY2, by omega, Lib.hid (fun W h => by have h9 := HY1.out W _ HLN.out (HS.out W h); rwa [List.drop_drop] at h9), HW2, HJ5⟩
              case measure => simp [intOf]; omega
        · have dle : decide ((p : Int) + 1 + s ≤ (m : Int)) = false := by simp; omega
          have HF := Lib.hid (show E = 2 by have h9 := HST.out; rw [if_pos (by rw [HM.out]; omega)] at h9; exact h9.2)
          cases g with
          | false =>
            go_wp2_with fail
            refine (oBeginOk x X c' n' (sh.drop tk) _ s pp t false _ hx HLN.out (HS.out _ HRS.out) HH.out).mono ?_
            rintro e w1 ⟨rfl, hb1⟩
            have HB1 := Lib.hid hb1
            have hcw1 := (HJ.out _ _ (HA.out _ _ _ HJO.out hb1)).1
            clear hb1
            unfold obv
            go_wp2_with (refine wp_store_ob rfl (.tmp 6) (.tmp 18) rfl w1.heap.size ⟨0, s, pp, false, t⟩ rfl rfl (ob_new w1).1 (ob_new w1).2 ?_; intro w2 q0 q1 q2 q3 q4 q5 q6; have z0 := set_at (.int .i64 (p : Int)) q0; have z1 := set_no (j := 0) (.int .i64 (p : Int)) (by decide) q1; have z2 := set_no (j := 0) (.int .i64 (p : Int)) (by decide) q2; have z3 := set_no (j := 0) (.int .i64 (p : Int)) (by decide) q3; have z4 := set_no (j := 0) (.int .i64 (p : Int)) (by decide) q4; have hbs := Lib.hid ((q6 _ _ (Nat.le_refl _) (ba0 w1 _)).setCell (p := ⟨w1.heap.size, 0, none⟩) (Nat.le_refl _) (.int .i64 (p : Int))); clear q6; have HJ2 := Lib.hid (HA.out _ _ _ (HA.out _ _ _ HJO.out HB1.out) hbs.out); have hcw2 := (HJ.out _ _ HJ2.out).1)
            refine (oDemandNo 2 _).mono ?_
            rintro e w9 ⟨rfl, rfl⟩
            exact ⟨rfl, .inr ⟨by rw [HF.out]; decide, by rw [HF.out]; rfl, O, HJ2.out⟩⟩
          | true =>
            have HN1 : Hid (1 ≤ n') := Lib.hid (by have := HGT.out rfl; rw [HN.out] at this; omega)
            go_wp2_with fail
            refine (oBeginOk x X c' n' (sh.drop tk) _ s pp t true _ hx HLN.out (HS.out _ HRS.out) HH.out).mono ?_
            rintro e w1 ⟨rfl, hb1⟩
            have HB1 := Lib.hid hb1
            have hcw1 := (HJ.out _ _ (HA.out _ _ _ HJO.out hb1)).1
            clear hb1
            unfold obv
            go_wp2_with (first | (refine wp_slice_sh rfl (.tmp 23) rfl X n' c' rfl HN1.out hnc' ?_; intro Y0 cy0 hY1 hY2 hY3; have HY1 := Lib.hid hY1; clear hY1) | (refine wp_store_ob rfl (.tmp 6) (.tmp 18) rfl w1.heap.size ⟨0, s, pp, true, t⟩ rfl rfl (ob_new w1).1 (ob_new w1).2 ?_; intro w2 q0 q1 q2 q3 q4 q5 q6; have z0 := set_at (.int .i64 (p : Int)) q0; have z1 := set_no (j := 0) (.int .i64 (p : Int)) (by decide) q1; have z2 := set_no (j := 0) (.int .i64 (p : Int)) (by decide) q2; have z3 := set_no (j := 0) (.int .i64 (p : Int)) (by decide) q3; have z4 := set_no (j := 0) (.int .i64 (p : Int)) (by decide) q4; have hbs := Lib.hid ((q6 _ _ (Nat.le_refl _) (ba0 w1 _)).setCell (p := ⟨w1.heap.size, 0, none⟩) (Nat.le_refl _) (.int .i64 (p : Int))); clear q6; have HJ2 := Lib.hid (HA.out _ _ _ (HA.out _ _ _ HJO.out HB1.out) hbs.out); have hcw2 := (HJ.out _ _ HJ2.out).1))
            refine (oDemandNo 2 _).mono ?_
            rintro e w9 ⟨rfl, rfl⟩
            exact ⟨rfl, .inr ⟨by rw [HF.out]; decide, by rw [HF.out]; rfl, O, HJ2.out⟩⟩
    · obtain rfl : p = m := by omega
      have hst := HW.out.stop (by rw [HM.out]; exact Nat.le_refl _)
      by_cases hn0 : n' = 0
      · subst hn0
        rw [if_pos (by rw [HN.out]; omega)] at hst
        have HST := Lib.hid hst
        clear hst
        go_wp2_with fail
        refine (oDemandYes 3 _).mono ?_
        rintro e w1 ⟨rfl, rfl⟩
        go_wp2_with fail
        go_end0
        exact .inl ⟨HST.out.2, ⟨_, rfl⟩, by rw [HST.out.1]; exact HJO.out⟩
      · rw [if_neg (by rw [HN.out]; omega)] at hst
        have HST := Lib.hid hst
        have dn : ((n' : Int) == 0) = false := by simp; omega
        clear hst hn0
        go_wp2_with fail
        refine (oDemandNo 3 _).mono ?_
        rintro e w1 ⟨rfl, rfl⟩
        exact ⟨rfl, .inr ⟨by rw [HST.out.2]; decide, by rw [HST.out.2]; rfl, O, HJO.out⟩⟩
end Go.Proofs.Ytjefajpipgicdaa.V
