/-
  Places and layouts stored and read; the document's own Find and Flip, walked.
-/
import Derived.Test.YtifmlmbbmlnpmaaPlRef
import Derived.Deep.MidRow
set_option linter.unusedVariables false
namespace Go.Proofs.Ytifmlmbbmlnpmaa.V
open Go.RowKit

theorem loadVar_pl {w : World} {b : Nat} {s p : Int} (h1 : w.cell? ⟨b, 0, none⟩ = some (.int .i64 s)) (h2 : w.cell? ⟨b, 1, none⟩ = some (.int .i64 p)) :
    (loadVar 27 ⟨b, 0, none⟩).run Try.prog w = .ok (.agg #[.int .i64 s, .int .i64 p]) w := by
  refine run_loadVar_mid w b 0 27 [.int .i64 s, .int .i64 p] _ ?_ Try.underlying27 rfl (by kernel_rfl)
  intro j v hj
  match j, hj with
  | 0, hj => simp at hj; subst hj; exact h1
  | 1, hj => simp at hj; subst hj; exact h2
theorem wp_store_pl {ops : Array Oper} {rest : List Oper} {op : Oper} {a : Act} {w : World} {Q : Exit → Act → World → Prop} (hgd : op.guard = none) (x y : Operand) (ho : op.op = .store 27 x y)
    (g : Nat) (s p : Int) (hx : a.eval x = .pointer (some ⟨g, 0, none⟩)) (hy : a.eval y = .agg #[.int .i64 s, .int .i64 p])
    (hc : ∀ j, j < 2 → (w.cell? ⟨g, j, none⟩).isSome = true) (hf : ∀ j, j < 2 → w.frozen? ⟨g, j, none⟩ = false)
    (h : ∀ w2, w2.cell? ⟨g, 0, none⟩ = some (.int .i64 s) → w2.cell? ⟨g, 1, none⟩ = some (.int .i64 p) → (∀ j, j < 2 → w2.frozen? ⟨g, j, none⟩ = false) → (∀ S v, S ≤ g → Below S v w → Below S v w2) → wpList Try.prog ops Q rest (a.put op.dst undef) w2) : wpList Try.prog ops Q (op :: rest) a w := by
  have ht : w.there g 0 2 := fun j hj => by rw [Nat.zero_add]; exact ⟨hc j hj, hf j hj⟩
  refine wpList_store_mid hgd 27 x y ho g 0 #[.int .i64 s, .int .i64 p] hx hy ht (by kernel_rfl) (by simp [Value.oneCell']) ?_
  have hr := World.rangeAt_setCells_same w g 0 [.int .i64 s, .int .i64 p] ht
  refine h _ (by simpa using hr 0 _ rfl) (by simpa using hr 1 _ rfl) ?_ ?_
  · intro j hj
    simpa [World.setCells] using hf j hj
  · intro S v hS hb
    exact (hb.setCell hS _).setCell hS _
theorem loadVar_lo {w : World} {b : Nat} {l : Lo} (h : LoAt w b l) : (loadVar 24 ⟨b, 0, none⟩).run Try.prog w = .ok (lov l) w := by
  refine run_loadVar_mid w b 0 24 (loc l) _ ?_ Try.underlying24 rfl (by kernel_rfl)
  intro j v hj
  rw [Nat.zero_add]
  exact Blk.cell h hj
theorem blk_set {w : World} {g : Nat} {cs : List Value} {t : TypeId} (h : Blk w g cs t) (j : Nat) (v : Value) : Blk (w.setCell ⟨g, j, none⟩ v) g (cs.set j v) t := by
  unfold Blk at h ⊢
  rw [setCell_eq_setRow w g j cs.toArray t (0, 0) v h, setRow_heap w g _ _ t _ h]
  simp
/-- A whole layout stored in a block of its own. -/
theorem wp_store_lo {ops : Array Oper} {rest : List Oper} {op : Oper} {a : Act} {w : World} {Q : Exit → Act → World → Prop} (hgd : op.guard = none) (x y : Operand) (ho : op.op = .store 24 x y)
    (g : Nat) (l l0 : Lo) (hx : a.eval x = .pointer (some ⟨g, 0, none⟩)) (hy : a.eval y = lov l) (hb : LoAt w g l0)
    (h : ∀ w2, LoAt w2 g l → (∀ S v, S ≤ g → Below S v w → Below S v w2) → wpList Try.prog ops Q rest (a.put op.dst undef) w2) : wpList Try.prog ops Q (op :: rest) a w := by
  have ht : w.there g 0 7 := fun j hj => by
    rw [Nat.zero_add]
    refine ⟨?_, Blk.frozen hb j⟩
    match j, hj with
    | 0, _ => rw [Blk.cell hb rfl]; rfl
    | 1, _ => rw [Blk.cell hb rfl]; rfl
    | 2, _ => rw [Blk.cell hb rfl]; rfl
    | 3, _ => rw [Blk.cell hb rfl]; rfl
    | 4, _ => rw [Blk.cell hb rfl]; rfl
    | 5, _ => rw [Blk.cell hb rfl]; rfl
    | 6, _ => rw [Blk.cell hb rfl]; rfl
  refine wpList_store_mid hgd 24 x y ho g 0 (loc l).toArray hx hy ht (by kernel_rfl) (by simp [loc, Value.oneCell']) ?_
  refine h _ ?_ ?_
  · exact blk_set (blk_set (blk_set (blk_set (blk_set (blk_set (blk_set hb 0 _) 1 _) 2 _) 3 _) 4 _) 5 _) 6 _
  · intro S v hS hb
    exact ((((((hb.setCell hS _).setCell hS _).setCell hS _).setCell hS _).setCell hS _).setCell hS _).setCell hS _
theorem res_cell2 {fn : Func} {p u : Tmp} {ty : TypeId} (h : fn.results = #[.cell p ty, .tmp u]) (tmps : Array Value) (P : Program) (w : World) (g : Nat) (r : Value)
    (hp : tmps.getD p undef = .pointer (some ⟨g, 0, none⟩)) (hr : (loadVar ty ⟨g, 0, none⟩).run P w = .ok r w) : (results fn tmps).run P w = .ok (.tuple #[r, tmps.getD u undef]) w := by
  have hp' : tmps[p]?.getD undef = .pointer (some ⟨g, 0, none⟩) := by simpa using hp
  simp [results, h, hp', asAddr, Result.andThen, hr]

set_option maxRecDepth 100000 in
theorem refFlip7 (l m : Lo) (E : Int) (w : World) (bd : l.bd) (hF : lflip l = (m, E)) : Calls Try.prog 13 #[.agg #[.int .u64 (l.base : Int), .int .i64 l.cap, .int .i64 l.to, .int .i64 l.low, .int .i64 l.high, .int .i64 l.old, .int .i64 l.far]] w fun e w' => e = .returned (.tuple #[lov m, .int .i64 E]) ∧ Below w.heap.size w w' := by
  have hz : LoAt ((w.alloc (.cells #[.int .u64 (l.base : Int), .int .i64 l.cap, .int .i64 l.to, .int .i64 l.low, .int .i64 l.high, .int .i64 l.old, .int .i64 l.far] 24)).alloc (.cells #[.int .u64 0, .int .i64 0, .int .i64 0, .int .i64 0, .int .i64 0, .int .i64 0, .int .i64 0] 24)) (w.heap.size + 1) ⟨0, 0, 0, 0, 0, 0, 0⟩ := by
    have := LoAt.new (w.alloc (.cells #[.int .u64 (l.base : Int), .int .i64 l.cap, .int .i64 l.to, .int .i64 l.low, .int .i64 l.high, .int .i64 l.old, .int .i64 l.far] 24)) ⟨0, 0, 0, 0, 0, 0, 0⟩
    rwa [World.size_alloc] at this
  have HZ := Lib.hid hz
  clear hz
  by_cases h : lright l
  · have HR := Lib.hid (show decide (lright l) = true from decide_eq_true h)
    have HV := Lib.hid (show m = ⟨l.base, l.cap, 1 - l.to, 0, 0, l.low, l.high⟩ ∧ E = 0 by
      unfold lflip at hF
      rw [if_pos h] at hF
      simp only [Prod.mk.injEq] at hF
      exact ⟨hF.1.symm, hF.2.symm⟩)
    obtain ⟨_, ⟨h2, h3⟩, _, ⟨h5, h6⟩, _⟩ := h
    clear hF
    go_enter Try.func13, Try.ntmps13
    go_wp2_with fail
    refine (refRight7 l true _ bd HR.out).mono ?_
    rintro e w1 ⟨rfl, hb⟩
    obtain ⟨c0, c1, c2, c3, c4, c5, c6⟩ := (((LoAt.new w l).below (ba0 _ _)).below hb).cells
    have HZ1 := Lib.hid (HZ.out.below hb)
    have HB := Lib.hid (bt (ba (ba0 w _) _) hb)
    clear hb HZ
    go_wp2_with (refine wp_store_lo rfl (.tmp 2) (.tmp 21) rfl (w.heap.size + 1) ⟨l.base, l.cap, 1 - l.to, 0, 0, l.low, l.high⟩ _ rfl rfl HZ1.out ?_; intro w2 hz2 hb2; have HZ2 := Lib.hid hz2; have HB2 := Lib.hid (hb2 _ _ (by omega) HB.out); clear hz2 hb2)
    refine bodyPost_ret (res_cell2 rfl _ _ _ (w.heap.size + 1) _ rfl (loadVar_lo HZ2.out)) rfl ?_
    exact ⟨by rw [HV.out.1, HV.out.2]; rfl, HB2.out⟩
  · have HR := Lib.hid (show decide (lright l) = false from decide_eq_false h)
    have HV := Lib.hid (show m = ⟨0, 0, 0, 0, 0, 0, 0⟩ ∧ E = 1 by
      unfold lflip at hF
      rw [if_neg h] at hF
      simp only [Prod.mk.injEq] at hF
      exact ⟨hF.1.symm, hF.2.symm⟩)
    clear h hF
    go_enter Try.func13, Try.ntmps13
    go_wp2_with fail
    refine (refRight7 l false _ bd HR.out).mono ?_
    rintro e w1 ⟨rfl, hb⟩
    have HZ1 := Lib.hid (HZ.out.below hb)
    have HB := Lib.hid (bt (ba (ba0 w _) _) hb)
    clear hb HZ
    go_wp2_with (refine wp_store_lo rfl (.tmp 2) (.tmp 9) rfl (w.heap.size + 1) ⟨0, 0, 0, 0, 0, 0, 0⟩ _ rfl rfl HZ1.out ?_; intro w2 hz2 hb2; have HZ2 := Lib.hid hz2; have HB2 := Lib.hid (hb2 _ _ (by omega) HB.out); clear hz2 hb2)
    refine bodyPost_ret (res_cell2 rfl _ _ _ (w.heap.size + 1) _ rfl (loadVar_lo HZ2.out)) rfl ?_
    exact ⟨by rw [HV.out.1, HV.out.2]; rfl, HB2.out⟩

/-- A block of a place, all noughts. -/
theorem pl_new {w w1 : World} {g : Nat} {a b : Value} (h : Blk w g [a, b] 27) (hb : Below w.heap.size w w1) : (∀ j, j < 2 → (w1.cell? ⟨g, j, none⟩).isSome = true) ∧ ∀ j, j < 2 → w1.frozen? ⟨g, j, none⟩ = false := by
  have h1 := h.below hb
  refine ⟨fun j hj => ?_, fun j _ => h1.frozen j⟩
  match j, hj with
  | 0, _ => rw [h1.cell (j := 0) rfl]; rfl
  | 1, _ => rw [h1.cell (j := 1) rfl]; rfl
set_option maxRecDepth 100000 in
set_option maxHeartbeats 1000000 in
theorem refFind7 (l : Lo) (Y : Nat) (P I E : Int) (w : World) (bd : l.bd) (hY : Y < 2 ^ 64) (hF : lfind l Y = ((P, I), E)) : Calls Try.prog 21 #[.agg #[.int .u64 (l.base : Int), .int .i64 l.cap, .int .i64 l.to, .int .i64 l.low, .int .i64 l.high, .int .i64 l.old, .int .i64 l.far], .int .u64 (Y : Int)] w fun e w' => e = .returned (.tuple #[.agg #[.int .i64 P, .int .i64 I], .int .i64 E]) ∧ Below w.heap.size w w' := by
  have hz : Blk ((w.alloc (.cells #[.int .u64 (l.base : Int), .int .i64 l.cap, .int .i64 l.to, .int .i64 l.low, .int .i64 l.high, .int .i64 l.old, .int .i64 l.far] 24)).alloc (.cells #[.int .i64 0, .int .i64 0] 27)) (w.heap.size + 1) [.int .i64 0, .int .i64 0] 27 := by
    have := Blk.new (w.alloc (.cells #[.int .u64 (l.base : Int), .int .i64 l.cap, .int .i64 l.to, .int .i64 l.low, .int .i64 l.high, .int .i64 l.old, .int .i64 l.far] 24)) [.int .i64 0, .int .i64 0] 27
    rwa [World.size_alloc] at this
  have HZ := Lib.hid hz
  clear hz
  by_cases h : lright l
  · have HR := Lib.hid (show decide (lright l) = true from decide_eq_true h)
    have HH := Lib.hid h
    have HF := Lib.hid hF
    clear h hF
    go_enter Try.func21, Try.ntmps21
    go_wp2_with fail
    refine (refRight7 l true _ bd HR.out).mono ?_
    rintro e w1 ⟨rfl, hb⟩
    have HL1 := Lib.hid (((LoAt.new w l).below (ba0 _ (.cells #[.int .i64 0, .int .i64 0] 27))).below hb)
    have HZ1 := Lib.hid (HZ.out.below hb)
    have HB := Lib.hid (bt (ba (ba0 w _) _) hb)
    clear hb HZ
    go_wp2_with fail
    go_loopw [7] (fun pt wr => ∃ k : Nat, pt = .int .i64 k ∧ 1 ≤ k ∧ k ≤ 5 ∧ Hid (∀ q : Nat, 1 ≤ q → q < k → ¬ lin l Y q) ∧ Hid (Below w1.heap.size w1 wr)) (fun pt _ => 5 - (intOf pt).toNat)
    case atStart => exact ⟨1, rfl, by omega, by omega, Lib.hid (fun q h1 h2 => by omega), Lib.hid (Below.refl _ _)⟩
    case round =>
      obtain ⟨k, rfl, hk1, hk5, HN, HBR⟩ := hrel
      by_cases hk : k ≤ 4
      · obtain ⟨F, n, hp⟩ : ∃ F n, lpart l k = (F, n) := ⟨_, _, rfl⟩
        have hbd := lpart_bd HH.out k
        rw [hp] at hbd
        simp only at hbd
        obtain ⟨q1, q2, q3, q4, q5⟩ := hbd
        obtain ⟨F, rfl⟩ := Int.eq_ofNat_of_zero_le q1
        obtain ⟨n, rfl⟩ := Int.eq_ofNat_of_zero_le q2
        have HP := Lib.hid hp
        obtain ⟨c0, c1, c2, c3, c4, c5, c6⟩ := (HL1.out.below HBR.out).cells
        have hk4 : (k : Int) ≤ 4 := by omega
        clear hp
        by_cases hf : F ≤ Y
        · have df : decide ((F : Int) ≤ (Y : Int)) = true := by simp; omega
          by_cases hn : Y < F + n
          · have dn : decide ((Y : Int) < (F : Int) + n) = true := by simp; omega
            have hlin : lin l Y k := by unfold lin; rw [HP.out]; exact ⟨by dsimp only; omega, by dsimp only; omega⟩
            have HV := Lib.hid (show P = k ∧ I = (Y : Int) - F ∧ E = 0 by
              have h9 := HF.out
              rw [lfind_in HH.out hlin, HP.out] at h9
              simp only [Prod.mk.injEq] at h9
              exact ⟨h9.1.1.symm, h9.1.2.symm, h9.2.symm⟩)
            clear hlin
            go_wp2_with fail
            refine (refParts7 l k F n _ HH.out HP.out).mono ?_
            rintro e w2 ⟨rfl, hb⟩
            have hn2 := pl_new HZ1.out (bt HBR.out hb)
            have HN2 := Lib.hid hn2
            have HB2 := Lib.hid (bt HB.out (bt HBR.out hb))
            clear hb hn2 c0 c1 c2 c3 c4 c5 c6
            go_wp2_with (refine wp_store_pl rfl (.tmp 4) (.tmp 41) rfl (w.heap.size + 1) (k : Int) ((Y : Int) - F) rfl rfl HN2.out.1 HN2.out.2 ?_; intro w5 r1 r2 _ r3; have hb5 := Lib.hid (r3 _ _ (by omega) HB2.out); clear r3; have HQ1 := Lib.hid r1; have HQ2 := Lib.hid r2; clear r1 r2)
            refine bodyPost_ret (res_cell2 rfl _ _ _ (w.heap.size + 1) _ rfl (loadVar_pl HQ1.out HQ2.out)) rfl ?_
            exact ⟨by rw [HV.out.1, HV.out.2.1, HV.out.2.2]; rfl, hb5.out⟩
          · have dn : decide ((Y : Int) < (F : Int) + n) = false := by simp; omega
            have hlin : ¬ lin l Y k := by unfold lin; rw [HP.out]; rintro ⟨_, h2⟩; dsimp only at h2; omega
            have HN3 : Hid (∀ q : Nat, 1 ≤ q → q < k + 1 → ¬ lin l Y q) := Lib.hid (fun q a b => by
              rcases Nat.lt_or_ge q k with h | h
              · exact HN.out q a h
              · obtain rfl : q = k := by omega
                exact hlin)
            clear hlin
            go_wp2_with fail
            refine (refParts7 l k F n _ HH.out HP.out).mono ?_
            rintro e w2 ⟨rfl, hb⟩
            have HB2 := Lib.hid (bt HBR.out hb)
            clear hb c0 c1 c2 c3 c4 c5 c6
            go_wp2_with fail
            go_roundw
            case rel => exact ⟨k + 1, by go_num, by omega, by omega, HN3, HB2⟩
            case measure => simp [intOf]; omega
        · have df : decide ((F : Int) ≤ (Y : Int)) = false := by simp; omega
          have hlin : ¬ lin l Y k := by unfold lin; rw [HP.out]; rintro ⟨h2, _⟩; dsimp only at h2; omega
          have HN3 : Hid (∀ q : Nat, 1 ≤ q → q < k + 1 → ¬ lin l Y q) := Lib.hid (fun q a b => by
            rcases Nat.lt_or_ge q k with h | h
            · exact HN.out q a h
            · obtain rfl : q = k := by omega
              exact hlin)
          clear hlin
          go_wp2_with fail
          refine (refParts7 l k F n _ HH.out HP.out).mono ?_
          rintro e w2 ⟨rfl, hb⟩
          have HB2 := Lib.hid (bt HBR.out hb)
          clear hb c0 c1 c2 c3 c4 c5 c6
          go_wp2_with fail
          go_roundw
          case rel => exact ⟨k + 1, by go_num, by omega, by omega, HN3, HB2⟩
          case measure => simp [intOf]; omega
      · obtain rfl : k = 5 := by omega
        have HV := Lib.hid (show P = 0 ∧ I = 0 ∧ E = 6 by
          have h9 := HF.out
          rw [lfind_out HH.out (fun p hp => by
            rcases lin_le hp with rfl | rfl | rfl | rfl
            · exact HN.out 1 (by omega) (by omega) hp
            · exact HN.out 2 (by omega) (by omega) hp
            · exact HN.out 3 (by omega) (by omega) hp
            · exact HN.out 4 (by omega) (by omega) hp)] at h9
          simp only [Prod.mk.injEq] at h9
          exact ⟨h9.1.1.symm, h9.1.2.symm, h9.2.symm⟩)
        have hn2 := pl_new HZ1.out HBR.out
        have HN2 := Lib.hid hn2
        have HB2 := Lib.hid (bt HB.out HBR.out)
        clear hn2
        go_wp2_with (refine wp_store_pl rfl (.tmp 4) (.tmp 42) rfl (w.heap.size + 1) 0 0 rfl rfl HN2.out.1 HN2.out.2 ?_; intro w5 r1 r2 _ r3; have hb5 := Lib.hid (r3 _ _ (by omega) HB2.out); clear r3; have HQ1 := Lib.hid r1; have HQ2 := Lib.hid r2; clear r1 r2)
        refine bodyPost_ret (res_cell2 rfl _ _ _ (w.heap.size + 1) _ rfl (loadVar_pl HQ1.out HQ2.out)) rfl ?_
        exact ⟨by rw [HV.out.1, HV.out.2.1, HV.out.2.2]; rfl, hb5.out⟩
  · have HR := Lib.hid (show decide (lright l) = false from decide_eq_false h)
    have HV := Lib.hid (show P = 0 ∧ I = 0 ∧ E = 1 by
      unfold lfind at hF
      rw [if_neg h] at hF
      simp only [Prod.mk.injEq] at hF
      exact ⟨hF.1.1.symm, hF.1.2.symm, hF.2.symm⟩)
    clear h hF
    go_enter Try.func21, Try.ntmps21
    go_wp2_with fail
    refine (refRight7 l false _ bd HR.out).mono ?_
    rintro e w1 ⟨rfl, hb⟩
    have hn2 := pl_new HZ.out hb
    have HN2 := Lib.hid hn2
    have HB := Lib.hid (bt (ba (ba0 w _) _) hb)
    clear hb HZ hn2
    go_wp2_with (refine wp_store_pl rfl (.tmp 4) (.tmp 14) rfl (w.heap.size + 1) 0 0 rfl rfl HN2.out.1 HN2.out.2 ?_; intro w5 r1 r2 _ r3; have hb5 := Lib.hid (r3 _ _ (by omega) HB.out); clear r3; have HQ1 := Lib.hid r1; have HQ2 := Lib.hid r2; clear r1 r2)
    refine bodyPost_ret (res_cell2 rfl _ _ _ (w.heap.size + 1) _ rfl (loadVar_pl HQ1.out HQ2.out)) rfl ?_
    exact ⟨by rw [HV.out.1, HV.out.2.1, HV.out.2.2]; rfl, hb5.out⟩
end Go.Proofs.Ytifmlmbbmlnpmaa.V
