/-
  The document's own walk through words (walk, Walk, WalkOld), walked.
-/
import Derived.Test.YtjefajpipgicdaaORefSlots
set_option linter.unusedVariables false
namespace Go.Proofs.Ytjefajpipgicdaa.V
open Go.RowKit

def fin (O : List Ob) (r : List Ob × Nat) : List Ob × Nat := if r.2 = 0 then (O ++ r.1, 0) else ([], r.2)
/-- What is still to be walked, given what was. -/
def WInv (ws : List Nat) (sh : List Shp) (old : Bool) (L : List Ob) (E : Nat) (O : List Ob) (tk p : Nat) : Prop := (L, E) = fin O (walkF (ws.length + 1) p (ws.drop p) (sh.drop tk) old)
theorem WInv.start (ws : List Nat) (sh : List Shp) (old : Bool) (L : List Ob) (E : Nat) (h : walkL ws sh old = (L, E)) : WInv ws sh old L E [] 0 0 := by
  unfold WInv
  rw [← h]
  simp only [List.drop_zero, walkL, fin, List.nil_append]
  split
  · rename_i h0; exact Prod.ext rfl h0
  · rename_i h0
    have : ∀ (f pos : Nat) (ws : List Nat) (sh : List Shp), (walkF f pos ws sh old).2 ≠ 0 → (walkF f pos ws sh old).1 = [] := by
      intro f
      induction f with
      | zero => intro pos ws sh h; rfl
      | succ f ih =>
        intro pos ws sh h
        cases ws with
        | nil => simp only [walkF] at h ⊢; split <;> rfl
        | cons w r =>
          simp only [walkF] at h ⊢
          cases hh : headOf w sh old with
          | none => rfl
          | some x =>
            obtain ⟨⟨s, p, gn, t⟩, sh'⟩ := x
            simp only [hh] at h ⊢
            split
            · rfl
            · split
              · split
                · rename_i h1 h2 h3; simp only [h1, h2, h3, if_true, if_false] at h; simp at h
                · rfl
              · rfl
    exact Prod.ext (this _ _ _ _ h0) rfl
theorem WInv.stop {ws : List Nat} {sh : List Shp} {old : Bool} {L O : List Ob} {E tk p : Nat} (h : WInv ws sh old L E O tk p) (hp : ws.length ≤ p) : if sh.length ≤ tk then L = O ∧ E = 0 else L = [] ∧ E = 3 := by
  unfold WInv at h
  rw [List.drop_eq_nil_of_le hp] at h
  simp only [walkF, List.isEmpty_iff, List.drop_eq_nil_iff] at h
  split at h
  · rename_i h1; rw [if_pos h1]; simp [fin] at h; exact h
  · rename_i h1; rw [if_neg h1]; simp [fin] at h; exact h
theorem WInv.none {ws : List Nat} {sh : List Shp} {old : Bool} {L O : List Ob} {E tk p : Nat} (h : WInv ws sh old L E O tk p) (hp : p < ws.length) (hh : headOf (ws.getD p 0) (sh.drop tk) old = none) : L = [] ∧ E = 3 := by
  unfold WInv at h
  rw [List.drop_eq_getElem_cons hp] at h
  have e1 : ws.getD p 0 = ws[p] := by simp [List.getD, hp]
  rw [e1] at hh
  simp only [walkF, hh, fin] at h
  simpa using h
theorem WInv.some {ws : List Nat} {sh : List Shp} {old : Bool} {L O : List Ob} {E tk tk' p s pp t : Nat} {g : Bool} (h : WInv ws sh old L E O tk p) (hp : p < ws.length) (hh : headOf (ws.getD p 0) (sh.drop tk) old = Option.some ((s, pp, g, t), sh.drop tk')) :
    if ws.length < p + 1 + s then L = [] ∧ E = 2 else if slotsOk ((ws.drop (p + 1)).take s) pp g = true then WInv ws sh old L E (O ++ [⟨p, s, pp, g, t⟩]) tk' (p + 1 + s) else L = [] ∧ E = 3 := by
  unfold WInv at h
  rw [List.drop_eq_getElem_cons hp] at h
  have e1 : ws.getD p 0 = ws[p] := by simp [List.getD, hp]
  rw [e1] at hh
  simp only [walkF, hh, List.length_drop] at h
  by_cases h1 : ws.length < p + 1 + s
  · rw [if_pos h1]
    rw [if_pos (by omega)] at h
    simpa [fin] using h
  · rw [if_neg h1]
    rw [if_neg (by omega)] at h
    by_cases h2 : slotsOk ((ws.drop (p + 1)).take s) pp g = true
    · rw [if_pos h2]
      rw [if_pos h2, List.drop_drop, walkF_fuel ws.length (ws.length + 1) _ _ _ _ (by simp; omega) (by simp; omega)] at h
      unfold WInv
      rw [h]
      unfold fin
      by_cases h3 : (walkF (ws.length + 1) (p + 1 + s) (ws.drop (p + 1 + s)) (sh.drop tk') old).2 = 0
      · simp [h3]
      · simp [h3]
    · rw [if_neg h2]
      rw [if_neg h2] at h
      simpa [fin] using h

theorem set_at {w : World} {g j : Nat} {u : Value} (v : Value) (h : w.cell? ⟨g, j, none⟩ = some u) : (w.setCell ⟨g, j, none⟩ v).cell? ⟨g, j, none⟩ = some v := World.cell?_setCell_same _ _ _ h
theorem set_no {w : World} {g i j : Nat} {u : Value} (v : Value) (hne : j ≠ i) (h : w.cell? ⟨g, i, none⟩ = some u) : (w.setCell ⟨g, j, none⟩ v).cell? ⟨g, i, none⟩ = some u :=
  (World.cell?_setCell_other _ _ _ _ (fun e => by cases e; exact hne rfl)).trans h
theorem set_far {w : World} {g j b o : Nat} {u : Value} (v : Value) (hne : g ≠ b) (h : w.cell? ⟨b, o, none⟩ = some u) : (w.setCell ⟨g, j, none⟩ v).cell? ⟨b, o, none⟩ = some u :=
  (World.cell?_setCell_other _ _ _ _ (fun e => by cases e; exact hne rfl)).trans h
theorem load_ob {w : World} {b off : Nat} {o : Ob} (h0 : w.cell? ⟨b, off, none⟩ = some (.int .i64 o.pos)) (h1 : w.cell? ⟨b, off + 1, none⟩ = some (.int .i64 o.size)) (h2 : w.cell? ⟨b, off + 2, none⟩ = some (.int .i64 o.ptrs)) (h3 : w.cell? ⟨b, off + 3, none⟩ = some (.bool o.gone)) (h4 : w.cell? ⟨b, off + 4, none⟩ = some (.int .u64 (o.tgt : Int))) :
    (Instr.loadAt 53 (.pointer (some ⟨b, off, none⟩))).run Try.prog w = .ok (obv o) w := by
  refine run_loadAt_mid w b off 53 [.int .i64 o.pos, .int .i64 o.size, .int .i64 o.ptrs, .bool o.gone, .int .u64 (o.tgt : Int)] _ ?_ Try.underlying53 rfl (by kernel_rfl)
  intro j v hj
  match j, hj with
  | 0, hj => simp at hj; subst hj; exact h0
  | 1, hj => simp at hj; subst hj; exact h1
  | 2, hj => simp at hj; subst hj; exact h2
  | 3, hj => simp at hj; subst hj; exact h3
  | 4, hj => simp at hj; subst hj; exact h4
/-- The load of a whole object, at a step of a region that draws its order. -/
theorem wpQ_load_ob {ops : Array Oper} {C : World → Prop} {Q : Act → Prop} {rest : List Oper} {o : Oper} {a : Act} (hw : Region.wanted o (yielded ops a.tmps) = true) (x : Operand) (ho : o.op = .load 53 x)
    (b off : Nat) (hx : a.eval x = .pointer (some ⟨b, off, none⟩)) (f : Ob) (hl : ∀ w, C w → w.cell? ⟨b, off, none⟩ = some (.int .i64 f.pos) ∧ w.cell? ⟨b, off + 1, none⟩ = some (.int .i64 f.size) ∧ w.cell? ⟨b, off + 2, none⟩ = some (.int .i64 f.ptrs) ∧ w.cell? ⟨b, off + 3, none⟩ = some (.bool f.gone) ∧ w.cell? ⟨b, off + 4, none⟩ = some (.int .u64 (f.tgt : Int)))
    (h : wpQuiet Try.prog ops C Q rest (a.put o.dst (obv f))) : wpQuiet Try.prog ops C Q (o :: rest) a := by
  refine BigFrame.wpQuiet_want hw fun K hK => ⟨_, fun w hc => ?_, hK _ h⟩
  obtain ⟨h0, h1, h2, h3, h4⟩ := hl w hc
  unfold Oper.quietAt execOp
  simp only [ho, hx, Sem.run_bind, load_ob h0 h1 h2 h3 h4, Result.andThen_ok, Sem.run_pure]
  exact ⟨rfl, rfl⟩

set_option maxRecDepth 100000 in
set_option maxHeartbeats 4000000 in
theorem refWalk_try (ao bo : Option Addr) (ca cb m n : Nat) (ws : List Nat) (sh : List Shp) (old : Bool) (L : List Ob) (E : Nat) (w : World) (hm : ws.length = m) (hn : sh.length = n) (hml : m ≤ 1000000000) (hnl : n ≤ 1000000000) (hv : ∀ v ∈ ws, v < 2 ^ 64) (hu : Us w ao ws) (hs : Rw sc 2 w bo sh)
    (hca : m ≤ ca) (hca2 : ca ≤ 9223372036854775807) (hL : walkL ws sh old = (L, E)) :
    Calls Try.prog 28 #[.slice ao m ca, .slice bo n cb, .bool old] w fun e w' => ∃ v', e = .returned (.tuple #[v', .int .i64 E]) ∧ OwnR 53 oc 5 w' w.heap.size v' L ∧ Below w.heap.size w w' := by
  have HV := Lib.hid hv
  have HU0 := Lib.hid hu
  have HS := Lib.hid hs
  have HL := Lib.hid (WInv.start ws sh old L E hL)
  have HM := Lib.hid hm
  have HN := Lib.hid hn
  clear hv hu hs hL hm hn
  go_enter Try.func28, Try.ntmps28
  go_wp2_with fail
  go_loopw [8, 9, 10] (fun vo t a wr => ∃ (O : List Ob) (tk p : Nat), t = .int .i64 tk ∧ a = .int .i64 p ∧ tk ≤ n ∧ p ≤ m ∧ O.length ≤ p ∧ Hid (OwnR 53 oc 5 wr w.heap.size vo O) ∧ Hid (WInv ws sh old L E O tk p) ∧ Below w.heap.size w wr) (fun _ _ a _ => m - (intOf a).toNat)
  case atStart => exact ⟨[], 0, 0, rfl, rfl, by omega, by omega, by simp, Lib.hid (OwnR.nil _ _ _), HL, Below.refl _ _⟩
  case round =>
    obtain ⟨O, tk, p, rfl, rfl, htk, hp, hO, HO, HW, hbel⟩ := hrel
    have HU := HU0
    by_cases hpm : p < m
    · have hpl : p < ws.length := by have := HM.out; omega
      obtain ⟨b, off, rfl, hbb, hc⟩ := (HU.out.below (Nat.le_refl _) hbel) p hpl
      have hxk : ws.getD p 0 < 2 ^ 64 := HV.out _ (by simp [List.getD, hpl])
      generalize hx : ws.getD p 0 = x at hc hxk
      have HX := Lib.hid hx
      clear hx hpl
      have hd1 := cell_step (ba0 wr (.cells #[.int .i64 p, .int .i64 0, .int .i64 0, .bool false, .int .u64 0] 53)) hbb hc
      clear hc
      obtain ⟨av, hav⟩ : ∃ av : Int, ((haddr x).1 : Int) = av := ⟨_, rfl⟩
      obtain ⟨ae, hae⟩ : ∃ ae : Int, ((haddr x).2 : Int) = ae := ⟨_, rfl⟩
      have HA := Lib.hid (And.intro hav hae)
      clear hav hae
      go_wp2_with fail
      refine (refAddressI x x av ae _ rfl hxk HA.out.1 HA.out.2).mono ?_
      rintro e w2 ⟨rfl, rfl⟩
      cases old with
      | false =>
        have hh : headOf x (sh.drop tk) false = if (hunpack x).2.2 = 0 then some (((hunpack x).1, (hunpack x).2.1, false, 0), sh.drop tk) else none := by simp [headOf]
        by_cases hue : (hunpack x).2.2 = 0
        · rw [if_pos hue] at hh
          obtain ⟨q1, q2, q3⟩ := hunpack_ok x hue
          obtain ⟨s, hs0⟩ : ∃ s, (hunpack x).1 = s := ⟨_, rfl⟩
          obtain ⟨pp, hp0⟩ : ∃ pp, (hunpack x).2.1 = pp := ⟨_, rfl⟩
          rw [hs0, hp0] at hh
          rw [hs0] at q1 q2
          rw [hp0] at q2
          have HP0 := Lib.hid (And.intro hs0 (And.intro hp0 hue))
          have HW2 := Lib.hid (HW.out.some (by have := HM.out; omega) (by rw [HX.out]; exact hh))
          clear hh hue q3 hs0 hp0
          go_wp2_with fail
          refine (refUnpackI x x s pp 0 _ rfl hxk (by rw [HP0.out.1]) (by rw [HP0.out.2.1]) (by rw [HP0.out.2.2]; rfl)).mono ?_
          rintro e w2 ⟨rfl, hb2⟩
          have hl2 : wr.heap.size < w2.heap.size := by have := hb2.size; simp at this; omega
          have g0 : w2.cell? ⟨wr.heap.size, 0, none⟩ = some (.int .i64 p) := cell_step hb2 (by simp) (by simp)
          have g1 : w2.cell? ⟨wr.heap.size, 1, none⟩ = some (.int .i64 0) := cell_step hb2 (by simp) (by simp)
          have g2 : w2.cell? ⟨wr.heap.size, 2, none⟩ = some (.int .i64 0) := cell_step hb2 (by simp) (by simp)
          have g3 : w2.cell? ⟨wr.heap.size, 3, none⟩ = some (.bool false) := cell_step hb2 (by simp) (by simp)
          have g4 : w2.cell? ⟨wr.heap.size, 4, none⟩ = some (.int .u64 0) := cell_step hb2 (by simp) (by simp)
          have f0 : ∀ j, j < 5 → w2.frozen? ⟨wr.heap.size, j, none⟩ = false := by
            intro j hj
            rw [hb2.frozen (p := ⟨wr.heap.size, j, none⟩) (by simp)]
            simp
          have f1 := f0 1 (by omega)
          have f2 := f0 2 (by omega)
          have hwr : Below wr.heap.size wr (((w2.setCell ⟨wr.heap.size, 1, none⟩ (.int .i64 s)).setCell ⟨wr.heap.size, 2, none⟩ (.int .i64 pp)).alloc (.cells #[.int .i64 s, .int .i64 pp] 28)) :=
            ba (((bt (ba0 wr _) hb2).setCell (Nat.le_refl _) _).setCell (Nat.le_refl _) _) _
          have y0 : (((w2.setCell ⟨wr.heap.size, 1, none⟩ (.int .i64 s)).setCell ⟨wr.heap.size, 2, none⟩ (.int .i64 pp)).alloc (.cells #[.int .i64 s, .int .i64 pp] 28)).cell? ⟨wr.heap.size, 0, none⟩ = some (.int .i64 p) := cell_step (ba0 _ _) (by simpa [World.setCell] using hl2) (set_no _ (by decide) (set_no _ (by decide) g0))
          have y1 : (((w2.setCell ⟨wr.heap.size, 1, none⟩ (.int .i64 s)).setCell ⟨wr.heap.size, 2, none⟩ (.int .i64 pp)).alloc (.cells #[.int .i64 s, .int .i64 pp] 28)).cell? ⟨wr.heap.size, 1, none⟩ = some (.int .i64 s) := cell_step (ba0 _ _) (by simpa [World.setCell] using hl2) (set_no _ (by decide) (set_at _ g1))
          have y2 : (((w2.setCell ⟨wr.heap.size, 1, none⟩ (.int .i64 s)).setCell ⟨wr.heap.size, 2, none⟩ (.int .i64 pp)).alloc (.cells #[.int .i64 s, .int .i64 pp] 28)).cell? ⟨wr.heap.size, 2, none⟩ = some (.int .i64 pp) := cell_step (ba0 _ _) (by simpa [World.setCell] using hl2) (set_at _ (set_no _ (by decide) g2))
          have y3 : (((w2.setCell ⟨wr.heap.size, 1, none⟩ (.int .i64 s)).setCell ⟨wr.heap.size, 2, none⟩ (.int .i64 pp)).alloc (.cells #[.int .i64 s, .int .i64 pp] 28)).cell? ⟨wr.heap.size, 3, none⟩ = some (.bool false) := cell_step (ba0 _ _) (by simpa [World.setCell] using hl2) (set_no _ (by decide) (set_no _ (by decide) g3))
          have y4 : (((w2.setCell ⟨wr.heap.size, 1, none⟩ (.int .i64 s)).setCell ⟨wr.heap.size, 2, none⟩ (.int .i64 pp)).alloc (.cells #[.int .i64 s, .int .i64 pp] 28)).cell? ⟨wr.heap.size, 4, none⟩ = some (.int .u64 (0 : Nat)) := cell_step (ba0 _ _) (by simpa [World.setCell] using hl2) (set_no _ (by decide) (set_no _ (by decide) g4))
          clear hb2
          by_cases hfit : p + 1 + s ≤ m
          · have d1 : decide ((m : Int) < (p : Int) + 1 + (s : Int)) = false := by simp; omega
            go_wp2_with fail
            generalize (((w2.setCell ⟨wr.heap.size, 1, none⟩ (.int .i64 s)).setCell ⟨wr.heap.size, 2, none⟩ (.int .i64 pp)).alloc (.cells #[.int .i64 s, .int .i64 pp] 28)) = Y at y0 y1 y2 y3 y4 hwr ⊢
            have HBY := Lib.hid (hbel.trans (hwr.mono hbel.size))
            have HOY := Lib.hid (HO.out.later hwr)
            have HUY := Lib.hid ((HU.out.below (Nat.le_refl _) HBY.out).cutIf (ca := ca) (by have := HM.out; omega) (p + 1) s (by have := HM.out; omega))
            have HVY : Hid (∀ v ∈ (ws.drop (p + 1)).take s, v < 2 ^ 64) := Lib.hid fun v h => HV.out v (List.mem_of_mem_drop (List.mem_of_mem_take h))
            have HLY : Hid (((ws.drop (p + 1)).take s).length = s) := Lib.hid (by have := HM.out; simp; omega)
            obtain ⟨a1, ha1⟩ : ∃ a1 : Nat, a1 = p + 1 := ⟨_, rfl⟩
            obtain ⟨a2, ha2⟩ : ∃ a2 : Nat, a2 = a1 + s := ⟨_, rfl⟩
            have hw1 : IntKind.i64.wrap ((p : Int) + 1) = (a1 : Int) := by rw [IntWalk.i64_in _ ⟨by omega, by omega⟩]; omega
            have hw2 : IntKind.i64.wrap ((a1 : Int) + (s : Int)) = (a2 : Int) := by rw [IntWalk.i64_in _ ⟨by omega, by omega⟩]; omega
            have i1 : (0 : Int) ≤ (a1 : Int) := Int.natCast_nonneg _
            have i2 : (a1 : Int) ≤ (a2 : Int) := by omega
            have i3 : (a2 : Int) ≤ (ca : Int) := by omega
            have t1 : decide (a2 < a1) = false := by simp; omega
            have t2 : decide (ca < a2) = false := by simp; omega
            have yl : wr.heap.size < Y.heap.size := World.block_lt_of_cell? Y _ y0
            have z1 : ∀ x : GW Y, x.w'.cell? ⟨wr.heap.size, 1, none⟩ = some (.int .i64 s) := fun x => cell_step x.h yl y1
            have hl1 : Hid (∀ w', (∃ x : GW Y, w' = x.w') → w'.cell? ⟨wr.heap.size, 0, none⟩ = some (.int .i64 p) ∧ w'.cell? ⟨wr.heap.size, 0 + 1, none⟩ = some (.int .i64 s) ∧ w'.cell? ⟨wr.heap.size, 0 + 2, none⟩ = some (.int .i64 pp) ∧ w'.cell? ⟨wr.heap.size, 0 + 3, none⟩ = some (.bool false) ∧ w'.cell? ⟨wr.heap.size, 0 + 4, none⟩ = some (.int .u64 (0 : Nat))) := Lib.hid (by
              rintro w' ⟨z, rfl⟩
              exact ⟨cell_step z.h yl y0, cell_step z.h yl y1, cell_step z.h yl y2, cell_step z.h yl y3, cell_step z.h yl y4⟩)
            have hl := HW2.out
            rw [if_neg (by have := HM.out; omega)] at hl
            have HL2 := Lib.hid hl
            clear hl HW2 HU
            cases hR : slotsOk ((ws.drop (p + 1)).take s) pp false with
            | false =>
              have HR := Lib.hid hR
              have hl := HL2.out
              rw [if_neg (by rw [HR.out]; decide)] at hl
              obtain ⟨rfl, rfl⟩ := hl
              clear hR HL2
              refine wp_region_grow (by kernel_rfl) (by kernel_rfl) ?_
              repeat (first
                | (go_big_quiet_step ((go_at_call 38; exact grow_call (refSlots _ _ s ((ws.drop (p + 1)).take s) ⟨p, s, pp, false, 0⟩ false 3 _ HLY.out (by omega) HVY.out (HUY.out.below (Nat.le_refl _) (GW.h _)) HR.out rfl))))
                | (refine wpQ_load_ob rfl (.tmp 11) rfl wr.heap.size 0 rfl ⟨p, s, pp, false, 0⟩ hl1.out ?_; simp [Act.put, obv]))
              refine wpQuiet_nil ?_
              first | rintro _ ⟨w4, rfl⟩ | intro w4
              generalize (if ca = p + 1 then some (⟨b, off, none⟩ : Addr) else some ⟨b, off + (p + 1), none⟩) = AO
              clear z1
              go_wp2_with fail
              go_ret2
              exact ⟨_, rfl, OwnR.nil _ _ _, bt HBY.out w4.h⟩
            | true =>
              have HR := Lib.hid hR
              have hl := HL2.out
              rw [if_pos HR.out] at hl
              have HW3 := Lib.hid hl
              clear hR HL2 hl
              refine wp_region_grow (by kernel_rfl) (by kernel_rfl) ?_
              repeat (first
                | (go_big_quiet_step ((go_at_call 38; exact grow_call (refSlots _ _ s ((ws.drop (p + 1)).take s) ⟨p, s, pp, false, 0⟩ true 0 _ HLY.out (by omega) HVY.out (HUY.out.below (Nat.le_refl _) (GW.h _)) HR.out rfl))))
                | (refine wpQ_load_ob rfl (.tmp 11) rfl wr.heap.size 0 rfl ⟨p, s, pp, false, 0⟩ hl1.out ?_; simp [Act.put, obv]))
              refine wpQuiet_nil ?_
              first | rintro _ ⟨w4, rfl⟩ | intro w4
              generalize (if ca = p + 1 then some (⟨b, off, none⟩ : Addr) else some ⟨b, off + (p + 1), none⟩) = AO
              obtain ⟨V, hV⟩ : ∃ V, V = w4.w' := ⟨_, rfl⟩
              have hYV : Below Y.heap.size Y V := hV ▸ w4.h
              rw [← hV]
              clear hV w4 z1 hw1 hw2 t1 t2 i1 i2 i3 ha2 a2 ha1 a1
              have v0 := cell_step hYV yl y0
              have v1 := cell_step hYV yl y1
              have v2 := cell_step hYV yl y2
              have v3 := cell_step hYV yl y3
              have v4 := cell_step hYV yl y4
              have vl : wr.heap.size < V.heap.size := World.block_lt_of_cell? V _ v0
              have hbo : some wr.heap.size ≠ u8.ownBlock := fun h => by have := (World.ownsRow.lt HO.out _ h.symm).2; omega
              have HOV := Lib.hid ((HOY.out.later hYV).alloc (.cells #[.int .i64 p, .int .i64 s, .int .i64 pp, .bool false, .int .u64 (0 : Nat)] 53))
              have HBV := Lib.hid (ba (bt HBY.out hYV) (.cells #[.int .i64 p, .int .i64 s, .int .i64 pp, .bool false, .int .u64 (0 : Nat)] 53))
              have x1 := cell_step (ba0 V (.cells #[.int .i64 p, .int .i64 s, .int .i64 pp, .bool false, .int .u64 (0 : Nat)] 53)) vl v1
              have Hbo := Lib.hid hbo
              have hxl := HBV.out.size
              clear y0 y1 y2 y3 y4 yl hwr hYV HBY HOY HUY HVY HLY hl1 hbo
              go_wp2_with (at_builtin; refine wp_append_row 53 26 _ 40 info_ob Try.underlying26 rfl (by decide) (by decide) oc_len oc_one _ rfl (.tmp 95) (.tmp 97) rfl w.heap.size _ O rfl HOV.out V.heap.size ⟨p, s, pp, false, 0⟩ rfl ?_ ?_ ?_ ?_)
              · intro i u hi
                match i, hi with
                | 0, hi => simp [oc] at hi; subst hi; simp
                | 1, hi => simp [oc] at hi; subst hi; simp
                | 2, hi => simp [oc] at hi; subst hi; simp
                | 3, hi => simp [oc] at hi; subst hi; simp
                | 4, hi => simp [oc] at hi; subst hi; simp
                | i + 5, hi => simp [oc] at hi
              · omega
              · exact hxl
              · intro v' w5 hown' hgrow
                have hb' : Below w.heap.size w w5 := OwnR.below HOV.out HBV.out (Nat.le_refl _) hgrow
                have q1 := World.grownBy.cell hgrow x1 Hbo.out
                have HO5 := Lib.hid hown'
                have HB5 := Lib.hid hb'
                clear hgrow hown' HOV HBV x1 Hbo hxl v0 v1 v2 v3 v4 hb'
                go_wp2_with fail
                go_roundw
                case rel => exact ⟨O ++ [⟨p, s, pp, false, 0⟩], tk, p + 1 + s, by go_num, by go_num, by omega, by omega, by simp; omega, HO5, HW3, HB5.out⟩
                case measure => simp [intOf]; omega
          · have d1 : decide ((m : Int) < (p : Int) + 1 + (s : Int)) = true := by simp; omega
            go_wp2_with fail
            go_ret2
            have hl := HW2.out
            rw [if_pos (by have := HM.out; omega)] at hl
            obtain ⟨rfl, rfl⟩ := hl
            exact ⟨_, rfl, OwnR.nil _ _ _, hbel.trans (hwr.mono hbel.size)⟩
        · rw [if_neg hue] at hh
          have hl := HW.out.none (by have := HM.out; omega) (by rw [HX.out]; exact hh)
          obtain ⟨rfl, rfl⟩ := hl
          have HP0 := Lib.hid (hunpack_err x hue)
          clear hh hue
          go_wp2_with fail
          refine (refUnpackI x x 0 0 3 _ rfl hxk (by rw [HP0.out]; rfl) (by rw [HP0.out]; rfl) (by rw [HP0.out]; rfl)).mono ?_
          rintro e w2 ⟨rfl, hb2⟩
          go_wp2_with fail
          go_ret2
          exact ⟨_, rfl, OwnR.nil _ _ _, hbel.trans ((ba (bt (ba0 wr _) hb2) _).mono hbel.size)⟩
      | true =>
        by_cases hae : ae = 0
        · subst hae
          obtain ⟨tg, htg⟩ : ∃ tg, (haddr x).1 = tg := ⟨_, rfl⟩
          have hz2 : (haddr x).2 = 0 := by have := HA.out.2; omega
          obtain rfl : av = (tg : Int) := by have := HA.out.1; omega
          have HTG := Lib.hid (And.intro htg hz2)
          clear htg hz2 HA
          by_cases htn : tk = n
          · have hl := HW.out.none (by have := HM.out; omega) (by
              rw [HX.out, List.drop_eq_nil_of_le (by have := HN.out; omega)]
              simp [headOf, HTG.out.2])
            obtain ⟨rfl, rfl⟩ := hl
            have dt : ((tk : Int) == (n : Int)) = true := by simp; omega
            clear htn
            go_wp2_with fail
            go_ret2
            exact ⟨_, rfl, OwnR.nil _ _ _, hbel.trans ((ba0 wr _).mono hbel.size)⟩
          · have dt : ((tk : Int) == (n : Int)) = false := by simp; omega
            have htl : tk < sh.length := by have := HN.out; omega
            have htk2 : tk < n := by omega
            obtain ⟨sp, hsp⟩ : ∃ sp, sh[tk] = sp := ⟨_, rfl⟩
            have hsk : sh[tk]? = some sp := by rw [List.getElem?_eq_getElem htl, hsp]
            have hdr : sh.drop tk = sp :: sh.drop (tk + 1) := by rw [List.drop_eq_getElem_cons htl, hsp]
            have HDR := Lib.hid hdr
            obtain ⟨b2, off2, rfl, hbb2, e1, e2⟩ := sh_cells (HS.out.below (Nat.le_refl _) hbel) hsk
            have k1 := cell_step (ba0 wr (.cells #[.int .i64 p, .int .i64 0, .int .i64 0, .bool false, .int .u64 0] 53)) hbb2 e1
            have k2 := cell_step (ba0 wr (.cells #[.int .i64 p, .int .i64 0, .int .i64 0, .bool false, .int .u64 0] 53)) hbb2 e2
            clear hsk hdr hsp e1 e2 htn
            obtain ⟨s0, p0⟩ := sp
            simp only at k1 k2
            by_cases hri : hright s0 p0
            · obtain ⟨s, rfl⟩ := Int.eq_ofNat_of_zero_le hri.1
              obtain ⟨pp, rfl⟩ := Int.eq_ofNat_of_zero_le hri.2.2.1
              have q1 : s ≤ 255 := by have := hri.2.1; omega
              have q2 : pp ≤ s := by have := hri.2.2.2; omega
              have HW2 := Lib.hid (HW.out.some (s := s) (pp := pp) (g := true) (t := tg) (tk' := tk + 1) (by have := HM.out; omega) (by
                rw [HX.out, HDR.out]
                simp only [headOf, HTG.out.2, HTG.out.1]
                simp only [Bool.true_and, beq_self_eq_true, if_true]
                rw [if_pos hri]
                simp))
              have HRI := Lib.hid hri
              clear hri HTG
              go_wp2_with fail
              refine (rightYes (s : Int) (pp : Int) _ HRI.out).mono ?_
              rintro e w2 ⟨rfl, hb2⟩
              have hl2 : wr.heap.size < w2.heap.size := by have := hb2.size; simp at this; omega
              have g0 : w2.cell? ⟨wr.heap.size, 0, none⟩ = some (.int .i64 p) := cell_step hb2 (by simp) (by simp)
              have g1 : w2.cell? ⟨wr.heap.size, 1, none⟩ = some (.int .i64 0) := cell_step hb2 (by simp) (by simp)
              have g2 : w2.cell? ⟨wr.heap.size, 2, none⟩ = some (.int .i64 0) := cell_step hb2 (by simp) (by simp)
              have g3 : w2.cell? ⟨wr.heap.size, 3, none⟩ = some (.bool false) := cell_step hb2 (by simp) (by simp)
              have g4 : w2.cell? ⟨wr.heap.size, 4, none⟩ = some (.int .u64 0) := cell_step hb2 (by simp) (by simp)
              have f0 : ∀ j, j < 5 → w2.frozen? ⟨wr.heap.size, j, none⟩ = false := by
                intro j hj
                rw [hb2.frozen (p := ⟨wr.heap.size, j, none⟩) (by simp)]
                simp
              have f1 := f0 1 (by omega)
              have f2 := f0 2 (by omega)
              have f3 := f0 3 (by omega)
              have f4 := f0 4 (by omega)
              have m1 : ((w2.setCell ⟨wr.heap.size, 3, none⟩ (.bool true)).setCell ⟨wr.heap.size, 4, none⟩ (.int .u64 tg)).cell? ⟨b2, off2 + tk * 2, none⟩ = some (.int .i64 s) := set_far _ (by omega) (set_far _ (by omega) (cell_step hb2 (by simp; omega) k1))
              have m2 : ((w2.setCell ⟨wr.heap.size, 3, none⟩ (.bool true)).setCell ⟨wr.heap.size, 4, none⟩ (.int .u64 tg)).cell? ⟨b2, off2 + tk * 2 + 1, none⟩ = some (.int .i64 pp) := set_far _ (by omega) (set_far _ (by omega) (cell_step hb2 (by simp; omega) k2))
              have hwr : Below wr.heap.size wr ((((w2.setCell ⟨wr.heap.size, 3, none⟩ (.bool true)).setCell ⟨wr.heap.size, 4, none⟩ (.int .u64 tg)).setCell ⟨wr.heap.size, 1, none⟩ (.int .i64 s)).setCell ⟨wr.heap.size, 2, none⟩ (.int .i64 pp)) :=
                ((((bt (ba0 wr _) hb2).setCell (Nat.le_refl _) _).setCell (Nat.le_refl _) _).setCell (Nat.le_refl _) _).setCell (Nat.le_refl _) _
              have y0 : ((((w2.setCell ⟨wr.heap.size, 3, none⟩ (.bool true)).setCell ⟨wr.heap.size, 4, none⟩ (.int .u64 tg)).setCell ⟨wr.heap.size, 1, none⟩ (.int .i64 s)).setCell ⟨wr.heap.size, 2, none⟩ (.int .i64 pp)).cell? ⟨wr.heap.size, 0, none⟩ = some (.int .i64 p) := set_no _ (by decide) (set_no _ (by decide) (set_no _ (by decide) (set_no _ (by decide) g0)))
              have y1 : ((((w2.setCell ⟨wr.heap.size, 3, none⟩ (.bool true)).setCell ⟨wr.heap.size, 4, none⟩ (.int .u64 tg)).setCell ⟨wr.heap.size, 1, none⟩ (.int .i64 s)).setCell ⟨wr.heap.size, 2, none⟩ (.int .i64 pp)).cell? ⟨wr.heap.size, 1, none⟩ = some (.int .i64 s) := set_no _ (by decide) (set_at _ (set_no _ (by decide) (set_no _ (by decide) g1)))
              have y2 : ((((w2.setCell ⟨wr.heap.size, 3, none⟩ (.bool true)).setCell ⟨wr.heap.size, 4, none⟩ (.int .u64 tg)).setCell ⟨wr.heap.size, 1, none⟩ (.int .i64 s)).setCell ⟨wr.heap.size, 2, none⟩ (.int .i64 pp)).cell? ⟨wr.heap.size, 2, none⟩ = some (.int .i64 pp) := set_at _ (set_no _ (by decide) (set_no _ (by decide) (set_no _ (by decide) g2)))
              have y3 : ((((w2.setCell ⟨wr.heap.size, 3, none⟩ (.bool true)).setCell ⟨wr.heap.size, 4, none⟩ (.int .u64 tg)).setCell ⟨wr.heap.size, 1, none⟩ (.int .i64 s)).setCell ⟨wr.heap.size, 2, none⟩ (.int .i64 pp)).cell? ⟨wr.heap.size, 3, none⟩ = some (.bool true) := set_no _ (by decide) (set_no _ (by decide) (set_no _ (by decide) (set_at _ g3)))
              have y4 : ((((w2.setCell ⟨wr.heap.size, 3, none⟩ (.bool true)).setCell ⟨wr.heap.size, 4, none⟩ (.int .u64 tg)).setCell ⟨wr.heap.size, 1, none⟩ (.int .i64 s)).setCell ⟨wr.heap.size, 2, none⟩ (.int .i64 pp)).cell? ⟨wr.heap.size, 4, none⟩ = some (.int .u64 (tg : Nat)) := set_no _ (by decide) (set_no _ (by decide) (set_at _ (set_no _ (by decide) g4)))
              clear hb2 k1 k2 f0
              by_cases hfit : p + 1 + s ≤ m
              · have d1 : decide ((m : Int) < (p : Int) + 1 + (s : Int)) = false := by simp; omega
                go_wp2_with fail
                generalize ((((w2.setCell ⟨wr.heap.size, 3, none⟩ (.bool true)).setCell ⟨wr.heap.size, 4, none⟩ (.int .u64 tg)).setCell ⟨wr.heap.size, 1, none⟩ (.int .i64 s)).setCell ⟨wr.heap.size, 2, none⟩ (.int .i64 pp)) = Y at y0 y1 y2 y3 y4 hwr ⊢
                have HBY := Lib.hid (hbel.trans (hwr.mono hbel.size))
                have HOY := Lib.hid (HO.out.later hwr)
                have HUY := Lib.hid ((HU.out.below (Nat.le_refl _) HBY.out).cutIf (ca := ca) (by have := HM.out; omega) (p + 1) s (by have := HM.out; omega))
                have HVY : Hid (∀ v ∈ (ws.drop (p + 1)).take s, v < 2 ^ 64) := Lib.hid fun v h => HV.out v (List.mem_of_mem_drop (List.mem_of_mem_take h))
                have HLY : Hid (((ws.drop (p + 1)).take s).length = s) := Lib.hid (by have := HM.out; simp; omega)
                obtain ⟨a1, ha1⟩ : ∃ a1 : Nat, a1 = p + 1 := ⟨_, rfl⟩
                obtain ⟨a2, ha2⟩ : ∃ a2 : Nat, a2 = a1 + s := ⟨_, rfl⟩
                have hw1 : IntKind.i64.wrap ((p : Int) + 1) = (a1 : Int) := by rw [IntWalk.i64_in _ ⟨by omega, by omega⟩]; omega
                have hw2 : IntKind.i64.wrap ((a1 : Int) + (s : Int)) = (a2 : Int) := by rw [IntWalk.i64_in _ ⟨by omega, by omega⟩]; omega
                have i1 : (0 : Int) ≤ (a1 : Int) := Int.natCast_nonneg _
                have i2 : (a1 : Int) ≤ (a2 : Int) := by omega
                have i3 : (a2 : Int) ≤ (ca : Int) := by omega
                have t1 : decide (a2 < a1) = false := by simp; omega
                have t2 : decide (ca < a2) = false := by simp; omega
                have yl : wr.heap.size < Y.heap.size := World.block_lt_of_cell? Y _ y0
                have z1 : ∀ x : GW Y, x.w'.cell? ⟨wr.heap.size, 1, none⟩ = some (.int .i64 s) := fun x => cell_step x.h yl y1
                have hl1 : Hid (∀ w', (∃ x : GW Y, w' = x.w') → w'.cell? ⟨wr.heap.size, 0, none⟩ = some (.int .i64 p) ∧ w'.cell? ⟨wr.heap.size, 0 + 1, none⟩ = some (.int .i64 s) ∧ w'.cell? ⟨wr.heap.size, 0 + 2, none⟩ = some (.int .i64 pp) ∧ w'.cell? ⟨wr.heap.size, 0 + 3, none⟩ = some (.bool true) ∧ w'.cell? ⟨wr.heap.size, 0 + 4, none⟩ = some (.int .u64 (tg : Nat))) := Lib.hid (by
                  rintro w' ⟨z, rfl⟩
                  exact ⟨cell_step z.h yl y0, cell_step z.h yl y1, cell_step z.h yl y2, cell_step z.h yl y3, cell_step z.h yl y4⟩)
                have hl := HW2.out
                rw [if_neg (by have := HM.out; omega)] at hl
                have HL2 := Lib.hid hl
                clear hl HW2 HU
                cases hR : slotsOk ((ws.drop (p + 1)).take s) pp true with
                | false =>
                  have HR := Lib.hid hR
                  have hl := HL2.out
                  rw [if_neg (by rw [HR.out]; decide)] at hl
                  obtain ⟨rfl, rfl⟩ := hl
                  clear hR HL2
                  refine wp_region_grow (by kernel_rfl) (by kernel_rfl) ?_
                  repeat (first
                    | (go_big_quiet_step ((go_at_call 38; exact grow_call (refSlots _ _ s ((ws.drop (p + 1)).take s) ⟨p, s, pp, true, tg⟩ false 3 _ HLY.out (by omega) HVY.out (HUY.out.below (Nat.le_refl _) (GW.h _)) HR.out rfl))))
                    | (refine wpQ_load_ob rfl (.tmp 11) rfl wr.heap.size 0 rfl ⟨p, s, pp, true, tg⟩ hl1.out ?_; simp [Act.put, obv]))
                  refine wpQuiet_nil ?_
                  first | rintro _ ⟨w4, rfl⟩ | intro w4
                  generalize (if ca = p + 1 then some (⟨b, off, none⟩ : Addr) else some ⟨b, off + (p + 1), none⟩) = AO
                  clear z1
                  go_wp2_with fail
                  go_ret2
                  exact ⟨_, rfl, OwnR.nil _ _ _, bt HBY.out w4.h⟩
                | true =>
                  have HR := Lib.hid hR
                  have hl := HL2.out
                  rw [if_pos HR.out] at hl
                  have HW3 := Lib.hid hl
                  clear hR HL2 hl
                  refine wp_region_grow (by kernel_rfl) (by kernel_rfl) ?_
                  repeat (first
                    | (go_big_quiet_step ((go_at_call 38; exact grow_call (refSlots _ _ s ((ws.drop (p + 1)).take s) ⟨p, s, pp, true, tg⟩ true 0 _ HLY.out (by omega) HVY.out (HUY.out.below (Nat.le_refl _) (GW.h _)) HR.out rfl))))
                    | (refine wpQ_load_ob rfl (.tmp 11) rfl wr.heap.size 0 rfl ⟨p, s, pp, true, tg⟩ hl1.out ?_; simp [Act.put, obv]))
                  refine wpQuiet_nil ?_
                  first | rintro _ ⟨w4, rfl⟩ | intro w4
                  generalize (if ca = p + 1 then some (⟨b, off, none⟩ : Addr) else some ⟨b, off + (p + 1), none⟩) = AO
                  obtain ⟨V, hV⟩ : ∃ V, V = w4.w' := ⟨_, rfl⟩
                  have hYV : Below Y.heap.size Y V := hV ▸ w4.h
                  rw [← hV]
                  clear hV w4 z1 hw1 hw2 t1 t2 i1 i2 i3 ha2 a2 ha1 a1
                  have v0 := cell_step hYV yl y0
                  have v1 := cell_step hYV yl y1
                  have v2 := cell_step hYV yl y2
                  have v3 := cell_step hYV yl y3
                  have v4 := cell_step hYV yl y4
                  have vl : wr.heap.size < V.heap.size := World.block_lt_of_cell? V _ v0
                  have hbo : some wr.heap.size ≠ u8.ownBlock := fun h => by have := (World.ownsRow.lt HO.out _ h.symm).2; omega
                  have HOV := Lib.hid ((HOY.out.later hYV).alloc (.cells #[.int .i64 p, .int .i64 s, .int .i64 pp, .bool true, .int .u64 (tg : Nat)] 53))
                  have HBV := Lib.hid (ba (bt HBY.out hYV) (.cells #[.int .i64 p, .int .i64 s, .int .i64 pp, .bool true, .int .u64 (tg : Nat)] 53))
                  have x1 := cell_step (ba0 V (.cells #[.int .i64 p, .int .i64 s, .int .i64 pp, .bool true, .int .u64 (tg : Nat)] 53)) vl v1
                  have Hbo := Lib.hid hbo
                  have hxl := HBV.out.size
                  clear y0 y1 y2 y3 y4 yl hwr hYV HBY HOY HUY HVY HLY hl1 hbo
                  go_wp2_with (at_builtin; refine wp_append_row 53 26 _ 40 info_ob Try.underlying26 rfl (by decide) (by decide) oc_len oc_one _ rfl (.tmp 95) (.tmp 97) rfl w.heap.size _ O rfl HOV.out V.heap.size ⟨p, s, pp, true, tg⟩ rfl ?_ ?_ ?_ ?_)
                  · intro i u hi
                    match i, hi with
                    | 0, hi => simp [oc] at hi; subst hi; simp
                    | 1, hi => simp [oc] at hi; subst hi; simp
                    | 2, hi => simp [oc] at hi; subst hi; simp
                    | 3, hi => simp [oc] at hi; subst hi; simp
                    | 4, hi => simp [oc] at hi; subst hi; simp
                    | i + 5, hi => simp [oc] at hi
                  · omega
                  · exact hxl
                  · intro v' w5 hown' hgrow
                    have hb' : Below w.heap.size w w5 := OwnR.below HOV.out HBV.out (Nat.le_refl _) hgrow
                    have q1 := World.grownBy.cell hgrow x1 Hbo.out
                    have HO5 := Lib.hid hown'
                    have HB5 := Lib.hid hb'
                    clear hgrow hown' HOV HBV x1 Hbo hxl v0 v1 v2 v3 v4 hb'
                    go_wp2_with fail
                    go_roundw
                    case rel => exact ⟨O ++ [⟨p, s, pp, true, tg⟩], (tk + 1), p + 1 + s, by go_num, by go_num, by omega, by omega, by simp; omega, HO5, HW3, HB5.out⟩
                    case measure => simp [intOf]; omega
              · have d1 : decide ((m : Int) < (p : Int) + 1 + (s : Int)) = true := by simp; omega
                go_wp2_with fail
                go_ret2
                have hl := HW2.out
                rw [if_pos (by have := HM.out; omega)] at hl
                obtain ⟨rfl, rfl⟩ := hl
                exact ⟨_, rfl, OwnR.nil _ _ _, hbel.trans (hwr.mono hbel.size)⟩
            · have hl := HW.out.none (by have := HM.out; omega) (by
                rw [HX.out, HDR.out]
                simp only [headOf, HTG.out.2]
                simp only [Bool.true_and, beq_self_eq_true, if_true]
                rw [if_neg hri])
              obtain ⟨rfl, rfl⟩ := hl
              have HRI := Lib.hid hri
              clear hri
              go_wp2_with fail
              refine (rightNo s0 p0 _ HRI.out).mono ?_
              rintro e w2 ⟨rfl, hb2⟩
              go_wp2_with fail
              go_ret2
              exact ⟨_, rfl, OwnR.nil _ _ _, hbel.trans ((bt (ba0 wr _) hb2).mono hbel.size)⟩
        · have dae : (ae == 0) = false := by simp; omega
          have hne : (haddr x).2 ≠ 0 := by have := HA.out.2; omega
          clear hae
          have hh : headOf x (sh.drop tk) true = if (hunpack x).2.2 = 0 then some (((hunpack x).1, (hunpack x).2.1, false, 0), sh.drop tk) else none := by simp [headOf, hne]
          by_cases hue : (hunpack x).2.2 = 0
          · rw [if_pos hue] at hh
            obtain ⟨q1, q2, q3⟩ := hunpack_ok x hue
            obtain ⟨s, hs0⟩ : ∃ s, (hunpack x).1 = s := ⟨_, rfl⟩
            obtain ⟨pp, hp0⟩ : ∃ pp, (hunpack x).2.1 = pp := ⟨_, rfl⟩
            rw [hs0, hp0] at hh
            rw [hs0] at q1 q2
            rw [hp0] at q2
            have HP0 := Lib.hid (And.intro hs0 (And.intro hp0 hue))
            have HW2 := Lib.hid (HW.out.some (by have := HM.out; omega) (by rw [HX.out]; exact hh))
            clear hh hue q3 hs0 hp0
            go_wp2_with fail
            refine (refUnpackI x x s pp 0 _ rfl hxk (by rw [HP0.out.1]) (by rw [HP0.out.2.1]) (by rw [HP0.out.2.2]; rfl)).mono ?_
            rintro e w2 ⟨rfl, hb2⟩
            have hl2 : wr.heap.size < w2.heap.size := by have := hb2.size; simp at this; omega
            have g0 : w2.cell? ⟨wr.heap.size, 0, none⟩ = some (.int .i64 p) := cell_step hb2 (by simp) (by simp)
            have g1 : w2.cell? ⟨wr.heap.size, 1, none⟩ = some (.int .i64 0) := cell_step hb2 (by simp) (by simp)
            have g2 : w2.cell? ⟨wr.heap.size, 2, none⟩ = some (.int .i64 0) := cell_step hb2 (by simp) (by simp)
            have g3 : w2.cell? ⟨wr.heap.size, 3, none⟩ = some (.bool false) := cell_step hb2 (by simp) (by simp)
            have g4 : w2.cell? ⟨wr.heap.size, 4, none⟩ = some (.int .u64 0) := cell_step hb2 (by simp) (by simp)
            have f0 : ∀ j, j < 5 → w2.frozen? ⟨wr.heap.size, j, none⟩ = false := by
              intro j hj
              rw [hb2.frozen (p := ⟨wr.heap.size, j, none⟩) (by simp)]
              simp
            have f1 := f0 1 (by omega)
            have f2 := f0 2 (by omega)
            have hwr : Below wr.heap.size wr (((w2.setCell ⟨wr.heap.size, 1, none⟩ (.int .i64 s)).setCell ⟨wr.heap.size, 2, none⟩ (.int .i64 pp)).alloc (.cells #[.int .i64 s, .int .i64 pp] 28)) :=
              ba (((bt (ba0 wr _) hb2).setCell (Nat.le_refl _) _).setCell (Nat.le_refl _) _) _
            have y0 : (((w2.setCell ⟨wr.heap.size, 1, none⟩ (.int .i64 s)).setCell ⟨wr.heap.size, 2, none⟩ (.int .i64 pp)).alloc (.cells #[.int .i64 s, .int .i64 pp] 28)).cell? ⟨wr.heap.size, 0, none⟩ = some (.int .i64 p) := cell_step (ba0 _ _) (by simpa [World.setCell] using hl2) (set_no _ (by decide) (set_no _ (by decide) g0))
            have y1 : (((w2.setCell ⟨wr.heap.size, 1, none⟩ (.int .i64 s)).setCell ⟨wr.heap.size, 2, none⟩ (.int .i64 pp)).alloc (.cells #[.int .i64 s, .int .i64 pp] 28)).cell? ⟨wr.heap.size, 1, none⟩ = some (.int .i64 s) := cell_step (ba0 _ _) (by simpa [World.setCell] using hl2) (set_no _ (by decide) (set_at _ g1))
            have y2 : (((w2.setCell ⟨wr.heap.size, 1, none⟩ (.int .i64 s)).setCell ⟨wr.heap.size, 2, none⟩ (.int .i64 pp)).alloc (.cells #[.int .i64 s, .int .i64 pp] 28)).cell? ⟨wr.heap.size, 2, none⟩ = some (.int .i64 pp) := cell_step (ba0 _ _) (by simpa [World.setCell] using hl2) (set_at _ (set_no _ (by decide) g2))
            have y3 : (((w2.setCell ⟨wr.heap.size, 1, none⟩ (.int .i64 s)).setCell ⟨wr.heap.size, 2, none⟩ (.int .i64 pp)).alloc (.cells #[.int .i64 s, .int .i64 pp] 28)).cell? ⟨wr.heap.size, 3, none⟩ = some (.bool false) := cell_step (ba0 _ _) (by simpa [World.setCell] using hl2) (set_no _ (by decide) (set_no _ (by decide) g3))
            have y4 : (((w2.setCell ⟨wr.heap.size, 1, none⟩ (.int .i64 s)).setCell ⟨wr.heap.size, 2, none⟩ (.int .i64 pp)).alloc (.cells #[.int .i64 s, .int .i64 pp] 28)).cell? ⟨wr.heap.size, 4, none⟩ = some (.int .u64 (0 : Nat)) := cell_step (ba0 _ _) (by simpa [World.setCell] using hl2) (set_no _ (by decide) (set_no _ (by decide) g4))
            clear hb2
            by_cases hfit : p + 1 + s ≤ m
            · have d1 : decide ((m : Int) < (p : Int) + 1 + (s : Int)) = false := by simp; omega
              go_wp2_with fail
              generalize (((w2.setCell ⟨wr.heap.size, 1, none⟩ (.int .i64 s)).setCell ⟨wr.heap.size, 2, none⟩ (.int .i64 pp)).alloc (.cells #[.int .i64 s, .int .i64 pp] 28)) = Y at y0 y1 y2 y3 y4 hwr ⊢
              have HBY := Lib.hid (hbel.trans (hwr.mono hbel.size))
              have HOY := Lib.hid (HO.out.later hwr)
              have HUY := Lib.hid ((HU.out.below (Nat.le_refl _) HBY.out).cutIf (ca := ca) (by have := HM.out; omega) (p + 1) s (by have := HM.out; omega))
              have HVY : Hid (∀ v ∈ (ws.drop (p + 1)).take s, v < 2 ^ 64) := Lib.hid fun v h => HV.out v (List.mem_of_mem_drop (List.mem_of_mem_take h))
              have HLY : Hid (((ws.drop (p + 1)).take s).length = s) := Lib.hid (by have := HM.out; simp; omega)
              obtain ⟨a1, ha1⟩ : ∃ a1 : Nat, a1 = p + 1 := ⟨_, rfl⟩
              obtain ⟨a2, ha2⟩ : ∃ a2 : Nat, a2 = a1 + s := ⟨_, rfl⟩
              have hw1 : IntKind.i64.wrap ((p : Int) + 1) = (a1 : Int) := by rw [IntWalk.i64_in _ ⟨by omega, by omega⟩]; omega
              have hw2 : IntKind.i64.wrap ((a1 : Int) + (s : Int)) = (a2 : Int) := by rw [IntWalk.i64_in _ ⟨by omega, by omega⟩]; omega
              have i1 : (0 : Int) ≤ (a1 : Int) := Int.natCast_nonneg _
              have i2 : (a1 : Int) ≤ (a2 : Int) := by omega
              have i3 : (a2 : Int) ≤ (ca : Int) := by omega
              have t1 : decide (a2 < a1) = false := by simp; omega
              have t2 : decide (ca < a2) = false := by simp; omega
              have yl : wr.heap.size < Y.heap.size := World.block_lt_of_cell? Y _ y0
              have z1 : ∀ x : GW Y, x.w'.cell? ⟨wr.heap.size, 1, none⟩ = some (.int .i64 s) := fun x => cell_step x.h yl y1
              have hl1 : Hid (∀ w', (∃ x : GW Y, w' = x.w') → w'.cell? ⟨wr.heap.size, 0, none⟩ = some (.int .i64 p) ∧ w'.cell? ⟨wr.heap.size, 0 + 1, none⟩ = some (.int .i64 s) ∧ w'.cell? ⟨wr.heap.size, 0 + 2, none⟩ = some (.int .i64 pp) ∧ w'.cell? ⟨wr.heap.size, 0 + 3, none⟩ = some (.bool false) ∧ w'.cell? ⟨wr.heap.size, 0 + 4, none⟩ = some (.int .u64 (0 : Nat))) := Lib.hid (by
                rintro w' ⟨z, rfl⟩
                exact ⟨cell_step z.h yl y0, cell_step z.h yl y1, cell_step z.h yl y2, cell_step z.h yl y3, cell_step z.h yl y4⟩)
              have hl := HW2.out
              rw [if_neg (by have := HM.out; omega)] at hl
              have HL2 := Lib.hid hl
              clear hl HW2 HU
              cases hR : slotsOk ((ws.drop (p + 1)).take s) pp false with
              | false =>
                have HR := Lib.hid hR
                have hl := HL2.out
                rw [if_neg (by rw [HR.out]; decide)] at hl
                obtain ⟨rfl, rfl⟩ := hl
                clear hR HL2
                refine wp_region_grow (by kernel_rfl) (by kernel_rfl) ?_
                repeat (first
                  | (go_big_quiet_step ((go_at_call 38; exact grow_call (refSlots _ _ s ((ws.drop (p + 1)).take s) ⟨p, s, pp, false, 0⟩ false 3 _ HLY.out (by omega) HVY.out (HUY.out.below (Nat.le_refl _) (GW.h _)) HR.out rfl))))
                  | (refine wpQ_load_ob rfl (.tmp 11) rfl wr.heap.size 0 rfl ⟨p, s, pp, false, 0⟩ hl1.out ?_; simp [Act.put, obv]))
                refine wpQuiet_nil ?_
                first | rintro _ ⟨w4, rfl⟩ | intro w4
                generalize (if ca = p + 1 then some (⟨b, off, none⟩ : Addr) else some ⟨b, off + (p + 1), none⟩) = AO
                clear z1
                go_wp2_with fail
                go_ret2
                exact ⟨_, rfl, OwnR.nil _ _ _, bt HBY.out w4.h⟩
              | true =>
                have HR := Lib.hid hR
                have hl := HL2.out
                rw [if_pos HR.out] at hl
                have HW3 := Lib.hid hl
                clear hR HL2 hl
                refine wp_region_grow (by kernel_rfl) (by kernel_rfl) ?_
                repeat (first
                  | (go_big_quiet_step ((go_at_call 38; exact grow_call (refSlots _ _ s ((ws.drop (p + 1)).take s) ⟨p, s, pp, false, 0⟩ true 0 _ HLY.out (by omega) HVY.out (HUY.out.below (Nat.le_refl _) (GW.h _)) HR.out rfl))))
                  | (refine wpQ_load_ob rfl (.tmp 11) rfl wr.heap.size 0 rfl ⟨p, s, pp, false, 0⟩ hl1.out ?_; simp [Act.put, obv]))
                refine wpQuiet_nil ?_
                first | rintro _ ⟨w4, rfl⟩ | intro w4
                generalize (if ca = p + 1 then some (⟨b, off, none⟩ : Addr) else some ⟨b, off + (p + 1), none⟩) = AO
                obtain ⟨V, hV⟩ : ∃ V, V = w4.w' := ⟨_, rfl⟩
                have hYV : Below Y.heap.size Y V := hV ▸ w4.h
                rw [← hV]
                clear hV w4 z1 hw1 hw2 t1 t2 i1 i2 i3 ha2 a2 ha1 a1
                have v0 := cell_step hYV yl y0
                have v1 := cell_step hYV yl y1
                have v2 := cell_step hYV yl y2
                have v3 := cell_step hYV yl y3
                have v4 := cell_step hYV yl y4
                have vl : wr.heap.size < V.heap.size := World.block_lt_of_cell? V _ v0
                have hbo : some wr.heap.size ≠ u8.ownBlock := fun h => by have := (World.ownsRow.lt HO.out _ h.symm).2; omega
                have HOV := Lib.hid ((HOY.out.later hYV).alloc (.cells #[.int .i64 p, .int .i64 s, .int .i64 pp, .bool false, .int .u64 (0 : Nat)] 53))
                have HBV := Lib.hid (ba (bt HBY.out hYV) (.cells #[.int .i64 p, .int .i64 s, .int .i64 pp, .bool false, .int .u64 (0 : Nat)] 53))
                have x1 := cell_step (ba0 V (.cells #[.int .i64 p, .int .i64 s, .int .i64 pp, .bool false, .int .u64 (0 : Nat)] 53)) vl v1
                have Hbo := Lib.hid hbo
                have hxl := HBV.out.size
                clear y0 y1 y2 y3 y4 yl hwr hYV HBY HOY HUY HVY HLY hl1 hbo
                go_wp2_with (at_builtin; refine wp_append_row 53 26 _ 40 info_ob Try.underlying26 rfl (by decide) (by decide) oc_len oc_one _ rfl (.tmp 95) (.tmp 97) rfl w.heap.size _ O rfl HOV.out V.heap.size ⟨p, s, pp, false, 0⟩ rfl ?_ ?_ ?_ ?_)
                · intro i u hi
                  match i, hi with
                  | 0, hi => simp [oc] at hi; subst hi; simp
                  | 1, hi => simp [oc] at hi; subst hi; simp
                  | 2, hi => simp [oc] at hi; subst hi; simp
                  | 3, hi => simp [oc] at hi; subst hi; simp
                  | 4, hi => simp [oc] at hi; subst hi; simp
                  | i + 5, hi => simp [oc] at hi
                · omega
                · exact hxl
                · intro v' w5 hown' hgrow
                  have hb' : Below w.heap.size w w5 := OwnR.below HOV.out HBV.out (Nat.le_refl _) hgrow
                  have q1 := World.grownBy.cell hgrow x1 Hbo.out
                  have HO5 := Lib.hid hown'
                  have HB5 := Lib.hid hb'
                  clear hgrow hown' HOV HBV x1 Hbo hxl v0 v1 v2 v3 v4 hb'
                  go_wp2_with fail
                  go_roundw
                  case rel => exact ⟨O ++ [⟨p, s, pp, false, 0⟩], tk, p + 1 + s, by go_num, by go_num, by omega, by omega, by simp; omega, HO5, HW3, HB5.out⟩
                  case measure => simp [intOf]; omega
            · have d1 : decide ((m : Int) < (p : Int) + 1 + (s : Int)) = true := by simp; omega
              go_wp2_with fail
              go_ret2
              have hl := HW2.out
              rw [if_pos (by have := HM.out; omega)] at hl
              obtain ⟨rfl, rfl⟩ := hl
              exact ⟨_, rfl, OwnR.nil _ _ _, hbel.trans (hwr.mono hbel.size)⟩
          · rw [if_neg hue] at hh
            have hl := HW.out.none (by have := HM.out; omega) (by rw [HX.out]; exact hh)
            obtain ⟨rfl, rfl⟩ := hl
            have HP0 := Lib.hid (hunpack_err x hue)
            clear hh hue
            go_wp2_with fail
            refine (refUnpackI x x 0 0 3 _ rfl hxk (by rw [HP0.out]; rfl) (by rw [HP0.out]; rfl) (by rw [HP0.out]; rfl)).mono ?_
            rintro e w2 ⟨rfl, hb2⟩
            go_wp2_with fail
            go_ret2
            exact ⟨_, rfl, OwnR.nil _ _ _, hbel.trans ((ba (bt (ba0 wr _) hb2) _).mono hbel.size)⟩
    · have hpe : ws.length ≤ p := by have := HM.out; omega
      have hl := HW.out.stop hpe
      have dp : decide (p < m) = false := by simp; omega
      by_cases ht : tk < n
      · have d2 : decide (tk < n) = true := by simp; omega
        rw [if_neg (by have := HN.out; omega)] at hl
        obtain ⟨rfl, rfl⟩ := hl
        go_wp2_with fail
        go_ret2
        exact ⟨_, rfl, OwnR.nil _ _ _, hbel⟩
      · have d2 : decide (tk < n) = false := by simp; omega
        rw [if_pos (by have := HN.out; omega)] at hl
        obtain ⟨rfl, rfl⟩ := hl
        go_wp2_with fail
        go_ret2
        exact ⟨_, rfl, HO.out, hbel⟩
end Go.Proofs.Ytjefajpipgicdaa.V
