/-
  The program's begin, walked: what an object's first word tells, or a panic.
-/
import Derived.Test.YtjefajpipgicdaaOProg1
import Derived.Test.YtjefajpipgicdaaOLawParts
set_option linter.unusedVariables false
namespace Go.Proofs.Ytjefajpipgicdaa.V
open Go.RowKit

theorem loadVar_ob {w : World} {b : Nat} {o : Ob} (h0 : w.cell? ⟨b, 0, none⟩ = some (.int .i64 o.pos)) (h1 : w.cell? ⟨b, 1, none⟩ = some (.int .i64 o.size)) (h2 : w.cell? ⟨b, 2, none⟩ = some (.int .i64 o.ptrs)) (h3 : w.cell? ⟨b, 3, none⟩ = some (.bool o.gone)) (h4 : w.cell? ⟨b, 4, none⟩ = some (.int .u64 (o.tgt : Int))) :
    (loadVar 53 ⟨b, 0, none⟩).run Try.prog w = .ok (obv o) w := by
  refine run_loadVar_mid w b 0 53 [.int .i64 o.pos, .int .i64 o.size, .int .i64 o.ptrs, .bool o.gone, .int .u64 (o.tgt : Int)] _ ?_ Try.underlying53 rfl (by kernel_rfl)
  intro j v hj
  match j, hj with
  | 0, hj => simp at hj; subst hj; exact h0
  | 1, hj => simp at hj; subst hj; exact h1
  | 2, hj => simp at hj; subst hj; exact h2
  | 3, hj => simp at hj; subst hj; exact h3
  | 4, hj => simp at hj; subst hj; exact h4
theorem ob_new_later {w w1 : World} (hb : Below (w.alloc (.cells #[.int .i64 0, .int .i64 0, .int .i64 0, .bool false, .int .u64 0] 53)).heap.size (w.alloc (.cells #[.int .i64 0, .int .i64 0, .int .i64 0, .bool false, .int .u64 0] 53)) w1) :
    (∀ j, j < 5 → (w1.cell? ⟨w.heap.size, j, none⟩).isSome = true) ∧ ∀ j, w1.frozen? ⟨w.heap.size, j, none⟩ = false := by
  obtain ⟨h1, h2⟩ := ob_new w
  constructor
  · intro j hj
    rw [hb.cell (p := ⟨w.heap.size, j, none⟩) (by simp)]
    exact h1 j hj
  · intro j
    rw [hb.frozen (p := ⟨w.heap.size, j, none⟩) (by simp)]
    exact h2 j
theorem haddr_err (x : Nat) : (haddr x).2 < 100 := by
  unfold haddr
  by_cases h1 : x = 0
  · rw [if_pos h1]; decide
  · rw [if_neg h1]
    by_cases h2 : x % 2 = 0 ∨ x = 1
    · rw [if_pos h2]; decide
    · rw [if_neg h2]; simp

set_option maxRecDepth 100000 in
theorem oBeginNo (x : Nat) (bo : Option Addr) (cb n : Nat) (sh : List Shp) (w : World) (hx : x < 2 ^ 64) (hn : sh.length = n) (hs : Rw sc 2 w bo sh) (h : headOf x sh true = none) :
    Calls Try.prog 40 #[.int .u64 x, .slice bo n cb] w fun e w' => e = .panicked [{ v := .iface 34 (.int .i64 3), recovered := false }] ∧ Below w.heap.size w w' := by
  obtain ⟨V, hV⟩ : ∃ V : Int, ((haddr x).1 : Int) = V := ⟨_, rfl⟩
  have HV := Lib.hid hV
  clear hV
  by_cases h1 : (haddr x).2 = 0
  · have HE := Lib.hid (show ((haddr x).2 : Int) = 0 by omega)
    unfold headOf at h
    rw [h1] at h
    cases sh with
    | nil =>
      subst hn
      clear h h1 hs
      go_enter Try.func40, Try.ntmps40
      go_wp2_with fail
      refine (hAddressI _ x V 0 _ rfl hx HV.out HE.out).mono ?_
      rintro e w1 ⟨rfl, rfl⟩
      go_wp2_with fail
      refine (oDemandNo 3 _).mono ?_
      rintro e w1 ⟨rfl, rfl⟩
      exact ⟨rfl, rfl, ba0 _ _⟩
    | cons y r =>
      obtain ⟨s, p⟩ := y
      have hr : ¬ hright s p := by intro hh; simp [hh] at h
      obtain ⟨b, off, rfl, hb, hc0, hc1⟩ := sh_cells hs (k := 0) (o := (s, p)) rfl
      simp only [Nat.zero_mul, Nat.add_zero] at hc0 hc1
      obtain ⟨n1, rfl⟩ : ∃ n1, n = n1 + 1 := ⟨r.length, by rw [← hn]; simp⟩
      clear h h1 hs hn
      have HR := Lib.hid hr
      clear hr
      go_enter Try.func40, Try.ntmps40
      go_wp2_with fail
      refine (hAddressI _ x V 0 _ rfl hx HV.out HE.out).mono ?_
      rintro e w1 ⟨rfl, rfl⟩
      go_wp2_with fail
      refine (hRightNo s p _ HR.out).mono ?_
      rintro e w1 ⟨rfl, hb1⟩
      have HB1 := Lib.hid (bt (ba0 w _) hb1)
      clear hb1
      go_wp2_with fail
      refine (oDemandNo 3 _).mono ?_
      rintro e w2 ⟨rfl, rfl⟩
      exact ⟨rfl, rfl, HB1.out⟩
  · have h100 := haddr_err x
    obtain ⟨E, hE⟩ : ∃ E : Int, ((haddr x).2 : Int) = E := ⟨_, rfl⟩
    have d1 : (E == 0) = false := by simp; omega
    have hu : hunpack x = (0, 0, 3) := by
      refine hunpack_err x ?_
      intro hu
      unfold headOf at h
      rw [if_neg (by simp [h1]), if_pos (by simp [hu])] at h
      simp at h
    have HE := Lib.hid hE
    have HU := Lib.hid hu
    clear h1 h100 hE hu h
    go_enter Try.func40, Try.ntmps40
    go_wp2_with fail
    refine (hAddressI _ x V E _ rfl hx HV.out HE.out).mono ?_
    rintro e w1 ⟨rfl, rfl⟩
    go_wp2_with fail
    refine (hUnpackI _ x 0 0 3 _ rfl hx (by rw [HU.out]; rfl) (by rw [HU.out]; rfl) (by rw [HU.out]; rfl)).mono ?_
    rintro e w1 ⟨rfl, hb1⟩
    have HB1 := Lib.hid (bt (ba0 w _) hb1)
    have HS := Lib.hid (fun S v (hS : S ≤ w1.heap.size) (hbb : Below S v w1) => hbb.alloc hS (.cells #[.int .i64 0, .int .i64 0] 28))
    clear hb1
    go_wp2_with (refine wp_store_sh rfl (.tmp 7) (.tmp 33) rfl w1.heap.size (0 : Int) (0 : Int) rfl rfl (by intro j hj; match j, hj with | 0, _ => simp | 1, _ => simp) (by intro j hj; simp) ?_; intro w5 q1 q2 q3; have HB5 := Lib.hid (q3 _ _ (HB1.out.size) (ba HB1.out _)); clear q3 q1 q2)
    refine (oDemandNo 3 _).mono ?_
    rintro e w2 ⟨rfl, rfl⟩
    exact ⟨rfl, rfl, HB5.out⟩

set_option maxRecDepth 100000 in
theorem oBeginOk (x : Nat) (bo : Option Addr) (cb n : Nat) (sh sh' : List Shp) (s p t : Nat) (g : Bool) (w : World) (hx : x < 2 ^ 64) (hn : sh.length = n) (hs : Rw sc 2 w bo sh) (h : headOf x sh true = some ((s, p, g, t), sh')) :
    Calls Try.prog 40 #[.int .u64 x, .slice bo n cb] w fun e w' => e = .returned (obv ⟨0, s, p, g, t⟩) ∧ Below w.heap.size w w' := by
  by_cases h1 : (haddr x).2 = 0
  · have HE := Lib.hid (show ((haddr x).2 : Int) = 0 by omega)
    unfold headOf at h
    rw [h1] at h
    cases sh with
    | nil => simp at h
    | cons y r =>
      obtain ⟨s0, p0⟩ := y
      by_cases hr : hright s0 p0
      · simp only [BEq.rfl, Bool.and_self, if_true, if_pos hr, Option.some.injEq, Prod.mk.injEq] at h
        obtain ⟨⟨hs0, hp0, rfl, ht⟩, rfl⟩ := h
        obtain ⟨r1, r2, r3, r4⟩ := hr
        obtain rfl : s0 = (s : Int) := by omega
        obtain rfl : p0 = (p : Int) := by omega
        have HV := Lib.hid (show ((haddr x).1 : Int) = (t : Int) by omega)
        obtain ⟨b, off, rfl, hb, hc0, hc1⟩ := sh_cells hs (k := 0) (o := ((s : Int), (p : Int))) rfl
        simp only [Nat.zero_mul, Nat.add_zero] at hc0 hc1
        obtain ⟨n1, rfl⟩ : ∃ n1, n = n1 + 1 := ⟨r.length, by rw [← hn]; simp⟩
        have HR := Lib.hid (⟨r1, r2, r3, r4⟩ : hright s p)
        clear h1 hs hn r1 r2 r3 r4 hs0 hp0 ht
        go_enter Try.func40, Try.ntmps40
        go_wp2_with fail
        refine (hAddressI _ x t 0 _ rfl hx HV.out HE.out).mono ?_
        rintro e w1 ⟨rfl, rfl⟩
        go_wp2_with fail
        refine (hRightYes s p _ HR.out).mono ?_
        rintro e w1 ⟨rfl, hb1⟩
        have HB1 := Lib.hid (bt (ba0 w _) hb1)
        have HN := Lib.hid (ob_new_later hb1)
        replace hc0 := cell_step HB1.out hb hc0
        replace hc1 := cell_step HB1.out hb hc1
        clear hb1
        go_wp2_with fail
        refine (oDemandYes 3 _).mono ?_
        rintro e w2 ⟨rfl, rfl⟩
        go_wp2_with (refine wp_store_ob rfl (.tmp 4) (.tmp 29) rfl w.heap.size ⟨0, s, p, true, t⟩ rfl rfl HN.out.1 HN.out.2 ?_; intro w7 q0 q1 q2 q3 q4 q5 q6; have HB7 := Lib.hid (q6 _ _ (Nat.le_refl _) HB1.out); have HL := Lib.hid (loadVar_ob q0 q1 q2 q3 q4); clear q0 q1 q2 q3 q4 q5 q6)
        refine bodyPost_ret (results_cell1 rfl _ _ _ w.heap.size _ rfl HL.out) rfl ?_
        exact ⟨rfl, HB7.out⟩
      · simp [hr] at h
  · have h100 := haddr_err x
    obtain ⟨V, hV⟩ : ∃ V : Int, ((haddr x).1 : Int) = V := ⟨_, rfl⟩
    obtain ⟨E, hE⟩ : ∃ E : Int, ((haddr x).2 : Int) = E := ⟨_, rfl⟩
    have d1 : (E == 0) = false := by simp; omega
    unfold headOf at h
    rw [if_neg (by simp [h1])] at h
    by_cases hu : (hunpack x).2.2 = 0
    · rw [if_pos (by simp [hu])] at h
      simp only [Option.some.injEq, Prod.mk.injEq] at h
      obtain ⟨⟨hs1, hp1, rfl, rfl⟩, rfl⟩ := h
      have HV := Lib.hid hV
      have HE := Lib.hid hE
      have HU := Lib.hid (⟨show ((hunpack x).1 : Int) = (s : Int) by omega, show ((hunpack x).2.1 : Int) = (p : Int) by omega, show ((hunpack x).2.2 : Int) = 0 by omega⟩ : _ ∧ _ ∧ _)
      clear h1 h100 hE hu hV hs1 hp1
      go_enter Try.func40, Try.ntmps40
      go_wp2_with fail
      refine (hAddressI _ x V E _ rfl hx HV.out HE.out).mono ?_
      rintro e w1 ⟨rfl, rfl⟩
      go_wp2_with fail
      refine (hUnpackI _ x s p 0 _ rfl hx HU.out.1 HU.out.2.1 HU.out.2.2).mono ?_
      rintro e w1 ⟨rfl, hb1⟩
      have HB1 := Lib.hid (bt (ba0 w _) hb1)
      have HB0 := Lib.hid hb1
      clear hb1
      go_wp2_with (refine wp_store_sh rfl (.tmp 7) (.tmp 33) rfl w1.heap.size (s : Int) (p : Int) rfl rfl (by intro j hj; match j, hj with | 0, _ => simp | 1, _ => simp) (by intro j hj; simp) ?_; intro w5 q1 q2 q3; have hb15 := q3 _ _ (Nat.le_refl _) (ba0 w1 _); have HB5 := Lib.hid (bt HB1.out hb15); have HN := Lib.hid (ob_new_later (bt HB0.out hb15)); clear q3 hb15)
      refine (oDemandYes 0 _).mono ?_
      rintro e w2 ⟨rfl, rfl⟩
      go_wp2_with (refine wp_store_ob rfl (.tmp 4) (.tmp 40) rfl w.heap.size ⟨0, s, p, false, 0⟩ rfl rfl HN.out.1 HN.out.2 ?_; intro w7 q0 q1 q2 q3 q4 q5 q6; have HB7 := Lib.hid (q6 _ _ (Nat.le_refl _) HB5.out); have HL := Lib.hid (loadVar_ob q0 q1 q2 q3 q4); clear q0 q1 q2 q3 q4 q5 q6)
      refine bodyPost_ret (results_cell1 rfl _ _ _ w.heap.size _ rfl HL.out) rfl ?_
      exact ⟨rfl, HB7.out⟩
    · simp [hu] at h
end Go.Proofs.Ytjefajpipgicdaa.V
