/-
  HeaderTells: for every shape and all words the statement's function returns true, and writes nothing that was there.
-/
import Derived.Test.YtllhcicggioplaaHForms
import Derived.Deep.RegionHeld3
import Derived.Deep.MidRow
set_option linter.unusedVariables false
namespace Go.Proofs.Ytllhcicggioplaa.V
open Go.RowKit

theorem load_sh {w : World} {b o : Nat} {s p : Int} (h1 : w.cell? ⟨b, o, none⟩ = some (.int .i64 s)) (h2 : w.cell? ⟨b, o + 1, none⟩ = some (.int .i64 p)) :
    (Instr.loadAt 23 (.pointer (some ⟨b, o, none⟩))).run Try.prog w = .ok (.agg #[.int .i64 s, .int .i64 p]) w := by
  refine run_loadAt_mid w b o 23 [.int .i64 s, .int .i64 p] _ ?_ Try.underlying23 rfl (by kernel_rfl)
  intro j v hj
  match j, hj with
  | 0, hj => simp at hj; subst hj; exact h1
  | 1, hj => simp at hj; subst hj; exact h2
/-- The load of a whole shape, at a step of a region that draws its order. -/
theorem wpQ_load_sh {ops : Array Oper} {C : World → Prop} {Q : Act → Prop} {rest : List Oper} {o : Oper} {a : Act} (hw : Region.wanted o (yielded ops a.tmps) = true) (x : Operand) (ho : o.op = .load 23 x)
    (b off : Nat) (hx : a.eval x = .pointer (some ⟨b, off, none⟩)) (s p : Int) (hl : ∀ w, C w → w.cell? ⟨b, off, none⟩ = some (.int .i64 s) ∧ w.cell? ⟨b, off + 1, none⟩ = some (.int .i64 p))
    (h : wpQuiet Try.prog ops C Q rest (a.put o.dst (.agg #[.int .i64 s, .int .i64 p]))) : wpQuiet Try.prog ops C Q (o :: rest) a := by
  refine BigFrame.wpQuiet_want hw fun K hK => ⟨_, fun w hc => ?_, hK _ h⟩
  obtain ⟨h1, h2⟩ := hl w hc
  unfold Oper.quietAt execOp
  simp only [ho, hx, Sem.run_bind, load_sh h1 h2, Result.andThen_ok, Sem.run_pure]
  exact ⟨rfl, rfl⟩
theorem refPackI (s p V E : Int) (w : World) (hv : ((hpackI s p).1 : Int) = V) (he : ((hpackI s p).2 : Int) = E) : Calls Try.prog 12 #[.agg #[.int .i64 s, .int .i64 p]] w fun e w' => e = .returned (.tuple #[.int .u64 V, .int .i64 E]) ∧ Below w.heap.size w w' := by
  subst hv; subst he; exact refPack s p w
theorem refRefI (A : Int) (a : Nat) (V E : Int) (w : World) (hA : A = (a : Int)) (ha : a < 2 ^ 64) (hv : ((href a).1 : Int) = V) (he : ((href a).2 : Int) = E) : Calls Try.prog 18 #[.int .u64 A] w fun e w' => e = .returned (.tuple #[.int .u64 V, .int .i64 E]) ∧ w = w' := by
  subst hA; subst hv; subst he; exact refRef a w ha
theorem refAddressI (A : Int) (a : Nat) (V E : Int) (w : World) (hA : A = (a : Int)) (ha : a < 2 ^ 64) (hv : ((haddr a).1 : Int) = V) (he : ((haddr a).2 : Int) = E) : Calls Try.prog 20 #[.int .u64 A] w fun e w' => e = .returned (.tuple #[.int .u64 V, .int .i64 E]) ∧ w = w' := by
  subst hA; subst hv; subst he; exact refAddress a w ha
theorem refUnpackI (A : Int) (a : Nat) (S P E : Int) (w : World) (hA : A = (a : Int)) (ha : a < 2 ^ 64) (hs : ((hunpack a).1 : Int) = S) (hp : ((hunpack a).2.1 : Int) = P) (he : ((hunpack a).2.2 : Int) = E) : Calls Try.prog 16 #[.int .u64 A] w fun e w' => e = .returned (.tuple #[.agg #[.int .i64 S, .int .i64 P], .int .i64 E]) ∧ Below w.heap.size w w' := by
  subst hA; subst hs; subst hp; subst he; exact refUnpack a w ha

set_option maxRecDepth 100000 in
set_option maxHeartbeats 400000 in
theorem tells_try (S0 P0 : Int) (v x x2 v2 : Nat) (w : World) (b0 : -9223372036854775808 ≤ S0) (b1 : S0 ≤ 9223372036854775807) (b2 : -9223372036854775808 ≤ P0) (b3 : P0 ≤ 9223372036854775807)
    (hv : v < 2 ^ 64) (hx : x < 2 ^ 64) (hx2 : (x : Int) % 33554432 = (x2 : Int)) (hv2 : (v : Int) % 131072 = (v2 : Int)) :
    Calls Try.prog 3 #[.agg #[.int .i64 S0, .int .i64 P0], .int .u64 v, .int .u64 x] w fun e w' => e = .returned (.bool true) ∧ Below w.heap.size w w' := by
  go_enter Try.func3, Try.ntmps3
  go_wp2_with fail
  refine (awake05 _).mono ?_
  rintro e w1 ⟨rfl, hb1⟩
  have g0 : w1.cell? ⟨w.heap.size, 0, none⟩ = some (.int .i64 S0) := cell_step hb1 (by simp) (by simp)
  have g1 : w1.cell? ⟨w.heap.size, 1, none⟩ = some (.int .i64 P0) := cell_step hb1 (by simp) (by simp)
  have gl : w.heap.size < w1.heap.size := by have := hb1.size; simp at this; omega
  have HB := Lib.hid (bt (ba0 _ _) hb1)
  clear hb1
  have IHp : Hid (∀ c, (c = S0 ∨ c = P0) → ∀ w, Calls Try.prog 10 #[.int .i64 c, .int .i64 258] w fun e w' => e = .returned (.int .i64 (pk c 258)) ∧ w = w') :=
    Lib.hid fun c hc w => pick05_any c 258 w (by omega) (by omega) (by omega) (by omega)
  have hkeep : Hid (∀ w' : World, Below w1.heap.size w1 w' → w'.cell? ⟨w.heap.size, 0, none⟩ = some (.int .i64 S0) ∧ w'.cell? ⟨w.heap.size, 1, none⟩ = some (.int .i64 P0)) := Lib.hid fun w' h => ⟨cell_step h gl g0, cell_step h gl g1⟩
  go_wp2_with fail
  go_region_held3 (fun w' => w'.cell? ⟨w.heap.size, 0, none⟩ = some (.int .i64 S0) ∧ w'.cell? ⟨w.heap.size, 1, none⟩ = some (.int .i64 P0)) (exact hkeep.out _ (by first | exact (Below.refl _ w1).drew | exact Below.refl _ w1 | exact ba (Below.refl _ w1).drew _ | exact ba0 w1 _)) ((first
    | (go_at_call 10; refine (IHp.out _ (by first | exact Or.inl rfl | exact Or.inr rfl) _).mono ?_; rintro e w2 ⟨rfl, rfl⟩)))
  have c0 : ∀ j, j < 2 → ∃ a b : Int, ((w1.alloc (.cells #[.int .i64 S0, .int .i64 P0, .int .i64 (pk S0 258), .int .i64 (pk P0 258)] 23)).drew).cell? ⟨w1.heap.size, j * 2, none⟩ = some (.int .i64 a) ∧ ((w1.alloc (.cells #[.int .i64 S0, .int .i64 P0, .int .i64 (pk S0 258), .int .i64 (pk P0 258)] 23)).drew).cell? ⟨w1.heap.size, j * 2 + 1, none⟩ = some (.int .i64 b) := by
    intro j hj
    match j, hj with
    | 0, _ => exact ⟨S0, P0, by simp, by simp⟩
    | 1, _ => exact ⟨pk S0 258, pk P0 258, by simp, by simp⟩
  have kl : w1.heap.size < ((w1.alloc (.cells #[.int .i64 S0, .int .i64 P0, .int .i64 (pk S0 258), .int .i64 (pk P0 258)] 23)).drew).heap.size := by simp
  have HBV := Lib.hid ((ba HB.out (.cells #[.int .i64 S0, .int .i64 P0, .int .i64 (pk S0 258), .int .i64 (pk P0 258)] 23)).drew)
  clear IHp hkeep g0 g1 gl HB
  go_wp2_with fail
  generalize (w1.alloc (.cells #[.int .i64 S0, .int .i64 P0, .int .i64 (pk S0 258), .int .i64 (pk P0 258)] 23)).drew = V at c0 kl HBV ⊢
  generalize w1.heap.size = g at c0 kl ⊢
  have C0 := Lib.hid c0
  have H2 := Lib.hid (And.intro hx2 hv2)
  clear c0 hx2 hv2
  go_loopw [39] (fun i wr => ∃ k : Nat, k ≤ 2 ∧ i = .int .i64 k ∧ Below V.heap.size V wr) (fun i _ => 2 - (intOf i).toNat)
  case atStart => exact ⟨0, by omega, rfl, Below.refl _ _⟩
  case round =>
    obtain ⟨k, hk, rfl, hbel⟩ := hrel
    by_cases hk2 : k < 2
    · obtain ⟨a, b, hc1, hc2⟩ := C0.out k hk2
      have hd1 := cell_step hbel kl hc1
      have hd2 := cell_step hbel kl hc2
      clear hc1 hc2
      obtain ⟨va, hva⟩ : ∃ va : Int, ((hpackI a b).1 : Int) = va := ⟨_, rfl⟩
      obtain ⟨ea, hea⟩ : ∃ ea : Int, ((hpackI a b).2 : Int) = ea := ⟨_, rfl⟩
      have HVA := Lib.hid hva
      have HEA := Lib.hid hea
      clear hva hea
      go_wp2_with fail
      refine (hPackI a b va ea _ HVA.out HEA.out).mono ?_
      rintro e w2 ⟨rfl, hb2⟩
      have m0 : w2.cell? ⟨wr.heap.size, 0, none⟩ = some (.int .i64 a) := cell_step hb2 (by simp) (by simp)
      have m1 : w2.cell? ⟨wr.heap.size, 1, none⟩ = some (.int .i64 b) := cell_step hb2 (by simp) (by simp)
      have ml : wr.heap.size < w2.heap.size := by have := hb2.size; simp at this; omega
      have HB2 := Lib.hid (hbel.trans ((bt (ba0 wr _) hb2).mono hbel.size))
      clear hb2 hbel hd1 hd2
      go_wp2_with fail
      refine (refPackI a b va ea _ HVA.out HEA.out).mono ?_
      rintro e w3 ⟨rfl, hb3⟩
      have n0 : w3.cell? ⟨wr.heap.size, 0, none⟩ = some (.int .i64 a) := cell_step hb3 ml m0
      have n1 : w3.cell? ⟨wr.heap.size, 1, none⟩ = some (.int .i64 b) := cell_step hb3 ml m1
      have nl : wr.heap.size < w3.heap.size := by have := hb3.size; omega
      have HB3 := Lib.hid (bt HB2.out hb3)
      clear hb3 m0 m1 ml HB2
      have hl1 : Hid (∀ w', (∃ x : GW w3, w' = x.w') → w'.cell? ⟨wr.heap.size, 0, none⟩ = some (.int .i64 a) ∧ w'.cell? ⟨wr.heap.size, 0 + 1, none⟩ = some (.int .i64 b)) := Lib.hid (by
        rintro w' ⟨x, rfl⟩
        exact ⟨cell_step x.h nl n0, cell_step x.h nl n1⟩)
      go_wp2_with fail
      refine wp_region_grow (by kernel_rfl) (by kernel_rfl) ?_
      repeat (first
        | go_big_quiet_step ((first
            | (go_at_call 13; exact grow_call (hRight a b _))
            | (go_at_call 14; exact grow_call (refRight a b _))))
        | (refine wpQ_load_sh rfl (.tmp 9) rfl wr.heap.size 0 rfl a b hl1.out ?_; simp [Act.put]))
      refine wpQuiet_nil ?_
      first | rintro _ ⟨w4, rfl⟩ | intro w4
      go_wp2_with fail
      go_roundw
      case rel => exact ⟨k + 1, by omega, by go_num, bt HB3.out w4.h⟩
      case measure => simp [intOf]; omega
    · have HBL := Lib.hid (bt HBV.out (hbel.mono (Nat.le_refl _)))
      clear hbel
      have hx2 := H2.out.1
      have hv2 := H2.out.2
      have c1 : ∀ j, j < 4 → ∃ X : Nat, X < 2 ^ 64 ∧ (wr.alloc (.cells #[.int .u64 v, .int .u64 x, .int .u64 x2, .int .u64 v2] 24)).cell? ⟨wr.heap.size, j, none⟩ = some (.int .u64 X) := by
        intro j hj
        match j, hj with
        | 0, _ => exact ⟨v, hv, by simp⟩
        | 1, _ => exact ⟨x, hx, by simp⟩
        | 2, _ => exact ⟨x2, by omega, by simp⟩
        | 3, _ => exact ⟨v2, by omega, by simp⟩
      have gl : wr.heap.size < (wr.alloc (.cells #[.int .u64 v, .int .u64 x, .int .u64 x2, .int .u64 v2] 24)).heap.size := by simp
      have HBY := Lib.hid (ba HBL.out (.cells #[.int .u64 v, .int .u64 x, .int .u64 x2, .int .u64 v2] 24))
      go_wp2_with fail
      generalize wr.alloc (.cells #[.int .u64 v, .int .u64 x, .int .u64 x2, .int .u64 v2] 24) = Y at c1 gl HBY ⊢
      generalize wr.heap.size = h at c1 gl ⊢
      have C1 := Lib.hid c1
      clear c1 hx2 hv2 H2 HBL
      go_loopw [77] (fun i wr => ∃ k : Nat, k ≤ 4 ∧ i = .int .i64 k ∧ Below Y.heap.size Y wr) (fun i _ => 4 - (intOf i).toNat)
      case atStart => exact ⟨0, by omega, rfl, Below.refl _ _⟩
      case round =>
        obtain ⟨k2, hk2, rfl, hbel⟩ := hrel
        by_cases hk4 : k2 < 4
        · obtain ⟨X, hX, hc⟩ := C1.out k2 hk4
          have hc' := cell_step hbel gl hc
          clear hc
          obtain ⟨us, hus⟩ : ∃ us : Int, ((hunpack X).1 : Int) = us := ⟨_, rfl⟩
          obtain ⟨up, hup⟩ : ∃ up : Int, ((hunpack X).2.1 : Int) = up := ⟨_, rfl⟩
          obtain ⟨ue, hue⟩ : ∃ ue : Int, ((hunpack X).2.2 : Int) = ue := ⟨_, rfl⟩
          obtain ⟨rv, hrv⟩ : ∃ rv : Int, ((href X).1 : Int) = rv := ⟨_, rfl⟩
          obtain ⟨re, hre⟩ : ∃ re : Int, ((href X).2 : Int) = re := ⟨_, rfl⟩
          obtain ⟨av, hav⟩ : ∃ av : Int, ((haddr X).1 : Int) = av := ⟨_, rfl⟩
          obtain ⟨ae, hae⟩ : ∃ ae : Int, ((haddr X).2 : Int) = ae := ⟨_, rfl⟩
          have HU := Lib.hid (And.intro hus (And.intro hup hue))
          have HR := Lib.hid (And.intro hrv hre)
          have HA := Lib.hid (And.intro hav hae)
          clear hus hup hue hrv hre hav hae
          go_wp2_with fail
          refine (hUnpackI X X us up ue _ rfl hX HU.out.1 HU.out.2.1 HU.out.2.2).mono ?_
          rintro e w2 ⟨rfl, hb2⟩
          go_wp2_with fail
          refine (refUnpackI X X us up ue _ rfl hX HU.out.1 HU.out.2.1 HU.out.2.2).mono ?_
          rintro e w3 ⟨rfl, hb3⟩
          have m0 : (w3.alloc (.cells #[.int .i64 us, .int .i64 up] 23)).cell? ⟨w2.heap.size, 0, none⟩ = some (.int .i64 us) := cell_step (ba0 w3 _) (by have := hb3.size; simp at this; omega) (cell_step hb3 (by simp) (by simp))
          have m1 : (w3.alloc (.cells #[.int .i64 us, .int .i64 up] 23)).cell? ⟨w2.heap.size, 1, none⟩ = some (.int .i64 up) := cell_step (ba0 w3 _) (by have := hb3.size; simp at this; omega) (cell_step hb3 (by simp) (by simp))
          have HB3 := Lib.hid (hbel.trans ((ba (bt (ba hb2 (.cells #[.int .i64 us, .int .i64 up] 23)) hb3) (.cells #[.int .i64 us, .int .i64 up] 23)).mono hbel.size))
          clear hb2 hb3 hbel hc'
          go_wp2_with fail
          refine (hRefI X X rv re _ rfl hX HR.out.1 HR.out.2).mono ?_
          rintro e w4 ⟨rfl, rfl⟩
          go_wp2_with fail
          refine (refRefI X X rv re _ rfl hX HR.out.1 HR.out.2).mono ?_
          rintro e w4 ⟨rfl, rfl⟩
          go_wp2_with fail
          refine (hAddressI X X av ae _ rfl hX HA.out.1 HA.out.2).mono ?_
          rintro e w4 ⟨rfl, rfl⟩
          go_wp2_with fail
          refine (refAddressI X X av ae _ rfl hX HA.out.1 HA.out.2).mono ?_
          rintro e w4 ⟨rfl, rfl⟩
          go_wp2_with fail
          go_roundw
          case rel => exact ⟨k2 + 1, by omega, by go_num, HB3.out⟩
          case measure => simp [intOf]; omega
        · have hd : decide (k2 < 4) = false := by simp; omega
          go_wp2_with fail
          go_ret
          exact ⟨rfl, bt HBY.out (hbel.mono (Nat.le_refl _))⟩

theorem headerTells_walk (S0 P0 : Int) (v x : Nat) (w : World) (b0 : -9223372036854775808 ≤ S0) (b1 : S0 ≤ 9223372036854775807) (b2 : -9223372036854775808 ≤ P0) (b3 : P0 ≤ 9223372036854775807) (hv : v < 2 ^ 64) (hx : x < 2 ^ 64) :
    Calls Try.prog 3 #[.agg #[.int .i64 S0, .int .i64 P0], .int .u64 v, .int .u64 x] w fun e w' => e = .returned (.bool true) ∧ Below w.heap.size w w' :=
  tells_try S0 P0 v x (x % 33554432) (v % 131072) w b0 b1 b2 b3 hv hx (by simp) (by simp)
end Go.Proofs.Ytllhcicggioplaa.V
