/-
  PlacesTwo, walked under what is asked of the program's functions.
-/
import Derived.Test.YtifmlmbbmlnpmaaPlCnt
import Derived.Deep.CutRange
set_option linter.unusedVariables false
namespace Go.Proofs.Ytifmlmbbmlnpmaa.V
open Go.RowKit

theorem laddr_cases {l : Lo} (h : lright l) (p i : Int) : ((0 ≤ i ∧ i < (lpart l p).2) ∧ laddr l p i = ((lpart l p).1 + i, 0)) ∨ laddr l p i = (0, 6) := by
  by_cases hi : 0 ≤ i ∧ i < (lpart l p).2
  · exact .inl ⟨hi, laddr_in h hi⟩
  · exact .inr (laddr_out h hi)
theorem laddr_one {l : Lo} (h : lright l) {p i q j : Int} (hi : 0 ≤ i ∧ i < (lpart l p).2) (hj : 0 ≤ j ∧ j < (lpart l q).2) : (lpart l p).1 + i = (lpart l q).1 + j ↔ (p = q ∧ i = j) := by
  constructor
  · intro he
    have hp : lin l ((lpart l p).1 + i) p := by unfold lin; omega
    have hq : lin l ((lpart l p).1 + i) q := by unfold lin; omega
    have := lin_one h hp hq
    subst this
    exact ⟨rfl, by omega⟩
  · rintro ⟨rfl, rfl⟩; rfl

set_option maxRecDepth 100000 in
set_option maxHeartbeats 1000000 in
theorem placesTwo_try (C : PlC) (b : Nat) (n0 n1 n2 n3 n4 n5 p1 p2 q1 q2 : Int) (w : World) (hb : b < 2 ^ 64) (s0 : i64 n0) (s1 : i64 n1) (s2 : i64 n2) (s3 : i64 n3) (s4 : i64 n4) (s5 : i64 n5) (t1 : i64 p1) (t2 : i64 p2) (t3 : i64 q1) (t4 : i64 q2) :
    Calls Try.prog 8 #[.int .u64 (b : Int), .agg #[.int .i64 n0, .int .i64 n1, .int .i64 n2, .int .i64 n3, .int .i64 n4, .int .i64 n5], .agg #[.int .i64 p1, .int .i64 p2], .agg #[.int .i64 q1, .int .i64 q2]] w fun e w' => e = .returned (.bool true) ∧ Below w.heap.size w w' := by
  obtain ⟨l, hr, h40, hlay⟩ := layout7x b n0 n1 n2 n3 n4 n5 hb s0 s1 s2 s3 s4 s5
  have HLAY := Lib.hid hlay
  have HR := Lib.hid hr
  obtain ⟨r1, ⟨r2, r3⟩, r4, ⟨r5, r6⟩, ⟨r7, r8, r9, r10⟩, r11, r12⟩ := hr
  clear hlay s0 s1 s2 s3 s4 s5
  obtain ⟨a1, ha1, a12⟩ := pkN p1 4 (by omega)
  obtain ⟨a2, ha2, a22⟩ := pkN p2 42 (by omega)
  obtain ⟨b1, hb1', b12⟩ := pkN q1 4 (by omega)
  obtain ⟨b2, hb2', b22⟩ := pkN q2 42 (by omega)
  have IHp := Lib.hid (fun (q n r : Int) w (h : (q = p1 ∧ n = 4 ∧ r = a1) ∨ (q = p2 ∧ n = 42 ∧ r = a2)) => show Calls Try.prog 11 #[.int .i64 q, .int .i64 n] w fun e w' => e = .returned (.int .i64 r) ∧ w = w' from
    pick07_int q n r w (by rcases h with ⟨rfl, _⟩ | ⟨rfl, _⟩; exact t1.1; exact t2.1) (by rcases h with ⟨rfl, _⟩ | ⟨rfl, _⟩; exact t1.2; exact t2.2) (by omega) (by omega) (by rcases h with ⟨rfl, rfl, rfl⟩ | ⟨rfl, rfl, rfl⟩ <;> assumption))
  have IHq := Lib.hid (fun (q n r : Int) w (h : (q = q1 ∧ n = 4 ∧ r = b1) ∨ (q = q2 ∧ n = 42 ∧ r = b2)) => show Calls Try.prog 11 #[.int .i64 q, .int .i64 n] w fun e w' => e = .returned (.int .i64 r) ∧ w = w' from
    pick07_int q n r w (by rcases h with ⟨rfl, _⟩ | ⟨rfl, _⟩; exact t3.1; exact t4.1) (by rcases h with ⟨rfl, _⟩ | ⟨rfl, _⟩; exact t3.2; exact t4.2) (by omega) (by omega) (by rcases h with ⟨rfl, rfl, rfl⟩ | ⟨rfl, rfl, rfl⟩ <;> assumption))
  clear ha1 ha2 hb1' hb2' t1 t2 t3 t4
  have HA0 := Lib.hid (((Blk.new w [.int .i64 n0, .int .i64 n1, .int .i64 n2, .int .i64 n3, .int .i64 n4, .int .i64 n5] 25).below (ba0 _ (.cells #[.int .i64 p1, .int .i64 p2] 27))).below (ba0 _ (.cells #[.int .i64 q1, .int .i64 q2] 27)))
  have HP0 := Lib.hid (show Blk (((w.alloc (.cells #[.int .i64 n0, .int .i64 n1, .int .i64 n2, .int .i64 n3, .int .i64 n4, .int .i64 n5] 25)).alloc (.cells #[.int .i64 p1, .int .i64 p2] 27)).alloc (.cells #[.int .i64 q1, .int .i64 q2] 27)) (w.heap.size + 1) [.int .i64 p1, .int .i64 p2] 27 from blk2 (cs := [.int .i64 p1, .int .i64 p2]))
  have HQ0 := Lib.hid (show Blk (((w.alloc (.cells #[.int .i64 n0, .int .i64 n1, .int .i64 n2, .int .i64 n3, .int .i64 n4, .int .i64 n5] 25)).alloc (.cells #[.int .i64 p1, .int .i64 p2] 27)).alloc (.cells #[.int .i64 q1, .int .i64 q2] 27)) (w.heap.size + 1 + 1) [.int .i64 q1, .int .i64 q2] 27 from blk3 (cs := [.int .i64 q1, .int .i64 q2]))
  have HB0 := Lib.hid (ba (ba (ba0 w (.cells #[.int .i64 n0, .int .i64 n1, .int .i64 n2, .int .i64 n3, .int .i64 n4, .int .i64 n5] 25)) (.cells #[.int .i64 p1, .int .i64 p2] 27)) (.cells #[.int .i64 q1, .int .i64 q2] 27))
  go_enter Try.func8, Try.ntmps8
  go_wp2_with fail
  generalize ((w.alloc (.cells #[.int .i64 n0, .int .i64 n1, .int .i64 n2, .int .i64 n3, .int .i64 n4, .int .i64 n5] 25)).alloc (.cells #[.int .i64 p1, .int .i64 p2] 27)).alloc (.cells #[.int .i64 q1, .int .i64 q2] 27) = W0 at HA0 HP0 HQ0 HB0 ⊢
  refine (awake07 C _).mono ?_
  rintro e w1 ⟨rfl, hb1⟩
  have HA1 := Lib.hid (HA0.out.below hb1)
  have HP1 := Lib.hid (HP0.out.below hb1)
  have HQ1 := Lib.hid (HQ0.out.below hb1)
  have HB1 := Lib.hid (bt HB0.out hb1)
  clear hb1 HA0 HP0 HQ0 HB0
  have c0 := HA1.out.cell (j := 0) rfl
  have c1 := HA1.out.cell (j := 1) rfl
  have c2 := HA1.out.cell (j := 2) rfl
  have c3 := HA1.out.cell (j := 3) rfl
  have c4 := HA1.out.cell (j := 4) rfl
  have c5 := HA1.out.cell (j := 5) rfl
  go_wp2_with fail
  refine (HLAY.out _).mono ?_
  rintro e w2 ⟨rfl, hb2⟩
  have HL2 := Lib.hid (LoAt.new w2 l)
  have HP2 := Lib.hid ((HP1.out.below hb2).below (ba0 w2 (.cells #[.int .u64 (l.base : Int), .int .i64 l.cap, .int .i64 l.to, .int .i64 l.low, .int .i64 l.high, .int .i64 l.old, .int .i64 l.far] 24)))
  have HQ2 := Lib.hid ((HQ1.out.below hb2).below (ba0 w2 (.cells #[.int .u64 (l.base : Int), .int .i64 l.cap, .int .i64 l.to, .int .i64 l.low, .int .i64 l.high, .int .i64 l.old, .int .i64 l.far] 24)))
  have HB2 := Lib.hid (ba (bt HB1.out hb2) (.cells #[.int .u64 (l.base : Int), .int .i64 l.cap, .int .i64 l.to, .int .i64 l.low, .int .i64 l.high, .int .i64 l.old, .int .i64 l.far] 24))
  clear hb2 c0 c1 c2 c3 c4 c5 HA1 HP1 HQ1 HB1 HLAY
  go_upto_region 3 with fail
  generalize w2.alloc (.cells #[.int .u64 (l.base : Int), .int .i64 l.cap, .int .i64 l.to, .int .i64 l.low, .int .i64 l.high, .int .i64 l.old, .int .i64 l.far] 24) = W at HL2 HP2 HQ2 HB2 ⊢
  generalize w2.heap.size = g at HL2 ⊢
  have x0 := HP2.out.cell (j := 0) rfl
  have x1 := HP2.out.cell (j := 1) rfl
  have hpl := HP2.out.lt
  have hkeep : Hid (∀ w' : World, Below W.heap.size W w' → w'.cell? ⟨w.heap.size + 1, 0, none⟩ = some (.int .i64 p1) ∧ w'.cell? ⟨w.heap.size + 1, 1, none⟩ = some (.int .i64 p2)) := Lib.hid fun w' h => ⟨cellS h hpl x0, cellS h hpl x1⟩
  have hw1 : IntKind.i64.wrap (1 + (a1 : Int)) = 1 + (a1 : Int) := IntWalk.i64_in _ ⟨by omega, by omega⟩
  have hw2 : IntKind.i64.wrap (1 + (b1 : Int)) = 1 + (b1 : Int) := IntWalk.i64_in _ ⟨by omega, by omega⟩
  go_cut [11] from 25 (fun v wx => v = .pointer (some ⟨W.heap.size, 0, none⟩) ∧ wx = (W.alloc (.cells #[.int .i64 (1 + (a1 : Int)), .int .i64 (a2 : Int)] 27)).drew)
  case first =>
    go_region_held3 (fun w' => w'.cell? ⟨w.heap.size + 1, 0, none⟩ = some (.int .i64 p1) ∧ w'.cell? ⟨w.heap.size + 1, 1, none⟩ = some (.int .i64 p2)) (exact hkeep.out _ (by first | exact (Below.refl _ W).drew | exact Below.refl _ W | exact ba (Below.refl _ W).drew _ | exact ba0 W _)) ((first
      | (go_at_call 11; refine (IHp.out _ _ _ _ (by first | exact Or.inl ⟨rfl, rfl, rfl⟩ | exact Or.inr ⟨rfl, rfl, rfl⟩)).mono ?_; rintro e w2 ⟨rfl, rfl⟩)))
    all_goals (go_wp2_with fail; go_meet; exact ⟨rfl, rfl⟩)
  case rest =>
    obtain ⟨rfl, rfl⟩ := hcut
    clear hkeep x0 x1 IHp hw1
    have HL3 := Lib.hid (HL2.out.below (ba0 W (.cells #[.int .i64 (1 + (a1 : Int)), .int .i64 (a2 : Int)] 27)).drew)
    have HQ3 := Lib.hid (HQ2.out.below (ba0 W (.cells #[.int .i64 (1 + (a1 : Int)), .int .i64 (a2 : Int)] 27)).drew)
    have HX3 := Lib.hid (show Blk (W.alloc (.cells #[.int .i64 (1 + (a1 : Int)), .int .i64 (a2 : Int)] 27)).drew W.heap.size [.int .i64 (1 + (a1 : Int)), .int .i64 (a2 : Int)] 27 from Blk.new W _ _)
    have HB3 := Lib.hid (ba HB2.out (.cells #[.int .i64 (1 + (a1 : Int)), .int .i64 (a2 : Int)] 27)).drew
    clear HL2 HQ2 HP2 HB2
    go_upto_region 4 with fail
    generalize (W.alloc (.cells #[.int .i64 (1 + (a1 : Int)), .int .i64 (a2 : Int)] 27)).drew = V at HL3 HQ3 HX3 HB3 ⊢
    generalize W.heap.size = gx at HX3 ⊢
    have x0 := HQ3.out.cell (j := 0) rfl
    have x1 := HQ3.out.cell (j := 1) rfl
    have hpl := HQ3.out.lt
    have hkeep : Hid (∀ w' : World, Below V.heap.size V w' → w'.cell? ⟨w.heap.size + 1 + 1, 0, none⟩ = some (.int .i64 q1) ∧ w'.cell? ⟨w.heap.size + 1 + 1, 1, none⟩ = some (.int .i64 q2)) := Lib.hid fun w' h => ⟨cellS h hpl x0, cellS h hpl x1⟩
    go_cut [12] from 25 (fun v wx => v = .pointer (some ⟨V.heap.size, 0, none⟩) ∧ wx = (V.alloc (.cells #[.int .i64 (1 + (b1 : Int)), .int .i64 (b2 : Int)] 27)).drew)
    case first =>
      go_region_held3 (fun w' => w'.cell? ⟨w.heap.size + 1 + 1, 0, none⟩ = some (.int .i64 q1) ∧ w'.cell? ⟨w.heap.size + 1 + 1, 1, none⟩ = some (.int .i64 q2)) (exact hkeep.out _ (by first | exact (Below.refl _ V).drew | exact Below.refl _ V | exact ba (Below.refl _ V).drew _ | exact ba0 V _)) ((first
        | (go_at_call 11; refine (IHq.out _ _ _ _ (by first | exact Or.inl ⟨rfl, rfl, rfl⟩ | exact Or.inr ⟨rfl, rfl, rfl⟩)).mono ?_; rintro e w2 ⟨rfl, rfl⟩)))
      all_goals (go_wp2_with fail; go_meet; exact ⟨rfl, rfl⟩)
    case rest =>
      obtain ⟨rfl, rfl⟩ := hcut
      clear hkeep x0 x1 IHq hw2
      have HL4 := Lib.hid (HL3.out.below (ba0 V (.cells #[.int .i64 (1 + (b1 : Int)), .int .i64 (b2 : Int)] 27)).drew)
      have HX4 := Lib.hid (HX3.out.below (ba0 V (.cells #[.int .i64 (1 + (b1 : Int)), .int .i64 (b2 : Int)] 27)).drew)
      have HY4 := Lib.hid (show Blk (V.alloc (.cells #[.int .i64 (1 + (b1 : Int)), .int .i64 (b2 : Int)] 27)).drew V.heap.size [.int .i64 (1 + (b1 : Int)), .int .i64 (b2 : Int)] 27 from Blk.new V _ _)
      have HB4 := Lib.hid (ba HB3.out (.cells #[.int .i64 (1 + (b1 : Int)), .int .i64 (b2 : Int)] 27)).drew
      clear HL3 HQ3 HX3 HB3
      generalize (V.alloc (.cells #[.int .i64 (1 + (b1 : Int)), .int .i64 (b2 : Int)] 27)).drew = U at HL4 HX4 HY4 HB4 ⊢
      generalize V.heap.size = gy at HY4 ⊢
      obtain ⟨c0, c1, c2, c3, c4, c5, c6⟩ := HL4.out.cells
      have x0 := HX4.out.cell (j := 0) rfl
      have x1 := HX4.out.cell (j := 1) rfl
      obtain ⟨X, E, hX⟩ : ∃ X E, laddr l (1 + (a1 : Int)) a2 = (X, E) := ⟨_, _, rfl⟩
      obtain ⟨Y, F, hY⟩ : ∃ Y F, laddr l (1 + (b1 : Int)) b2 = (Y, F) := ⟨_, _, rfl⟩
      go_wp2_with fail
      refine (C.addr l (1 + (a1 : Int)) a2 X E _ (lright_bd HR.out) (by omega) (by omega) (by omega) (by omega) hX).mono ?_
      rintro e w5 ⟨rfl, hb5⟩
      have HL5 := Lib.hid (HL4.out.below hb5)
      have HX5 := Lib.hid (HX4.out.below hb5)
      have HY5 := Lib.hid (HY4.out.below hb5)
      have HB5 := Lib.hid (bt HB4.out hb5)
      clear hb5 c0 c1 c2 c3 c4 c5 c6 x0 x1 HL4 HX4 HY4 HB4
      obtain ⟨c0, c1, c2, c3, c4, c5, c6⟩ := HL5.out.cells
      have x0 := HY5.out.cell (j := 0) rfl
      have x1 := HY5.out.cell (j := 1) rfl
      go_wp2_with fail
      refine (C.addr l (1 + (b1 : Int)) b2 Y F _ (lright_bd HR.out) (by omega) (by omega) (by omega) (by omega) hY).mono ?_
      rintro e w6 ⟨rfl, hb6⟩
      have HL6 := Lib.hid (HL5.out.below hb6)
      have HX6 := Lib.hid (HX5.out.below hb6)
      have HY6 := Lib.hid (HY5.out.below hb6)
      have HB6 := Lib.hid (bt HB5.out hb6)
      have HX := Lib.hid hX
      have HY := Lib.hid hY
      clear hb6 c0 c1 c2 c3 c4 c5 c6 x0 x1 HL5 HX5 HY5 HB5 hX hY
      obtain ⟨N, hN⟩ : ∃ N : Nat, (N : Int) = 2 * l.cap := ⟨(2 * l.cap).toNat, by omega⟩
      go_wp2_with fail
      go_loopw [17, 18] (fun m i wr => ∃ k : Nat, m = .int .i64 ((k : Int) - lcnt l (k : Int)) ∧ i = .int .i64 (k : Int) ∧ k ≤ N ∧ Hid (Below w6.heap.size w6 wr)) (fun _ i _ => N - (intOf i).toNat)
      case atStart => exact ⟨0, by rw [show ((0 : Nat) : Int) = 0 from rfl, lcnt_zero HR.out]; rfl, rfl, by omega, Lib.hid (Below.refl _ _)⟩
      case round =>
        obtain ⟨k, rfl, rfl, hkN, HBR⟩ := hrel
        have HLR := Lib.hid (HL6.out.below HBR.out)
        have hcb := lcnt_bd HR.out (k : Int)
        obtain ⟨Z, hZ⟩ : ∃ Z : Int, (k : Int) - lcnt l (k : Int) = Z := ⟨_, rfl⟩
        have hZ1 : Z ≤ k := by omega
        have hZ2 : (k : Int) - 4 * l.cap ≤ Z := by omega
        rw [hZ]
        clear hcb
        by_cases hk : k < N
        · have hk2 : (k : Int) < 2 * l.cap := by omega
          obtain ⟨c0, c1, c2, c3, c4, c5, c6⟩ := HLR.out.cells
          rcases lfind_cases HR.out ((l.base : Int) + k) with ⟨p, hp, hf⟩ | ⟨hn, hf⟩
          · have HZ := Lib.hid (show ((k + 1 : Nat) : Int) - lcnt l ((k + 1 : Nat) : Int) = Z by rw [show ((k + 1 : Nat) : Int) = (k : Int) + 1 from rfl, lcnt_in HR.out hp]; omega)
            have HF := Lib.hid hf
            clear hp hf hZ
            go_wp2_with fail
            refine (C.find l ((l.base : Int) + k) p _ 0 _ (lright_bd HR.out) (by omega) (by omega) HF.out).mono ?_
            rintro e w7 ⟨rfl, hb7⟩
            have HB7 := Lib.hid (fun o => ba (bt HBR.out hb7) o)
            clear hb7 c0 c1 c2 c3 c4 c5 c6
            go_wp2_with fail
            go_roundw
            case rel => exact ⟨k + 1, by rw [HZ.out], by go_num, by omega, Lib.hid (HB7.out _)⟩
            case measure => simp [intOf]; omega
          · have HZ := Lib.hid (show Z + 1 = ((k + 1 : Nat) : Int) - lcnt l ((k + 1 : Nat) : Int) by rw [show ((k + 1 : Nat) : Int) = (k : Int) + 1 from rfl, lcnt_out HR.out hn]; omega)
            have HF := Lib.hid hf
            clear hf hZ hn
            go_wp2_with fail
            refine (C.find l ((l.base : Int) + k) 0 0 6 _ (lright_bd HR.out) (by omega) (by omega) HF.out).mono ?_
            rintro e w7 ⟨rfl, hb7⟩
            have HB7 := Lib.hid (fun o => ba (bt HBR.out hb7) o)
            clear hb7 c0 c1 c2 c3 c4 c5 c6
            go_wp2_with fail
            go_roundw
            case rel => exact ⟨k + 1, by rw [HZ.out], by go_num, by omega, Lib.hid (HB7.out _)⟩
            case measure => simp [intOf]; omega
        · obtain rfl : k = N := by omega
          have hk2 : ¬ (k : Int) < 2 * l.cap := by omega
          have HX7 := Lib.hid (HX6.out.below HBR.out)
          have HY7 := Lib.hid (HY6.out.below HBR.out)
          have HB7 := Lib.hid (bt HB6.out HBR.out)
          obtain ⟨c0, c1, c2, c3, c4, c5, c6⟩ := HLR.out.cells
          have x0 := HX7.out.cell (j := 0) rfl
          have x1 := HX7.out.cell (j := 1) rfl
          have y0 := HY7.out.cell (j := 0) rfl
          have y1 := HY7.out.cell (j := 1) rfl
          have hz : (Z == 2 * l.cap - l.low - l.high - l.old - l.far) = true := by rw [← hZ, hN, lcnt_all HR.out]; simp; omega
          have hz2 : decide (l.cap - l.low - l.high ≤ Z) = true := by rw [← hZ, hN, lcnt_all HR.out]; simp; omega
          clear hZ
          rcases laddr_cases HR.out (1 + (a1 : Int)) (a2 : Int) with ⟨hi, h⟩ | h
          · have hx := HX.out
            rw [h] at hx
            simp only [Prod.mk.injEq] at hx
            obtain ⟨hxv, rfl⟩ := hx
            rcases laddr_cases HR.out (1 + (b1 : Int)) (b2 : Int) with ⟨hj, h'⟩ | h'
            · have hy := HY.out
              rw [h'] at hy
              simp only [Prod.mk.injEq] at hy
              obtain ⟨hyv, rfl⟩ := hy
              have hone := laddr_one HR.out hi hj
              rw [hxv, hyv] at hone
              obtain ⟨R, hR⟩ : ∃ R : Bool, decide (1 + (a1 : Int) = 1 + (b1 : Int) ∧ (a2 : Int) = (b2 : Int)) = R := ⟨_, rfl⟩
              have hnn : ∀ w, (binOp .eql 27 (.agg #[.int .i64 (1 + (a1 : Int)), .int .i64 (a2 : Int)]) (.agg #[.int .i64 (1 + (b1 : Int)), .int .i64 (b2 : Int)])).run Try.prog w = .ok (.bool R) w := fun w => by rw [eql_pl, hR]
              cases R with
              | false =>
                have hxy : (X == Y) = false := by
                  rw [beq_eq_false_iff_ne]
                  intro h9
                  exact absurd (hone.1 h9) (of_decide_eq_false hR)
                clear hone hR hxv hyv h h' hi hj
                go_wp2_with fail
                refine (C.room l (l.cap - l.low - l.high) _ (lright_bd HR.out) (by unfold lroom; rw [if_pos HR.out])).mono ?_
                rintro e w8 ⟨rfl, hb8⟩
                have HB8 := Lib.hid (bt HB7.out hb8)
                clear hb8 c0 c1 c2 c3 c4 c5 c6 x0 x1 y0 y1
                go_wp2_with fail
                go_ret
                exact ⟨rfl, HB8.out⟩
              | true =>
                have hxy : (X == Y) = true := by rw [beq_iff_eq]; exact hone.2 (of_decide_eq_true hR)
                clear hone hR hxv hyv h h' hi hj
                go_wp2_with fail
                refine (C.room l (l.cap - l.low - l.high) _ (lright_bd HR.out) (by unfold lroom; rw [if_pos HR.out])).mono ?_
                rintro e w8 ⟨rfl, hb8⟩
                have HB8 := Lib.hid (bt HB7.out hb8)
                clear hb8 c0 c1 c2 c3 c4 c5 c6 x0 x1 y0 y1
                go_wp2_with fail
                go_ret
                exact ⟨rfl, HB8.out⟩
            · have hy := HY.out
              rw [h'] at hy
              simp only [Prod.mk.injEq] at hy
              obtain ⟨rfl, rfl⟩ := hy
              clear hxv h h' hi
              go_wp2_with fail
              refine (C.room l (l.cap - l.low - l.high) _ (lright_bd HR.out) (by unfold lroom; rw [if_pos HR.out])).mono ?_
              rintro e w8 ⟨rfl, hb8⟩
              have HB8 := Lib.hid (bt HB7.out hb8)
              clear hb8 c0 c1 c2 c3 c4 c5 c6 x0 x1 y0 y1
              go_wp2_with fail
              go_ret
              exact ⟨rfl, HB8.out⟩
          · have hx := HX.out
            rw [h] at hx
            simp only [Prod.mk.injEq] at hx
            obtain ⟨rfl, rfl⟩ := hx
            clear h
            go_wp2_with fail
            refine (C.room l (l.cap - l.low - l.high) _ (lright_bd HR.out) (by unfold lroom; rw [if_pos HR.out])).mono ?_
            rintro e w8 ⟨rfl, hb8⟩
            have HB8 := Lib.hid (bt HB7.out hb8)
            clear hb8 c0 c1 c2 c3 c4 c5 c6 x0 x1 y0 y1
            go_wp2_with fail
            go_ret
            exact ⟨rfl, HB8.out⟩
end Go.Proofs.Ytifmlmbbmlnpmaa.V
