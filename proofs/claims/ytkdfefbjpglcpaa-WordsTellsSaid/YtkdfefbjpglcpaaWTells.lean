/-
  WordsTells: for every row, half, text, place and count the statement's function returns true, and writes nothing that was there.
-/
import Derived.Test.YtkdfefbjpglcpaaWRefTake
import Derived.Test.YtkdfefbjpglcpaaWBack
import Derived.BigRegion
import Derived.Deep.RegionHeld3
set_option linter.unusedVariables false
namespace Go.Proofs.Ytkdfefbjpglcpaa.V
open Go.RowKit

theorem takeW_bound (s : List UInt8) (a n : Int) (l : List Nat) (p er : Nat) (h : takeW 8 s a n = (l, p, er)) : l.length ≤ s.length := by
  unfold takeW at h
  split at h
  · cases h; simp
  · split at h
    · cases h; simp
    · rename_i h1 h2
      cases h
      rw [nums_len]
      omega

set_option maxRecDepth 100000 in
set_option maxHeartbeats 2000000 in
theorem tells_in (ao : Option Addr) (cap len m sm v : Nat) (l : List Nat) (s T0 R Q : ByteArray) (a n : Int) (w : World) (hv : v < 2 ^ 32)
    (ha0 : -9223372036854775808 ≤ a) (ha1 : a ≤ 9223372036854775807) (hn0 : -9223372036854775808 ≤ n) (hn1 : n ≤ 9223372036854775807)
    (hm : min (len : Int) 40 = (m : Int)) (hml : m ≤ len) (hm40 : m ≤ 40) (hlc : len ≤ cap) (hcap : cap ≤ 9223372036854775807)
    (hsm : min (s.size : Int) 100 = (sm : Int)) (hT0 : s.extract 0 sm = T0) (hT0s : T0.size ≤ 100) (hsms : sm ≤ s.size)
    (HL : Hid (l.length = m)) (HV : Hid (∀ v ∈ l, v < 2 ^ 64)) (HU : Hid (Us w ao l)) (HR : Hid (str (wrds 8 l) = R)) (hR : R.size ≤ 320) (HQ : Hid (str (octs 4 v) = Q)) :
    Calls Try.prog 3 #[.slice ao len cap, .int .u32 v, .string s, .int .i64 a, .int .i64 n] w fun e w' => e = .returned (.bool true) ∧ Below w.heap.size w w' := by
  go_enter Try.func3, Try.ntmps3
  go_wp2_with fail
  refine (awake_any _).mono ?_
  rintro e w1 ⟨rfl, h1⟩
  go_wp2_with fail
  refine (wput_len ao m cap l R _ HL.out (by omega) HV.out (HU.out.below (Nat.le_refl _) h1) HR.out).mono ?_
  rintro e w2 ⟨rfl, h2⟩
  have h12 := Lib.hid (bt h1 h2)
  clear h1 h2
  go_wp2_with fail
  refine (refPut ao m cap l R _ HL.out (by omega) HV.out (HU.out.below (Nat.le_refl _) h12.out) HR.out).mono ?_
  rintro e w3 ⟨rfl, h3⟩
  have h13 := Lib.hid (bt h12.out h3)
  clear h3 h12
  go_wp2_with fail
  refine (puthalf_lit v Q _ hv HQ.out).mono ?_
  rintro e w4 ⟨rfl, h4⟩
  have h14 := Lib.hid (bt h13.out h4)
  clear h4 h13
  go_wp2_with fail
  refine (refPutHalf v Q _ hv HQ.out).mono ?_
  rintro e w5 ⟨rfl, h5⟩
  have h15 := Lib.hid (bt h14.out h5)
  clear h5 h14
  have i1 : (0 : Int) ≤ (sm : Int) := Int.natCast_nonneg _
  have i2 : (sm : Int) ≤ (s.size : Int) := by omega
  have t1 : decide (sm < 0) = false := by simp
  have t2 : decide (s.size < sm) = false := by simp; omega
  have HU5 := Lib.hid (HU.out.below (Nat.le_refl _) h15.out)
  go_wp2_with fail
  go_region_held3 (fun _ => True) (trivial) ((first
    | (go_at_call 11; refine (refPut ao m cap l R _ HL.out (by omega) HV.out (HU5.out.below (Nat.le_refl _) (Below.drewN (Below.refl _ w5) 1)) HR.out).mono ?_; rintro e w6 ⟨rfl, h6⟩)))
  all_goals
    have h16 := Lib.hid (ba (bt h15.out.drew h6) (.cells #[.string T0, .string R] 9))
    have c0 : ∀ j, j < 2 → ∃ T : ByteArray, T.size ≤ 320 ∧ (w6.alloc (.cells #[.string T0, .string R] 9)).cell? ⟨w6.heap.size, j, none⟩ = some (.string T) := by
      intro j hj
      match j, hj with
      | 0, _ => exact ⟨T0, by omega, by simp⟩
      | 1, _ => exact ⟨R, hR, by simp⟩
    have gl : w6.heap.size < (w6.alloc (.cells #[.string T0, .string R] 9)).heap.size := by simp
    clear h6
    go_wp2_with fail
    generalize w6.alloc (.cells #[.string T0, .string R] 9) = W at c0 h16 gl ⊢
    generalize w6.heap.size = g at c0 gl ⊢
    have C0 := Lib.hid c0
    clear c0 h15 i1 i2 t1 t2 HU5 hT0 hT0s hsms hR
    go_loopw [58] (fun i wr => ∃ j : Nat, j ≤ 2 ∧ i = .int .i64 j ∧ Below W.heap.size W wr) (fun i _ => 2 - (intOf i).toNat)
    case atStart => exact ⟨0, by omega, rfl, Below.refl _ _⟩
    case round =>
      obtain ⟨j, hj, rfl, hbel⟩ := hrel
      by_cases hj4 : j < 2
      · obtain ⟨T, hT, hc⟩ := C0.out j hj4
        have hc' := (hbel.cell (p := ⟨g, j, none⟩) gl).trans hc
        clear hc
        have hpa := pk_bd a 110 (by omega)
        have hpn := pk_bd n 14 (by omega)
        go_wp2_with fail
        refine (pick_any a 110 _ ha0 ha1 (by omega) (by omega)).mono ?_
        rintro e w' ⟨rfl, rfl⟩
        have c1 : ∀ j, j < 2 → ∃ x : Int, x ≤ 9223372036854775807 ∧ (wr.alloc (.cells #[.int .i64 a, .int .i64 (pk a 110)] 3)).cell? ⟨wr.heap.size, j, none⟩ = some (.int .i64 x) := by
          intro j hj
          match j, hj with
          | 0, _ => exact ⟨a, ha1, by simp⟩
          | 1, _ => exact ⟨pk a 110, by omega, by simp⟩
        have h20 := hbel.trans ((ba0 wr (.cells #[.int .i64 a, .int .i64 (pk a 110)] 3)).mono hbel.size)
        have gl1 : wr.heap.size < (wr.alloc (.cells #[.int .i64 a, .int .i64 (pk a 110)] 3)).heap.size := by simp
        go_wp2_with fail
        generalize wr.alloc (.cells #[.int .i64 a, .int .i64 (pk a 110)] 3) = W1 at c1 h20 gl1 ⊢
        generalize wr.heap.size = g1 at c1 gl1 ⊢
        have C1 := Lib.hid c1
        have H20 := Lib.hid h20
        clear c1 h20 hbel hc'
        go_loopw [67] (fun i wr => ∃ j : Nat, j ≤ 2 ∧ i = .int .i64 j ∧ Below W1.heap.size W1 wr) (fun i _ => 2 - (intOf i).toNat)
        case atStart => exact ⟨0, by omega, rfl, Below.refl _ _⟩
        case round =>
          obtain ⟨j1, hj1, rfl, hbel1⟩ := hrel
          by_cases hj2 : j1 < 2
          · obtain ⟨x, hx, hc1⟩ := C1.out j1 hj2
            have hc1' := (hbel1.cell (p := ⟨g1, j1, none⟩) gl1).trans hc1
            clear hc1
            obtain ⟨t1, t2, t3, ht⟩ : ∃ t1 t2 t3, halfW T.data.toList x = (t1, t2, t3) := ⟨_, _, _, rfl⟩
            have HT := Lib.hid ht
            clear ht
            go_wp2_with fail
            refine (wHalf T x _ t1 t2 t3 _ _ _ (by omega) HT.out rfl rfl rfl).mono ?_
            rintro e w7 ⟨rfl, h7⟩
            have hbel2 := hbel1.trans (h7.mono hbel1.size)
            clear h7 hbel1
            go_wp2_with fail
            refine (refHalf T x _ t1 t2 t3 _ _ _ (by omega) hx HT.out rfl rfl rfl).mono ?_
            rintro e w8 ⟨rfl, h8⟩
            have hbel3 := hbel2.trans (h8.mono hbel2.size)
            clear h8 hbel2
            go_wp2_with fail
            refine (pick_any n 14 _ hn0 hn1 (by omega) (by omega)).mono ?_
            rintro e w' ⟨rfl, rfl⟩
            go_wp2_with fail
            have c2 : ∀ j, j < 2 → ∃ y : Int, y ≤ 9223372036854775807 ∧ (w8.alloc (.cells #[.int .i64 n, .int .i64 (pk n 14)] 3)).cell? ⟨w8.heap.size, j, none⟩ = some (.int .i64 y) := by
              intro j hj
              match j, hj with
              | 0, _ => exact ⟨n, hn1, by simp⟩
              | 1, _ => exact ⟨pk n 14, by omega, by simp⟩
            have h21 := hbel3.trans ((ba0 w8 (.cells #[.int .i64 n, .int .i64 (pk n 14)] 3)).mono hbel3.size)
            have gl2 : w8.heap.size < (w8.alloc (.cells #[.int .i64 n, .int .i64 (pk n 14)] 3)).heap.size := by simp
            generalize w8.alloc (.cells #[.int .i64 n, .int .i64 (pk n 14)] 3) = W2 at c2 h21 gl2 ⊢
            generalize w8.heap.size = g2 at c2 gl2 ⊢
            have C2 := Lib.hid c2
            have H21 := Lib.hid h21
            clear c2 h21 hbel3 hc1'
            go_loopw [103] (fun i wc => ∃ j : Nat, j ≤ 2 ∧ i = .int .i64 j ∧ Below W2.heap.size W2 wc) (fun i _ => 2 - (intOf i).toNat)
            case atStart => exact ⟨0, by omega, rfl, Below.refl _ _⟩
            case round =>
              obtain ⟨j2, hj3, rfl, hbel4⟩ := hrel
              by_cases hj4' : j2 < 2
              · obtain ⟨y, hy, hc2⟩ := C2.out j2 hj4'
                have hc2' := (hbel4.cell (p := ⟨g2, j2, none⟩) gl2).trans hc2
                clear hc2
                obtain ⟨L1, p1, e1, ht⟩ : ∃ L1 p1 e1, takeW 8 T.data.toList x y = (L1, p1, e1) := ⟨_, _, _, rfl⟩
                have hll := takeW_bound T.data.toList x y _ _ _ ht
                obtain ⟨n1, hn1'⟩ : ∃ n1, L1.length = n1 := ⟨_, rfl⟩
                have hn1s : n1 ≤ 1000 := by simp at hll; omega
                have HL1 := Lib.hid hn1'
                have HT1 := Lib.hid ht
                clear ht hll hn1'
                go_wp2_with fail
                refine (wTake_len T x y _ L1 n1 p1 e1 _ _ (by omega) HT1.out HL1.out rfl rfl).mono ?_
                rintro e w9 ⟨ao9, cap9, rfl, hu9, h9⟩
                have HU9 := Lib.hid hu9
                clear hu9
                go_wp2_with fail
                refine (refTake T x y _ L1 n1 p1 e1 _ _ (by omega) HT1.out HL1.out rfl rfl).mono ?_
                rintro e w10 ⟨ao10, cap10, rfl, hu10, h10⟩
                have HU10 := Lib.hid hu10
                clear hu10
                go_wp2_with fail
                refine (numsEq ao9 ao10 n1 n1 cap9 cap10 L1 L1 true _ HL1.out HL1.out (by omega) (by omega) (HU9.out.below (Nat.le_refl _) h10) HU10.out (by simp)).mono ?_
                rintro e w11 ⟨rfl, h11⟩
                have h22 := Lib.hid (hbel4.trans ((bt (bt h9 h10) h11).mono hbel4.size))
                clear hbel4 h9 h10 h11 HU9 HU10
                go_wp2_with fail
                go_roundw
                case rel => exact ⟨j2 + 1, by omega, by go_num, h22.out⟩
                case measure => simp [intOf]; omega
              · go_wp2_with fail
                go_roundw
                case rel => exact ⟨j1 + 1, by omega, by go_num, H21.out.trans (hbel4.mono H21.out.size)⟩
                case measure => simp [intOf]; omega
          · go_wp2_with fail
            go_roundw
            case rel => exact ⟨j + 1, by omega, by go_num, H20.out.trans (hbel1.mono H20.out.size)⟩
            case measure => simp [intOf]; omega
      · go_wp2_with fail
        go_ret
        exact ⟨rfl, bt h16.out hbel⟩

theorem wordsTells_walk (ao : Option Addr) (cap : Nat) (zs : List Nat) (v : Nat) (s : ByteArray) (a n : Int) (w : World) (hz : ∀ v ∈ zs, v < 2 ^ 64) (hu : Us w ao zs) (hlc : zs.length ≤ cap) (hcap : cap ≤ 9223372036854775807) (hnone : ao = none → cap = 0) (hv : v < 2 ^ 32) (hs : s.size ≤ 9223372036854775807)
    (ha0 : -9223372036854775808 ≤ a) (ha1 : a ≤ 9223372036854775807) (hn0 : -9223372036854775808 ≤ n) (hn1 : n ≤ 9223372036854775807) :
    Calls Try.prog 3 #[.slice ao zs.length cap, .int .u32 v, .string s, .int .i64 a, .int .i64 n] w fun e w' => e = .returned (.bool true) ∧ Below w.heap.size w w' := by
  obtain ⟨sm, T0, h1, h2, h3, h4⟩ := cut_str s 100 100 rfl
  have hll : (zs.take 40).length = min zs.length 40 := by simp; omega
  exact tells_in ao cap zs.length (min zs.length 40) sm v (zs.take 40) s T0 _ _ a n w hv ha0 ha1 hn0 hn1 (by omega) (by omega) (by omega) hlc hcap h1 h2 h3 h4 hll (fun v h => hz v (List.mem_of_mem_take h)) (hu.take 40) (Lib.hid rfl) (by rw [str_size, wrds_len, hll]; omega) (Lib.hid rfl)
end Go.Proofs.Ytkdfefbjpglcpaa.V
