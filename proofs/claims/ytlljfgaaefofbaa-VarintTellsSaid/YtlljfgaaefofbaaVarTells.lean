/-
  VarintTells: for every number, row, text, places, counts and byte the statement's function returns true, and writes nothing that was there.
-/
import Derived.Test.YtlljfgaaefofbaaRefTake
import Derived.Test.YtlljfgaaefofbaaVarTwo
import Derived.BigRegion
set_option linter.unusedVariables false
namespace Go.Proofs.Ytlljfgaaefofbaa.V
open Go.RowKit

theorem put_str' (v : Nat) (w : World) (hv : v < 2 ^ 64) (A : ByteArray) (hA : str (put v) = A) :
    Calls Try.prog 10 #[.int .u64 v] w fun e w' => e = .returned (.string A) ∧ Below w.heap.size w w' := by subst hA; exact put_any v w hv
theorem refLen_len (v d : Nat) (w : World) (hv : v < 2 ^ 64) (hd : (put v).length = d) :
    Calls Try.prog 13 #[.int .u64 v] w fun e w' => e = .returned (.int .i64 d) ∧ Below w.heap.size w w' := by subst hd; exact refLen_any v w hv
theorem len_len (v d : Nat) (w : World) (hv : v < 2 ^ 64) (hd : (put v).length = d) :
    Calls Try.prog 12 #[.int .u64 v] w fun e w' => e = .returned (.int .i64 d) ∧ w = w' := by subst hd; exact len_any v w hv
theorem refRow_len (ao : Option Addr) (len cap : Nat) (zs : List Nat) (s : ByteArray) (w : World) (hlen : zs.length = len) (hz : len ≤ 1000) (hv : ∀ v ∈ zs, v < 2 ^ 64) (hu : Us w ao zs) (h : str (row zs) = s) :
    Calls Try.prog 15 #[.slice ao len cap] w fun e w' => e = .returned (.string s) ∧ Below w.heap.size w w' := by subst h; exact refRow_any ao cap len zs w hlen hz hv hu

theorem takeRow_len (s : List UInt8) : ∀ m i, (takeRow s m i).1.length + min i s.length ≤ s.length := by
  intro m
  induction m with
  | zero => intro i; simp [takeRow]; omega
  | succ m ih =>
    intro i
    rw [takeRow]
    split
    · rename_i h
      have h1 := takeAt_in h
      split
      · have := ih (takeAt s i).2.1
        simp only [List.length_cons]
        omega
      · simp; omega
    · simp; omega
theorem takeRowI_len (s : List UInt8) (a n : Int) : (takeRowI s a n).1.length ≤ s.length := by
  unfold takeRowI
  split
  · simp
  · have := takeRow_len s n.toNat a.toNat; omega
theorem refTakeRow_lit (s : ByteArray) (a n : Int) (w : World) (l : List Nat) (p er len : Nat) (hs : s.size ≤ 1000000000) (ha1 : a ≤ 9223372036854775807) (hn1 : n ≤ 9223372036854775807) (h : takeRowI s.data.toList a n = (l, p, er)) (hlen : l.length = len) :
    Calls Try.prog 20 #[.string s, .int .i64 a, .int .i64 n] w fun e w' => ∃ ao cap, e = .returned (.tuple #[.slice ao len cap, .int .i64 p, .int .i64 er]) ∧ Us w' ao l ∧ Below w.heap.size w w' := by
  subst hlen
  refine (refTakeRow_any s a n w hs ha1 hn1).mono ?_
  rintro e w' ⟨v, rfl, ho, hb⟩
  rw [h] at ho ⊢
  obtain ⟨ao, cap, rfl, hu⟩ := OwnU.us ho
  exact ⟨ao, cap, rfl, hu, hb⟩
theorem takeRow_lit' (s : ByteArray) (a n : Int) (w : World) (l : List Nat) (p er len : Nat) (hs : s.size ≤ 1000000000) (ha1 : a ≤ 9223372036854775807) (hn1 : n ≤ 9223372036854775807) (h : takeRowI s.data.toList a n = (l, p, er)) (hlen : l.length = len) :
    Calls Try.prog 19 #[.string s, .int .i64 a, .int .i64 n] w fun e w' => ∃ ao cap, e = .returned (.tuple #[.slice ao len cap, .int .i64 p, .int .i64 er]) ∧ Us w' ao l ∧ Below w.heap.size w w' := by
  subst hlen; exact takeRow_lit s a n w l p er hs ha1 hn1 h
theorem refTake_lit (s : ByteArray) (a : Int) (x p er : Nat) (w : World) (hs : s.size ≤ 1000000000) (ha1 : a ≤ 9223372036854775807) (h : takeI s.data.toList a = (x, p, er)) :
    Calls Try.prog 18 #[.string s, .int .i64 a] w fun e w' => e = .returned (.tuple #[.int .u64 x, .int .i64 p, .int .i64 er]) ∧ w = w' := by
  refine (refTake_any s a w hs ha1).mono ?_
  rintro e w' ⟨rfl, rfl⟩
  rw [h]
  exact ⟨rfl, rfl⟩

set_option maxRecDepth 100000 in
set_option maxHeartbeats 8000000 in
theorem tells_in (v : Nat) (ao : Option Addr) (cap len m k : Nat) (l : List Nat) (s A R : ByteArray) (a n b : Int) (c : UInt8) (d sm : Nat) (T0 : ByteArray) (w : World) (hv : v < 2 ^ 64)
    (ha0 : -9223372036854775808 ≤ a) (ha1 : a ≤ 9223372036854775807) (hn0 : -9223372036854775808 ≤ n) (hn1 : n ≤ 9223372036854775807) (hb0 : -9223372036854775808 ≤ b) (hb1 : b ≤ 9223372036854775807)
    (hm : min (len : Int) 40 = (m : Int)) (hml : m ≤ len) (hm40 : m ≤ 40) (hlc : len ≤ cap) (hcap : cap ≤ 9223372036854775807)
    (hsm : min (s.size : Int) 40 = (sm : Int)) (hT0 : s.extract 0 sm = T0) (hT0s : T0.size ≤ 40) (hsms : sm ≤ s.size)
    (HL : Hid (l.length = m)) (HV : Hid (∀ v ∈ l, v < 2 ^ 64)) (HU : Hid (Us w ao l)) (HA : Hid (str (put v) = A)) (HR : Hid (str (row l) = R)) (hA1 : 1 ≤ A.size) (hA2 : A.size ≤ 10) (hR : R.size ≤ 400) (HD : Hid ((put v).length = d))
    (O : ByteArray) (hO : R ++ A = O) (hO1 : 1 ≤ O.size) (hO2 : O.size ≤ 410)
    (HK : Hid (pk b (O.size : Int) = (k : Int))) (hk : k < O.size) (T2 T3 T4 T5 C : ByteArray) (hT2 : O.extract 0 k = T2) (hT4 : O.extract (k + 1) O.size = T4) (HC : Hid (str [c] = C)) (hT5 : T2 ++ C = T5) (hT3 : T5 ++ T4 = T3) (hs2 : T2.size ≤ 410) (hs3 : T3.size ≤ 1000) (hs4 : T4.size ≤ 410) (hs5 : T5.size ≤ 411) (hC : C.size ≤ 1) :
    Calls Try.prog 3 #[.int .u64 v, .slice ao len cap, .string s, .int .i64 a, .int .i64 n, .int .i64 b, .int .u8 (c.toNat : Int)] w fun e w' => e = .returned (.bool true) ∧ Below w.heap.size w w' := by
  go_enter Try.func3, Try.ntmps3
  go_wp2_with fail
  refine (awake_any _).mono ?_
  rintro e w1 ⟨rfl, h1⟩
  go_wp2_with fail
  refine (put_str' v _ hv A HA.out).mono ?_
  rintro e w2 ⟨rfl, h2⟩
  go_wp2_with fail
  refine (refPut_str v _ hv A HA.out).mono ?_
  rintro e w3 ⟨rfl, h3⟩
  go_wp2_with fail
  refine (len_len v d _ hv HD.out).mono ?_
  rintro e w' ⟨rfl, rfl⟩
  go_wp2_with fail
  refine (refLen_len v d _ hv HD.out).mono ?_
  rintro e w4 ⟨rfl, h4⟩
  have h14 := Lib.hid (bt (bt (bt h1 h2) h3) h4)
  clear h1 h2 h3 h4
  go_wp2_with fail
  refine (row_len ao m cap l R _ HL.out (by omega) HV.out (HU.out.below (Nat.le_refl _) h14.out) HR.out).mono ?_
  rintro e w5 ⟨rfl, h5⟩
  have h15 := Lib.hid (bt h14.out h5)
  clear h5 h14
  go_wp2_with fail
  refine (refRow_len ao m cap l R _ HL.out (by omega) HV.out (HU.out.below (Nat.le_refl _) h15.out) HR.out).mono ?_
  rintro e w6 ⟨rfl, h6⟩
  have h16 := Lib.hid (bt h15.out h6)
  clear h6 h15
  go_wp2_with fail
  refine (refRow_len ao m cap l R _ HL.out (by omega) HV.out (HU.out.below (Nat.le_refl _) h16.out) HR.out).mono ?_
  rintro e w7 ⟨rfl, h7⟩
  have h17 := Lib.hid (bt h16.out h7)
  clear h7 h16
  go_wp2_with fail
  refine (refPut_str v _ hv A HA.out).mono ?_
  rintro e w8 ⟨rfl, h8⟩
  have h18 := Lib.hid (bt h17.out h8)
  clear h8 h17
  go_wp2_with fail
  refine (pick_int b O.size k _ hb0 hb1 (by omega) (by omega) HK.out).mono ?_
  rintro e w' ⟨rfl, rfl⟩
  go_wp2_with fail
  obtain ⟨k1, hk1⟩ : ∃ k1, k + 1 = k1 := ⟨_, rfl⟩
  rw [hk1] at hT4
  have i1 : (0 : Int) ≤ (k : Int) := Int.natCast_nonneg _
  have i2 : (k : Int) ≤ (O.size : Int) := by omega
  have i3 : (0 : Int) ≤ (k1 : Int) := Int.natCast_nonneg _
  have i4 : (k1 : Int) ≤ (O.size : Int) := by omega
  have i5 : IntKind.i64.wrap ((k : Int) + 1) = (k1 : Int) := by rw [IntWalk.i64_in _ ⟨by omega, by omega⟩]; omega
  have i6 : ¬ 9223372036854775807 < T2.size + C.size := by omega
  have i7 : ¬ 9223372036854775807 < T5.size + T4.size := by omega
  have i8 := fun w => (conv_drew w c _ rfl)
  rw [HC.out] at i8
  clear hk1
  go_region
  have c0 : ∀ j, j < 4 → ∃ T : ByteArray, T.size ≤ 1000 ∧ ((w8.alloc (.cells #[.int .u8 (c.toNat : Int)] 5)).alloc (.cells #[.string T0, .string O, .string T2, .string T3] 9)).drew.cell? ⟨w8.heap.size + 1, j, none⟩ = some (.string T) := by
    intro j hj
    match j, hj with
    | 0, _ => exact ⟨T0, by omega, by simp⟩
    | 1, _ => exact ⟨O, by omega, by simp⟩
    | 2, _ => exact ⟨T2, by omega, by simp⟩
    | 3, _ => exact ⟨T3, by omega, by simp⟩
  have h19 := bt h18.out ((ba (ba0 w8 (.cells #[.int .u8 (c.toNat : Int)] 5)) (.cells #[.string T0, .string O, .string T2, .string T3] 9)).drew)
  have gl : w8.heap.size + 1 < ((w8.alloc (.cells #[.int .u8 (c.toNat : Int)] 5)).alloc (.cells #[.string T0, .string O, .string T2, .string T3] 9)).drew.heap.size := by simp
  go_wp2_with fail
  generalize ((w8.alloc (.cells #[.int .u8 (c.toNat : Int)] 5)).alloc (.cells #[.string T0, .string O, .string T2, .string T3] 9)).drew = W at c0 h19 gl ⊢
  generalize w8.heap.size + 1 = g at c0 gl ⊢
  have C0 := Lib.hid c0
  have H19 := Lib.hid h19
  clear c0 h19 h18 i8 hT2 hT4 hT5 hT3 hO hT0 i6 i7 i5 i1 i2 i3 i4 hs2 hs3 hs4 hs5
  go_loopw [94] (fun i wr => ∃ j : Nat, j ≤ 4 ∧ i = .int .i64 j ∧ Below W.heap.size W wr) (fun i _ => 4 - (intOf i).toNat)
  case atStart => exact ⟨0, by omega, rfl, Below.refl _ _⟩
  case round =>
    obtain ⟨j, hj, rfl, hbel⟩ := hrel
    by_cases hj4 : j < 4
    · obtain ⟨T, hT, hc⟩ := C0.out j hj4
      have hc' := (hbel.cell (p := ⟨g, j, none⟩) gl).trans hc
      clear hc
      have hpa := pk_bd a 50 (by omega)
      have hpn := pk_bd n 20 (by omega)
      go_wp2_with fail
      refine (pick_any a 50 _ ha0 ha1 (by omega) (by omega)).mono ?_
      rintro e w' ⟨rfl, rfl⟩
      have c1 : ∀ j, j < 2 → ∃ x : Int, x ≤ 9223372036854775807 ∧ (wr.alloc (.cells #[.int .i64 a, .int .i64 (pk a 50)] 3)).cell? ⟨wr.heap.size, j, none⟩ = some (.int .i64 x) := by
        intro j hj
        match j, hj with
        | 0, _ => exact ⟨a, ha1, by simp⟩
        | 1, _ => exact ⟨pk a 50, by omega, by simp⟩
      have h20 := hbel.trans ((ba0 wr (.cells #[.int .i64 a, .int .i64 (pk a 50)] 3)).mono hbel.size)
      have gl1 : wr.heap.size < (wr.alloc (.cells #[.int .i64 a, .int .i64 (pk a 50)] 3)).heap.size := by simp
      go_wp2_with fail
      generalize wr.alloc (.cells #[.int .i64 a, .int .i64 (pk a 50)] 3) = W1 at c1 h20 gl1 ⊢
      generalize wr.heap.size = g1 at c1 gl1 ⊢
      have C1 := Lib.hid c1
      have H20 := Lib.hid h20
      clear c1 h20 hbel hc'
      go_loopw [103] (fun i wr => ∃ j : Nat, j ≤ 2 ∧ i = .int .i64 j ∧ Below W1.heap.size W1 wr) (fun i _ => 2 - (intOf i).toNat)
      case atStart => exact ⟨0, by omega, rfl, Below.refl _ _⟩
      case round =>
        obtain ⟨j1, hj1, rfl, hbel1⟩ := hrel
        by_cases hj2 : j1 < 2
        · obtain ⟨x, hx, hc1⟩ := C1.out j1 hj2
          have hc1' := (hbel1.cell (p := ⟨g1, j1, none⟩) gl1).trans hc1
          clear hc1
          obtain ⟨t1, t2, t3, ht⟩ : ∃ t1 t2 t3, takeI T.data.toList x = (t1, t2, t3) := ⟨_, _, _, rfl⟩
          have HT := Lib.hid ht
          clear ht
          go_wp2_with fail
          refine (take_lit T x t1 t2 t3 _ (by omega) hx HT.out).mono ?_
          rintro e w' ⟨rfl, rfl⟩
          go_wp2_with fail
          refine (refTake_lit T x t1 t2 t3 _ (by omega) hx HT.out).mono ?_
          rintro e w' ⟨rfl, rfl⟩
          go_wp2_with fail
          refine (pick_any n 20 _ hn0 hn1 (by omega) (by omega)).mono ?_
          rintro e w' ⟨rfl, rfl⟩
          go_wp2_with fail
          have c2 : ∀ j, j < 3 → ∃ y : Int, y ≤ 9223372036854775807 ∧ (wr.alloc (.cells #[.int .i64 (min n 100), .int .i64 (pk n 20), .int .i64 (m : Int)] 3)).cell? ⟨wr.heap.size, j, none⟩ = some (.int .i64 y) := by
            intro j hj
            match j, hj with
            | 0, _ => exact ⟨min n 100, by omega, by simp⟩
            | 1, _ => exact ⟨pk n 20, by omega, by simp⟩
            | 2, _ => exact ⟨m, by omega, by simp⟩
          have h21 := hbel1.trans ((ba0 wr (.cells #[.int .i64 (min n 100), .int .i64 (pk n 20), .int .i64 (m : Int)] 3)).mono hbel1.size)
          have gl2 : wr.heap.size < (wr.alloc (.cells #[.int .i64 (min n 100), .int .i64 (pk n 20), .int .i64 (m : Int)] 3)).heap.size := by simp
          generalize wr.alloc (.cells #[.int .i64 (min n 100), .int .i64 (pk n 20), .int .i64 (m : Int)] 3) = W2 at c2 h21 gl2 ⊢
          generalize wr.heap.size = g2 at c2 gl2 ⊢
          have C2 := Lib.hid c2
          have H21 := Lib.hid h21
          clear c2 h21 hbel1 hc1'
          go_loopw [142] (fun i wc => ∃ j : Nat, j ≤ 3 ∧ i = .int .i64 j ∧ Below W2.heap.size W2 wc) (fun i _ => 3 - (intOf i).toNat)
          case atStart => exact ⟨0, by omega, rfl, Below.refl _ _⟩
          case round =>
            obtain ⟨j2, hj3, rfl, hbel2⟩ := hrel
            by_cases hj4' : j2 < 3
            · obtain ⟨y, hy, hc2⟩ := C2.out j2 hj4'
              have hc2' := (hbel2.cell (p := ⟨g2, j2, none⟩) gl2).trans hc2
              clear hc2
              obtain ⟨L1, p1, e1, ht⟩ : ∃ L1 p1 e1, takeRowI T.data.toList x y = (L1, p1, e1) := ⟨_, _, _, rfl⟩
              have hll := takeRowI_len T.data.toList x y
              rw [ht] at hll
              obtain ⟨n1, hn1'⟩ : ∃ n1, L1.length = n1 := ⟨_, rfl⟩
              have hn1s : n1 ≤ 1000 := by simp at hll; omega
              have HL1 := Lib.hid hn1'
              have HT1 := Lib.hid ht
              clear ht hll hn1'
              go_wp2_with fail
              refine (takeRow_lit' T x y _ L1 p1 e1 n1 (by omega) hx hy HT1.out HL1.out).mono ?_
              rintro e w9 ⟨ao9, cap9, rfl, hu9, h9⟩
              have HU9 := Lib.hid hu9
              clear hu9
              go_wp2_with fail
              refine (refTakeRow_lit T x y _ L1 p1 e1 n1 (by omega) hx hy HT1.out HL1.out).mono ?_
              rintro e w10 ⟨ao10, cap10, rfl, hu10, h10⟩
              have HU10 := Lib.hid hu10
              clear hu10
              go_wp2_with fail
              refine (nums_len ao9 ao10 n1 n1 cap9 cap10 L1 L1 true _ HL1.out HL1.out (by omega) (by omega) (HU9.out.below (Nat.le_refl _) h10) HU10.out (by simp)).mono ?_
              rintro e w11 ⟨rfl, h11⟩
              have h22 := Lib.hid (hbel2.trans ((bt (bt h9 h10) h11).mono hbel2.size))
              clear hbel2 h9 h10 h11 HU9 HU10
              go_wp2_with fail
              go_roundw
              case rel => exact ⟨j2 + 1, by omega, by go_num, h22.out⟩
              case measure => simp [intOf]; omega
            · go_wp2_with fail
              go_roundw
              case rel => exact ⟨j1 + 1, by omega, by go_num, H21.out.trans (hbel2.mono H21.out.size)⟩
              case measure => simp [intOf]; omega
        · go_wp2_with fail
          go_roundw
          case rel => exact ⟨j + 1, by omega, by go_num, H20.out.trans (hbel1.mono H20.out.size)⟩
          case measure => simp [intOf]; omega
    · go_wp2_with fail
      go_ret
      exact ⟨rfl, bt H19.out hbel⟩

theorem varintTells_walk (v : Nat) (ao : Option Addr) (cap : Nat) (zs : List Nat) (s : ByteArray) (a n b : Int) (c : UInt8) (w : World) (hv : v < 2 ^ 64) (hz : ∀ v ∈ zs, v < 2 ^ 64) (hu : Us w ao zs) (hlc : zs.length ≤ cap) (hcap : cap ≤ 9223372036854775807) (hnone : ao = none → cap = 0) (hs : s.size ≤ 9223372036854775807)
    (ha0 : -9223372036854775808 ≤ a) (ha1 : a ≤ 9223372036854775807) (hn0 : -9223372036854775808 ≤ n) (hn1 : n ≤ 9223372036854775807) (hb0 : -9223372036854775808 ≤ b) (hb1 : b ≤ 9223372036854775807) :
    Calls Try.prog 3 #[.int .u64 v, .slice ao zs.length cap, .string s, .int .i64 a, .int .i64 n, .int .i64 b, .int .u8 (c.toNat : Int)] w fun e w' => e = .returned (.bool true) ∧ Below w.heap.size w w' := by
  obtain ⟨sm, T0, h1, h2, h3, h4⟩ := cut_str s 40 40 rfl
  obtain ⟨l, hl⟩ : ∃ l, l = zs.take 40 := ⟨_, rfl⟩
  have hll : l.length = min zs.length 40 := by rw [hl]; simp; omega
  have hlv : ∀ v ∈ l, v < 2 ^ 64 := fun v h => hz v (by rw [hl] at h; exact List.mem_of_mem_take h)
  have hr := row_le l
  have hp1 := put_pos v
  have hp2 := put_le v
  obtain ⟨O, hO⟩ : ∃ O, str (row l) ++ str (put v) = O := ⟨_, rfl⟩
  have hOs : O.size = (row l).length + (put v).length := by rw [← hO, ByteArray.size_append, str_size, str_size]
  have hpk := pk_bd b O.size (by omega)
  obtain ⟨k, hk⟩ : ∃ k : Nat, pk b (O.size : Int) = (k : Int) := ⟨(pk b (O.size : Int)).toNat, by omega⟩
  have g2 : (O.extract 0 k).size = k := by simp [ByteArray.size_extract]; omega
  have g4 : (O.extract (k + 1) O.size).size = O.size - (k + 1) := by simp [ByteArray.size_extract]
  have g1 : (str [c]).size = 1 := by rw [str_size]; rfl
  refine tells_in v ao cap zs.length (min zs.length 40) k l s (str (put v)) (str (row l)) a n b c (put v).length sm T0 w hv ha0 ha1 hn0 hn1 hb0 hb1 (by omega) (by omega) (by omega) hlc hcap h1 h2 h3 h4 hll hlv (by rw [hl]; exact hu.take 40) (Lib.hid rfl) (Lib.hid rfl)
    (by rw [str_size]; omega) (by rw [str_size]; omega) (by rw [str_size]; omega) (Lib.hid rfl) O hO (by omega) (by omega) hk (by omega) (O.extract 0 k) _ (O.extract (k + 1) O.size) _ (str [c]) rfl rfl (Lib.hid rfl) rfl rfl (by omega) ?_ (by omega) ?_ (by omega)
  · rw [ByteArray.size_append, ByteArray.size_append]; omega
  · rw [ByteArray.size_append]; omega
end Go.Proofs.Ytlljfgaaefofbaa.V
