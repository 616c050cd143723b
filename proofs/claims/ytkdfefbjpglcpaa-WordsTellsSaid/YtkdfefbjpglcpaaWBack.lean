/-
  WordsBack: for every row of numbers, every half, every two texts and every raw place the statement's function returns true, and writes nothing that was there.
-/
import Derived.Test.YtkdfefbjpglcpaaWForms
import Derived.Test.YtkdfefbjpglcpaaWPure2
set_option linter.unusedVariables false
namespace Go.Proofs.Ytkdfefbjpglcpaa.V
open Go.RowKit

theorem numsEq (ao bo : Option Addr) (la lb ca cb : Nat) (x y : List Nat) (r : Bool) (w : World) (h1 : x.length = la) (h2 : y.length = lb) (hx : la ≤ 1000000000) (hy : lb ≤ 1000000000) (ha : Us w ao x) (hb : Us w bo y) (hr : decide (x = y) = r) :
    Calls Try.prog 19 #[.slice ao la ca, .slice bo lb cb] w fun e w' => e = .returned (.bool r) ∧ Below w.heap.size w w' := by
  subst h1 h2 hr; exact nums_any ao bo ca cb x y w hx hy ha hb
theorem wTake_len (s : ByteArray) (a n : Int) (w : World) (l : List Nat) (m p er : Nat) (P E : Int) (hs : s.size ≤ 1000000000) (h : takeW 8 s.data.toList a n = (l, p, er)) (hl : l.length = m) (hP : (p : Int) = P) (hE : (er : Int) = E) :
    Calls Try.prog 17 #[.string s, .int .i64 a, .int .i64 n] w fun e w' => ∃ ao cap, e = .returned (.tuple #[.slice ao m cap, .int .i64 P, .int .i64 E]) ∧ Us w' ao l ∧ Below w.heap.size w w' := by
  subst hl; exact wTake s a n w l p er P E hs h hP hE

theorem back_list (A B Z : ByteArray) (L : List UInt8) (h : str L = B) : (A ++ B ++ Z).data.toList.drop A.size = L ++ Z.data.toList := by
  have e : (A ++ B ++ Z).data.toList = A.data.toList ++ (L ++ Z.data.toList) := by rw [← h]; simp [ByteArray.data_append, str]
  rw [e, show A.size = A.data.toList.length by simp, List.drop_left]
theorem back_whole (A B Z : ByteArray) (l : List Nat) (m : Nat) (hl : l.length = m) (hv : ∀ v ∈ l, v < 2 ^ 64) (h : str (wrds 8 l) = B) : takeW 8 (A ++ B ++ Z).data.toList (A.size : Int) (m : Int) = (l, A.size + m * 8, 0) := by
  have hBs : B.size = 8 * m := by rw [← h, str_size]; simp [hl]
  rw [takeW_ok 8 _ A.size m (by decide) (by simp; omega), back_list A B Z _ h, ← hl, nums_wrds 8 l _ hv]

set_option maxRecDepth 100000 in
set_option maxHeartbeats 800000 in
theorem back_same (ao : Option Addr) (cap len m ma mz k v : Nat) (l : List Nat) (s t A B Z D P Q : ByteArray) (c : Int) (w : World) (hc0 : -9223372036854775808 ≤ c) (hc1 : c ≤ 9223372036854775807)
    (hm : min (len : Int) 20 = (m : Int)) (hml : m ≤ len) (hm20 : m ≤ 20) (hlc : len ≤ cap) (hcap : cap ≤ 9223372036854775807)
    (hma : min (s.size : Int) 20 = (ma : Int)) (hA : s.extract 0 ma = A) (hAs : A.size ≤ 20) (hmas : ma ≤ s.size)
    (hmz : min (t.size : Int) 20 = (mz : Int)) (hZ : t.extract 0 mz = Z) (hZs : Z.size ≤ 20) (hmzs : mz ≤ t.size)
    (HL : Hid (l.length = m)) (HV : Hid (∀ v ∈ l, v < 2 ^ 64)) (HU : Hid (Us w ao l)) (HB : Hid (str (wrds 8 l) = B)) (hBs : B.size ≤ 160) (HK : Hid (pk c ((B.size : Int) + 1) = (k : Int)))
    (hkB : k = B.size) (hD : B.extract 0 k = D) (hDs : D.size ≤ 160)
    (hv : v < 2 ^ 32) (HP : Hid (str (octs 4 v) = P)) (hPs : (P.size : Int) = 4) (hQ : P.extract 0 3 = Q) (hQs : Q.size ≤ 4)
    (HT1 : Hid (takeW 8 (A ++ B ++ Z).data.toList (A.size : Int) (m : Int) = (l, A.size + m * 8, 0)))
    (HT2 : Hid (takeW 8 (A ++ D).data.toList (A.size : Int) (m : Int) = (l, A.size + m * 8, 0)))
    (HH1 : Hid (halfW (A ++ P ++ Z).data.toList (A.size : Int) = (v, A.size + 4, 0))) (HH2 : Hid (halfW (A ++ Q).data.toList (A.size : Int) = (0, 0, 2)))
    (z1 : (A ++ B ++ Z).size ≤ 1000000000) (z2 : (A ++ D).size ≤ 1000000000) (z3 : (A ++ P ++ Z).size ≤ 1000000000) (z4 : (A ++ Q).size ≤ 1000000000) :
    Calls Try.prog 4 #[.slice ao len cap, .int .u32 v, .string s, .string t, .int .i64 c] w fun e w' => e = .returned (.bool true) ∧ Below w.heap.size w w' := by
  have Z1 := Lib.hid z1
  have Z2 := Lib.hid z2
  have Z3 := Lib.hid z3
  have Z4 := Lib.hid z4
  clear z1 z2 z3 z4
  subst hkB
  go_enter Try.func4, Try.ntmps4
  go_wp2_with fail
  refine (awake_any _).mono ?_
  rintro e w1 ⟨rfl, hb1⟩
  go_wp2_with fail
  refine (wput_len ao m cap l B _ HL.out (by omega) HV.out (HU.out.below (Nat.le_refl _) hb1) HB.out).mono ?_
  rintro e w2 ⟨rfl, hb2⟩
  go_wp2_with fail
  refine (wTake_len _ _ _ _ l m (A.size + m * 8) 0 ((A.size : Int) + 8 * (m : Int)) 0 Z1.out HT1.out HL.out (by omega) rfl).mono ?_
  rintro e w3 ⟨ao3, cap3, rfl, hu3, hb3⟩
  have HU3 := Lib.hid hu3
  clear hu3
  go_wp2_with fail
  refine (pick_int c ((B.size : Int) + 1) B.size _ hc0 hc1 (by omega) (by omega) HK.out).mono ?_
  rintro e w' ⟨rfl, rfl⟩
  go_wp2_with fail
  refine (wTake_len _ _ _ _ l m (A.size + m * 8) 0 ((A.size : Int) + 8 * (m : Int)) 0 Z2.out HT2.out HL.out (by omega) rfl).mono ?_
  rintro e w4 ⟨ao4, cap4, rfl, _, hb4⟩
  go_wp2_with fail
  refine (puthalf_lit v P _ hv HP.out).mono ?_
  rintro e w5 ⟨rfl, hb5⟩
  go_wp2_with fail
  refine (wHalf _ _ _ v (A.size + 4) 0 v ((A.size : Int) + 4) 0 Z3.out HH1.out rfl (by omega) rfl).mono ?_
  rintro e w6 ⟨rfl, hb6⟩
  go_wp2_with fail
  refine (wHalf _ _ _ 0 0 2 0 0 2 Z4.out HH2.out rfl rfl rfl).mono ?_
  rintro e w7 ⟨rfl, hb7⟩
  have hb37 := bt (bt (bt hb4 hb5) hb6) hb7
  have hb17 := bt (bt (bt hb1 hb2) hb3) hb37
  have HU7 := Lib.hid (HU3.out.below (Nat.le_refl _) hb37)
  have HU8 := Lib.hid (HU.out.below (Nat.le_refl _) hb17)
  clear hb1 hb2 hb3 hb4 hb5 hb6 hb7 hb37
  go_wp2_with fail
  refine (numsEq ao3 ao m m cap3 cap l l true _ HL.out HL.out (by omega) (by omega) HU7.out HU8.out (by simp)).mono ?_
  rintro e w8 ⟨rfl, hb8⟩
  go_wp2_with fail
  go_ret
  exact ⟨rfl, bt hb17 hb8⟩

set_option maxRecDepth 100000 in
set_option maxHeartbeats 800000 in
theorem back_less (ao : Option Addr) (cap len m ma mz k v : Nat) (l : List Nat) (s t A B Z D P Q : ByteArray) (c : Int) (w : World) (hc0 : -9223372036854775808 ≤ c) (hc1 : c ≤ 9223372036854775807)
    (hm : min (len : Int) 20 = (m : Int)) (hml : m ≤ len) (hm20 : m ≤ 20) (hlc : len ≤ cap) (hcap : cap ≤ 9223372036854775807)
    (hma : min (s.size : Int) 20 = (ma : Int)) (hA : s.extract 0 ma = A) (hAs : A.size ≤ 20) (hmas : ma ≤ s.size)
    (hmz : min (t.size : Int) 20 = (mz : Int)) (hZ : t.extract 0 mz = Z) (hZs : Z.size ≤ 20) (hmzs : mz ≤ t.size)
    (HL : Hid (l.length = m)) (HV : Hid (∀ v ∈ l, v < 2 ^ 64)) (HU : Hid (Us w ao l)) (HB : Hid (str (wrds 8 l) = B)) (hBs : B.size ≤ 160) (HK : Hid (pk c ((B.size : Int) + 1) = (k : Int)))
    (hkB : k < B.size) (hD : B.extract 0 k = D) (hDs : D.size ≤ 160)
    (hv : v < 2 ^ 32) (HP : Hid (str (octs 4 v) = P)) (hPs : (P.size : Int) = 4) (hQ : P.extract 0 3 = Q) (hQs : Q.size ≤ 4)
    (HT1 : Hid (takeW 8 (A ++ B ++ Z).data.toList (A.size : Int) (m : Int) = (l, A.size + m * 8, 0)))
    (HT2 : Hid (takeW 8 (A ++ D).data.toList (A.size : Int) (m : Int) = ([], 0, 2)))
    (HH1 : Hid (halfW (A ++ P ++ Z).data.toList (A.size : Int) = (v, A.size + 4, 0))) (HH2 : Hid (halfW (A ++ Q).data.toList (A.size : Int) = (0, 0, 2)))
    (z1 : (A ++ B ++ Z).size ≤ 1000000000) (z2 : (A ++ D).size ≤ 1000000000) (z3 : (A ++ P ++ Z).size ≤ 1000000000) (z4 : (A ++ Q).size ≤ 1000000000) :
    Calls Try.prog 4 #[.slice ao len cap, .int .u32 v, .string s, .string t, .int .i64 c] w fun e w' => e = .returned (.bool true) ∧ Below w.heap.size w w' := by
  have Z1 := Lib.hid z1
  have Z2 := Lib.hid z2
  have Z3 := Lib.hid z3
  have Z4 := Lib.hid z4
  clear z1 z2 z3 z4
  have hne : ((k : Int) == B.size) = false := by simp; omega
  have hne2 : decide (k = B.size) = false := by simp; omega
  go_enter Try.func4, Try.ntmps4
  go_wp2_with fail
  refine (awake_any _).mono ?_
  rintro e w1 ⟨rfl, hb1⟩
  go_wp2_with fail
  refine (wput_len ao m cap l B _ HL.out (by omega) HV.out (HU.out.below (Nat.le_refl _) hb1) HB.out).mono ?_
  rintro e w2 ⟨rfl, hb2⟩
  go_wp2_with fail
  refine (wTake_len _ _ _ _ l m (A.size + m * 8) 0 ((A.size : Int) + 8 * (m : Int)) 0 Z1.out HT1.out HL.out (by omega) rfl).mono ?_
  rintro e w3 ⟨ao3, cap3, rfl, hu3, hb3⟩
  have HU3 := Lib.hid hu3
  clear hu3
  go_wp2_with fail
  refine (pick_int c ((B.size : Int) + 1) k _ hc0 hc1 (by omega) (by omega) HK.out).mono ?_
  rintro e w' ⟨rfl, rfl⟩
  go_wp2_with fail
  refine (wTake_len _ _ _ _ [] 0 0 2 0 2 Z2.out HT2.out rfl rfl rfl).mono ?_
  rintro e w4 ⟨ao4, cap4, rfl, _, hb4⟩
  go_wp2_with fail
  refine (puthalf_lit v P _ hv HP.out).mono ?_
  rintro e w5 ⟨rfl, hb5⟩
  go_wp2_with fail
  refine (wHalf _ _ _ v (A.size + 4) 0 v ((A.size : Int) + 4) 0 Z3.out HH1.out rfl (by omega) rfl).mono ?_
  rintro e w6 ⟨rfl, hb6⟩
  go_wp2_with fail
  refine (wHalf _ _ _ 0 0 2 0 0 2 Z4.out HH2.out rfl rfl rfl).mono ?_
  rintro e w7 ⟨rfl, hb7⟩
  have hb37 := bt (bt (bt hb4 hb5) hb6) hb7
  have hb17 := bt (bt (bt hb1 hb2) hb3) hb37
  have HU7 := Lib.hid (HU3.out.below (Nat.le_refl _) hb37)
  have HU8 := Lib.hid (HU.out.below (Nat.le_refl _) hb17)
  clear hb1 hb2 hb3 hb4 hb5 hb6 hb7 hb37
  go_wp2_with fail
  refine (numsEq ao3 ao m m cap3 cap l l true _ HL.out HL.out (by omega) (by omega) HU7.out HU8.out (by simp)).mono ?_
  rintro e w8 ⟨rfl, hb8⟩
  go_wp2_with fail
  go_ret
  exact ⟨rfl, bt hb17 hb8⟩

theorem wordsBack_walk (ao : Option Addr) (cap : Nat) (zs : List Nat) (v : Nat) (s t : ByteArray) (c : Int) (w : World) (hv : ∀ v ∈ zs, v < 2 ^ 64) (hu : Us w ao zs) (hlc : zs.length ≤ cap) (hcap : cap ≤ 9223372036854775807) (hn0 : ao = none → cap = 0) (hv2 : v < 2 ^ 32) (hs : s.size ≤ 9223372036854775807) (ht : t.size ≤ 9223372036854775807) (hc0 : -9223372036854775808 ≤ c) (hc1 : c ≤ 9223372036854775807) :
    Calls Try.prog 4 #[.slice ao zs.length cap, .int .u32 v, .string s, .string t, .int .i64 c] w fun e w' => e = .returned (.bool true) ∧ Below w.heap.size w w' := by
  obtain ⟨ma, A, hma, hA, hAs, hmas⟩ := cut_str s 20 20 rfl
  obtain ⟨mz, Z, hmz, hZ, hZs, hmzs⟩ := cut_str t 20 20 rfl
  obtain ⟨l, hl⟩ : ∃ l, zs.take 20 = l := ⟨_, rfl⟩
  obtain ⟨m, hm⟩ : ∃ m, min zs.length 20 = m := ⟨_, rfl⟩
  have hlm : l.length = m := by rw [← hl, ← hm]; simp; omega
  have hlv : ∀ v ∈ l, v < 2 ^ 64 := fun v h => hv v (List.mem_of_mem_take (hl ▸ h))
  have hlu : Us w ao l := hl ▸ hu.take 20
  obtain ⟨B, hB⟩ : ∃ B, str (wrds 8 l) = B := ⟨_, rfl⟩
  have hBs : B.size = 8 * m := by rw [← hB, str_size]; simp [hlm]
  have hp1 := pk_bd c ((B.size : Int) + 1) (by omega)
  obtain ⟨k, hk⟩ : ∃ k : Nat, pk c ((B.size : Int) + 1) = (k : Int) := ⟨(pk c ((B.size : Int) + 1)).toNat, by omega⟩
  obtain ⟨P, hP⟩ : ∃ P, str (octs 4 v) = P := ⟨_, rfl⟩
  have hPs : P.size = 4 := by rw [← hP, str_size]; simp
  have hDs : (B.extract 0 k).size = k := by simp [ByteArray.size_extract]; omega
  have hQs : (P.extract 0 3).size = 3 := by simp [ByteArray.size_extract]; omega
  have h1 := back_whole A B Z l m hlm hlv hB
  have hh1 : halfW (A ++ P ++ Z).data.toList (A.size : Int) = (v, A.size + 4, 0) := by
    unfold halfW
    rw [if_neg (by omega), if_neg (by simp; omega), Int.toNat_natCast, back_list A P Z _ hP, List.take_append_of_le_length (by simp), List.take_of_length_le (by simp), val_octs_lt 4 v hv2]
  have hh2 : halfW (A ++ P.extract 0 3).data.toList (A.size : Int) = (0, 0, 2) := by
    unfold halfW
    rw [if_neg (by omega), if_pos (by simp; omega)]
  have z1 : (A ++ B ++ Z).size ≤ 1000000000 := by simp [ByteArray.size_append]; omega
  have z2 : (A ++ B.extract 0 k).size ≤ 1000000000 := by rw [ByteArray.size_append]; omega
  have z3 : (A ++ P ++ Z).size ≤ 1000000000 := by simp [ByteArray.size_append]; omega
  have z4 : (A ++ P.extract 0 3).size ≤ 1000000000 := by rw [ByteArray.size_append]; omega
  by_cases hkk : k = B.size
  · have h2 : takeW 8 (A ++ B.extract 0 k).data.toList (A.size : Int) (m : Int) = (l, A.size + m * 8, 0) := by
      have hDB : B.extract 0 k = B := by rw [hkk]; simp
      have := back_whole A B ByteArray.empty l m hlm hlv hB
      rw [hDB]; simpa using this
    exact back_same ao cap zs.length m ma mz k v l s t A B Z _ P _ c w hc0 hc1 (by omega) (by omega) (by omega) hlc hcap hma hA hAs hmas hmz hZ hZs hmzs hlm hlv hlu hB (by omega) hk hkk rfl (by omega) hv2 hP (by omega) rfl (by omega) h1 h2 hh1 hh2 z1 z2 z3 z4
  · have h2 : takeW 8 (A ++ B.extract 0 k).data.toList (A.size : Int) (m : Int) = ([], 0, 2) :=
      takeW_no 8 _ A.size m (by decide) (by rw [show (A ++ B.extract 0 k).data.toList.length = (A ++ B.extract 0 k).size by simp, ByteArray.size_append]; omega)
    exact back_less ao cap zs.length m ma mz k v l s t A B Z _ P _ c w hc0 hc1 (by omega) (by omega) (by omega) hlc hcap hma hA hAs hmas hmz hZ hZs hmzs hlm hlv hlu hB (by omega) hk (by omega) rfl (by omega) hv2 hP (by omega) rfl (by omega) h1 h2 hh1 hh2 z1 z2 z3 z4
end Go.Proofs.Ytkdfefbjpglcpaa.V
