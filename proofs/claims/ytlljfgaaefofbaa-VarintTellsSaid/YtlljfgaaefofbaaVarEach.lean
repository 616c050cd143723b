/-
  VarintEach: for every row of numbers the statement's function returns true, and writes nothing that was there.
-/
import Derived.Test.YtlljfgaaefofbaaVarForms
import Derived.Test.YtlljfgaaefofbaaAppend
set_option linter.unusedVariables false
namespace Go.Proofs.Ytlljfgaaefofbaa.V
open Go.RowKit

/-- Number k of the row stands behind the first k ones. -/
theorem take_at (l : List Nat) (k : Nat) (hk : k < l.length) (hl : ∀ v ∈ l, v < 2 ^ 64) (s : List UInt8) (hs : s = row l) : takeAt s (row (l.take k)).length = (l.getD k 0, (row (l.take (k + 1))).length, 0) := by
  subst hs
  have e : row l = row (l.take k) ++ (put (l.getD k 0) ++ row (l.drop (k + 1))) := by
    conv => lhs; rw [← List.take_append_drop k l]
    rw [row_append, List.drop_eq_getElem_cons hk]
    simp [row, List.getD, hk]
  rw [e, takeAt_put _ _ _ (hl _ (by simp [List.getD, hk])), row_take l k hk]
  simp

theorem takeRow_gen (s : ByteArray) (a n : Int) (w : World) (l : List Nat) (p er : Int) (len : Nat) (hs : s.size ≤ 1000000000) (ha : a ≤ 9223372036854775807) (hn1 : n ≤ 9223372036854775807)
    (hl : l = (takeRowI s.data.toList a n).1) (hp : p = (takeRowI s.data.toList a n).2.1) (he : er = (takeRowI s.data.toList a n).2.2) (hlen : len = l.length) :
    Calls Try.prog 19 #[.string s, .int .i64 a, .int .i64 n] w fun e w' => ∃ ao cap, e = .returned (.tuple #[.slice ao len cap, .int .i64 p, .int .i64 er]) ∧ Us w' ao l ∧ Below w.heap.size w w' := by
  subst hlen hl hp he
  exact takeRow_lit s a n w _ _ _ hs ha hn1 rfl

theorem nums_len (ao bo : Option Addr) (la lb ca cb : Nat) (x y : List Nat) (r : Bool) (w : World) (h1 : x.length = la) (h2 : y.length = lb) (hx : la ≤ 1000000000) (hy : lb ≤ 1000000000) (ha : Us w ao x) (hb : Us w bo y) (hr : decide (x = y) = r) :
    Calls Try.prog 21 #[.slice ao la ca, .slice bo lb cb] w fun e w' => e = .returned (.bool r) ∧ Below w.heap.size w w' := by
  subst h1 h2 hr; exact nums_any ao bo ca cb x y w hx hy ha hb

set_option maxRecDepth 100000 in
set_option maxHeartbeats 2000000 in
theorem each_in (ao : Option Addr) (cap len m : Nat) (l : List Nat) (S : ByteArray) (w : World) (hm : min (len : Int) 40 = (m : Int)) (hml : m ≤ len) (hlen : l.length = m) (hm40 : m ≤ 40) (hlc : len ≤ cap) (hcap : cap ≤ 9223372036854775807) (hn0 : ao = none → cap = 0)
    (HV : Hid (∀ v ∈ l, v < 2 ^ 64)) (HU : Hid (Us w ao l)) (HS : Hid (str (row l) = S)) (hS : S.size ≤ 400) :
    Calls Try.prog 8 #[.slice ao len cap] w fun e w' => e = .returned (.bool true) ∧ Below w.heap.size w w' := by
  have HL := Lib.hid hlen
  clear hlen
  go_enter Try.func8, Try.ntmps8
  go_wp2_with fail
  refine (awake_any _).mono ?_
  rintro e w1 ⟨rfl, hb1⟩
  go_wp2_with fail
  refine (row_len ao m cap l S _ HL.out (by omega) HV.out (HU.out.below (Nat.le_refl _) hb1) HS.out).mono ?_
  rintro e w2 ⟨rfl, hb2⟩
  have hb := bt hb1 hb2
  clear hb1 hb2
  go_wp2_with fail
  go_loop [6, 7] (fun q i => ∃ k : Nat, k ≤ m ∧ i = .int .i64 k ∧ q = .int .i64 ((row (l.take k)).length : Nat)) (fun _ i => m - (intOf i).toNat)
  case atStart => exact ⟨0, by omega, rfl, by simp [row]⟩
  case round =>
    obtain ⟨k, hk, rfl, rfl⟩ := hrel
    by_cases hlt : k < m
    · have hkl : k < l.length := by have := HL.out; omega
      obtain ⟨b, off, rfl, hbb, hc⟩ := HU.out k hkl
      have hc' := (hb.cell (p := ⟨b, off + k, none⟩) hbb).trans hc
      have hxk : l.getD k 0 < 2 ^ 64 := HV.out _ (by simp [List.getD, hkl])
      have ht := take_at l k hkl HV.out S.data.toList (by rw [← HS.out, str_list])
      have hrt := congrArg List.length (row_take l k hkl)
      rw [List.length_append] at hrt
      have hr0 := row_take_le l k
      have hll := HL.out
      generalize hx : l.getD k 0 = x at hc' hxk ht hrt
      generalize hq : (row (l.take k)).length = q at ht hrt hr0 ⊢
      generalize hq2 : (row (l.take (k + 1))).length = q2 at ht hrt
      have hp := put_le x
      have HT := Lib.hid ht
      have HQ2 := Lib.hid hq2
      have HLn : Hid ((q2 : Int) - q = ((put x).length : Nat)) := by show ((q2 : Int) - q = ((put x).length : Nat)); omega
      have hq400 : q ≤ 400 := by omega
      have hq410 : q2 ≤ 410 := by omega
      obtain ⟨d, hd⟩ : ∃ d : Nat, (q2 : Int) - q = (d : Int) := ⟨q2 - q, by omega⟩
      have HD : Hid ((put x).length = d) := by show (put x).length = d; omega
      clear hc hx hq hq2 ht hrt hr0 hll hkl hp
      go_wp2_with fail
      refine (take_int S q x q2 0 _ (by omega) (by omega) (by rw [HT.out]) (by rw [HT.out]) (by rw [HT.out]; rfl)).mono ?_
      rintro e w' ⟨rfl, rfl⟩
      go_wp2_with fail
      refine (len_any x _ hxk).mono ?_
      rintro e w' ⟨rfl, rfl⟩
      rw [HD.out]
      go_wp2_with fail
      go_round
      case rel => exact ⟨k + 1, by omega, by go_num, by rw [HQ2.out]⟩
      case measure => simp [intOf]; omega
    · have hke : k = m := by omega
      have hfin : ((row (l.take k)).length : Nat) = S.size := by
        rw [hke, ← HL.out, List.take_length, ← HS.out, str_size]
      generalize (row (l.take k)).length = q at hfin ⊢
      subst hfin
      go_wp2_with fail
      have hz : takeRowI (⟨#[0]⟩ ++ S : ByteArray).data.toList 0 (m + 1) = (0 :: l, S.size + 1, 0) := by
        have h := takeRow_row (0 :: l) [] [] (by intro v hv; rcases List.mem_cons.1 hv with rfl | hv; decide; exact HV.out v hv)
        unfold takeRowI
        rw [if_neg (by omega)]
        have e1 : (⟨#[0]⟩ ++ S : ByteArray).data.toList = [] ++ (row (0 :: l) ++ []) := by
          rw [← HS.out]; simp [ByteArray.data_append, str, row]; rfl
        have e2 : ((m : Int) + 1).toNat = (0 :: l).length := by have := HL.out; simp; omega
        rw [e1, e2]
        refine h.trans ?_
        have e3 : (row (0 :: l)).length = S.size + 1 := by rw [← HS.out, str_size]; simp [row]; rw [show (put 0).length = 1 by decide]; omega
        rw [e3]; simp
      have HZ := Lib.hid hz
      clear hz
      refine (takeRow_gen (⟨#[0]⟩ ++ S) 0 (m + 1) _ (0 :: l) (S.size + 1) 0 (m + 1) (by rw [ByteArray.size_append, show (⟨#[0]⟩ : ByteArray).size = 1 by decide]; omega) (by omega) (by omega) (by rw [HZ.out]) (by rw [HZ.out]; rfl) (by rw [HZ.out]; rfl) (by have := HL.out; simp; omega)).mono ?_
      rintro e w3 ⟨ao2, cap2, rfl, hu2, hb3⟩
      have HU2 := Lib.hid hu2
      clear hu2
      have hu3 := Lib.hid (((HU.out.below (Nat.le_refl _) hb).below (Nat.le_refl _) hb3).below (Nat.le_refl _) (ba0 w3 (.cells #[.int .u64 (0 : Nat)] 22)))
      have ho3 := Lib.hid (OwnU.lit1 w3 w3.heap.size 0 (Nat.le_refl _))
      go_wp2_with (at_builtin; refine wp_append_us _ rfl (.tmp 84) (.tmp 85) rfl rfl w3.heap.size _ [0] l rfl ho3.out ao m cap rfl HL.out hu3.out ?_ ?_ ?_ ?_)
      · exact hn0
      · simp; omega
      · simp
      · intro v' w4 hown' hgrow
        have hb4 : Below w3.heap.size w3 w4 := (ba0 w3 _).grown hgrow (by simp) (by intro k hk; simp [Value.ownBlock] at hk; omega)
        obtain ⟨ao4, cap4, rfl, hu4⟩ := OwnU.us hown'
        have HU4 := Lib.hid hu4
        have hl4 : (0 :: l).length = m + 1 := by have := HL.out; simp; omega
        rw [hl4]
        have HL4 := Lib.hid hl4
        clear hown' hgrow hu4 hl4
        go_wp2_with fail
        refine (nums_len ao2 ao4 (m + 1) (m + 1) cap2 cap4 (0 :: l) (0 :: l) true _ HL4.out HL4.out (by omega) (by omega) (HU2.out.below (Nat.le_refl _) hb4) HU4.out (by simp)).mono ?_
        rintro e w5 ⟨rfl, hb5⟩
        go_wp2_with fail
        go_ret
        exact ⟨rfl, bt (bt (bt hb hb3) hb4) hb5⟩

theorem varintEach_walk (ao : Option Addr) (cap : Nat) (zs : List Nat) (w : World) (hv : ∀ v ∈ zs, v < 2 ^ 64) (hu : Us w ao zs) (hlc : zs.length ≤ cap) (hcap : cap ≤ 9223372036854775807) (hn0 : ao = none → cap = 0) :
    Calls Try.prog 8 #[.slice ao zs.length cap] w fun e w' => e = .returned (.bool true) ∧ Below w.heap.size w w' := by
  have h1 := row_le (zs.take 40)
  refine each_in ao cap zs.length (min zs.length 40) (zs.take 40) (str (row (zs.take 40))) w (by omega) (by omega) (by simp; omega) (by omega) hlc hcap hn0 (Lib.hid fun v hv' => hv v (List.mem_of_mem_take hv')) (Lib.hid (hu.take 40)) (Lib.hid rfl) ?_
  rw [str_size]; simp at h1; omega
end Go.Proofs.Ytlljfgaaefofbaa.V
