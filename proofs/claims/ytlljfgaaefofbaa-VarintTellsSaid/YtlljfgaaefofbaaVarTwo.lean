/-
  VarintRow: for every row of numbers and every raw place the statement's function returns true, and writes nothing that was there.
-/
import Derived.Test.YtlljfgaaefofbaaVarEach
set_option linter.unusedVariables false
namespace Go.Proofs.Ytlljfgaaefofbaa.V
open Go.RowKit

theorem takeRow_mid (l : List Nat) (k : Nat) (hk : k ≤ l.length) (hl : ∀ v ∈ l, v < 2 ^ 64) : takeRow (row l) (l.length - k) (row (l.take k)).length = (l.drop k, (row l).length, 0) := by
  have h := takeRow_row (l.drop k) (row (l.take k)) [] (fun v hv => hl v (List.mem_of_mem_drop hv))
  have e : row (l.take k) ++ (row (l.drop k) ++ []) = row l := by rw [List.append_nil, ← row_append, List.take_append_drop]
  rw [e, List.length_drop] at h
  rw [h, ← e]
  simp
theorem takeRow_head (l : List Nat) (k : Nat) (hk : k ≤ l.length) (hl : ∀ v ∈ l, v < 2 ^ 64) : takeRow (row l) k 0 = (l.take k, (row (l.take k)).length, 0) := by
  have h := takeRow_row (l.take k) [] (row (l.drop k)) (fun v hv => hl v (List.mem_of_mem_take hv))
  have e : [] ++ (row (l.take k) ++ row (l.drop k)) = row l := by rw [List.nil_append, ← row_append, List.take_append_drop]
  rw [e, List.length_take, Nat.min_eq_left hk] at h
  refine (show takeRow (row l) k 0 = _ from h).trans ?_
  simp
theorem takeRowI_nat (s : List UInt8) (i n : Nat) : takeRowI s i n = takeRow s n i := by
  unfold takeRowI; rw [if_neg (by omega)]; simp

theorem OwnU.us' {w : World} {S : Nat} {v : Value} {l : List Nat} (h : OwnU w S v l) : ∃ ao cap, v = .slice ao l.length cap ∧ Us w ao l ∧ (ao = none → cap = 0) := by
  obtain ⟨ao, cap, rfl, hu⟩ := OwnU.us h
  refine ⟨ao, cap, rfl, hu, fun hn => ?_⟩
  obtain ⟨_, ⟨h1, _⟩ | ⟨g, c, cur, h1, _⟩⟩ := h
  · injection h1
  · injection h1 with h2; rw [hn] at h2; cases h2
theorem takeRow_gen' (s : ByteArray) (a n : Int) (w : World) (l : List Nat) (p er : Int) (len : Nat) (hs : s.size ≤ 1000000000) (ha : a ≤ 9223372036854775807) (hn1 : n ≤ 9223372036854775807)
    (hl : l = (takeRowI s.data.toList a n).1) (hp : p = (takeRowI s.data.toList a n).2.1) (he : er = (takeRowI s.data.toList a n).2.2) (hlen : len = l.length) :
    Calls Try.prog 19 #[.string s, .int .i64 a, .int .i64 n] w fun e w' => ∃ ao cap, e = .returned (.tuple #[.slice ao len cap, .int .i64 p, .int .i64 er]) ∧ Us w' ao l ∧ (ao = none → cap = 0) ∧ Below w.heap.size w w' := by
  subst hlen hl hp he
  refine (takeRow_any s a n w hs ha hn1).mono ?_
  rintro e w' ⟨v, rfl, ho, hb⟩
  obtain ⟨ao, cap, rfl, hu, hn⟩ := OwnU.us' ho
  exact ⟨ao, cap, rfl, hu, hn, hb⟩

theorem Us.drop {w : World} {ao : Option Addr} {l : List Nat} (h : Us w ao l) (k c : Nat) (hc : l.length ≤ c) : Us w (if c = k then ao else ao.map fun x => x.add k) (l.drop k) := by
  intro j hj
  simp at hj
  obtain ⟨b, off, rfl, hb, hcell⟩ := h (k + j) (by omega)
  rw [if_neg (by omega)]
  refine ⟨b, off + k, ?_, hb, ?_⟩
  · rw [Option.map_some, Addr.add_lit]
  · rw [Nat.add_assoc, hcell]
    simp [List.getD]

set_option maxRecDepth 100000 in
set_option maxHeartbeats 4000000 in
theorem row_in (ao : Option Addr) (cap len m k q : Nat) (c : Int) (l : List Nat) (S : ByteArray) (w : World) (hc0 : -9223372036854775808 ≤ c) (hc1 : c ≤ 9223372036854775807)
    (hm : min (len : Int) 40 = (m : Int)) (hml : m ≤ len) (hlen : l.length = m) (hm40 : m ≤ 40) (hlc : len ≤ cap) (hcap : cap ≤ 9223372036854775807) (hn0 : ao = none → cap = 0)
    (HK : Hid (pk c (m + 1) = (k : Int))) (hk : k ≤ m) (hq : q ≤ S.size)
    (HV : Hid (∀ v ∈ l, v < 2 ^ 64)) (HU : Hid (Us w ao l)) (HS : Hid (str (row l) = S)) (hS : S.size ≤ 400) (SA SB : ByteArray) (HSA : Hid (str (row (l.take k)) = SA)) (HSB : Hid (str (row (l.drop k)) = SB)) (hSA : SA.size ≤ 400) (hSB : SB.size ≤ 400) (hSS : SA ++ SB = S)
    (H1 : Hid (takeRow S.data.toList k 0 = (l.take k, q, 0))) (d : Nat) (hd : (m : Int) - (k : Int) = (d : Int)) (H2 : Hid (takeRow S.data.toList d q = (l.drop k, S.size, 0))) (H3 : Hid (takeRow S.data.toList (m + 1) 0 = ([], 0, 2))) :
    Calls Try.prog 7 #[.slice ao len cap, .int .i64 c] w fun e w' => e = .returned (.bool true) ∧ Below w.heap.size w w' := by
  have HL := Lib.hid hlen
  clear hlen
  go_enter Try.func7, Try.ntmps7
  go_wp2_with fail
  refine (awake_any _).mono ?_
  rintro e w1 ⟨rfl, hb1⟩
  go_wp2_with fail
  refine (pick_int c (m + 1) k _ hc0 hc1 (by omega) (by omega) HK.out).mono ?_
  rintro e w' ⟨rfl, rfl⟩
  go_wp2_with fail
  refine (row_len ao m cap l S _ HL.out (by omega) HV.out (HU.out.below (Nat.le_refl _) hb1) HS.out).mono ?_
  rintro e w2 ⟨rfl, hb2⟩
  have hb := bt hb1 hb2
  clear hb1 hb2
  go_wp2_with fail
  refine (takeRow_gen' S 0 k _ (l.take k) q 0 k (by omega) (by omega) (by omega) (by rw [show (0 : Int) = ((0 : Nat) : Int) from rfl, takeRowI_nat, H1.out]) (by rw [show (0 : Int) = ((0 : Nat) : Int) from rfl, takeRowI_nat, H1.out]) (by rw [show (0 : Int) = ((0 : Nat) : Int) from rfl, takeRowI_nat, H1.out]) (by have := HL.out; simp; omega)).mono ?_
  rintro e w3 ⟨ao3, cap3, rfl, hu3, hn3, hb3⟩
  have HU3 := Lib.hid hu3
  have HN3 := Lib.hid hn3
  clear hu3 hn3
  go_wp2_with fail
  refine (takeRow_gen' S q d _ (l.drop k) S.size 0 d (by omega) (by omega) (by omega) (by rw [takeRowI_nat, H2.out]) (by rw [takeRowI_nat, H2.out]) (by rw [takeRowI_nat, H2.out]; rfl) (by have := HL.out; simp; omega)).mono ?_
  rintro e w4 ⟨ao4, cap4, rfl, hu4, hn4, hb4⟩
  have HU4 := Lib.hid hu4
  have HN4 := Lib.hid hn4
  clear hu4 hn4
  go_wp2_with fail
  go_loop [15, 16] (fun t i => ∃ j : Nat, j ≤ m ∧ i = .int .i64 j ∧ t = .int .i64 ((row (l.take j)).length : Nat)) (fun _ i => m - (intOf i).toNat)
  case atStart => exact ⟨0, by omega, rfl, by simp [row]⟩
  case round =>
    obtain ⟨j, hj, rfl, rfl⟩ := hrel
    by_cases hlt : j < m
    · have hjl : j < l.length := by have := HL.out; omega
      obtain ⟨b, off, rfl, hbb, hc⟩ := HU.out j hjl
      have hc' := ((bt (bt hb hb3) hb4).cell (p := ⟨b, off + j, none⟩) hbb).trans hc
      have hxk : l.getD j 0 < 2 ^ 64 := HV.out _ (by simp [List.getD, hjl])
      have hrt := congrArg List.length (row_take l j hjl)
      rw [List.length_append] at hrt
      have hr0 := row_take_le l j
      have hll := HL.out
      generalize hx : l.getD j 0 = x at hc' hxk hrt
      have hp := put_le x
      obtain ⟨pl, hpl⟩ : ∃ pl, (put x).length = pl := ⟨_, rfl⟩
      generalize hq1 : (row (l.take j)).length = q1 at hrt hr0 ⊢
      have HR : Hid ((row (l.take (j + 1))).length = q1 + pl) := by show (row (l.take (j + 1))).length = q1 + pl; omega
      have HD := Lib.hid hpl
      have hq1' : q1 ≤ 400 := by omega
      have hpl' : pl ≤ 10 := by omega
      clear hc hx hq1 hrt hr0 hll hjl hpl hp
      go_wp2_with fail
      refine (len_any x _ hxk).mono ?_
      rintro e w' ⟨rfl, rfl⟩
      rw [HD.out]
      go_wp2_with fail
      go_round
      case rel => exact ⟨j + 1, by omega, by go_num, by rw [HR.out]; go_num⟩
      case measure => simp [intOf]; omega
    · have hke : j = m := by omega
      have hfin : ((row (l.take j)).length : Nat) = S.size := by
        rw [hke, ← HL.out, List.take_length, ← HS.out, str_size]
      generalize (row (l.take j)).length = q1 at hfin ⊢
      subst hfin
      go_wp2_with fail
      refine (takeRow_gen' S 0 (m + 1) _ [] 0 2 0 (by omega) (by omega) (by omega) (by rw [show (0 : Int) = ((0 : Nat) : Int) from rfl, show ((m : Int) + 1) = ((m + 1 : Nat) : Int) from rfl, takeRowI_nat, H3.out]) (by rw [show (0 : Int) = ((0 : Nat) : Int) from rfl, show ((m : Int) + 1) = ((m + 1 : Nat) : Int) from rfl, takeRowI_nat, H3.out]) (by rw [show (0 : Int) = ((0 : Nat) : Int) from rfl, show ((m : Int) + 1) = ((m + 1 : Nat) : Int) from rfl, takeRowI_nat, H3.out]; rfl) rfl).mono ?_
      rintro e w5 ⟨ao5, cap5, rfl, _, _, hb5⟩
      go_wp2_with fail
      have i1 : (0 : Int) ≤ (k : Int) := Int.natCast_nonneg _
      have i2 : (k : Int) ≤ (m : Int) := by omega
      have i3 : (k : Int) ≤ (cap : Int) := by omega
      have h3 := Lib.hid (((HU3.out.below (Nat.le_refl _) hb4).below (Nat.le_refl _) hb5).below (Nat.le_refl _) ((Below.refl w5.heap.size w5).drew))
      have h4 := Lib.hid ((HU4.out.below (Nat.le_refl _) hb5).below (Nat.le_refl _) ((Below.refl w5.heap.size w5).drew))
      have h0 := Lib.hid ((HU.out.below (Nat.le_refl _) (bt (bt (bt hb hb3) hb4) hb5)))
      have d1 : Hid ((l.take k).length = k) := by show (l.take k).length = k; have := HL.out; simp; omega
      have d2 : Hid ((l.drop k).length = d) := by show (l.drop k).length = d; have := HL.out; simp; omega
      have hlt : l.take k ++ l.drop k = l := List.take_append_drop _ _
      have HLT := Lib.hid hlt
      clear hlt
      have d3 : Hid ((l.drop k).length = m - k) := by show (l.drop k).length = m - k; have := HL.out; simp; omega
      have hsum : ¬ 9223372036854775807 < SA.size + SB.size := by omega
      go_region_held3 (fun _ => True) (trivial) ((first
        | (refine step_append_us rfl (.const (.slice none 0 0)) (.tmp 95) rfl rfl w5 (.slice none 0 0) [] (l.take k) (l.take k) k rfl (World.ownsRow_nil _ _ _ _) ao3 k cap3 rfl d1.out h3.out HN3.out rfl d1.out (by omega) ((Below.refl _ w5).drew) ?_; intro ao6 cap6 w6 hown6 _ hb6; have HB6 := Lib.hid hb6; have HO6 := Lib.hid hown6; have HU46 := Lib.hid ((HU4.out.below (Nat.le_refl _) hb5).below (Nat.le_refl _) hb6); clear hb6 hown6)
        | (refine step_append_us rfl (.tmp 96) (.tmp 97) rfl rfl w5 _ (l.take k) (l.drop k) l m rfl HO6.out ao4 d cap4 rfl d2.out HU46.out HN4.out HLT.out HL.out (by omega) HB6.out ?_; intro ao7 cap7 w7 _ hu7 hb7; have HB7 := Lib.hid hb7; have HU7 := Lib.hid hu7; clear hb7 hu7)
        | (go_at_call 21; refine (nums_len ao7 ao m m cap7 cap l l true _ HL.out HL.out (by omega) (by omega) HU7.out (h0.out.below (Nat.le_refl _) HB7.out) (by simp)).mono ?_; rintro e w8 ⟨rfl, hb8⟩)
        | (go_at_call 14; (with_reducible refine (row_len ao k cap (l.take k) SA _ d1.out (by omega) (fun v h => HV.out v (List.mem_of_mem_take h)) (((h0.out.below (Nat.le_refl _) HB7.out).below (Nat.le_refl _) hb8).take k) HSA.out).mono ?_); rintro e w9 ⟨rfl, hb9⟩; dsimp only)
        | (go_at_call 14; (refine (row_len _ (m - k) _ (l.drop k) SB _ d3.out (by omega) (fun v h => HV.out v (List.mem_of_mem_drop h)) ((((h0.out.below (Nat.le_refl _) HB7.out).below (Nat.le_refl _) hb8).below (Nat.le_refl _) hb9).drop k cap (by have := HL.out; omega)) HSB.out).mono ?_); rintro e w10 ⟨rfl, hb10⟩; dsimp only)))
      have hfin := Lib.hid (bt (bt (bt (bt (bt (bt (bt hb hb3) hb4) hb5) HB7.out) hb8) hb9) hb10)
      go_wp2_with fail
      all_goals
        go_ret
        exact ⟨rfl, hfin.out⟩

theorem varintRow_walk (ao : Option Addr) (cap : Nat) (zs : List Nat) (c : Int) (w : World) (hv : ∀ v ∈ zs, v < 2 ^ 64) (hu : Us w ao zs) (hlc : zs.length ≤ cap) (hcap : cap ≤ 9223372036854775807) (hn0 : ao = none → cap = 0) (hc0 : -9223372036854775808 ≤ c) (hc1 : c ≤ 9223372036854775807) :
    Calls Try.prog 7 #[.slice ao zs.length cap, .int .i64 c] w fun e w' => e = .returned (.bool true) ∧ Below w.heap.size w w' := by
  obtain ⟨l, hl⟩ : ∃ l, l = zs.take 40 := ⟨_, rfl⟩
  have hll : l.length = min zs.length 40 := by rw [hl]; simp; omega
  have hlv : ∀ v ∈ l, v < 2 ^ 64 := fun v h => hv v (by rw [hl] at h; exact List.mem_of_mem_take h)
  have hpk := pk_bd c ((min zs.length 40 : Nat) + 1) (by omega)
  obtain ⟨k, hk⟩ : ∃ k : Nat, pk c ((min zs.length 40 : Nat) + 1) = (k : Int) := ⟨(pk c ((min zs.length 40 : Nat) + 1)).toNat, by omega⟩
  have hkm : k ≤ l.length := by omega
  have h1 := row_le l
  have h2 := row_le (l.take k)
  have h3 := row_le (l.drop k)
  simp only [List.length_take, List.length_drop] at h2 h3
  have h4 : row (l.take k) ++ row (l.drop k) = row l := by rw [← row_append, List.take_append_drop]
  have h5 := congrArg List.length h4
  rw [List.length_append] at h5
  refine row_in ao cap zs.length (min zs.length 40) k (row (l.take k)).length c l (str (row l)) w hc0 hc1 (by omega) (by omega) hll (by omega) hlc hcap hn0 hk (by omega) (by rw [str_size]; omega) hlv (by rw [hl]; exact hu.take 40) (Lib.hid rfl) (by rw [str_size]; omega)
    (str (row (l.take k))) (str (row (l.drop k))) (Lib.hid rfl) (Lib.hid rfl) (by rw [str_size]; omega) (by rw [str_size]; omega) (by rw [← h4]; simp [str]; rfl) ?_ (min zs.length 40 - k) (by omega) ?_ ?_
  · rw [str_list]; exact takeRow_head l k hkm hlv
  · rw [str_list, str_size, ← hll]; exact takeRow_mid l k hkm hlv
  · rw [str_list, ← hll]; exact takeRow_more l [] hlv
end Go.Proofs.Ytlljfgaaefofbaa.V
