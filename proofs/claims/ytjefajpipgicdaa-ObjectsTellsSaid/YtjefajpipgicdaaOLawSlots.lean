/-
  ObjectsSlots, walked under what is asked of the program's functions.
-/
import Derived.Test.YtjefajpipgicdaaOC
import Derived.Test.YtjefajpipgicdaaOLaws
set_option linter.unusedVariables false
namespace Go.Proofs.Ytjefajpipgicdaa.V
open Go.RowKit

theorem OwnU.some {w : World} {S : Nat} {v : Value} {l : List Nat} {n : Nat} (h : OwnU w S v l) (hn : l.length = n) (hp : 0 < n) : ∃ g cap, v = .slice (some ⟨g, 0, none⟩) n cap ∧ S ≤ g ∧ g < w.heap.size ∧ Us w (some ⟨g, 0, none⟩) l ∧ (∀ j, w.frozen? ⟨g, j, none⟩ = false) ∧ n ≤ cap ∧ cap ≤ 9223372036854775807 := by
  subst hn
  have h' := h
  obtain ⟨_, ⟨rfl, h0⟩ | ⟨g, cap, cur, rfl, h2, hg, h3, h4, _⟩⟩ := h
  · omega
  · obtain ⟨ao2, cap2, he, hu⟩ := OwnU.us h'
    simp only [Value.slice.injEq] at he
    obtain ⟨rfl, _, rfl⟩ := he
    exact ⟨g, cap, rfl, h2, (Array.getElem?_eq_some_iff.1 hg).1, hu, fun j => by simp [World.frozen?, hg], h3, by unfold maxLen at h4; omega⟩
theorem Us.set {w : World} {g : Nat} {l : List Nat} (h : Us w (Option.some ⟨g, 0, none⟩) l) (k x : Nat) (hk : k < l.length) : Us (w.setCell ⟨g, k, none⟩ (.int .u64 (x : Int))) (Option.some ⟨g, 0, none⟩) (l.set k x) := by
  intro j hj
  rw [List.length_set] at hj
  obtain ⟨b, off, he, hb, hc⟩ := h j hj
  cases he
  refine ⟨g, 0, rfl, by simpa [World.setCell] using hb, ?_⟩
  by_cases hjk : k = j
  · subst hjk
    rw [Nat.zero_add] at hc ⊢
    rw [set_at _ hc]
    simp [List.getD, hj]
  · rw [Nat.zero_add] at hc ⊢
    rw [set_no _ hjk hc]
    simp [List.getD, hj, hjk]

theorem itKinds_app (a b : List It) : itKinds (a ++ b) = itKinds a ++ itKinds b := by simp [itKinds]
theorem kind_at (a b : List It) (i : It) (m : Nat) (ha : ∀ j ∈ a, j.ok) (hi : i.ok) (hm : m ≤ i.s) : (itKinds (a ++ i :: b))[(itWords a).length + m]? = some (if m = 0 then 1 else if m ≤ i.p then 2 else 3) := by
  rw [itKinds_app, List.getElem?_append_right (by rw [itKinds_len a ha]; omega), itKinds_len a ha, show (itWords a).length + m - (itWords a).length = m by omega]
  simp only [itKinds, List.flatMap_cons, List.cons_append]
  by_cases h0 : m = 0
  · subst h0; simp
  · obtain ⟨q, rfl⟩ : ∃ q, m = q + 1 := ⟨m - 1, by omega⟩
    have hp := hi.2.1
    rw [List.getElem?_cons_succ, if_neg (by omega), List.append_assoc]
    by_cases h1 : q + 1 ≤ i.p
    · rw [if_pos h1, List.getElem?_append_left (by rw [List.length_replicate]; omega), List.getElem?_replicate, if_pos (by omega)]
    · rw [if_neg h1, List.getElem?_append_right (by rw [List.length_replicate]; omega), List.length_replicate, List.getElem?_append_left (by rw [List.length_replicate]; omega), List.getElem?_replicate, if_pos (by omega)]

theorem itWords_u64 {its : List It} (l : List RawV) {w : World} (hok : ∀ r ∈ l, r.ok w) (h : rawIts false (l.take 8) = its) : ∀ v ∈ itWords its, v < 2 ^ 64 := by
  subst h
  intro v hv
  obtain ⟨i, hi, hv⟩ := List.mem_flatMap.1 hv
  obtain ⟨y, hy, rfl⟩ := List.mem_map.1 hi
  have hyl : y.1 ∈ l := List.mem_of_mem_take (List.fst_mem_of_mem_zipIdx hy)
  have hr := hok _ hyl
  have hio := rawIt_ok false y.2 y.1
  simp only [It.words, List.mem_cons] at hv
  have hng : (rawIt false y.2 y.1).gone = false := by simp [rawIt]
  rcases hv with rfl | hv
  · rw [hng]
    have := hpack_lt (rawIt false y.2 y.1).s (rawIt false y.2 y.1).p hio.1 hio.2.1
    simp only [Bool.false_eq_true, if_false]
    omega
  · simp only [rawIt, Bool.false_and, Bool.false_eq_true, if_false, rawSlots, List.mem_map] at hv
    obtain ⟨j, _, rfl⟩ := hv
    exact slotW_lt _ _ _ hr.2.2.1
/-- What stands at a place of words of items, and what becomes of them if it is another word. -/
theorem place_set (l : List It) (h : ∀ i ∈ l, i.ok) (ho : ∀ i ∈ l, i.gone = false) (k x : Nat) (hk : k < (itWords l).length) :
    ((itKinds l)[k]? = some 1 ∧ (x % 2 = 1 → walkL ((itWords l).set k x) [] false = ([], 3))) ∨
    ((itKinds l)[k]? = some 2 ∧ walkL ((itWords l).set k x) [] false = if isPtr x = true then (itObs 0 l, 0) else ([], 3)) ∨
    ((itKinds l)[k]? = some 3 ∧ walkL ((itWords l).set k x) [] false = (itObs 0 l, 0)) := by
  rcases place l h k (by omega) with ⟨a, b, rfl, rfl⟩ | ⟨a, i, b, m, rfl, rfl, h1, h2⟩
  · cases b with
    | nil => simp at hk
    | cons i b =>
      refine Or.inl ⟨?_, fun hx => walk_head _ a b i x h ho rfl hx⟩
      have := kind_at a b i 0 (fun j hj => h j (by simp [hj])) (h i (by simp)) (by omega)
      simpa using this
  · have hkk := kind_at a b i m (fun j hj => h j (by simp [hj])) (h i (by simp)) h2
    have hw := walk_slot _ a b i m x h ho rfl h1 h2
    rw [if_neg (by omega)] at hkk
    by_cases hp : m ≤ i.p
    · rw [if_pos hp] at hkk
      refine Or.inr (Or.inl ⟨hkk, ?_⟩)
      rw [hw]
      by_cases hq : isPtr x = true
      · rw [if_pos (Or.inr hq), if_pos hq]
      · rw [if_neg (by rintro (hh | hh); omega; exact hq hh), if_neg hq]
    · rw [if_neg hp] at hkk
      refine Or.inr (Or.inr ⟨hkk, ?_⟩)
      rw [hw, if_pos (Or.inl (by omega))]

set_option maxRecDepth 100000 in
set_option maxHeartbeats 2000000 in
theorem objectsSlots_try (C : ObjC) (ao : Option Addr) (ca n : Nat) (l : List RawV) (c : Int) (x : Nat) (w : World) (hn : l.length = n) (hok : ∀ r ∈ l, r.ok w) (hR : Rw rc 4 w ao l) (b0 : -9223372036854775808 ≤ c) (b1 : c ≤ 9223372036854775807) (hx : x < 2 ^ 64) :
    Calls Try.prog 7 #[.slice ao n ca, .int .i64 c, .int .u64 x] w fun e w' => e = .returned (.bool true) ∧ Below w.heap.size w w' := by
  have IHw := Lib.hid (fun w' (hb : Below w.heap.size w w') => words_try ao ca n l false w' hn (fun r hr => (hok r hr).below (Nat.le_refl _) hb) (hR.below (Nat.le_refl _) hb))
  obtain ⟨its, hits⟩ : ∃ its, rawIts false (l.take 8) = its := ⟨_, rfl⟩
  have hio : ∀ i ∈ its, i.ok := hits ▸ rawIts_ok false _
  have hig : ∀ i ∈ its, i.gone = false := hits ▸ rawIts_none _
  have hil : its.length ≤ 8 := by rw [← hits, rawIts_len, List.length_take]; omega
  rw [hits] at IHw
  have hwl := itWords_lt its hio
  have hol := itObs_len its 0
  have hkl := itKinds_len its hio
  have hwk := walk_none its false hio hig
  have hkk := kinds_items its hio
  obtain ⟨m, hm⟩ : ∃ m, (itWords its).length = m := ⟨_, rfl⟩
  obtain ⟨q, hq⟩ : ∃ q, its.length = q := ⟨_, rfl⟩
  have hvl : ∀ v ∈ itWords its, v < 2 ^ 64 := itWords_u64 l hok hits
  have hps := fun k hk => place_set its hio hig k x hk
  rw [hm] at hwl hkl hkk hps
  rw [hq] at hil hol hwl
  have HPS := Lib.hid hps
  have HWK := Lib.hid hwk
  have HKK := Lib.hid hkk
  have HVL := Lib.hid hvl
  have HM := Lib.hid hm
  have HOL := Lib.hid hol
  have HKL := Lib.hid hkl
  clear hps hwk hkk hvl hm hol hkl hits hio hig hok hR hq hn
  generalize itWords its = WD at *
  generalize itObs 0 its = OB at *
  generalize itKinds its = KK at *
  have hm3 : m ≤ 2048 := by omega
  go_enter Try.func7, Try.ntmps7
  go_wp2_with fail
  refine (awake06 C _).mono ?_
  rintro e w1 ⟨rfl, hb1⟩
  go_wp2_with fail
  refine (IHw.out _ hb1).mono ?_
  rintro e w2 ⟨v1, v2, rfl, ho1, _, hb2⟩
  obtain ⟨a1, c1, rfl, hu1, hl1, hm1, hn1⟩ := OwnU.out ho1 HM.out
  have HU1 := Lib.hid hu1
  have HN1 := Lib.hid hn1
  have HB2 := Lib.hid (bt hb1 hb2)
  clear ho1 hu1 hn1 hb1 hb2 IHw
  go_wp2_with fail
  refine (C.walk a1 c1 m WD OB 0 _ HM.out (by omega) HVL.out HU1.out hl1 hm1 HN1.out HWK.out).mono ?_
  rintro e w3 ⟨v3, rfl, ho3, hb3⟩
  obtain ⟨a3, c3, rfl, hr3, hl3, hm3', hn3⟩ := OwnR.out oc_len ho3 HOL.out
  have HU3 := Lib.hid (HU1.out.below (Nat.le_refl _) hb3)
  have HR3 := Lib.hid hr3
  have HB3 := Lib.hid (bt HB2.out hb3)
  clear ho3 hr3 hn3 hb3 HB2 HU1
  go_wp2_with fail
  refine (C.kinds a1 a3 c1 c3 m q OB KK 0 _ HOL.out (by omega) (by omega) HR3.out HKK.out).mono ?_
  rintro e w4 ⟨v4, rfl, ho4, hb4⟩
  obtain ⟨a4, c4, rfl, hr4, hl4, hm4, hn4⟩ := OwnR.out ic_len ho4 HKL.out
  have HU4 := Lib.hid (HU3.out.below (Nat.le_refl _) hb4)
  have HR4 := Lib.hid (HR3.out.below (Nat.le_refl _) hb4)
  have HK4 := Lib.hid hr4
  have HB4 := Lib.hid (bt HB3.out hb4)
  clear ho4 hr4 hn4 hb4 HB3 HU3 HR3
  have dmm : ((m : Int) != (m : Int)) = false := by simp
  by_cases hm0 : m = 0
  · have d0 : ((m : Int) == 0) = true := by simp; omega
    clear hm0
    go_wp2_with fail
    go_ret
    exact ⟨rfl, HB4.out⟩
  · have d0 : ((m : Int) == 0) = false := by simp; omega
    obtain ⟨k, hk, hk2⟩ := pk_nat c (m : Int) (by omega)
    have HK := Lib.hid hk
    have hkm : k < m := by omega
    have hm1' : 0 < m := by omega
    clear hm0 hk hk2
    go_wp2_with fail
    refine (pick06_int c (m : Int) k _ b0 b1 (by omega) (by omega) HK.out).mono ?_
    rintro e w' ⟨rfl, rfl⟩
    go_wp2_with (at_builtin; refine wp_append_us _ (by rfl) (.const (.slice none 0 0)) (.tmp 57) rfl rfl w4.heap.size _ [] WD rfl ⟨rfl, Or.inl ⟨rfl, rfl⟩⟩ a1 m c1 rfl HM.out HU4.out HN1.out ?_ (Nat.le_refl _) ?_)
    · simp; omega
    · intro v5 w5 hown5 hgrow5
      have hb5 : Below w4.heap.size w4 w5 := (Below.refl _ w4).grown hgrow5 (Nat.le_refl _) (fun j hj => (World.ownsRow.lt (show OwnU w4 w4.heap.size (.slice none 0 0) [] from ⟨rfl, Or.inl ⟨rfl, rfl⟩⟩) j hj).1)
      obtain ⟨g, c5, rfl, hg1, hg2, hu5, hfz, hl5, hm5⟩ := OwnU.some (l := WD) (by simpa using hown5) HM.out hm1'
      obtain ⟨b9, off9, he9, hbb9, hcell⟩ := hu5 k (by have := HM.out; omega)
      cases he9
      rw [Nat.zero_add] at hcell
      have hfk := hfz k
      have HU6 := Lib.hid (hu5.set k x (by have := HM.out; omega))
      have hb6 : Below w4.heap.size w4 (w5.setCell ⟨g, k, none⟩ (.int .u64 (x : Int))) := hb5.setCell hg1 _
      have HR6 := Lib.hid (HR4.out.below (Nat.le_refl _) hb6)
      have HK6 := Lib.hid (HK4.out.below (Nat.le_refl _) hb6)
      have HB6 := Lib.hid (bt HB4.out hb6)
      clear hown5 hgrow5 hb5 hb6 hu5 hfz HU4 HR4 HK4 HB4 hbb9
      go_wp2_with fail
      obtain ⟨L6, E6, hLE⟩ : ∃ L6 E6, walkL (WD.set k x) [] false = (L6, E6) := ⟨_, _, rfl⟩
      have HLE := Lib.hid hLE
      have hps := HPS.out k hkm
      rw [hLE] at hps
      have HP := Lib.hid hps
      clear hLE hps HPS
      refine (C.walk _ c5 m (WD.set k x) L6 E6 _ (by rw [List.length_set]; exact HM.out) (by omega) (fun v hv => by rcases List.mem_or_eq_of_mem_set hv with h | h; exact HVL.out v h; rw [h]; exact hx) HU6.out hl5 hm5 (by intro h; cases h) HLE.out).mono ?_
      rintro e w7 ⟨v7, rfl, ho7, hb7⟩
      obtain ⟨a7, c7, rfl, hr7, hl7, hm7, hn7⟩ := OwnR.out oc_len ho7 rfl
      have HR7 := Lib.hid (HR6.out.below (Nat.le_refl _) hb7)
      have HK7 := Lib.hid (HK6.out.below (Nat.le_refl _) hb7)
      have HR8 := Lib.hid hr7
      have HB7 := Lib.hid (bt HB6.out hb7)
      clear ho7 hr7 hn7 hb7 HR6 HK6 HB6 HU6
      rcases HP.out with ⟨hk1, ho⟩ | ⟨hk1, ho⟩ | ⟨hk1, ho⟩
      · obtain ⟨b8, o8, rfl, hb8, hc8⟩ := in_cells HK7.out hk1
        by_cases hx2 : x % 2 = 0
        · have dx : (x : Int) % 2 = 0 := by omega
          clear hk1 ho hx2
          go_wp2_with fail
          go_ret
          exact ⟨rfl, HB7.out⟩
        · have dx : (x : Int) % 2 = 1 := by omega
          obtain ⟨rfl, rfl⟩ : L6 = [] ∧ E6 = 3 := by simpa using ho (by omega)
          clear hk1 ho hx2
          go_wp2_with fail
          go_ret
          exact ⟨rfl, HB7.out⟩
      · obtain ⟨b8, o8, rfl, hb8, hc8⟩ := in_cells HK7.out hk1
        by_cases hq2 : isPtr x = true
        · rw [if_pos hq2] at ho
          obtain ⟨rfl, rfl⟩ : OB = L6 ∧ 0 = E6 := by simpa [eq_comm] using ho
          have hq3 := (isPtr_iff x).1 hq2
          have HQ := Lib.hid hq2
          clear hk1 ho hq2
          by_cases hx0 : x = 0
          · have dx : ((x : Int) == 0) = true := by simp; omega
            clear hx0 hq3
            go_wp2_with fail
            refine (sameObs _ _ _ _ OB.length q OB OB _ rfl HOL.out (by have := HOL.out; omega) (by omega) HR8.out HR7.out).mono ?_
            rintro e w8 ⟨rfl, hb8⟩
            rw [show decide (OB = OB) = true from by simp]
            go_wp2_with fail
            go_ret
            exact ⟨rfl, bt HB7.out hb8⟩
          · have dx : ((x : Int) == 0) = false := by simp; omega
            have dx2 : (x : Int) % 2 = 1 := by omega
            have dx3 : ((x : Int) != 1) = true := by simp; omega
            clear hx0 hq3
            go_wp2_with fail
            refine (sameObs _ _ _ _ OB.length q OB OB _ rfl HOL.out (by have := HOL.out; omega) (by omega) HR8.out HR7.out).mono ?_
            rintro e w8 ⟨rfl, hb8⟩
            rw [show decide (OB = OB) = true from by simp]
            go_wp2_with fail
            go_ret
            exact ⟨rfl, bt HB7.out hb8⟩
        · rw [if_neg hq2] at ho
          obtain ⟨rfl, rfl⟩ : L6 = [] ∧ E6 = 3 := by simpa using ho
          have hq3 := fun h => hq2 ((isPtr_iff x).2 h)
          have dx : ((x : Int) == 0) = false := by simp; intro h; exact hq3 (Or.inl h)
          have hx0 : x ≠ 0 := fun h => hq3 (Or.inl h)
          by_cases hx1 : x = 1
          · have dx2 : (x : Int) % 2 = 1 := by omega
            have dx3 : ((x : Int) != 1) = false := by simp; omega
            clear hk1 ho hq2 hq3 hx0 hx1
            go_wp2_with fail
            go_ret
            exact ⟨rfl, HB7.out⟩
          · have dx2 : (x : Int) % 2 = 0 := by
              have : ¬ x % 2 = 1 := fun h => hq3 (Or.inr ⟨h, hx1⟩)
              omega
            clear hk1 ho hq2 hq3 hx0 hx1
            go_wp2_with fail
            go_ret
            exact ⟨rfl, HB7.out⟩
      · obtain ⟨b8, o8, rfl, hb8, hc8⟩ := in_cells HK7.out hk1
        obtain ⟨rfl, rfl⟩ : OB = L6 ∧ 0 = E6 := by simpa [eq_comm] using ho
        clear hk1 ho
        go_wp2_with fail
        refine (sameObs _ _ _ _ OB.length q OB OB _ rfl HOL.out (by have := HOL.out; omega) (by omega) HR8.out HR7.out).mono ?_
        rintro e w8 ⟨rfl, hb8⟩
        rw [show decide (OB = OB) = true from by simp]
        go_wp2_with fail
        go_ret
        exact ⟨rfl, bt HB7.out hb8⟩
end Go.Proofs.Ytjefajpipgicdaa.V
