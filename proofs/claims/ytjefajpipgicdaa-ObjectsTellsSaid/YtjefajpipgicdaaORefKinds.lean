/-
  The document's own Walk, WalkOld, Kinds, Lay, walked.
-/
import Derived.Test.YtjefajpipgicdaaORefWalk
import Derived.Test.YtjefajpipgicdaaAppend
set_option linter.unusedVariables false
namespace Go.Proofs.Ytjefajpipgicdaa.V
open Go.RowKit

theorem refWalkOld (ao bo : Option Addr) (ca cb m n : Nat) (ws : List Nat) (sh : List Shp) (L : List Ob) (E : Nat) (w : World) (hm : ws.length = m) (hn : sh.length = n) (hml : m ≤ 1000000000) (hnl : n ≤ 1000000000) (hv : ∀ v ∈ ws, v < 2 ^ 64) (hu : Us w ao ws) (hs : Rw sc 2 w bo sh)
    (hca : m ≤ ca) (hca2 : ca ≤ 9223372036854775807) (hL : walkL ws sh true = (L, E)) :
    Calls Try.prog 16 #[.slice ao m ca, .slice bo n cb] w fun e w' => ∃ v', e = .returned (.tuple #[v', .int .i64 E]) ∧ OwnR 53 oc 5 w' w.heap.size v' L ∧ Below w.heap.size w w' := by
  have IH := Lib.hid (refWalk_try ao bo ca cb m n ws sh true L E w hm hn hml hnl hv hu hs hca hca2 hL)
  clear hm hn hv hu hs hL
  go_enter Try.func16, Try.ntmps16
  go_wp2_with fail
  refine IH.out.mono ?_
  rintro e w1 ⟨v', rfl, ho, hb⟩
  have HO := Lib.hid ho
  clear ho
  go_wp2_with fail
  go_ret2
  exact ⟨_, rfl, HO.out, hb⟩
theorem refWalk (ao : Option Addr) (ca m : Nat) (ws : List Nat) (L : List Ob) (E : Nat) (w : World) (hm : ws.length = m) (hml : m ≤ 1000000000) (hv : ∀ v ∈ ws, v < 2 ^ 64) (hu : Us w ao ws)
    (hca : m ≤ ca) (hca2 : ca ≤ 9223372036854775807) (hL : walkL ws [] false = (L, E)) :
    Calls Try.prog 13 #[.slice ao m ca] w fun e w' => ∃ v', e = .returned (.tuple #[v', .int .i64 E]) ∧ OwnR 53 oc 5 w' w.heap.size v' L ∧ Below w.heap.size w w' := by
  have IH := Lib.hid (refWalk_try ao none ca 0 m 0 ws [] false L E w hm rfl hml (by omega) hv hu (Rw.nil _ _) hca hca2 hL)
  clear hm hv hu hL
  go_enter Try.func13, Try.ntmps13
  go_wp2_with fail
  refine IH.out.mono ?_
  rintro e w1 ⟨v', rfl, ho, hb⟩
  have HO := Lib.hid ho
  clear ho
  go_wp2_with fail
  go_ret2
  exact ⟨_, rfl, HO.out, hb⟩

def kd (p k : Nat) : List Int := List.replicate (min k p) 2 ++ List.replicate (k - p) 3
theorem kd_lt (p k : Nat) (h : k < p) : kd p (k + 1) = kd p k ++ [2] := by
  unfold kd
  rw [show min (k + 1) p = k + 1 by omega, show min k p = k by omega, show k + 1 - p = 0 by omega, show k - p = 0 by omega]
  simp [List.replicate_succ']
theorem kd_ge (p k : Nat) (h : ¬ k < p) : kd p (k + 1) = kd p k ++ [3] := by
  unfold kd
  rw [show min (k + 1) p = p by omega, show min k p = p by omega, show k + 1 - p = (k - p) + 1 by omega]
  simp [List.replicate_succ']
theorem kd_len (p k : Nat) : (kd p k).length = k := by simp [kd]; omega
theorem kd_all (s p : Nat) (h : p ≤ s) : kd p s = List.replicate p 2 ++ List.replicate (s - p) 3 := by unfold kd; rw [show min s p = p by omega]

/-- What is still to be told, given what was. -/
def KInv (R : Option (List Int)) (l : List Ob) (O : List Int) (i : Nat) : Prop := R = (kindsF O.length (l.drop i)).map (O ++ ·)
theorem KInv.start (l : List Ob) : KInv (kindsF 0 l) l [] 0 := by
  unfold KInv
  simp
theorem KInv.stop {R : Option (List Int)} {l : List Ob} {O : List Int} {i : Nat} (h : KInv R l O i) (hi : l.length ≤ i) : R = some O := by
  unfold KInv at h
  rw [List.drop_eq_nil_of_le hi] at h
  simpa [kindsF] using h
theorem KInv.no {R : Option (List Int)} {l : List Ob} {O : List Int} {i : Nat} {o : Ob} (h : KInv R l O i) (hi : l[i]? = some o) (hn : ¬ (hright o.size o.ptrs ∧ o.pos = O.length)) : R = none := by
  unfold KInv at h
  have hlt : i < l.length := (List.getElem?_eq_some_iff.1 hi).1
  have he : l[i] = o := (List.getElem?_eq_some_iff.1 hi).2
  rw [List.drop_eq_getElem_cons hlt, he, kindsF, if_neg hn] at h
  simpa using h
theorem KInv.yes {R : Option (List Int)} {l : List Ob} {O : List Int} {i s p : Nat} {o : Ob} (h : KInv R l O i) (hi : l[i]? = some o) (hs : o.size = (s : Int)) (hp : o.ptrs = (p : Int)) (hn : hright o.size o.ptrs ∧ o.pos = O.length) : KInv R l (O ++ (1 :: kd p s)) (i + 1) := by
  unfold KInv at h ⊢
  have hlt : i < l.length := (List.getElem?_eq_some_iff.1 hi).1
  have he : l[i] = o := (List.getElem?_eq_some_iff.1 hi).2
  have hle : p ≤ s := by have := hn.1.2.2.2; omega
  rw [List.drop_eq_getElem_cons hlt, he, kindsF, if_pos hn] at h
  rw [h, hs, hp, kd_all s p hle]
  have e : (O.length : Int) + 1 + (s : Int) = ((O ++ 1 :: (List.replicate p (2 : Int) ++ List.replicate (s - p) 3)).length : Nat) := by simp; omega
  rw [e]
  cases kindsF ((O ++ 1 :: (List.replicate p (2 : Int) ++ List.replicate (s - p) 3)).length : Nat) (l.drop (i + 1)) with
  | none => rfl
  | some k => simp

theorem wp_append_int (w : World) {ops : Array Oper} {rest : List Oper} {o : Oper} {a : Act} {Q : Exit → Act → World → Prop} (hgd : o.guard = none) (s x : Operand)
    (ho : o.op = .call { callee := .builtin .append, args := #[s, x], argTypes := #[40, 40] })
    (base : Nat) (v : Value) (l : List Int) (hs : a.eval s = v) (hown : OwnR 3 ic 1 w base v l) (g : Nat) (f : Int) (hx : a.eval x = .slice (some ⟨g, 0, none⟩) 1 1)
    (hcell : w.cell? ⟨g, 0, none⟩ = some (.int .i64 f)) (hl : l.length ≤ 1000000000) (hbase : base ≤ w.heap.size)
    (h : ∀ v' w', OwnR 3 ic 1 w' base v' (l ++ [f]) → w.grownBy w' v.ownBlock → wpList Try.prog ops Q rest (a.put o.dst v') w') : wpList Try.prog ops Q (o :: rest) a w := by
  refine wp_append_row 3 40 _ 8 info_in Try.underlying40 rfl (by decide) (by decide) ic_len ic_one w hgd s x ho base v l hs hown g f hx ?_ hl hbase h
  intro i u hi
  match i, hi with
  | 0, hi => simp [ic] at hi; subst hi; exact hcell
  | i + 1, hi => simp [ic] at hi

set_option maxRecDepth 100000 in
set_option maxHeartbeats 2000000 in
theorem refKinds (ao bo : Option Addr) (ca cb m n : Nat) (l : List Ob) (K : List Int) (E : Nat) (w : World) (hn : l.length = n) (hml : m ≤ 1000000000) (hnl : n ≤ 1000000) (hs : Rw oc 5 w bo l) (hL : kindsL m l = (K, E)) :
    Calls Try.prog 18 #[.slice ao m ca, .slice bo n cb] w fun e w' => ∃ v', e = .returned (.tuple #[v', .int .i64 E]) ∧ OwnR 3 ic 1 w' w.heap.size v' K ∧ Below w.heap.size w w' := by
  have HS := Lib.hid hs
  obtain ⟨R, hR⟩ : ∃ R, kindsF 0 l = R := ⟨_, rfl⟩
  have HL := Lib.hid hL
  have HI := Lib.hid (KInv.start l)
  have HRR := Lib.hid hR
  have HN := Lib.hid hn
  rw [hR] at HI
  clear hs hL hn hR
  go_enter Try.func18, Try.ntmps18
  go_wp2_with fail
  go_loopw [6, 7] (fun vo i wr => ∃ (O : List Int) (k : Nat), i = .int .i64 k ∧ k ≤ n ∧ O.length ≤ 256 * k ∧ Hid (OwnR 3 ic 1 wr w.heap.size vo O) ∧ Hid (KInv R l O k) ∧ Below w.heap.size w wr) (fun _ i _ => n - (intOf i).toNat)
  case atStart => exact ⟨[], 0, rfl, by omega, by simp, Lib.hid (OwnR.nil _ _ _), HI, Below.refl _ _⟩
  case round =>
    obtain ⟨O, k, rfl, hk, hO, HO, HK, hbel⟩ := hrel
    by_cases hkn : k < n
    · have hkl : k < l.length := by have := HN.out; omega
      obtain ⟨o, ho⟩ : ∃ o, l[k]? = some o := ⟨_, List.getElem?_eq_getElem hkl⟩
      have HOB := Lib.hid ho
      obtain ⟨b, off, rfl, hbb, c0, c1, c2, c3, c4⟩ := ob_cells HS.out ho
      clear c3 c4 ho hkl
      have hc0 := cell_step hbel hbb c0
      obtain ⟨ao0, cap0, rfl, _, hlc, hcc, _⟩ := OwnR.rw' ic_len HO.out
      by_cases hri : hright o.size o.ptrs
      · by_cases hpos : o.pos = (O.length : Int)
        · obtain ⟨s, hs⟩ := Int.eq_ofNat_of_zero_le hri.1
          obtain ⟨p, hp⟩ := Int.eq_ofNat_of_zero_le hri.2.2.1
          have HK2 := Lib.hid (HK.out.yes HOB.out hs hp ⟨hri, hpos⟩)
          have hs255 : s ≤ 255 := by have := hri.2.1; omega
          have HRI := Lib.hid hri
          rw [hs, hp] at HRI
          rw [hs] at c1
          rw [hp] at c2
          have hc1 := cell_step hbel hbb c1
          have hc2 := cell_step hbel hbb c2
          have dp : ((o.pos : Int) != (O.length : Int)) = false := by simp [hpos]
          have HPOS := Lib.hid hpos
          clear hri hpos hs hp
          go_wp2_with fail
          refine (rightYes (s : Int) (p : Int) _ HRI.out).mono ?_
          rintro e w2 ⟨rfl, hb2⟩
          have hd0 := cell_step (bt hbel hb2) hbb c0
          have HB2 := Lib.hid (ba (bt hbel hb2) (.cells #[.int .i64 1] 3))
          have HO2 := Lib.hid ((HO.out.later hb2).alloc (.cells #[.int .i64 1] 3))
          have hsz := HB2.out.size
          clear hb2 hbel hc0 hc1 hc2
          go_wp2_with (at_builtin; refine wp_append_int _ rfl (.tmp 34) (.tmp 35) rfl w.heap.size _ O rfl HO2.out w2.heap.size 1 rfl ?_ ?_ ?_ ?_)
          · simp
          · omega
          · exact hsz
          · intro v3 w3 hown3 hgrow3
            have HB3 := Lib.hid (OwnR.below HO2.out HB2.out (Nat.le_refl _) hgrow3)
            have HO3 := Lib.hid hown3
            clear hgrow3 hown3 HO2 HB2 hsz hd0
            go_wp2_with fail
            go_loopw [6, 9] (fun vo j wr => ∃ q : Nat, j = .int .i64 q ∧ q ≤ s ∧ Hid (OwnR 3 ic 1 wr w.heap.size vo (O ++ 1 :: kd p q)) ∧ Below w.heap.size w wr) (fun _ j _ => s - (intOf j).toNat)
            case atStart => exact ⟨0, rfl, by omega, Lib.hid (by simpa [kd] using HO3.out), HB3.out⟩
            case round =>
              obtain ⟨q, rfl, hq, HO4, hbel4⟩ := hrel
              have hc1 := cell_step hbel4 hbb c1
              have hc2 := cell_step hbel4 hbb c2
              by_cases hqs : q < s
              · have d1 : decide (q < s) = true := by simp; omega
                by_cases hqp : q < p
                · have d2 : decide (q < p) = true := by simp; omega
                  have HB5 := Lib.hid (ba hbel4 (.cells #[.int .i64 2] 3))
                  have HO5 := Lib.hid (HO4.out.alloc (.cells #[.int .i64 2] 3))
                  have HQ := Lib.hid hqp
                  have hsz := HB5.out.size
                  clear hqp
                  go_wp2_with (at_builtin; refine wp_append_int _ rfl (.tmp 55) (.tmp 56) rfl w.heap.size _ (O ++ 1 :: kd p q) rfl HO5.out wr.heap.size 2 rfl ?_ ?_ ?_ ?_)
                  · simp
                  · rw [List.length_append, List.length_cons, kd_len]; omega
                  · exact hsz
                  · intro v6 w6 hown6 hgrow6
                    have HB6 := Lib.hid (OwnR.below HO5.out HB5.out (Nat.le_refl _) hgrow6)
                    have HO6 : Hid (OwnR 3 ic 1 w6 w.heap.size v6 (O ++ 1 :: kd p (q + 1))) := Lib.hid (by rw [kd_lt p q HQ.out]; simpa using hown6)
                    clear hgrow6 hown6 HO5 HB5 hsz hc1 hc2 hbel4
                    go_wp2_with fail
                    go_roundw
                    case rel => exact ⟨q + 1, by go_num, by omega, HO6, HB6.out⟩
                    case measure => simp [intOf]; omega
                · have d2 : decide (q < p) = false := by simp; omega
                  have HB5 := Lib.hid (ba hbel4 (.cells #[.int .i64 3] 3))
                  have HO5 := Lib.hid (HO4.out.alloc (.cells #[.int .i64 3] 3))
                  have HQ := Lib.hid hqp
                  have hsz := HB5.out.size
                  clear hqp
                  go_wp2_with (at_builtin; refine wp_append_int _ rfl (.tmp 58) (.tmp 59) rfl w.heap.size _ (O ++ 1 :: kd p q) rfl HO5.out wr.heap.size 3 rfl ?_ ?_ ?_ ?_)
                  · simp
                  · rw [List.length_append, List.length_cons, kd_len]; omega
                  · exact hsz
                  · intro v6 w6 hown6 hgrow6
                    have HB6 := Lib.hid (OwnR.below HO5.out HB5.out (Nat.le_refl _) hgrow6)
                    have HO6 : Hid (OwnR 3 ic 1 w6 w.heap.size v6 (O ++ 1 :: kd p (q + 1))) := Lib.hid (by rw [kd_ge p q HQ.out]; simpa using hown6)
                    clear hgrow6 hown6 HO5 HB5 hsz hc1 hc2 hbel4
                    go_wp2_with fail
                    go_roundw
                    case rel => exact ⟨q + 1, by go_num, by omega, HO6, HB6.out⟩
                    case measure => simp [intOf]; omega
              · have d1 : decide (q < s) = false := by simp; omega
                obtain rfl : q = s := by omega
                go_wp2_with fail
                go_roundw
                case rel => exact ⟨O ++ 1 :: kd p q, k + 1, by go_num, by omega, by rw [List.length_append, List.length_cons, kd_len]; omega, HO4, HK2, hbel4⟩
                case measure => simp [intOf]; omega
        · have dp : ((o.pos : Int) != (O.length : Int)) = true := by simp; omega
          have hno := HK.out.no HOB.out (fun h => hpos h.2)
          obtain ⟨rfl, rfl⟩ : K = [] ∧ E = 1 := by
            have h1 := HL.out
            have h2 := HRR.out
            simp only [kindsL, h2, hno] at h1
            simpa [eq_comm] using h1
          have HRI := Lib.hid hri
          have hc1 := cell_step hbel hbb c1
          have hc2 := cell_step hbel hbb c2
          clear hri hpos hno
          go_wp2_with fail
          refine (rightYes o.size o.ptrs _ HRI.out).mono ?_
          rintro e w2 ⟨rfl, hb2⟩
          have hd0 := cell_step (bt hbel hb2) hbb c0
          go_wp2_with fail
          go_ret2
          exact ⟨_, rfl, OwnR.nil _ _ _, bt hbel hb2⟩
      · have hno := HK.out.no HOB.out (fun h => hri h.1)
        obtain ⟨rfl, rfl⟩ : K = [] ∧ E = 1 := by
          have h1 := HL.out
          have h2 := HRR.out
          simp only [kindsL, h2, hno] at h1
          simpa [eq_comm] using h1
        have HRI := Lib.hid hri
        have hc1 := cell_step hbel hbb c1
        have hc2 := cell_step hbel hbb c2
        clear hri hno
        go_wp2_with fail
        refine (rightNo o.size o.ptrs _ HRI.out).mono ?_
        rintro e w2 ⟨rfl, hb2⟩
        go_wp2_with fail
        go_ret2
        exact ⟨_, rfl, OwnR.nil _ _ _, bt hbel hb2⟩
    · have hst := HK.out.stop (by have := HN.out; omega)
      obtain ⟨ao0, cap0, rfl, _, hlc, hcc, _⟩ := OwnR.rw' ic_len HO.out
      have h1 := HL.out
      simp only [kindsL, HRR.out, hst] at h1
      have dk : decide (k < n) = false := by simp; omega
      by_cases hlen : O.length = m
      · rw [if_pos hlen] at h1
        obtain ⟨rfl, rfl⟩ : O = K ∧ 0 = E := by simpa using h1
        have dl : ((O.length : Int) != (m : Int)) = false := by simp; omega
        clear hlen h1 hst
        go_wp2_with fail
        go_ret2
        exact ⟨_, rfl, HO.out, hbel⟩
      · rw [if_neg hlen] at h1
        obtain ⟨rfl, rfl⟩ : [] = K ∧ 1 = E := by simpa using h1
        have dl : ((O.length : Int) != (m : Int)) = true := by simp; omega
        clear hlen h1 hst
        go_wp2_with fail
        go_ret2
        exact ⟨_, rfl, OwnR.nil _ _ _, hbel⟩
end Go.Proofs.Ytjefajpipgicdaa.V
