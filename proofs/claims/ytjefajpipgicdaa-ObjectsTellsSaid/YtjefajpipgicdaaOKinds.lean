/-
  The program's Kinds, walked.
-/
import Derived.Test.YtjefajpipgicdaaORepeat
import Derived.Test.YtjefajpipgicdaaORefKinds
set_option linter.unusedVariables false
namespace Go.Proofs.Ytjefajpipgicdaa.V
open Go.RowKit

theorem typed_set {w : World} {g j : Nat} {cs : Array Value} {t : TypeId} (v : Value) (h : w.heap[g]? = some (.cells cs t (0, 0))) : ∃ cs', (w.setCell ⟨g, j, none⟩ v).heap[g]? = some (.cells cs' t (0, 0)) := by
  rw [setCell_eq_setRow w g j cs t (0, 0) v h]
  exact ⟨_, setRow_heap w g cs _ t _ h⟩
theorem wp_store_obT {ops : Array Oper} {rest : List Oper} {op : Oper} {a : Act} {w : World} {Q : Exit → Act → World → Prop} (hgd : op.guard = none) (x y : Operand) (ho : op.op = .store 53 x y)
    (g : Nat) (o : Ob) (hx : a.eval x = .pointer (some ⟨g, 0, none⟩)) (hy : a.eval y = obv o)
    (hc : ∀ j, j < 5 → (w.cell? ⟨g, j, none⟩).isSome = true) (hf : ∀ j, w.frozen? ⟨g, j, none⟩ = false) (cs : Array Value) (t : TypeId) (hT : w.heap[g]? = some (.cells cs t (0, 0)))
    (h : ∀ w2, w2.cell? ⟨g, 0, none⟩ = some (.int .i64 o.pos) → w2.cell? ⟨g, 1, none⟩ = some (.int .i64 o.size) → w2.cell? ⟨g, 2, none⟩ = some (.int .i64 o.ptrs) → (∃ cs', w2.heap[g]? = some (.cells cs' t (0, 0))) → (∀ S v, S ≤ g → Below S v w → Below S v w2) → wpList Try.prog ops Q rest (a.put op.dst undef) w2) : wpList Try.prog ops Q (op :: rest) a w := by
  have ht : w.there g 0 5 := fun j hj => by rw [Nat.zero_add]; exact ⟨hc j hj, hf j⟩
  refine wpList_store_mid hgd 53 x y ho g 0 #[.int .i64 o.pos, .int .i64 o.size, .int .i64 o.ptrs, .bool o.gone, .int .u64 (o.tgt : Int)] hx hy ht (by kernel_rfl) (by simp [Value.oneCell']) ?_
  have hr := World.rangeAt_setCells_same w g 0 [.int .i64 o.pos, .int .i64 o.size, .int .i64 o.ptrs, .bool o.gone, .int .u64 (o.tgt : Int)] ht
  refine h _ (by simpa using hr 0 _ rfl) (by simpa using hr 1 _ rfl) (by simpa using hr 2 _ rfl) ?_ ?_
  · obtain ⟨_, h1⟩ := typed_set (j := 0) (.int .i64 o.pos) hT
    obtain ⟨_, h2⟩ := typed_set (j := 1) (.int .i64 o.size) h1
    obtain ⟨_, h3⟩ := typed_set (j := 2) (.int .i64 o.ptrs) h2
    obtain ⟨_, h4⟩ := typed_set (j := 3) (.bool o.gone) h3
    exact typed_set (j := 4) (.int .u64 (o.tgt : Int)) h4
  · intro S v hS hb
    exact ((((hb.setCell hS _).setCell hS _).setCell hS _).setCell hS _).setCell hS _
theorem wp_make_ints (w : World) {ops : Array Oper} {rest : List Oper} {o : Oper} {a : Act} {Q : Exit → Act → World → Prop} (hg : o.guard = none) (l c : Operand)
    (hop : o.op = Op.makeSlice 40 l c) (n : Nat) (hl : a.eval l = .int .i64 0) (hc : a.eval c = .int .i64 (n : Int)) (b2 : n ≤ 1000000000)
    (hK : ∀ v w', OwnR 3 ic 1 w' w.heap.size v [] → w.grownBy w' none → wpList Try.prog ops Q rest (a.put o.dst v) w') : wpList Try.prog ops Q (o :: rest) a w := by
  obtain ⟨i0, hi, hz0, hz1, hz2⟩ := info_parts info_in
  exact wpList_make_own w hg l c 40 hop w.heap.size 3 i0 (.int .i64 0) 1 Try.underlying40 hi hz0 hz1 .i64 .i64 (n : Int) n hl hc rfl (by rw [hz2]; omega) (by unfold maxLen; omega) (Nat.le_refl _) (fun w' h1 h2 => hK _ w' h1 h2)
theorem KInv.long {l : List Ob} {O : List Int} {i m : Nat} {K : List Int} {E : Nat} (h : KInv (kindsF 0 l) l O i) (hm : m < O.length) (hk : kindsL m l = (K, E)) : K = [] ∧ E = 1 := by
  unfold KInv at h
  unfold kindsL at hk
  cases hr : kindsF 0 l with
  | none => rw [hr] at hk; simp only [Prod.mk.injEq] at hk; exact ⟨hk.1.symm, hk.2.symm⟩
  | some k =>
    rw [hr] at hk h
    have hlen : O.length ≤ k.length := by
      cases hd : kindsF (O.length : Int) (l.drop i) with
      | none => rw [hd] at h; cases h
      | some k2 => rw [hd] at h; simp at h; rw [h]; simp
    simp only [if_neg (show ¬ k.length = m by omega), Prod.mk.injEq] at hk
    exact ⟨hk.1.symm, hk.2.symm⟩
theorem KInv.none' {l : List Ob} {m : Nat} {K : List Int} {E : Nat} (h : kindsF 0 l = none) (hk : kindsL m l = (K, E)) : K = [] ∧ E = 1 := by
  unfold kindsL at hk
  rw [h] at hk
  simp only [Prod.mk.injEq] at hk
  exact ⟨hk.1.symm, hk.2.symm⟩
theorem KInv.done {l : List Ob} {O : List Int} {i m : Nat} {K : List Int} {E : Nat} (h : KInv (kindsF 0 l) l O i) (hi : l.length ≤ i) (hk : kindsL m l = (K, E)) : if O.length = m then K = O ∧ E = 0 else K = [] ∧ E = 1 := by
  have hs := h.stop hi
  unfold kindsL at hk
  rw [hs] at hk
  by_cases hm : O.length = m
  · rw [if_pos hm]
    simp only [if_pos hm, Prod.mk.injEq] at hk
    exact ⟨hk.1.symm, hk.2.symm⟩
  · rw [if_neg hm]
    simp only [if_neg hm, Prod.mk.injEq] at hk
    exact ⟨hk.1.symm, hk.2.symm⟩

theorem rw_rep {W : World} {g c : Nat} {k : Int} (hg : W.heap[g]? = some (.cells (repA c c k) 3 (0, 0))) : Rw ic 1 W (some ⟨g, 0, none⟩) (List.replicate c k) := by
  intro j x hj
  obtain ⟨h1, h2⟩ := List.getElem?_eq_some_iff.1 hj
  simp at h1 h2
  subst h2
  refine ⟨g, 0, rfl, (Array.getElem?_eq_some_iff.1 hg).1, fun i v hi => ?_⟩
  match i, hi with
  | 0, hi => simp [ic] at hi; subst hi; rw [show (0 : Nat) + (j * 1 + 0) = j by omega]; exact repA_cell hg j h1
  | i + 1, hi => simp [ic] at hi
theorem keepT {W W' : World} {S : Nat} {v : Value} {O : List Int} {g : Nat} {cs : Array Value} (hg : W.grownBy W' v.ownBlock) (hown : OwnR 3 ic 1 W S v O) (hT : W.heap[g]? = some (.cells cs 53 (0, 0))) : W'.heap[g]? = W.heap[g]? :=
  hg.block g (Array.getElem?_eq_some_iff.1 hT).1 (fun h => by obtain ⟨cs', hc⟩ := hown.block h; rw [hT] at hc; simp at hc)

set_option maxRecDepth 100000 in
set_option maxHeartbeats 1000000 in
theorem kindsC : KindsC 17 := by
  intro ao bo ca cb m n l K E w hn hml hnl hR hk
  have HR := Lib.hid hR
  have HN := Lib.hid hn
  have HKL := Lib.hid hk
  have HK0 := Lib.hid (KInv.start l)
  clear hR hn hk
  go_enter Try.func17, Try.ntmps17
  go_wp2_with (refine wp_make_ints w rfl (.const (.int .i64 0)) (.tmp 11) rfl m rfl rfl (by omega) ?_; intro v1 w1 hown1 hgrow1)
  have HO1 := Lib.hid hown1
  have HB1 : Hid (Below w.heap.size w w1) := Lib.hid ((Below.refl w.heap.size w).grown hgrow1 (Nat.le_refl _) (fun k h => by cases h))
  clear hown1 hgrow1
  go_wp2_with fail
  go_loopw [6, 15] (fun kv i wr => ∃ (t : Nat) (O : List Int), i = .int .i64 t ∧ t ≤ n ∧ O.length ≤ m ∧ Hid (OwnR 3 ic 1 wr w.heap.size kv O) ∧ Hid (Below w.heap.size w wr) ∧ Hid (KInv (kindsF 0 l) l O t)) (fun _ i _ => n - (intOf i).toNat)
  case atStart => exact ⟨0, [], rfl, by omega, by simp, HO1, HB1, HK0⟩
  case round =>
    obtain ⟨t, O, rfl, ht, hO, HO, HB, HK⟩ := hrel
    obtain ⟨av, cv, rfl, _, hlc, hcc, _⟩ := OwnR.rw' ic_len HO.out
    by_cases htn : t < n
    · have htl : t < l.length := by have := HN.out; omega
      obtain ⟨o, ho⟩ : ∃ o, l[t]? = some o := ⟨_, List.getElem?_eq_getElem htl⟩
      obtain ⟨b, off, rfl, hbb, z0, z1, z2, z3, z4⟩ := ob_cells (HR.out.below (Nat.le_refl _) HB.out) ho
      have HOB := Lib.hid ho
      clear ho htl
      by_cases hpos : o.pos = (O.length : Int)
      · have dp : (o.pos != (O.length : Int)) = false := by simp [hpos]
        by_cases hri : hright o.size o.ptrs
        · obtain ⟨s, hs⟩ := Int.eq_ofNat_of_zero_le hri.1
          obtain ⟨p, hp⟩ := Int.eq_ofNat_of_zero_le hri.2.2.1
          have HK2 := Lib.hid (HK.out.yes HOB.out hs hp ⟨hri, hpos⟩)
          have hs255 : s ≤ 255 := by have := hri.2.1; omega
          have hps : p ≤ s := by have := hri.2.2.2; omega
          have HRI := Lib.hid hri
          have HSP := Lib.hid (And.intro hs hp)
          have hkl : (O ++ (1 :: kd p s)).length = O.length + 1 + s := by rw [List.length_append, List.length_cons, kd_len]; omega
          have HKLN := Lib.hid hkl
          clear hri hpos hs hp hkl
          by_cases hlong : O.length + 1 + s ≤ m
          · have dg : decide ((m : Int) < (O.length : Int) + 1 + s) = false := by simp; omega
            go_wp2_with (first | (refine wp_load_ob rfl (.tmp 17) rfl b (off + t * 5) rfl o z0 z1 z2 z3 z4 ?_; unfold obv) | (refine wp_store_obT rfl (.tmp 8) (.tmp 18) rfl wr.heap.size o rfl rfl (ob_new wr).1 (ob_new wr).2 _ _ (heap_alloc_new wr _) ?_; intro w2 q0 q1 q2 qT q6; have HB2 := Lib.hid (q6 _ _ (Nat.le_refl _) (ba0 wr _)); clear q6))
            have hlt2 : wr.heap.size < w2.heap.size := by obtain ⟨_, h9⟩ := qT; exact (Array.getElem?_eq_some_iff.1 h9).1
            refine (hRightYes o.size o.ptrs _ HRI.out).mono ?_
            rintro e w3 ⟨rfl, hb3⟩
            have c1 : w3.cell? ⟨wr.heap.size, 1, none⟩ = some (.int .i64 s) := by rw [cell_step hb3 hlt2 q1, HSP.out.1]
            have c2 : w3.cell? ⟨wr.heap.size, 2, none⟩ = some (.int .i64 p) := by rw [cell_step hb3 hlt2 q2, HSP.out.2]
            obtain ⟨cs, hT⟩ := qT
            have HT3 := Lib.hid ((hb3.block _ hlt2).trans hT)
            have HB3 := Lib.hid (HB.out.trans ((bt HB2.out hb3).mono HB.out.size))
            have HO3 := Lib.hid (HO.out.later (bt HB2.out hb3))
            have HOA := Lib.hid (HO3.out.alloc (.cells #[.int .i64 1] 3))
            have HBA := Lib.hid (ba HB3.out (.cells #[.int .i64 1] 3))
            have HTA := Lib.hid ((Below.heap_alloc w3 (.cells #[.int .i64 1] 3) _ (heap_lt HT3.out)).trans HT3.out)
            clear hb3 q0 q1 q2 hT hlt2
            go_wp2_with (at_builtin; refine wp_append_int _ rfl (.tmp 42) (.tmp 43) rfl w.heap.size _ O rfl HOA.out w3.heap.size 1 rfl ?_ ?_ ?_ ?_)
            · exact alloc_at _ _ rfl rfl
            · omega
            · exact HBA.out.size
            · intro v4 w4 hown4 hgrow4
              have hk4 := keepT hgrow4 HOA.out HTA.out
              have hka := Below.heap_alloc w3 (.cells #[.int .i64 1] 3) _ (heap_lt HT3.out)
              have d1 : w4.cell? ⟨wr.heap.size, 1, none⟩ = some (.int .i64 s) := (World.cell?_of_block (a := ⟨wr.heap.size, 1, none⟩) (hk4.trans hka)).trans c1
              have d2 : w4.cell? ⟨wr.heap.size, 2, none⟩ = some (.int .i64 p) := (World.cell?_of_block (a := ⟨wr.heap.size, 2, none⟩) (hk4.trans hka)).trans c2
              have HT4 := Lib.hid (hk4.trans HTA.out)
              have HB4 := Lib.hid (OwnR.below HOA.out HBA.out (Nat.le_refl _) hgrow4)
              have HO4 := Lib.hid hown4
              clear c1 c2 hk4 hka hown4 hgrow4 HOA HBA HTA
              have e2 := cell_step (ba0 w4 (.cells #[.int .i64 2] 3)) (heap_lt HT4.out) d2
              go_wp2_with fail
              refine (oRepeat w4.heap.size p 2 _ (by omega) (by simp) (by simp)).mono ?_
              rintro e w5 ⟨g5, rfl, _, hrow, hb5⟩
              have hb5' := bt (ba0 w4 (.cells #[.int .i64 2] 3)) hb5
              have c1 := cell_step hb5' (heap_lt HT4.out) d1
              have c2 := cell_step hb5' (heap_lt HT4.out) d2
              have HT5 := Lib.hid ((hb5'.block _ (heap_lt HT4.out)).trans HT4.out)
              have HB5 := Lib.hid (HB4.out.trans (hb5'.mono HB4.out.size))
              have HO5 := Lib.hid (HO4.out.later hb5')
              have HR5 := Lib.hid (rw_rep hrow)
              clear d1 d2 e2 hb5 hb5' hrow
              go_wp2_with (at_builtin; refine wp_append_rows 3 40 _ 8 info_in Try.underlying40 rfl (by decide) (by decide) ic_len ic_one _ (by rfl) (.tmp 45) (.tmp 50) rfl rfl w.heap.size _ (O ++ [1]) (List.replicate p 2) rfl HO5.out (some ⟨g5, 0, none⟩) p p rfl (by simp) HR5.out (by intro h; cases h) ?_ ?_ ?_)
              · simp; omega
              · exact HB5.out.size
              · intro v6 w6 hown6 hgrow6
                have hk6 := keepT hgrow6 HO5.out HT5.out
                have d1 := (World.cell?_of_block (a := ⟨wr.heap.size, 1, none⟩) hk6).trans c1
                have d2 := (World.cell?_of_block (a := ⟨wr.heap.size, 2, none⟩) hk6).trans c2
                have HT6 := Lib.hid (hk6.trans HT5.out)
                have HB6 := Lib.hid (OwnR.below HO5.out HB5.out (Nat.le_refl _) hgrow6)
                have HO6 := Lib.hid hown6
                clear c1 c2 hk6 hown6 hgrow6
                have e1 := cell_step (ba0 w6 (.cells #[.int .i64 3] 3)) (heap_lt HT6.out) d1
                have e2 := cell_step (ba0 w6 (.cells #[.int .i64 3] 3)) (heap_lt HT6.out) d2
                have hsub : (s : Int) - p = ((s - p : Nat) : Int) := by omega
                go_wp2_with fail
                refine (oRepeat w6.heap.size (s - p) 3 _ (by omega) (by simp) (by simp)).mono ?_
                rintro e w7 ⟨g7, rfl, _, hrow, hb7⟩
                have hb7' := bt (ba0 w6 (.cells #[.int .i64 3] 3)) hb7
                have HB7 := Lib.hid (HB6.out.trans (hb7'.mono HB6.out.size))
                have HO7 := Lib.hid (HO6.out.later hb7')
                have HR7 := Lib.hid (rw_rep hrow)
                clear d1 d2 e1 e2 hb7 hb7' hrow
                go_wp2_with (at_builtin; refine wp_append_rows 3 40 _ 8 info_in Try.underlying40 rfl (by decide) (by decide) ic_len ic_one _ (by rfl) (.tmp 52) (.tmp 61) rfl rfl w.heap.size _ (O ++ 1 :: List.replicate p 2) (List.replicate (s - p) 3) rfl HO7.out (some ⟨g7, 0, none⟩) (s - p) (s - p) rfl (by simp) HR7.out (by intro h; cases h) ?_ ?_ ?_)
                · simp; omega
                · exact HB7.out.size
                · intro v8 w8 hown8 hgrow8
                  have HB8 := Lib.hid (OwnR.below HO7.out HB7.out (Nat.le_refl _) hgrow8)
                  rw [← kd_all s p hps] at hown8
                  have HO8 := Lib.hid hown8
                  clear hown8 hgrow8
                  go_wp2_with fail
                  go_roundw
                  case rel => exact ⟨t + 1, O ++ (1 :: kd p s), by go_num, by omega, by rw [HKLN.out]; exact hlong, HO8, HB8, HK2⟩
                  case measure => simp [intOf]; omega
          · have HF := Lib.hid (HK2.out.long (by rw [HKLN.out]; omega) HKL.out)
            have dg : decide ((m : Int) < (O.length : Int) + 1 + s) = true := by simp; omega
            go_wp2_with (first | (refine wp_load_ob rfl (.tmp 17) rfl b (off + t * 5) rfl o z0 z1 z2 z3 z4 ?_; unfold obv) | (refine wp_store_obT rfl (.tmp 8) (.tmp 18) rfl wr.heap.size o rfl rfl (ob_new wr).1 (ob_new wr).2 _ _ (heap_alloc_new wr _) ?_; intro w2 q0 q1 q2 qT q6; have HB2 := Lib.hid (q6 _ _ (Nat.le_refl _) (ba0 wr _)); clear q6))
            have HT2 := Lib.hid qT
            have hlt2 : wr.heap.size < w2.heap.size := by obtain ⟨_, h9⟩ := qT; exact (Array.getElem?_eq_some_iff.1 h9).1
            refine (hRightYes o.size o.ptrs _ HRI.out).mono ?_
            rintro e w3 ⟨rfl, hb3⟩
            have c1 : w3.cell? ⟨wr.heap.size, 1, none⟩ = some (.int .i64 s) := by rw [cell_step hb3 hlt2 q1, HSP.out.1]
            have HB3 := Lib.hid (bt HB2.out hb3)
            clear hb3 q0 q1 q2 qT hlt2
            go_wp2_with fail
            go_ret2
            exact ⟨_, by rw [HF.out.2]; rfl, by rw [HF.out.1]; exact OwnR.nil _ _ _, HB.out.trans (HB3.out.mono HB.out.size)⟩
        · have HF := Lib.hid (KInv.none' (HK.out.no HOB.out (fun h => hri h.1)) HKL.out)
          have HRI := Lib.hid hri
          clear hri hpos
          go_wp2_with (first | (refine wp_load_ob rfl (.tmp 17) rfl b (off + t * 5) rfl o z0 z1 z2 z3 z4 ?_; unfold obv) | (refine wp_store_obT rfl (.tmp 8) (.tmp 18) rfl wr.heap.size o rfl rfl (ob_new wr).1 (ob_new wr).2 _ _ (heap_alloc_new wr _) ?_; intro w2 q0 q1 q2 qT q6; have HB2 := Lib.hid (q6 _ _ (Nat.le_refl _) (ba0 wr _)); clear q6))
          refine (hRightNo o.size o.ptrs _ HRI.out).mono ?_
          rintro e w3 ⟨rfl, hb3⟩
          have HB3 := Lib.hid (bt HB2.out hb3)
          clear hb3
          go_wp2_with fail
          go_ret2
          exact ⟨_, by rw [HF.out.2]; rfl, by rw [HF.out.1]; exact OwnR.nil _ _ _, HB.out.trans (HB3.out.mono HB.out.size)⟩
      · have HF := Lib.hid (KInv.none' (HK.out.no HOB.out (fun h => hpos h.2)) HKL.out)
        have dp : (o.pos != (O.length : Int)) = true := by simp [hpos]
        clear hpos
        go_wp2_with (first | (refine wp_load_ob rfl (.tmp 17) rfl b (off + t * 5) rfl o z0 z1 z2 z3 z4 ?_; unfold obv) | (refine wp_store_obT rfl (.tmp 8) (.tmp 18) rfl wr.heap.size o rfl rfl (ob_new wr).1 (ob_new wr).2 _ _ (heap_alloc_new wr _) ?_; intro w2 q0 q1 q2 qT q6; have HB2 := Lib.hid (q6 _ _ (Nat.le_refl _) (ba0 wr _)); clear q6))
        go_ret2
        exact ⟨_, by rw [HF.out.2]; rfl, by rw [HF.out.1]; exact OwnR.nil _ _ _, HB.out.trans (HB2.out.mono HB.out.size)⟩
    · obtain rfl : t = n := by omega
      have hd := HK.out.done (by rw [HN.out]; exact Nat.le_refl _) HKL.out
      by_cases hm : O.length = m
      · rw [if_pos hm] at hd
        have HD := Lib.hid hd
        have dm : ((O.length : Int) != (m : Int)) = false := by simp [hm]
        clear hd hm
        go_wp2_with fail
        go_ret2
        exact ⟨_, by rw [HD.out.2]; rfl, by rw [HD.out.1]; exact HO.out, HB.out⟩
      · rw [if_neg hm] at hd
        have HD := Lib.hid hd
        have dm : ((O.length : Int) != (m : Int)) = true := by simp; omega
        clear hd hm
        go_wp2_with fail
        go_ret2
        exact ⟨_, by rw [HD.out.2]; rfl, by rw [HD.out.1]; exact OwnR.nil _ _ _, HB.out⟩
end Go.Proofs.Ytjefajpipgicdaa.V
