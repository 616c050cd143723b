/-
  The program's functions of package places, walked: spans. (A whole block stored: wp_store_whole.)
-/
import Derived.Test.YtifmlmbbmlnpmaaPlProg2
import Derived.Test.YtifmlmbbmlnpmaaMover
set_option linter.unusedVariables false
namespace Go.Proofs.Ytifmlmbbmlnpmaa.V
open Go.RowKit

def setMany : List Value → Nat → List Value → List Value
  | cs, _, [] => cs
  | cs, o, v :: r => setMany (cs.set o v) (o + 1) r
theorem setMany_len : ∀ (vs cs : List Value) (o : Nat), (setMany cs o vs).length = cs.length
  | [], _, _ => rfl
  | v :: r, cs, o => by rw [setMany, setMany_len r]; simp
theorem setMany_get : ∀ (vs cs : List Value) (o j : Nat), o + vs.length ≤ cs.length → (setMany cs o vs)[j]? = if j < o then cs[j]? else if j < o + vs.length then vs[j - o]? else cs[j]?
  | [], cs, o, j, _ => by simp [setMany]; intro h1 h2; omega
  | v :: r, cs, o, j, h => by
    simp only [List.length_cons] at h
    rw [setMany, setMany_get r (cs.set o v) (o + 1) j (by simp; omega)]
    by_cases h1 : j < o
    · rw [if_pos (by omega), if_pos h1, List.getElem?_set_ne (by omega)]
    · by_cases h2 : j = o
      · subst h2
        rw [if_pos (by omega), if_neg h1, if_pos (by simp)]
        simp [List.getElem?_set_self (show j < cs.length by omega)]
      · rw [if_neg (by omega), if_neg h1]
        by_cases h3 : j < o + 1 + r.length
        · rw [if_pos h3, if_pos (by simp; omega)]
          obtain ⟨k, hk⟩ : ∃ k, j - o = k + 1 := ⟨j - o - 1, by omega⟩
          rw [hk, List.getElem?_cons_succ]
          congr 1; omega
        · rw [if_neg h3, if_neg (by simp; omega), List.getElem?_set_ne (by omega)]
theorem setMany_all (cs vs : List Value) (h : vs.length = cs.length) : setMany cs 0 vs = vs := by
  apply List.ext_getElem?
  intro j
  rw [setMany_get vs cs 0 j (by omega)]
  by_cases h1 : j < vs.length
  · simp [h1]
  · simp only [Nat.zero_add, Nat.not_lt_zero, if_false, if_neg h1]
    rw [List.getElem?_eq_none (by omega), List.getElem?_eq_none (by omega)]
theorem blk_setMany : ∀ (vs : List Value) (o : Nat) (w : World) (g : Nat) (cs : List Value) (t : TypeId), Blk w g cs t → Blk (w.setCells g o vs) g (setMany cs o vs) t
  | [], _, _, _, _, _, h => h
  | v :: r, o, w, g, cs, t, h => by
    rw [World.setCells, setMany]
    exact blk_setMany r (o + 1) _ g _ t (blk_set h o v)
theorem blk_setMany_far : ∀ (vs : List Value) (o : Nat) (w : World) (g b : Nat) (cs ds : List Value) (t u : TypeId), Blk w g cs t → b ≠ g → Blk w b ds u → Blk (w.setCells g o vs) b ds u
  | [], _, _, _, _, _, _, _, _, _, _, h => h
  | v :: r, o, w, g, b, cs, ds, t, u, h, hne, hd => by
    rw [World.setCells]
    exact blk_setMany_far r (o + 1) _ g b _ ds t u (blk_set h o v) hne (blk_set_far h hne o v hd)
theorem below_setMany : ∀ (vs : List Value) (o S : Nat) (w v : World) (g : Nat), S ≤ g → Below S v w → Below S v (w.setCells g o vs)
  | [], _, _, _, _, _, _, h => h
  | x :: r, o, S, w, v, g, hS, h => by
    rw [World.setCells]
    exact below_setMany r (o + 1) S _ v g hS (h.setCell hS _)
/-- A whole variable stored in a block of its own. -/
theorem wp_store_whole {ops : Array Oper} {rest : List Oper} {op : Oper} {a : Act} {w : World} {Q : Exit → Act → World → Prop} (hgd : op.guard = none) (ty : TypeId) (x y : Operand) (ho : op.op = .store ty x y)
    (g : Nat) (cs vs : List Value) (hx : a.eval x = .pointer (some ⟨g, 0, none⟩)) (hy : a.eval y = .agg vs.toArray) (t : TypeId) (hb : Blk w g cs t) (hl : vs.length = cs.length)
    (hi : (Try.prog.info? ty).map (·.size) = some vs.length) (h1 : vs.toArray.all (·.oneCell') = true)
    (h : ∀ w2, Blk w2 g vs t → (∀ b ds u, b ≠ g → Blk w b ds u → Blk w2 b ds u) → (∀ S v, S ≤ g → Below S v w → Below S v w2) → wpList Try.prog ops Q rest (a.put op.dst undef) w2) : wpList Try.prog ops Q (op :: rest) a w := by
  have ht : w.there g 0 vs.toArray.size := fun j hj => by
    rw [Nat.zero_add]
    simp at hj
    refine ⟨?_, Blk.frozen hb j⟩
    rw [Blk.cell hb (v := cs[j]'(by omega)) (by simp [show j < cs.length by omega])]
    rfl
  refine wpList_store_mid hgd ty x y ho g 0 vs.toArray hx hy ht (by simpa using hi) h1 ?_
  refine h _ ?_ ?_ ?_
  · have := blk_setMany vs 0 w g cs t hb
    rw [setMany_all cs vs hl] at this
    exact this
  · intro b ds u hne hd
    exact blk_setMany_far vs 0 w g b cs ds t u hb hne hd
  · intro S v hS hb2
    exact below_setMany vs 0 S w v g hS hb2

/-- What spans answers: a number, where the part begins, and how many words it has. -/
def spv (l : Lo) : List Value := [.int .u64 0, .int .i64 0, .int .u64 (lpart l 1).1, .int .i64 l.low, .int .u64 (lpart l 2).1, .int .i64 l.high, .int .u64 (lpart l 3).1, .int .i64 l.old, .int .u64 (lpart l 4).1, .int .i64 l.far]
set_option maxRecDepth 100000 in
set_option maxHeartbeats 1000000 in
theorem plSpans (l : Lo) (F1 F2 F3 F4 : Int) (w : World) (h : lright l) (h1 : lpart l 1 = (F1, l.low)) (h2 : lpart l 2 = (F2, l.high)) (h3 : lpart l 3 = (F3, l.old)) (h4 : lpart l 4 = (F4, l.far)) : Calls Try.prog 23 #[.agg #[.int .u64 (l.base : Int), .int .i64 l.cap, .int .i64 l.to, .int .i64 l.low, .int .i64 l.high, .int .i64 l.old, .int .i64 l.far]] w fun e w' => e = .returned (.agg #[.int .u64 0, .int .i64 0, .int .u64 F1, .int .i64 l.low, .int .u64 F2, .int .i64 l.high, .int .u64 F3, .int .i64 l.old, .int .u64 F4, .int .i64 l.far]) ∧ Below w.heap.size w w' := by
  have HF := Lib.hid (fun (p F : Int) (w : World) (h9 : (p = 1 ∧ F = F1) ∨ (p = 2 ∧ F = F2) ∨ (p = 3 ∧ F = F3) ∨ (p = 4 ∧ F = F4)) => show Calls Try.prog 25 #[.agg #[.int .u64 (l.base : Int), .int .i64 l.cap, .int .i64 l.to, .int .i64 l.low, .int .i64 l.high, .int .i64 l.old, .int .i64 l.far], .int .i64 p] w fun e w' => e = .returned (.int .u64 F) ∧ Below w.heap.size w w' from by
    rcases h9 with ⟨rfl, rfl⟩ | ⟨rfl, rfl⟩ | ⟨rfl, rfl⟩ | ⟨rfl, rfl⟩
    · exact plFirst l 1 _ _ w h h1 (by omega)
    · exact plFirst l 2 _ _ w h h2 (by omega)
    · exact plFirst l 3 _ _ w h h3 (by omega)
    · exact plFirst l 4 _ _ w h h4 (by omega))
  clear h1 h2 h3 h4 h
  have HZ : Hid (Blk ((w.alloc (.cells #[.int .u64 (l.base : Int), .int .i64 l.cap, .int .i64 l.to, .int .i64 l.low, .int .i64 l.high, .int .i64 l.old, .int .i64 l.far] 24)).alloc (.cells #[.int .u64 0, .int .i64 0, .int .u64 0, .int .i64 0, .int .u64 0, .int .i64 0, .int .u64 0, .int .i64 0, .int .u64 0, .int .i64 0] 52)) (w.heap.size + 1) [.int .u64 0, .int .i64 0, .int .u64 0, .int .i64 0, .int .u64 0, .int .i64 0, .int .u64 0, .int .i64 0, .int .u64 0, .int .i64 0] 52) := Lib.hid (by
    have := Blk.new (w.alloc (.cells #[.int .u64 (l.base : Int), .int .i64 l.cap, .int .i64 l.to, .int .i64 l.low, .int .i64 l.high, .int .i64 l.old, .int .i64 l.far] 24)) [.int .u64 0, .int .i64 0, .int .u64 0, .int .i64 0, .int .u64 0, .int .i64 0, .int .u64 0, .int .i64 0, .int .u64 0, .int .i64 0] 52
    rwa [World.size_alloc] at this)
  have HL : Hid (LoAt ((w.alloc (.cells #[.int .u64 (l.base : Int), .int .i64 l.cap, .int .i64 l.to, .int .i64 l.low, .int .i64 l.high, .int .i64 l.old, .int .i64 l.far] 24)).alloc (.cells #[.int .u64 0, .int .i64 0, .int .u64 0, .int .i64 0, .int .u64 0, .int .i64 0, .int .u64 0, .int .i64 0, .int .u64 0, .int .i64 0] 52)) w.heap.size l) := Lib.hid ((LoAt.new w l).below (ba0 _ _))
  have HB : Hid (Below w.heap.size w ((w.alloc (.cells #[.int .u64 (l.base : Int), .int .i64 l.cap, .int .i64 l.to, .int .i64 l.low, .int .i64 l.high, .int .i64 l.old, .int .i64 l.far] 24)).alloc (.cells #[.int .u64 0, .int .i64 0, .int .u64 0, .int .i64 0, .int .u64 0, .int .i64 0, .int .u64 0, .int .i64 0, .int .u64 0, .int .i64 0] 52))) := Lib.hid (ba (ba0 w _) _)
  go_enter Try.func23, Try.ntmps23
  go_wp2_with fail
  generalize (w.alloc (.cells #[.int .u64 (l.base : Int), .int .i64 l.cap, .int .i64 l.to, .int .i64 l.low, .int .i64 l.high, .int .i64 l.old, .int .i64 l.far] 24)).alloc (.cells #[.int .u64 0, .int .i64 0, .int .u64 0, .int .i64 0, .int .u64 0, .int .i64 0, .int .u64 0, .int .i64 0, .int .u64 0, .int .i64 0] 52) = V at HZ HL HB ⊢
  have hl1 : Hid (∀ w', (∃ x : GW V, w' = x.w') → LoAt w' w.heap.size l) := Lib.hid (by rintro _ ⟨x, rfl⟩; exact HL.out.below x.h)
  have c3 : ∀ x : GW V, x.w'.cell? ⟨w.heap.size, 3, none⟩ = some (.int .i64 l.low) := fun x => (hl1.out _ ⟨x, rfl⟩).cells.2.2.2.1
  have c4 : ∀ x : GW V, x.w'.cell? ⟨w.heap.size, 4, none⟩ = some (.int .i64 l.high) := fun x => (hl1.out _ ⟨x, rfl⟩).cells.2.2.2.2.1
  have c5 : ∀ x : GW V, x.w'.cell? ⟨w.heap.size, 5, none⟩ = some (.int .i64 l.old) := fun x => (hl1.out _ ⟨x, rfl⟩).cells.2.2.2.2.2.1
  have c6 : ∀ x : GW V, x.w'.cell? ⟨w.heap.size, 6, none⟩ = some (.int .i64 l.far) := fun x => (hl1.out _ ⟨x, rfl⟩).cells.2.2.2.2.2.2
  refine wp_region_mover [0, 1, 2, 3, 4, 5, 6, 7, 8, 9, 10, 11, 12, 13, 14, 15, 16, 17, 18, 19, 20] 21 [] _ (fun w' => ∃ x : GW V, w' = x.w') (by kernel_rfl) (by kernel_rfl) rfl ⟨⟨_, (Below.refl _ V).drew⟩, rfl⟩ ?_
  simp only [opsAt, List.filterMap_cons, List.filterMap_nil, List.getElem?_toArray, List.getElem?_cons_succ, List.getElem?_cons_zero, List.getElem_toArray, List.getElem_cons_succ, List.getElem_cons_zero]
  show wpQuiet _ _ _ _ [_, _, _, _, _, _, _, _, _, _, _, _, _, _, _, _, _, _, _, _, _] _
  refine wpQ_load_lo (by rfl) (.tmp 1) rfl w.heap.size rfl l hl1.out ?_
  simp [Act.put]
  show wpQuiet _ _ _ _ [_, _, _, _, _, _, _, _, _, _, _, _, _, _, _, _, _, _, _, _] _
  iterate 4 (go_big_quiet_step ((go_at_call 25; exact grow_call (HF.out _ _ _ (by first | exact Or.inl ⟨rfl, rfl⟩ | exact Or.inr (Or.inl ⟨rfl, rfl⟩) | exact Or.inr (Or.inr (Or.inl ⟨rfl, rfl⟩)) | exact Or.inr (Or.inr (Or.inr ⟨rfl, rfl⟩)))))))
  refine wpQ_load_lo (by rfl) (.tmp 1) rfl w.heap.size rfl l hl1.out ?_
  simp [Act.put]
  show wpQuiet _ _ _ _ [_, _, _, _, _, _, _, _, _, _, _, _, _, _, _] _
  iterate 4 (go_big_quiet_step ((go_at_call 25; exact grow_call (HF.out _ _ _ (by first | exact Or.inl ⟨rfl, rfl⟩ | exact Or.inr (Or.inl ⟨rfl, rfl⟩) | exact Or.inr (Or.inr (Or.inl ⟨rfl, rfl⟩)) | exact Or.inr (Or.inr (Or.inr ⟨rfl, rfl⟩)))))))
  refine wpQ_load_lo (by rfl) (.tmp 1) rfl w.heap.size rfl l hl1.out ?_
  simp [Act.put]
  show wpQuiet _ _ _ _ [_, _, _, _, _, _, _, _, _, _] _
  iterate 4 (go_big_quiet_step ((go_at_call 25; exact grow_call (HF.out _ _ _ (by first | exact Or.inl ⟨rfl, rfl⟩ | exact Or.inr (Or.inl ⟨rfl, rfl⟩) | exact Or.inr (Or.inr (Or.inl ⟨rfl, rfl⟩)) | exact Or.inr (Or.inr (Or.inr ⟨rfl, rfl⟩)))))))
  refine wpQ_load_lo (by rfl) (.tmp 1) rfl w.heap.size rfl l hl1.out ?_
  simp [Act.put]
  show wpQuiet _ _ _ _ [_, _, _, _, _] _
  iterate 4 (go_big_quiet_step ((go_at_call 25; exact grow_call (HF.out _ _ _ (by first | exact Or.inl ⟨rfl, rfl⟩ | exact Or.inr (Or.inl ⟨rfl, rfl⟩) | exact Or.inr (Or.inr (Or.inl ⟨rfl, rfl⟩)) | exact Or.inr (Or.inr (Or.inr ⟨rfl, rfl⟩)))))))
  go_big_quiet_step ((fail))
  refine wpQuiet_nil ?_
  rintro ⟨w3, hz3⟩
  have HZ3 := Lib.hid (HZ.out.below hz3)
  have HB3 := Lib.hid (bt HB.out hz3)
  show wpList _ _ _ [_] _ w3
  clear hz3 c3 c4 c5 c6 hl1 HZ HB HL HF
  refine wp_store_whole rfl 52 (.tmp 2) (.tmp 23) rfl (w.heap.size + 1) _ [.int .u64 0, .int .i64 0, .int .u64 F1, .int .i64 l.low, .int .u64 F2, .int .i64 l.high, .int .u64 F3, .int .i64 l.old, .int .u64 F4, .int .i64 l.far] rfl rfl _ HZ3.out rfl (by kernel_rfl) (by simp [Value.oneCell']) ?_
  intro w4 hz4 _ hb4
  have HB4 := Lib.hid (hb4 _ _ (by omega) HB3.out)
  clear hb4
  go_wp2_with fail
  dsimp only [onlyN]
  refine wpQuiet_nil ?_
  go_wp2_with fail
  refine bodyPost_ret (res_cell1 rfl _ _ _ (w.heap.size + 1) _ rfl (run_loadVar_mid _ _ _ _ _ _ (fun j v hj => by rw [Nat.zero_add]; exact Blk.cell hz4 hj) Try.underlying52 rfl (by kernel_rfl))) rfl ?_
  exact ⟨rfl, HB4.out⟩
end Go.Proofs.Ytifmlmbbmlnpmaa.V
