/-
  The program's WalkOld, walked: the loop over the iterator, a panic that goes through it, what is recovered; and Walk.
-/
import Derived.Test.YtjefajpipgicdaaOCatch
set_option linter.unusedVariables false
namespace Go.Proofs.Ytjefajpipgicdaa.V
open Go.RowKit

theorem Oper.semAt_plain {l : Nat} {ρ : Operand → Value} {o : Oper} (h : ∀ c, o.op ≠ .defer c) : Oper.semAt (some l) ρ o = execOp ρ o := by
  unfold Oper.semAt
  split
  · rename_i hd; exact absurd hd (h _)
  · rfl
/-- In a round's frame the operations of a region are walked as elsewhere. -/
theorem listIn_of_list {l n : Nat} {P : Program} {ops : Array Oper} {Q : Exit → Act → World → Prop} (hQ : ¬ LetsOut Q) : ∀ (xs : List Oper) (a : Act) (w : World), (∀ o ∈ xs, ∀ c, o.op ≠ .defer c) → wpList P ops Q xs a w → wpListIn (Fence.wide.inRound l) n P ops Q xs a w
  | [], a, w, _, h => h
  | o :: xs, a, w, hd, h => by
    have ih := fun a w => listIn_of_list (l := l) (n := n) (P := P) (ops := ops) hQ xs a w (fun o ho => hd o (List.mem_cons_of_mem _ ho))
    unfold wpList at h
    unfold wpListIn
    by_cases hw : Region.wanted o (yielded ops a.tmps) = true
    · rw [if_pos hw] at h ⊢
      rcases h with h | ⟨_, hl⟩
      · refine ⟨fun _ _ => trivial, ?_⟩
        rw [show (Fence.wide.inRound l).round = some l from rfl, Oper.semAt_plain (hd o (by simp))]
        unfold Oper.wp at h
        generalize (execOp a.eval o).run P w = r at h ⊢
        cases r with
        | halt x w' =>
          cases x <;> first | exact h | exact h.elim
        | ok x w' =>
          cases x with
          | value v => exact ih _ _ h
          | skip => exact ih _ _ h
          | defer d => exact ih _ _ h
          | enter f args =>
            refine ⟨fun h => by simp [Fence.wide] at h, CallsIn.inRound l ((callsIn_wide.2 h).mono ?_)⟩
            intro e w'' he
            cases e with
            | returned v => exact ih _ _ he
            | panicked chain => exact he
            | outgrown => exact he
          | row row args =>
            refine ⟨fun h => by simp [Fence.wide] at h, fun c cs _ => ?_⟩
            obtain ⟨v, w'', hr, hs⟩ := h c cs
            exact ⟨v, w'', ih _ _ hr, stepsIn_wide.2 hs⟩
          | _ => exact h.elim
      · exact absurd hl hQ
    · rw [if_neg hw] at h ⊢
      exact ⟨fun _ _ => trivial, ih _ _ h⟩

/-- The statement 'for .. range g' over a closure, the record and the block of its deferred calls at known places. -/
theorem wp_range_at {P : Program} {g : Operand} {ps : Array Tmp} {assign body : Code} {Q : Exit → Act → World → Prop} {a : Act} {w : World} {gf : Nat} {lb : Array Value} (N4 : Nat) (hN : w.heap.size = N4)
    (hg : a.eval g = .func (.func gf) #[] lb) (eg : ∀ args w, (callFunc gf args).run P w = .ok (.enter gf args) w)
    (h : ∀ (rec : Loop) (W1 : World), rec.state = .ready → rec.pending = none → rec.tmps = a.tmps → rec.params = ps → rec.assign = assign → rec.body = body → W1.heap[N4]? = some (.deferred (some [])) → W1.heap[N4 + 1]? = some (.loop rec) → Below w.heap.size w W1 →
      Calls P gf (#[.func (.yield (N4 + 1)) #[] #[]] ++ lb) W1 (rangePost Fence.wide 8 P (N4 + 1) Q { a with defers := { target := .collected N4, args := #[] } :: a.defers })) :
    (Code.rangeFunc g ps assign body).wp P Q a w := by
  subst hN
  refine (wpIn_wide (n := 8)).1 (wpIn_rangeFunc fun fn _ => ?_)
  obtain ⟨rec, hrec⟩ : ∃ rec : Loop, rec = { state := .ready, pending := none, fn, tmps := a.tmps, params := ps, assign, body, defers := w.heap.size } := ⟨_, rfl⟩
  obtain ⟨W1, hW1⟩ : ∃ W1, (w.alloc (.deferred (some []))).alloc (.loop rec) = W1 := ⟨_, rfl⟩
  have hL1 : W1.heap[w.heap.size + 1]? = some (.loop rec) := by
    rw [← hW1]; have := World.alloc_heap_new (w.alloc (.deferred (some []))) (.loop rec); rwa [World.size_alloc] at this
  have hK1 : W1.heap[w.heap.size]? = some (.deferred (some [])) := by
    rw [← hW1]; exact (Below.heap_alloc _ _ _ (by simp)).trans (World.alloc_heap_new w _)
  have hb1 : Below w.heap.size w W1 := by rw [← hW1]; exact ba (ba0 w _) _
  refine ⟨w.heap.size + 1, [{ target := .collected w.heap.size, args := #[] }], W1, { target := .fn (.func gf) lb, args := #[.func (.yield (w.heap.size + 1)) #[] #[]] }, W1, gf,
    #[.func (.yield (w.heap.size + 1)) #[] #[]] ++ lb, W1, ?_, ?_, fun _ _ => trivial, ?_, fun h => by simp [Fence.wide] at h, ?_⟩
  · rw [← hW1, hrec]; exact run_enterLoop_outer _ _ _ _ _
  · simp only [resolve, hg]
    simp [go_sem]
  · simp [invoke, go_sem, eg]
  · exact callsIn_wide.2 (h rec W1 (by rw [hrec]) (by rw [hrec]) (by rw [hrec]) (by rw [hrec]) (by rw [hrec]) (by rw [hrec]) hK1 hL1 hb1)

theorem below_putObj {S : Nat} {v w : World} {l : Nat} (o : Obj) (h : Below S v w) (hS : S ≤ l) : Below S v (w.putObj l o) :=
  ⟨h.os, h.tape, h.output, by simp [World.putObj]; exact h.size, fun k hk => (World.putObj_heap_other (by omega)).trans (h.block k hk)⟩
theorem OwnR.eqv {α : Type} {c : α → List Value} {n : Nat} {e : TypeId} {w w' : World} {S : Nat} {v : Value} {l : List α} (h : OwnR e c n w S v l) (hg : ∀ (g : Nat) (cs : Array Value), w.heap[g]? = some (Obj.cells cs e (0, 0)) → w'.heap[g]? = w.heap[g]?) : OwnR e c n w' S v l := by
  obtain ⟨h1, h2 | ⟨g, cap, cur, rfl, hg', hh, h3⟩⟩ := h
  · exact ⟨h1, Or.inl h2⟩
  · exact ⟨h1, Or.inr ⟨g, cap, cur, rfl, hg', (hg g _ hh).trans hh, h3⟩⟩
theorem OwnR.block {α : Type} {c : α → List Value} {n : Nat} {e : TypeId} {w : World} {S : Nat} {v : Value} {l : List α} (h : OwnR e c n w S v l) {k : Nat} (hk : some k = v.ownBlock) : ∃ cs, w.heap[k]? = some (.cells cs e (0, 0)) := by
  obtain ⟨h1, ⟨rfl, _⟩ | ⟨g, cap, cur, rfl, hg', hh, h3⟩⟩ := h
  · simp [Value.ownBlock] at hk
  · simp [Value.ownBlock] at hk
    subst hk
    exact ⟨_, hh⟩

/-- What holds between two rounds: the variables' boxes, the record, what has been collected. -/
structure WJ (N : Nat) (w : World) (ao : Option Addr) (ca m : Nat) (rec : Loop) (O : List Ob) (W : World) : Prop where
  b5 : Boxed W (N + 1) 34 (.int .i64 0)
  bw : Boxed W (N + 2) 22 (.slice ao m ca)
  hl : W.heap[N + 5]? = some (.loop rec)
  hd : W.heap[N + 4]? = some (.deferred (some []))
  hb : Below N w W
  b4 : ∃ v, Boxed W N 26 v ∧ OwnR 53 oc 5 W N v O
theorem boxed_below {W W' : World} {B : Nat} {t : TypeId} {v : Value} (h : Boxed W B t v) (hb : Below W.heap.size W W') : Boxed W' B t v := (hb.block B h.lt).trans h
theorem heap_lt {W : World} {k : Nat} {o : Obj} (h : W.heap[k]? = some o) : k < W.heap.size := (Array.getElem?_eq_some_iff.1 h).1
theorem WJ.below {N : Nat} {w : World} {ao : Option Addr} {ca m : Nat} {rec : Loop} {O : List Ob} {W W' : World} (h : WJ N w ao ca m rec O W) (hN : N = w.heap.size) (hb : Below W.heap.size W W') : WJ N w ao ca m rec O W' := by
  obtain ⟨v, h1, h2⟩ := h.b4
  exact ⟨boxed_below h.b5 hb, boxed_below h.bw hb, (hb.block _ (heap_lt h.hl)).trans h.hl, (hb.block _ (heap_lt h.hd)).trans h.hd, h.hb.trans (hb.mono (by have := h.hb.size; omega)), v, boxed_below h1 hb, h2.later hb⟩

theorem results_two {fn : Func} {p q : Tmp} {t u : TypeId} (h : fn.results = #[.cell p t, .cell q u]) (tmps : Array Value) (P : Program) (w : World) (g k : Nat) (r y : Value)
    (hp : tmps.getD p undef = .pointer (some ⟨g, 0, none⟩)) (hq : tmps.getD q undef = .pointer (some ⟨k, 0, none⟩)) (hr : (loadVar t ⟨g, 0, none⟩).run P w = .ok r w) (hy : (loadVar u ⟨k, 0, none⟩).run P w = .ok y w) : (results fn tmps).run P w = .ok (.tuple #[r, y]) w := by
  have hp' : tmps[p]?.getD undef = .pointer (some ⟨g, 0, none⟩) := by simpa using hp
  have hq' : tmps[q]?.getD undef = .pointer (some ⟨k, 0, none⟩) := by simpa using hq
  simp [results, h, hp', hq', asAddr, Result.andThen, hr, hy]
theorem load_obs {W : World} {g : Nat} {v : Value} (h : W.cell? ⟨g, 0, none⟩ = some v) : (loadVar 26 ⟨g, 0, none⟩).run Try.prog W = .ok v W := by
  simp [loadVar, go_sem, h]
theorem load_errno {W : World} {g : Nat} {v : Value} (h : W.cell? ⟨g, 0, none⟩ = some v) : (loadVar 34 ⟨g, 0, none⟩).run Try.prog W = .ok v W := by
  simp [loadVar, go_sem, h]
theorem loop_back {rec : Loop} (h1 : rec.state = .ready) (h2 : rec.pending = none) : ({ ({ rec with state := .busy } : Loop) with state := if (none : Option Code).isNone then .ready else .done, pending := none } : Loop) = rec := by
  cases rec
  simp_all

theorem WInv.err {ws : List Nat} {sh : List Shp} {old : Bool} {L : List Ob} {E : Nat} (h : WInv ws sh old L E [] 0 0) (hE : E ≠ 0) : L = [] := by
  unfold WInv fin at h
  split at h
  · simp only [Prod.mk.injEq] at h; exact absurd h.2 hE
  · simp only [Prod.mk.injEq] at h; exact h.1
theorem callsDIn_mono {F : Fence} {n : Nat} {P : Program} {f : FuncId} {args : Array Value} {u : FrameMode} {w : World} {R R' : Ending → FrameMode → World → Prop} (h : CallsDIn F n P f args u w R) (hr : ∀ e u' w', R e u' w' → R' e u' w') : CallsDIn F n P f args u w R' :=
  ⟨h.1, fun c cs hu hroom => let ⟨e, u', w', fr, r, x⟩ := h.2 c cs hu hroom; ⟨e, u', w', fr, hr _ _ _ r, x⟩⟩
theorem invoke_catch (B4 B5 : Nat) (W : World) : (invoke (.fn (.func 29) #[.pointer (some ⟨B4, 0, none⟩), .pointer (some ⟨B5, 0, none⟩)]) #[]).run Try.prog W = .ok (.enter 29 #[.pointer (some ⟨B4, 0, none⟩), .pointer (some ⟨B5, 0, none⟩)]) W := by
  have eg : ∀ args w, (callFunc 29 args).run Try.prog w = .ok (.enter 29 args) w := enters_of Try.func29 (by kernel_rfl) rfl
  simp [invoke, go_sem, eg]

set_option maxRecDepth 100000 in
set_option maxHeartbeats 1000000 in
theorem walkOldC : WalkOldC 15 := by
  intro ao bo ca cb m n ws sh L E w hm hn hml hnl hv hu hs hmc hcm hnc hcb han hbn hwalk
  have hmf : ∀ (fn : Fn) (first cap : Array Value) (w : World), (Instr.makeFunc fn first cap).run Try.prog w = .ok (.func fn first cap) w := fun _ _ _ _ => rfl
  have HU := Lib.hid hu
  have HS := Lib.hid hs
  have HV := Lib.hid hv
  have HM := Lib.hid hm
  have HN := Lib.hid hn
  have HW := Lib.hid hwalk
  clear hu hs hv hm hn hwalk
  refine (callsIn_wide (n := 8)).1 ?_
  refine callsIn_of_wp_marks Try.func15 rfl trivial ?_ rfl
  simp only [Try.ntmps15, List.size_toArray, List.length_cons, List.length_nil, Nat.reduceAdd, Nat.reduceSub, Array.replicate_succ, Array.replicate_zero, List.push_toArray, List.append_toArray, List.nil_append, List.cons_append]
  refine wpIn_wide.2 ?_
  go_wp2_with fail
  refine (toldC _ _ _ _ _ _ _).mono ?_
  rintro e w' ⟨rfl, rfl⟩
  go_wp2_with fail
  have HB0 := Lib.hid (ba (ba (ba (ba0 w (.cells #[.slice none 0 0] 26)) (.cells #[.int .i64 0] 34)) (.cells #[.slice ao m ca] 22)) (.cells #[.slice bo n cb] 25))
  have HX4 := Lib.hid ((((Boxed.new w 26 (.slice none 0 0)).alloc (.cells #[.int .i64 0] 34)).alloc (.cells #[.slice ao m ca] 22)).alloc (.cells #[.slice bo n cb] 25))
  have HX5 := Lib.hid (((Boxed.new (w.alloc (.cells #[.slice none 0 0] 26)) 34 (.int .i64 0)).alloc (.cells #[.slice ao m ca] 22)).alloc (.cells #[.slice bo n cb] 25))
  have HXw := Lib.hid ((Boxed.new ((w.alloc (.cells #[.slice none 0 0] 26)).alloc (.cells #[.int .i64 0] 34)) 22 (.slice ao m ca)).alloc (.cells #[.slice bo n cb] 25))
  have HXs := Lib.hid (Boxed.new (((w.alloc (.cells #[.slice none 0 0] 26)).alloc (.cells #[.int .i64 0] 34)).alloc (.cells #[.slice ao m ca] 22)) 25 (.slice bo n cb))
  have HSZ : Hid (((((w.alloc (.cells #[.slice none 0 0] 26)).alloc (.cells #[.int .i64 0] 34)).alloc (.cells #[.slice ao m ca] 22)).alloc (.cells #[.slice bo n cb] 25)).heap.size = w.heap.size + 4) := Lib.hid (by simp)
  generalize (((w.alloc (.cells #[.slice none 0 0] 26)).alloc (.cells #[.int .i64 0] 34)).alloc (.cells #[.slice ao m ca] 22)).alloc (.cells #[.slice bo n cb] 25) = W0 at HB0 HX4 HX5 HXw HXs HSZ ⊢
  simp only [World.size_alloc] at HX5 HXw HXs
  refine wp_range_at (w.heap.size + 4) HSZ.out (gf := 39) (lb := #[.pointer (some ⟨w.heap.size + 1 + 1 + 1, 0, none⟩), .pointer (some ⟨w.heap.size + 1 + 1, 0, none⟩)]) rfl (enters_of Try.func39 (by kernel_rfl) rfl) ?_
  intro rec W1 hst hpe htm hps has hbo hd hl hb1
  have hJ0 : WJ w.heap.size w ao ca m rec [] W1 := ⟨boxed_below HX5.out hb1, boxed_below HXw.out hb1, hl, hd, (HB0.out).trans (hb1.mono (by have := HSZ.out; omega)), _, boxed_below HX4.out hb1, OwnR.nil _ _ _⟩
  have hround : ∀ (O : List Ob) (o : Ob) (W : World), WJ w.heap.size w ao ca m rec O W → O.length < m → YieldAt Fence.wide 0 Try.prog (w.heap.size + 4 + 1) #[obv o] W fun e W' => e = .returned (.bool true) ∧ WJ w.heap.size w ao ca m rec (O ++ [o]) W' := by
    intro O o W hJ hlt
    refine ⟨rec.fn, #[.slice ao m ca, .slice bo n cb, undef, undef, .pointer (some ⟨w.heap.size, 0, none⟩), .pointer (some ⟨w.heap.size + 1, 0, none⟩), undef, .func (.func 29) #[] #[.pointer (some ⟨w.heap.size, 0, none⟩), .pointer (some ⟨w.heap.size + 1, 0, none⟩)], .slice ao m ca, .slice bo n cb, .func (.func 39) #[] #[.pointer (some ⟨w.heap.size + 1 + 1 + 1, 0, none⟩), .pointer (some ⟨w.heap.size + 1 + 1, 0, none⟩)], obv o, undef, undef, undef, undef, undef], rec.assign, rec.body, ?_, ?_⟩
    · have hy := run_yield (P := Try.prog) (args := #[obv o]) hJ.hl (by rw [hps]; rfl)
      rw [htm, hps] at hy
      simpa using hy
    rw [has, hbo]
    refine roundIn_of_wpIn trivial (wpIn_region_list (listIn_of_list (by rintro ⟨_, _, h⟩; exact h) _ _ _ (by simp) ?_))
    have HJ := Lib.hid hJ
    have HST := Lib.hid hst
    have HPE := Lib.hid hpe
    clear hJ hJ0 hst hpe htm hps has hbo hd hl hb1 hmf
    go_wp2_with (refine wp_store_ob rfl (.tmp 6) (.tmp 11) rfl W.heap.size o rfl rfl (ob_new W).1 (ob_new W).2 ?_; intro w2 q0 q1 q2 q3 q4 q5 q6; have HB2 := Lib.hid (q6 _ _ (Nat.le_refl _) (ba0 W _)); clear q6)
    have hJ2 := HJ.out.below rfl HB2.out
    have hlt5 : w.heap.size + 5 < W.heap.size := heap_lt HJ.out.hl
    obtain ⟨v, hbox, hown⟩ := hJ2.b4
    refine ⟨_, run_beginRound hJ2.hl HST.out, ?_⟩
    have hlt2 : W.heap.size < w2.heap.size := by obtain ⟨o9, ho9, _⟩ := cells_of_cell q0; exact (Array.getElem?_eq_some_iff.1 ho9).1
    have e3 : ∀ k, k ≠ w.heap.size + 5 → (w2.putObj (w.heap.size + 5) (.loop { rec with state := .busy })).heap[k]? = w2.heap[k]? := fun k h => World.putObj_heap_other h
    have X4 := Lib.hid (show Boxed (w2.putObj (w.heap.size + 5) (.loop { rec with state := .busy })) w.heap.size _ v from (e3 _ (by omega)).trans hbox)
    have X5 := Lib.hid (show Boxed (w2.putObj (w.heap.size + 5) (.loop { rec with state := .busy })) (w.heap.size + 1) _ _ from (e3 _ (by omega)).trans hJ2.b5)
    have Xw := Lib.hid (show Boxed (w2.putObj (w.heap.size + 5) (.loop { rec with state := .busy })) (w.heap.size + 2) _ _ from (e3 _ (by omega)).trans hJ2.bw)
    have Xd := Lib.hid ((e3 (w.heap.size + 4) (by omega)).trans hJ2.hd)
    have Xl := Lib.hid (World.putObj_heap_same (w := w2) (o := .loop { rec with state := .busy }) (heap_lt hJ2.hl))
    have HO3 := Lib.hid (hown.eqv (w' := w2.putObj (w.heap.size + 5) (.loop { rec with state := .busy })) (fun g cs hg => e3 g (by rintro rfl; rw [hJ2.hl] at hg; cases hg)))
    have HB3 := Lib.hid (below_putObj (.loop { rec with state := .busy }) hJ2.hb (show w.heap.size ≤ w.heap.size + 5 by omega))
    have eg := e3 W.heap.size (by omega)
    have z0 := (World.cell?_of_block (a := ⟨W.heap.size, 0, none⟩) eg).trans q0
    have z1 := (World.cell?_of_block (a := ⟨W.heap.size, 1, none⟩) eg).trans q1
    have z2 := (World.cell?_of_block (a := ⟨W.heap.size, 2, none⟩) eg).trans q2
    have z3 := (World.cell?_of_block (a := ⟨W.heap.size, 3, none⟩) eg).trans q3
    have z4 := (World.cell?_of_block (a := ⟨W.heap.size, 4, none⟩) eg).trans q4
    clear q0 q1 q2 q3 q4 q5 eg e3 hown hbox hJ2 hlt2
    generalize w2.putObj (w.heap.size + 5) (.loop { rec with state := .busy }) = W3 at X4 X5 Xw Xd Xl HO3 HB3 z0 z1 z2 z3 z4 ⊢
    refine wpIn_block (wpIn_region_list (listIn_of_list (by rintro ⟨_, _, h⟩; exact h) _ _ _ (by simp) ?_))
    dsimp only [Act.put]
    have c4 := Boxed.cell X4.out
    have HOA := Lib.hid (HO3.out.alloc (.cells #[.int .i64 o.pos, .int .i64 o.size, .int .i64 o.ptrs, .bool o.gone, .int .u64 (o.tgt : Int)] 53))
    have HBA := Lib.hid (ba HB3.out (.cells #[.int .i64 o.pos, .int .i64 o.size, .int .i64 o.ptrs, .bool o.gone, .int .u64 (o.tgt : Int)] 53))
    go_wp2_with (first | (refine wp_load_ob rfl (.tmp 6) rfl W.heap.size 0 rfl o z0 z1 z2 z3 z4 ?_; unfold obv) | (at_builtin; refine wp_append_row 53 26 _ 40 info_ob Try.underlying26 rfl (by decide) (by decide) oc_len oc_one _ rfl (.tmp 12) (.tmp 14) rfl w.heap.size _ O rfl HOA.out W3.heap.size o rfl ?_ ?_ ?_ ?_))
    · intro i u hi
      exact alloc_at _ _ rfl (by simpa [oc] using hi)
    · omega
    · exact HBA.out.size
    · intro v' w5 hown' hgrow
      obtain ⟨av, cv, hv', _⟩ := OwnR.out oc_len (n := O.length + 1) hown' (by simp)
      subst hv'
      have Y4 := Lib.hid (Boxed.kept (Boxed.alloc X4.out _) hgrow (Boxed.not_row (Boxed.alloc X4.out _) (by decide) HOA.out))
      have Y5 := Lib.hid (Boxed.kept (Boxed.alloc X5.out _) hgrow (Boxed.not_row (Boxed.alloc X5.out _) (by decide) HOA.out))
      have Yw := Lib.hid (Boxed.kept (Boxed.alloc Xw.out _) hgrow (Boxed.not_row (Boxed.alloc Xw.out _) (by decide) HOA.out))
      have xl := (Below.heap_alloc W3 (.cells #[.int .i64 o.pos, .int .i64 o.size, .int .i64 o.ptrs, .bool o.gone, .int .u64 (o.tgt : Int)] 53) _ (heap_lt Xl.out)).trans Xl.out
      have xd := (Below.heap_alloc W3 (.cells #[.int .i64 o.pos, .int .i64 o.size, .int .i64 o.ptrs, .bool o.gone, .int .u64 (o.tgt : Int)] 53) _ (heap_lt Xd.out)).trans Xd.out
      have Yl := Lib.hid ((hgrow.block _ (heap_lt xl) (fun h => by obtain ⟨cs, hc⟩ := HOA.out.block h; rw [xl] at hc; cases hc)).trans xl)
      have Yd := Lib.hid ((hgrow.block _ (heap_lt xd) (fun h => by obtain ⟨cs, hc⟩ := HOA.out.block h; rw [xd] at hc; cases hc)).trans xd)
      have HB5 := Lib.hid (OwnR.below HOA.out HBA.out (Nat.le_refl _) hgrow)
      have HO5 := Lib.hid hown'
      have d4 := Boxed.cell Y4.out
      have f4 := Boxed.frozen Y4.out
      clear hown' hgrow xl xd z0 z1 z2 z3 z4 c4
      go_wp2_with fail
      refine ⟨_, _, run_endRound none ((Below.heap_setCell _ _ _ _ (by simp; omega)).trans Yl.out), rfl, ?_⟩
      rw [loop_back HST.out HPE.out]
      have e6 : ∀ k, k ≠ w.heap.size → k ≠ w.heap.size + 5 → ((w5.setCell ⟨w.heap.size, 0, none⟩ (.slice av (O.length + 1) cv)).putObj (w.heap.size + 5) (.loop rec)).heap[k]? = w5.heap[k]? := fun k h1 h2 => (World.putObj_heap_other h2).trans (Below.heap_setCell _ _ _ _ h1)
      refine ⟨(e6 _ (by omega) (by omega)).trans Y5.out, (e6 _ (by omega) (by omega)).trans Yw.out, World.putObj_heap_same (by have := heap_lt Yl.out; rw [World.size_setCell]; exact this), (e6 _ (by omega) (by omega)).trans Yd.out, below_putObj _ (HB5.out.setCell (p := ⟨w.heap.size, 0, none⟩) (Nat.le_refl _) _) (by omega), _, (World.putObj_heap_other (by omega)).trans (Boxed.set _ Y4.out), HO5.out.eqv (fun g cs hg => e6 g ?_ ?_)⟩
      · rintro rfl; have := Y4.out.symm.trans hg; simp at this
      · rintro rfl; have := Yl.out.symm.trans hg; cases this
  refine (told1 ao bo ca cb m n ws sh L E (w.heap.size + 4 + 1) (w.heap.size + 1 + 1 + 1) (w.heap.size + 1 + 1) (WJ w.heap.size w ao ca m rec) W1 HM.out HN.out hml hnl HV.out hmc hcm hnc hcb (fun O W W' h hb => h.below rfl hb) (fun O W h => ⟨Boxed.cell h.bw, HU.out.below (by omega) h.hb, HS.out.below (by omega) h.hb⟩) hround hJ0 (Boxed.cell (boxed_below HXs.out hb1)) HW.out).mono ?_
  rintro e W2 (⟨hE, ⟨v, rfl⟩, hJ⟩ | ⟨hE, rfl, O, hJ⟩)
  · obtain ⟨v4, hbox, hown⟩ := hJ.b4
    have hend := run_endLoop (P := Try.prog) hJ.hl (by rw [hst]; decide)
    rw [hpe] at hend
    refine ⟨none, _, hend, ?_⟩
    have hb3 : Below w.heap.size w (W2.putObj (w.heap.size + 5) (.loop { rec with state := .exhausted, pending := none })) := below_putObj _ hJ.hb (by omega)
    have x4 : Boxed (W2.putObj (w.heap.size + 5) (.loop { rec with state := .exhausted, pending := none })) w.heap.size 26 v4 := (World.putObj_heap_other (by omega)).trans hbox
    have x5 : Boxed (W2.putObj (w.heap.size + 5) (.loop { rec with state := .exhausted, pending := none })) (w.heap.size + 1) 34 (.int .i64 0) := (World.putObj_heap_other (by omega)).trans hJ.b5
    have xd : (W2.putObj (w.heap.size + 5) (.loop { rec with state := .exhausted, pending := none })).heap[w.heap.size + 4]? = some (.deferred (some [])) := (World.putObj_heap_other (by omega)).trans hJ.hd
    have own3 : OwnR 53 oc 5 (W2.putObj (w.heap.size + 5) (.loop { rec with state := .exhausted, pending := none })) w.heap.size v4 L := hown.eqv (fun g cs hg => World.putObj_heap_other (by rintro rfl; have := hJ.hl.symm.trans hg; cases this))
    generalize W2.putObj (w.heap.size + 5) (.loop { rec with state := .exhausted, pending := none }) = W3 at hb3 x4 x5 xd own3 ⊢
    obtain ⟨av, cv, hv', _⟩ := OwnR.out oc_len (n := L.length) own3 rfl
    subst hv'
    have c4 := Boxed.cell x4
    have f4 := Boxed.frozen x4
    have c5 := set_far (g := w.heap.size) (j := 0) (.slice av L.length cv) (by omega) (Boxed.cell x5)
    have f5 : (W3.setCell ⟨w.heap.size, 0, none⟩ (.slice av L.length cv)).frozen? ⟨w.heap.size + 1, 0, none⟩ = false := (World.frozen?_setCell _ _ _ _).trans (Boxed.frozen x5)
    dsimp only
    clear hround hJ0 hst hpe htm hps has hbo hd hl hb1 hend hbox hown hJ
    go_wp2_with fail
    have y4 := (Boxed.set (.slice av L.length cv) x4).other (B' := w.heap.size + 1) (by omega) (.int .i64 0)
    have y5 := Boxed.set (.int .i64 0) (Boxed.other x5 (B' := w.heap.size) (by omega) (.slice av L.length cv))
    have e4 : ∀ k, k ≠ w.heap.size → k ≠ w.heap.size + 1 → ((W3.setCell ⟨w.heap.size, 0, none⟩ (.slice av L.length cv)).setCell ⟨w.heap.size + 1, 0, none⟩ (.int .i64 0)).heap[k]? = W3.heap[k]? := fun k h1 h2 => (Below.heap_setCell _ _ _ _ h2).trans (Below.heap_setCell _ _ _ _ h1)
    have yd := (e4 (w.heap.size + 4) (by omega) (by omega)).trans xd
    have own4 := own3.eqv (fun g cs hg => e4 g (by rintro rfl; have := x4.symm.trans hg; simp at this) (by rintro rfl; have := x5.symm.trans hg; simp at this))
    have hb4 := (hb3.setCell (p := ⟨w.heap.size, 0, none⟩) (Nat.le_refl _) (.slice av L.length cv)).setCell (p := ⟨w.heap.size + 1, 0, none⟩) (by simp) (.int .i64 0)
    generalize (W3.setCell ⟨w.heap.size, 0, none⟩ (.slice av L.length cv)).setCell ⟨w.heap.size + 1, 0, none⟩ (.int .i64 0) = W4 at y4 y5 yd own4 hb4 ⊢
    refine ⟨by simp, .inl ⟨_, _, rfl, run_takeDeferred yd, ?_⟩⟩
    have z4 : Boxed (W4.putObj (w.heap.size + 4) (.deferred none)) w.heap.size 26 (.slice av L.length cv) := (World.putObj_heap_other (by omega)).trans y4
    have z5 : Boxed (W4.putObj (w.heap.size + 4) (.deferred none)) (w.heap.size + 1) 34 (.int .i64 0) := (World.putObj_heap_other (by omega)).trans y5
    have own5 := own4.eqv (w' := W4.putObj (w.heap.size + 4) (.deferred none)) (fun g cs hg => World.putObj_heap_other (by rintro rfl; have := yd.symm.trans hg; cases this))
    have hb5 := below_putObj (.deferred none) hb4 (show w.heap.size ≤ w.heap.size + 4 by omega)
    refine ⟨by simp, .inr ⟨fun h => by simp [Fence.wide] at h, _, _, _, _, rfl, invoke_catch _ _ _, fun _ _ => trivial, callsDIn_mono (catchIdle _ _ _ _) ?_⟩⟩
    rintro e u' w'' ⟨rfl, rfl, rfl⟩
    exact ⟨_, results_two rfl _ _ _ w.heap.size (w.heap.size + 1) _ _ rfl rfl (load_obs (Boxed.cell z4)) (load_errno (Boxed.cell z5)), _, by rw [hE]; rfl, own5, hb5⟩
  · obtain ⟨v4, hbox, hown⟩ := hJ.b4
    have hL : L = [] := (WInv.start ws sh true L E HW.out).err hE
    show LeavesInM _ _ _ _ _ _ ({ target := .collected (w.heap.size + 4), args := #[] } :: [{ target := .fn (.func 29) #[.pointer (some ⟨w.heap.size, 0, none⟩), .pointer (some ⟨w.heap.size + 1, 0, none⟩)], args := #[] }]) (.panicking _) W2
    refine ⟨by simp, .inl ⟨_, _, rfl, run_takeDeferred hJ.hd, ?_⟩⟩
    have z4 : Boxed (W2.putObj (w.heap.size + 4) (.deferred none)) w.heap.size 26 v4 := (World.putObj_heap_other (by omega)).trans hbox
    have z5 : Boxed (W2.putObj (w.heap.size + 4) (.deferred none)) (w.heap.size + 1) 34 (.int .i64 0) := (World.putObj_heap_other (by omega)).trans hJ.b5
    have hb5 := below_putObj (.deferred none) hJ.hb (show w.heap.size ≤ w.heap.size + 4 by omega)
    refine ⟨by simp, .inr ⟨fun h => by simp [Fence.wide] at h, _, _, _, _, rfl, invoke_catch _ _ _, fun _ _ => trivial, callsDIn_mono (catchPanic _ _ _ [] _ _ _ _ (by omega) (Boxed.cell z4) (Boxed.cell z5) (Boxed.frozen z4) (Boxed.frozen z5)) ?_⟩⟩
    rintro e u' w'' ⟨rfl, rfl, c4, c5, hbel⟩
    exact ⟨_, results_two rfl _ _ _ w.heap.size (w.heap.size + 1) _ _ rfl rfl (load_obs c4) (load_errno c5), _, rfl, by rw [hL]; exact OwnR.nil _ _ _, hbel _ _ (Nat.le_refl _) (by omega) hb5⟩
end Go.Proofs.Ytjefajpipgicdaa.V
