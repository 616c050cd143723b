/-
  The statements' Words, walked.
-/
import Derived.Test.YtjefajpipgicdaaORaw
import Derived.Test.YtjefajpipgicdaaORefKinds
import Derived.Deep.RegionHeld3
set_option linter.unusedVariables false
namespace Go.Proofs.Ytjefajpipgicdaa.V
open Go.RowKit

theorem OwnU.later' {w w1 : World} {S : Nat} {v : Value} {l : List Nat} (hown : OwnU w S v l) (hb : Below w.heap.size w w1) : OwnU w1 S v l := by
  obtain ⟨h1, h2 | ⟨g, cap, cur, rfl, hg, hh, h3⟩⟩ := hown
  · exact ⟨h1, Or.inl h2⟩
  · exact ⟨h1, Or.inr ⟨g, cap, cur, rfl, hg, (hb.block g (Array.getElem?_eq_some_iff.1 hh).1).trans hh, h3⟩⟩
/-- A shape that stands in a block of its own. -/
def ShAt (w : World) (g : Nat) (s p : Int) : Prop := w.heap[g]? = some (.cells #[.int .i64 s, .int .i64 p] 28 (0, 0))
theorem ShAt.new (w : World) (s p : Int) : ShAt (w.alloc (.cells #[.int .i64 s, .int .i64 p] 28)) w.heap.size s p := heap_alloc_new w _
theorem ShAt.lt {w : World} {g : Nat} {s p : Int} (h : ShAt w g s p) : g < w.heap.size := (Array.getElem?_eq_some_iff.1 h).1
theorem ShAt.c0 {w : World} {g : Nat} {s p : Int} (h : ShAt w g s p) : w.cell? ⟨g, 0, none⟩ = some (.int .i64 s) := by rw [cell_of_row w g 0 _ _ _ h]; rfl
theorem ShAt.c1 {w : World} {g : Nat} {s p : Int} (h : ShAt w g s p) : w.cell? ⟨g, 1, none⟩ = some (.int .i64 p) := by rw [cell_of_row w g 1 _ _ _ h]; rfl
theorem ShAt.below {w w' : World} {g : Nat} {s p : Int} (h : ShAt w g s p) (hb : Below w.heap.size w w') : ShAt w' g s p := (hb.block g h.lt).trans h
theorem ownU_not {w : World} {b : Nat} {u : Value} {l : List Nat} {g : Nat} {cs : Array Value} {e : TypeId} (hu : OwnU w b u l) (he : e ≠ 24) (h : w.heap[g]? = some (.cells cs e (0, 0))) : u.ownBlock ≠ some g := by
  intro hb
  obtain ⟨_, ⟨rfl, _⟩ | ⟨g', cap, cur, rfl, _, hg, _⟩⟩ := hu
  · simp [Value.ownBlock] at hb
  · simp [Value.ownBlock] at hb
    subst hb
    rw [hg] at h
    simp at h
    exact he h.2.symm
theorem ShAt.grown {w w' : World} {g b : Nat} {s p : Int} {u : Value} {l : List Nat} (h : ShAt w g s p) (hu : OwnU w b u l) (hg : w.grownBy w' u.ownBlock) : ShAt w' g s p :=
  (hg.block g h.lt (fun e => ownU_not hu (by decide) h e.symm)).trans h
theorem OwnR.grown {α : Type} {c : α → List Value} {n : Nat} {e : TypeId} (he : e ≠ 24) {w w' : World} {b b2 : Nat} {v u : Value} {l : List α} {l2 : List Nat} (h : OwnR e c n w b v l) (hu : OwnU w b2 u l2) (hg : w.grownBy w' u.ownBlock) : OwnR e c n w' b v l := by
  obtain ⟨h1, h2 | ⟨g, cap, cur, h3, h4, h5, h6⟩⟩ := h
  · exact ⟨h1, Or.inl h2⟩
  · exact ⟨h1, Or.inr ⟨g, cap, cur, h3, h4, (hg.block g (Array.getElem?_eq_some_iff.1 h5).1 (fun e => ownU_not hu he h5 e.symm)).trans h5, h6⟩⟩
/-- The other way about: a slice of numbers stands where one of records is grown. -/
theorem OwnU.grown {α : Type} {c : α → List Value} {n : Nat} {e : TypeId} (he : e ≠ 24) {w w' : World} {b b2 : Nat} {v u : Value} {l : List α} {l2 : List Nat} (h : OwnR e c n w b v l) (hu : OwnU w b2 u l2) (hg : w.grownBy w' v.ownBlock) : OwnU w' b2 u l2 := by
  obtain ⟨h1, h2 | ⟨g, cap, cur, h3, h4, h5, h6⟩⟩ := hu
  · exact ⟨h1, Or.inl h2⟩
  · refine ⟨h1, Or.inr ⟨g, cap, cur, h3, h4, (hg.block g (Array.getElem?_eq_some_iff.1 h5).1 (fun hb => ?_)).trans h5, h6⟩⟩
    obtain ⟨_, ⟨rfl, _⟩ | ⟨g', cap', cur', rfl, _, hg', _⟩⟩ := h
    · simp [Value.ownBlock] at hb
    · simp [Value.ownBlock] at hb
      subst hb
      rw [hg'] at h5
      simp at h5
      exact he h5.2
theorem wp_append_shape (w : World) {ops : Array Oper} {rest : List Oper} {o : Oper} {a : Act} {Q : Exit → Act → World → Prop} (hgd : o.guard = none) (s x : Operand)
    (ho : o.op = .call { callee := .builtin .append, args := #[s, x], argTypes := #[25, 25] })
    (base : Nat) (v : Value) (l : List Shp) (hs : a.eval s = v) (hown : OwnR 28 sc 2 w base v l) (g : Nat) (f : Shp) (hx : a.eval x = .slice (some ⟨g, 0, none⟩) 1 1)
    (hc0 : w.cell? ⟨g, 0, none⟩ = some (.int .i64 f.1)) (hc1 : w.cell? ⟨g, 1, none⟩ = some (.int .i64 f.2)) (hl : l.length ≤ 1000000000) (hbase : base ≤ w.heap.size)
    (h : ∀ v' w', OwnR 28 sc 2 w' base v' (l ++ [f]) → w.grownBy w' v.ownBlock → wpList Try.prog ops Q rest (a.put o.dst v') w') : wpList Try.prog ops Q (o :: rest) a w := by
  refine wp_append_row 28 25 _ 16 info_sh Try.underlying25 rfl (by decide) (by decide) sc_len sc_one w hgd s x ho base v l hs hown g f hx ?_ hl hbase h
  intro i u hi
  match i, hi with
  | 0, hi => simp [sc] at hi; subst hi; exact hc0
  | 1, hi => simp [sc] at hi; subst hi; exact hc1
  | i + 2, hi => simp [sc] at hi

theorem itWords_lt (l : List It) (h : ∀ i ∈ l, i.ok) : (itWords l).length ≤ 256 * l.length := by
  induction l with
  | nil => simp [itWords]
  | cons i l ih =>
    have h1 := It.words_len i (h i (by simp))
    have h2 := (h i (by simp)).1
    have h3 := ih (fun j hj => h j (by simp [hj]))
    rw [itWords_cons, List.length_append, h1, List.length_cons]
    omega
theorem itShapes_le (l : List It) : (itShapes l).length ≤ l.length := by
  simp only [itShapes, List.length_map]
  exact List.length_filter_le _ _

theorem slotsOf2 (r : RawV) (s p : Nat) (w : World) (hr : r.ok w) (hs : rawS r = s) (hp : rawP r = p) :
    Calls Try.prog 24 #[.agg #[.int .i64 r.size, .int .i64 r.ptrs, .slice r.ao r.zs.length r.cap, .bool r.gone]] w fun e w' => ∃ ao cap, e = .returned (.slice ao s cap) ∧ OwnU w' w.heap.size (.slice ao s cap) (rawSlots r) ∧ Us w' ao (rawSlots r) ∧ (ao = none → cap = 0) ∧ Below w.heap.size w w' := by
  refine (slotsOf r s p w hr hs hp).mono ?_
  rintro e w' ⟨v', rfl, ho, hb⟩
  have ho' := ho
  obtain ⟨_, ⟨rfl, h0⟩ | ⟨g, cap, cur, rfl, h2, hg, _⟩⟩ := ho
  · rw [rawSlots_len, hs] at h0
    subst h0
    refine ⟨none, 0, rfl, ho', fun j hj => ?_, fun _ => rfl, hb⟩
    rw [rawSlots_len, hs] at hj
    omega
  · obtain ⟨ao2, cap2, he, hu⟩ := OwnU.us ho'
    simp only [Value.slice.injEq] at he
    obtain ⟨rfl, _, rfl⟩ := he
    refine ⟨some ⟨g, 0, none⟩, cap, ?_, ?_, hu, (fun h => by cases h), hb⟩
    · rw [rawSlots_len, hs]
    · rw [rawSlots_len, hs] at ho'; exact ho'
/-- An append of numbers onto a slice of the call's own, at a step of a region that draws its order; what it leaves. -/
theorem step_append_us2 {w : World} {ops : Array Oper} {o : Oper} {a : Act} {K : Act → World → Prop} {Q : Exit → Act → World → Prop} {E : Prop} (hgd : Region.wanted o (yielded ops a.tmps) = true) (s x : Operand)
    (ho : o.op = .call { callee := .builtin .append, args := #[s, x], argTypes := #[22, 22] }) (hty : o.type = 22)
    (base : Nat) (v : Value) (l zs : List Nat) (hs : a.eval s = v) (hown : OwnU w base v l) (ao : Option Addr) (m cap : Nat) (hx : a.eval x = .slice ao m cap) (hm : zs.length = m) (hu : Us w ao zs) (hn : ao = none → cap = 0)
    (hl : (l ++ zs).length ≤ 1000000000) (hb : base ≤ w.heap.size)
    (h : ∀ v' w', OwnU w' base v' (l ++ zs) → w.grownBy w' v.ownBlock → K (a.put o.dst v') w') :
    if Region.wanted o (yielded ops a.tmps) = true then Oper.wp Try.prog o a w K Q else E := by
  rw [if_pos hgd]
  have hlen : l.length + m ≤ 1000000000 := by rw [← hm, ← List.length_append]; exact hl
  obtain ⟨v', w', hrun, h1, h2⟩ := run_append_us hown hm hu hn hlen hb
  unfold Oper.wp
  simp [execOp, ho, hty, resolve, invoke, builtin, hs, hx, hrun, Result.andThen]
  exact h v' w' h1 h2
theorem rawIt_gone (k : Nat) (r : RawV) (s p : Nat) (hs : rawS r = s) (hp : rawP r = p) (hg : r.gone = true) : itWords [rawIt true k r] = (2 * (100 + k) + 1) :: List.replicate s 0 ∧ itShapes [rawIt true k r] = [((s : Int), (p : Int))] := by
  simp [rawIt, hg, itWords, It.words, itShapes, hs, hp]
theorem rawIt_stay (old : Bool) (k : Nat) (r : RawV) (s p : Nat) (hs : rawS r = s) (hp : rawP r = p) (hg : (old && r.gone) = false) : itWords [rawIt old k r] = hpack s p :: rawSlots r ∧ itShapes [rawIt old k r] = [] := by
  simp [rawIt, hg, itWords, It.words, itShapes, hs, hp]

set_option maxRecDepth 100000 in
set_option maxHeartbeats 2000000 in
theorem words_try (ao : Option Addr) (ca n : Nat) (l : List RawV) (old : Bool) (w : World) (hn : l.length = n) (hok : ∀ r ∈ l, r.ok w) (hR : Rw rc 4 w ao l) :
    Calls Try.prog 10 #[.slice ao n ca, .bool old] w fun e w' => ∃ v1 v2, e = .returned (.tuple #[v1, v2]) ∧ OwnU w' w.heap.size v1 (itWords (rawIts old (l.take 8))) ∧ OwnR 28 sc 2 w' w.heap.size v2 (itShapes (rawIts old (l.take 8))) ∧ Below w.heap.size w w' := by
  have HN := Lib.hid hn
  have HK := Lib.hid hok
  have HR := Lib.hid hR
  clear hn hok hR
  go_enter Try.func10, Try.ntmps10
  go_wp2_with fail
  go_loopw [6, 7, 8] (fun vo vs i wr => ∃ k : Nat, i = .int .i64 k ∧ k ≤ n ∧ k ≤ 8 ∧ Hid (OwnU wr w.heap.size vo (itWords (rawIts old (l.take k)))) ∧ Hid (OwnR 28 sc 2 wr w.heap.size vs (itShapes (rawIts old (l.take k)))) ∧ Below w.heap.size w wr) (fun _ _ i _ => n - (intOf i).toNat)
  case atStart => exact ⟨0, rfl, by omega, by omega, Lib.hid ⟨rfl, Or.inl ⟨rfl, rfl⟩⟩, Lib.hid (OwnR.nil _ _ _), Below.refl _ _⟩
  case round =>
    obtain ⟨k, rfl, hk, hk8, HO, HS, hbel⟩ := hrel
    by_cases hkn : k < n
    · have dk : decide (k < n) = true := by simp; omega
      by_cases hk9 : k < 8
      · have dk8 : decide ((k : Int) < 8) = true := by simp; omega
        have hkl : k < l.length := by have := HN.out; omega
        obtain ⟨r, hr⟩ : ∃ r, l[k]? = some r := ⟨_, List.getElem?_eq_getElem hkl⟩
        have hrok := HK.out r (List.mem_of_getElem? hr)
        have HTK := Lib.hid (rawIts_take old l k r hr)
        have HLW := Lib.hid (itWords_lt (rawIts old (l.take k)) (rawIts_ok old _))
        have HLS := Lib.hid (itShapes_le (rawIts old (l.take k)))
        have HLT : Hid ((rawIts old (l.take k)).length = k) := Lib.hid (by rw [rawIts_len]; simp; omega)
        obtain ⟨b, off, rfl, hbb, c0, c1, c2, c3⟩ := raw_cells HR.out hr
        have e0 := cell_step hbel hbb c0
        have e1 := cell_step hbel hbb c1
        have e2 := cell_step hbel hbb c2
        have e3 := cell_step hbel hbb c3
        obtain ⟨s, hs⟩ : ∃ s, rawS r = s := ⟨_, rfl⟩
        obtain ⟨p, hp⟩ : ∃ p, rawP r = p := ⟨_, rfl⟩
        have hs7 := (rawS_lt r).1
        have hps := (rawP_le r).1
        rw [hs] at hs7 hps
        rw [hp] at hps
        have HRO := Lib.hid hrok
        have HSP := Lib.hid (And.intro hs hp)
        clear hr hrok hs hp hkl
        go_wp2_with fail
        refine (shapeOf r s p _ (HRO.out.below (Nat.le_refl _) hbel) HSP.out.1 HSP.out.2).mono ?_
        rintro e w2 ⟨rfl, hb2⟩
        have hb2' := bt hbel hb2
        have HB3 := Lib.hid (ba hb2' (.cells #[.int .i64 s, .int .i64 p] 28))
        have HA := Lib.hid (ShAt.new w2 s p)
        have HO3 := Lib.hid ((HO.out.later' hb2).alloc (.cells #[.int .i64 s, .int .i64 p] 28))
        have HS3 := Lib.hid ((HS.out.later hb2).alloc (.cells #[.int .i64 s, .int .i64 p] 28))
        have a0 := HA.out.c0
        have a1 := HA.out.c1
        have f0 := cell_step HB3.out hbb c0
        have f1 := cell_step HB3.out hbb c1
        have f2 := cell_step HB3.out hbb c2
        have f3 := cell_step HB3.out hbb c3
        clear hb2 hb2' hbel e0 e1 e2 e3 HO HS
        cases old with
        | true =>
          cases hgo : r.gone with
          | true =>
            have HIT := Lib.hid (rawIt_gone k r s p HSP.out.1 HSP.out.2 hgo)
            rw [hgo] at f3
            obtain ⟨y, hy⟩ : ∃ y : Nat, 2 * (100 + (k : Int)) + 1 = (y : Int) := ⟨2 * (100 + k) + 1, by omega⟩
            have HY : Hid (y = 2 * (100 + k) + 1) := Lib.hid (by omega)
            have HA4 := Lib.hid (HA.out.below (ba0 _ (.cells #[.int .u64 (y : Int)] 24)))
            have HO4 := Lib.hid (HO3.out.alloc (.cells #[.int .u64 (y : Int)] 24))
            have HS4 := Lib.hid (HS3.out.alloc (.cells #[.int .u64 (y : Int)] 24))
            have HB4 := Lib.hid (ba HB3.out (.cells #[.int .u64 (y : Int)] 24))
            have hsz := HB4.out.size
            clear hgo c0 c1 c2 c3
            go_wp2_with (at_builtin; refine wp_append_u64 _ rfl (.tmp 35) (.tmp 41) rfl w.heap.size _ (itWords (rawIts true (l.take k))) rfl HO4.out (w2.heap.size + 1) y rfl ?_ ?_ ?_ ?_)
            · simp [U]
            · have := HLW.out; have := HLT.out; omega
            · exact hsz
            · intro v5 w5 hown5 hgrow5
              have HB5 := Lib.hid (HB4.out.grown hgrow5 HB4.out.size (fun j hj => (World.ownsRow.lt HO4.out j hj).1))
              have HA5 := Lib.hid (HA4.out.grown HO4.out hgrow5)
              have HS5 := Lib.hid (HS4.out.grown (by decide) HO4.out hgrow5)
              have HO5 := Lib.hid hown5
              have b0 := HA5.out.c0
              have b1 := HA5.out.c1
              have hsz5 := HB5.out.size
              clear hown5 hgrow5 HO4 HS4 HB4 HA4 hsz a0 a1 f0 f1 f2 f3 HO3 HS3 HB3 HA
              go_wp2_with (at_builtin; refine wp_append_zeros _ rfl (.tmp 43) (.tmp 45) rfl w.heap.size _ (itWords (rawIts true (l.take k)) ++ [y]) s rfl HO5.out rfl ?_ ?_ ?_)
              · have := HLW.out; have := HLT.out; simp; omega
              · exact hsz5
              · intro v6 w6 hown6 hgrow6
                have HB6 := Lib.hid (HB5.out.grown hgrow6 HB5.out.size (fun j hj => (World.ownsRow.lt HO5.out j hj).1))
                have HA6 := Lib.hid (HA5.out.grown HO5.out hgrow6)
                have HS6 := Lib.hid ((HS5.out.grown (by decide) HO5.out hgrow6).alloc (.cells #[.int .i64 s, .int .i64 p] 28))
                have HO6 := Lib.hid (OwnU.alloc hown6 (.cells #[.int .i64 s, .int .i64 p] 28))
                have d0 := HA6.out.c0
                have d1 := HA6.out.c1
                have HB7 := Lib.hid (ba HB6.out (.cells #[.int .i64 s, .int .i64 p] 28))
                have hsz7 := HB7.out.size
                clear hown6 hgrow6 HS5 HO5 HB5 HA5 b0 b1 hsz5 HB6
                go_wp2_with (at_builtin; refine wp_append_shape _ rfl (.tmp 47) (.tmp 49) rfl w.heap.size _ (itShapes (rawIts true (l.take k))) rfl HS6.out w6.heap.size ((s : Int), (p : Int)) rfl ?_ ?_ ?_ ?_ ?_)
                · have := HLS.out; have := HLT.out; omega
                · exact hsz7
                · intro v8 w8 hown8 hgrow8
                  have HB8 := Lib.hid (OwnR.below HS6.out HB7.out (Nat.le_refl _) hgrow8)
                  have HO8 : Hid (OwnU w8 w.heap.size v6 (itWords (rawIts true (l.take (k + 1))))) := Lib.hid (by
                    have h1 := OwnU.grown (by decide) HS6.out HO6.out hgrow8
                    rw [HTK.out, itWords_app, HIT.out.1]
                    rw [HY.out] at h1
                    simpa using h1)
                  have HS8 : Hid (OwnR 28 sc 2 w8 w.heap.size v8 (itShapes (rawIts true (l.take (k + 1))))) := Lib.hid (by rw [HTK.out, itShapes_app, HIT.out.2]; exact hown8)
                  clear hown8 hgrow8 HS6 HO6 HA6 d0 d1 HB7 hsz7
                  go_wp2_with fail
                  go_roundw
                  case rel => exact ⟨k + 1, by go_num, by omega, by omega, HO8, HS8, HB8.out⟩
                  case measure => simp [intOf]; omega
          | false =>
            rw [hgo] at f3 c3
            -- STAY true
            have HIT := Lib.hid (rawIt_stay true k r s p HSP.out.1 HSP.out.2 (by simp [hgo]))
            obtain ⟨u, hu0⟩ : ∃ u, hpack s p = u := ⟨_, rfl⟩
            have HU0 := Lib.hid hu0
            clear hu0
            go_wp2_with fail
            refine (refPackYes s p u _ (by omega) hps HU0.out).mono ?_
            rintro e w3 ⟨rfl, hb3⟩
            have HB9 := Lib.hid (bt HB3.out hb3)
            have HO9 := Lib.hid (HO3.out.later' hb3)
            have HS9 := Lib.hid (HS3.out.later hb3)
            have g0 := cell_step HB9.out hbb c0
            have g1 := cell_step HB9.out hbb c1
            have g2 := cell_step HB9.out hbb c2
            have g3 := cell_step HB9.out hbb c3
            have hkeep : Hid (∀ w' : World, Below w.heap.size w w' → w'.cell? ⟨b, off + k * 4, none⟩ = some (.int .i64 r.size) ∧ w'.cell? ⟨b, off + k * 4 + 1, none⟩ = some (.int .i64 r.ptrs) ∧ w'.cell? ⟨b, off + k * 4 + 2, none⟩ = some (.slice r.ao r.zs.length r.cap) ∧ w'.cell? ⟨b, off + k * 4 + 3, none⟩ = some (.bool false)) :=
              Lib.hid fun w' h => ⟨cell_step h hbb c0, cell_step h hbb c1, cell_step h hbb c2, cell_step h hbb c3⟩
            have ih := fun w' (hb : Below w.heap.size w w') => slotsOf2 r s p w' (HRO.out.below (Nat.le_refl _) hb) HSP.out.1 HSP.out.2
            rw [hgo] at ih
            have IH := Lib.hid ih
            clear ih
            have HLR : Hid ((rawSlots r).length = s) := Lib.hid (by rw [rawSlots_len]; exact HSP.out.1)
            have HN9 : Hid ((itWords (rawIts true (l.take k)) ++ [u]).length ≤ 900000000) := Lib.hid (by have := HLW.out; have := HLT.out; simp; omega)
            clear hb3 c0 c1 c2 c3 a0 a1 f0 f1 f2 f3 HO3 HS3 HB3 HA
            go_wp2_with fail
            go_region_held3 (fun w' => w'.cell? ⟨b, off + k * 4, none⟩ = some (.int .i64 r.size) ∧ w'.cell? ⟨b, off + k * 4 + 1, none⟩ = some (.int .i64 r.ptrs) ∧ w'.cell? ⟨b, off + k * 4 + 2, none⟩ = some (.slice r.ao r.zs.length r.cap) ∧ w'.cell? ⟨b, off + k * 4 + 3, none⟩ = some (.bool false)) (exact hkeep.out _ (by first
              | exact HB9.out.drew | exact HB9.out | exact ba HB9.out.drew _
              | exact HB5.out | exact bt HB5.out HB6.out | exact HB7.out)) ((first
              | (go_at_call 24; refine (IH.out _ HB5.out).mono ?_; rintro e w6 ⟨ao6, cap6, rfl, ho6, hu6, hn6, hb6⟩; have HO6 := Lib.hid ho6; have HU6 := Lib.hid hu6; have HN6 := Lib.hid hn6; have HB6 := Lib.hid hb6; clear ho6 hu6 hn6 hb6)
              | (refine step_append_us2 rfl (.tmp 56) (.tmp 58) rfl rfl w.heap.size _ (itWords (rawIts true (l.take k))) [u] rfl (HO9.out.later' (ba (Below.refl _ w3).drew _)) _ 1 1 rfl rfl (us_lit1 _ u) (by intro h; cases h) (by have := HN9.out; omega) (ba HB9.out.drew (.cells #[.int .u64 (u : Int)] 24)).size ?_
                 intro v5 w5 h1 h2
                 have HB5 := Lib.hid ((ba HB9.out.drew (.cells #[.int .u64 (u : Int)] 24)).grown h2 (ba HB9.out.drew (.cells #[.int .u64 (u : Int)] 24)).size (fun j hj => (World.ownsRow.lt HO9.out j hj).1))
                 have HO5 := Lib.hid h1
                 have HS5 := Lib.hid (OwnR.grown (by decide) (HS9.out.later (ba (Below.refl _ w3).drew (.cells #[.int .u64 (u : Int)] 24))) (HO9.out.later' (ba (Below.refl _ w3).drew (.cells #[.int .u64 (u : Int)] 24))) h2)
                 clear h1 h2)
              | (refine step_append_us2 rfl (.tmp 59) (.tmp 64) rfl rfl w.heap.size _ (itWords (rawIts true (l.take k)) ++ [u]) (rawSlots r) rfl (HO5.out.later' HB6.out) _ s _ rfl HLR.out HU6.out HN6.out (by have h9 := HN9.out; have h8 := HLR.out; rw [List.length_append]; omega) (bt HB5.out HB6.out).size ?_
                 intro v7 w7 h1 h2
                 have HB7 := Lib.hid ((bt HB5.out HB6.out).grown h2 (bt HB5.out HB6.out).size (fun j hj => (World.ownsRow.lt HO5.out j hj).1))
                 have HO7 := Lib.hid h1
                 have HS7 := Lib.hid (OwnR.grown (by decide) (HS5.out.later HB6.out) (HO5.out.later' HB6.out) h2)
                 clear h1 h2)))
            have HO8 : Hid (OwnU w7 w.heap.size v7 (itWords (rawIts true (l.take (k + 1))))) := Lib.hid (by
              have h1 := HO7.out
              rw [HTK.out, itWords_app, HIT.out.1, HU0.out]
              simpa using h1)
            have HS8 : Hid (OwnR 28 sc 2 w7 w.heap.size u7 (itShapes (rawIts true (l.take (k + 1))))) := Lib.hid (by rw [HTK.out, itShapes_app, HIT.out.2, List.append_nil]; exact HS7.out)
            go_wp2_with fail
            go_roundw
            case rel => exact ⟨k + 1, by go_num, by omega, by omega, HO8, HS8, HB7.out⟩
            case measure => simp [intOf]; omega
            -- END true
        | false =>
          -- STAY false
          have HIT := Lib.hid (rawIt_stay false k r s p HSP.out.1 HSP.out.2 (by simp))
          obtain ⟨u, hu0⟩ : ∃ u, hpack s p = u := ⟨_, rfl⟩
          have HU0 := Lib.hid hu0
          clear hu0
          go_wp2_with fail
          refine (refPackYes s p u _ (by omega) hps HU0.out).mono ?_
          rintro e w3 ⟨rfl, hb3⟩
          have HB9 := Lib.hid (bt HB3.out hb3)
          have HO9 := Lib.hid (HO3.out.later' hb3)
          have HS9 := Lib.hid (HS3.out.later hb3)
          have g0 := cell_step HB9.out hbb c0
          have g1 := cell_step HB9.out hbb c1
          have g2 := cell_step HB9.out hbb c2
          have g3 := cell_step HB9.out hbb c3
          have hkeep : Hid (∀ w' : World, Below w.heap.size w w' → w'.cell? ⟨b, off + k * 4, none⟩ = some (.int .i64 r.size) ∧ w'.cell? ⟨b, off + k * 4 + 1, none⟩ = some (.int .i64 r.ptrs) ∧ w'.cell? ⟨b, off + k * 4 + 2, none⟩ = some (.slice r.ao r.zs.length r.cap) ∧ w'.cell? ⟨b, off + k * 4 + 3, none⟩ = some (.bool r.gone)) :=
            Lib.hid fun w' h => ⟨cell_step h hbb c0, cell_step h hbb c1, cell_step h hbb c2, cell_step h hbb c3⟩
          have ih := fun w' (hb : Below w.heap.size w w') => slotsOf2 r s p w' (HRO.out.below (Nat.le_refl _) hb) HSP.out.1 HSP.out.2
          have IH := Lib.hid ih
          clear ih
          have HLR : Hid ((rawSlots r).length = s) := Lib.hid (by rw [rawSlots_len]; exact HSP.out.1)
          have HN9 : Hid ((itWords (rawIts false (l.take k)) ++ [u]).length ≤ 900000000) := Lib.hid (by have := HLW.out; have := HLT.out; simp; omega)
          clear hb3 c0 c1 c2 c3 a0 a1 f0 f1 f2 f3 HO3 HS3 HB3 HA
          go_wp2_with fail
          go_region_held3 (fun w' => w'.cell? ⟨b, off + k * 4, none⟩ = some (.int .i64 r.size) ∧ w'.cell? ⟨b, off + k * 4 + 1, none⟩ = some (.int .i64 r.ptrs) ∧ w'.cell? ⟨b, off + k * 4 + 2, none⟩ = some (.slice r.ao r.zs.length r.cap) ∧ w'.cell? ⟨b, off + k * 4 + 3, none⟩ = some (.bool r.gone)) (exact hkeep.out _ (by first
            | exact HB9.out.drew | exact HB9.out | exact ba HB9.out.drew _
            | exact HB5.out | exact bt HB5.out HB6.out | exact HB7.out)) ((first
            | (go_at_call 24; refine (IH.out _ HB5.out).mono ?_; rintro e w6 ⟨ao6, cap6, rfl, ho6, hu6, hn6, hb6⟩; have HO6 := Lib.hid ho6; have HU6 := Lib.hid hu6; have HN6 := Lib.hid hn6; have HB6 := Lib.hid hb6; clear ho6 hu6 hn6 hb6)
            | (refine step_append_us2 rfl (.tmp 56) (.tmp 58) rfl rfl w.heap.size _ (itWords (rawIts false (l.take k))) [u] rfl (HO9.out.later' (ba (Below.refl _ w3).drew _)) _ 1 1 rfl rfl (us_lit1 _ u) (by intro h; cases h) (by have := HN9.out; omega) (ba HB9.out.drew (.cells #[.int .u64 (u : Int)] 24)).size ?_
               intro v5 w5 h1 h2
               have HB5 := Lib.hid ((ba HB9.out.drew (.cells #[.int .u64 (u : Int)] 24)).grown h2 (ba HB9.out.drew (.cells #[.int .u64 (u : Int)] 24)).size (fun j hj => (World.ownsRow.lt HO9.out j hj).1))
               have HO5 := Lib.hid h1
               have HS5 := Lib.hid (OwnR.grown (by decide) (HS9.out.later (ba (Below.refl _ w3).drew (.cells #[.int .u64 (u : Int)] 24))) (HO9.out.later' (ba (Below.refl _ w3).drew (.cells #[.int .u64 (u : Int)] 24))) h2)
               clear h1 h2)
            | (refine step_append_us2 rfl (.tmp 59) (.tmp 64) rfl rfl w.heap.size _ (itWords (rawIts false (l.take k)) ++ [u]) (rawSlots r) rfl (HO5.out.later' HB6.out) _ s _ rfl HLR.out HU6.out HN6.out (by have h9 := HN9.out; have h8 := HLR.out; rw [List.length_append]; omega) (bt HB5.out HB6.out).size ?_
               intro v7 w7 h1 h2
               have HB7 := Lib.hid ((bt HB5.out HB6.out).grown h2 (bt HB5.out HB6.out).size (fun j hj => (World.ownsRow.lt HO5.out j hj).1))
               have HO7 := Lib.hid h1
               have HS7 := Lib.hid (OwnR.grown (by decide) (HS5.out.later HB6.out) (HO5.out.later' HB6.out) h2)
               clear h1 h2)))
          have HO8 : Hid (OwnU w7 w.heap.size v7 (itWords (rawIts false (l.take (k + 1))))) := Lib.hid (by
            have h1 := HO7.out
            rw [HTK.out, itWords_app, HIT.out.1, HU0.out]
            simpa using h1)
          have HS8 : Hid (OwnR 28 sc 2 w7 w.heap.size u7 (itShapes (rawIts false (l.take (k + 1))))) := Lib.hid (by rw [HTK.out, itShapes_app, HIT.out.2, List.append_nil]; exact HS7.out)
          go_wp2_with fail
          go_roundw
          case rel => exact ⟨k + 1, by go_num, by omega, by omega, HO8, HS8, HB7.out⟩
          case measure => simp [intOf]; omega
          -- END false
      · have dk8 : decide ((k : Int) < 8) = false := by simp; omega
        obtain rfl : k = 8 := by omega
        go_wp2_with fail
        go_ret2
        exact ⟨_, _, rfl, HO.out, HS.out, hbel⟩
    · have dk : decide (k < n) = false := by simp; omega
      have ht : l.take k = l.take 8 := by rw [List.take_of_length_le (by have := HN.out; omega), List.take_of_length_le (by have := HN.out; omega)]
      rw [ht] at HO HS
      go_wp2_with fail
      go_ret2
      exact ⟨_, _, rfl, HO.out, HS.out, hbel⟩
end Go.Proofs.Ytjefajpipgicdaa.V
