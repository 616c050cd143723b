/-
  Graph of the statements: a right graph of raw numbers; walked.
-/
import Derived.Test.YtjoacfjbdpmgpaaGAct
import Derived.Deep.RegionLaw
set_option linter.unusedVariables false
namespace Go.Proofs.Ytjoacfjbdpmgpaa.V
open Go.RowKit

def rawp (n : Nat) (l : List Int) : List Int := (l.take 4).map fun p => pk p ((n : Int) + 1) - 1
def gnd (n : Nat) (x : Nd) : Nd := ⟨rawp n x.ptrs, x.data.take 4⟩
/-- The graph of raw numbers. -/
def gof (raws : List Nd) (roots : List Int) : Gr :=
  ⟨(raws.take 10).map (gnd (min raws.length 10)), if roots = [] then [((min raws.length 10 : Nat) : Int) - 1] else (roots.take 5).map fun p => pk p (((min raws.length 10 : Nat) : Int) + 1) - 1⟩
theorem rawp_in (n : Nat) (l : List Int) : ∀ p ∈ rawp n l, gin n p := by
  intro p hp
  obtain ⟨c, _, rfl⟩ := List.mem_map.1 hp
  have := pk_bd c ((n : Int) + 1) (by omega)
  unfold gin; omega
theorem gof_eq (raws : List Nd) (roots : List Int) (n : Nat) (hn : min raws.length 10 = n) : gof raws roots = ⟨(raws.take n).map (gnd n), if roots = [] then [(n : Int) - 1] else (roots.take 5).map fun p => pk p ((n : Int) + 1) - 1⟩ := by
  have ht : raws.take 10 = raws.take n := by
    by_cases h : raws.length ≤ 10
    · rw [List.take_of_length_le h, List.take_of_length_le (by omega)]
    · rw [show n = 10 by omega]
  unfold gof
  rw [hn, ht]
theorem gof_len (raws : List Nd) (roots : List Int) : (gof raws roots).nodes.length = min raws.length 10 := by simp [gof]; omega
theorem gof_right (raws : List Nd) (roots : List Int) : gright (gof raws roots) ∧ (gof raws roots).nodes.length ≤ 10 ∧ 1 ≤ (gof raws roots).roots.length ∧ (gof raws roots).roots.length ≤ 5 ∧ ∀ x ∈ (gof raws roots).nodes, x.ptrs.length ≤ 4 ∧ x.data.length ≤ 4 := by
  have hl := gof_len raws roots
  have hnode : ∀ x ∈ (gof raws roots).nodes, (∀ p ∈ x.ptrs, gin (min raws.length 10) p) ∧ x.ptrs.length ≤ 4 ∧ x.data.length ≤ 4 := by
    intro x hx
    obtain ⟨y, _, rfl⟩ := List.mem_map.1 hx
    exact ⟨rawp_in _ _, by simp [gnd, rawp]; omega, by simp [gnd]; omega⟩
  have hroot : 1 ≤ (gof raws roots).roots.length ∧ (gof raws roots).roots.length ≤ 5 ∧ ∀ p ∈ (gof raws roots).roots, gin (min raws.length 10) p := by
    unfold gof
    dsimp only
    by_cases h : roots = []
    · rw [if_pos h]
      refine ⟨by simp, by simp, fun p hp => ?_⟩
      simp only [List.mem_singleton] at hp
      subst hp
      unfold gin; omega
    · rw [if_neg h]
      have : 0 < roots.length := List.length_pos_iff.2 h
      refine ⟨by simp; omega, by simp; omega, fun p hp => ?_⟩
      obtain ⟨c, _, rfl⟩ := List.mem_map.1 hp
      have := pk_bd c (((min raws.length 10 : Nat) : Int) + 1) (by omega)
      unfold gin; omega
  refine ⟨⟨by omega, ?_, ?_⟩, by omega, hroot.1, hroot.2.1, fun x hx => (hnode x hx).2⟩
  · intro p hp; rw [hl]; exact hroot.2.2 p hp
  · intro x hx
    refine ⟨by have := (hnode x hx).2; omega, fun p hp => ?_⟩
    rw [hl]; exact (hnode x hx).1 p hp

/-- A block of ints or of numbers. -/
def TyB (w : World) (b : Nat) : Prop := ∃ cs t, Blk w b cs t ∧ (t = 3 ∨ t = 29)
theorem TyB.of {w : World} {b : Nat} {cs : List Value} {t : TypeId} (h : Blk w b cs t) (ht : t ≠ 3 ∧ t ≠ 29) : ¬ TyB w b := by
  rintro ⟨cs', t', h', hh⟩
  unfold Blk at h h'
  rw [h] at h'
  simp only [Option.some.injEq, Obj.cells.injEq] at h'
  rcases hh with hh | hh
  · exact ht.1 (h'.2.1.trans hh)
  · exact ht.2 (h'.2.1.trans hh)
/-- Nodes of one's own. -/
def LOK (w : World) (S : Nat) (L : List NdV) : Prop := ∀ x ∈ L, x.ok w ∧ NdP (fun b => S ≤ b ∧ TyB w b) x
theorem LOK.kept {w w' : World} {S : Nat} {L : List NdV} (h : LOK w S L) (hs : w.heap.size ≤ w'.heap.size) (hk : ∀ b, TyB w b → b < w.heap.size → w'.heap[b]? = w.heap[b]?) : LOK w' S L := by
  intro x hx
  obtain ⟨h1, h2⟩ := h x hx
  have hty : ∀ b, TyB w b → TyB w' b := fun b hb => by
    have hb' := hb
    obtain ⟨cs, t, hbl, ht⟩ := hb
    refine ⟨cs, t, ?_, ht⟩
    have := hk b hb' hbl.lt
    unfold Blk at *
    rw [this]; exact hbl
  refine ⟨h1.kept h2 hs (fun b hb hlt => hk b hb.2 hlt), h2.imp (fun b hb => ⟨hb.1, hty b hb.2⟩)⟩
theorem LOK.below {w w' : World} {S : Nat} {L : List NdV} (h : LOK w S L) (hb : Below w.heap.size w w') : LOK w' S L := h.kept hb.size (fun b _ hlt => hb.block b hlt)
theorem OwnR.setT {α : Type} {c : α → List Value} {n : Nat} {e : TypeId} {w : World} {S : Nat} {v : Value} {l : List α} (h : OwnR e c n w S v l) {g j : Nat} {cs : List Value} {t : TypeId} (hb : Blk w g cs t) (ht : t ≠ e) (u : Value) : OwnR e c n (w.setCell ⟨g, j, none⟩ u) S v l := by
  obtain ⟨h1, h2 | ⟨gg, cap, cur, h3, h4, h5, h6⟩⟩ := h
  · exact ⟨h1, Or.inl h2⟩
  · refine ⟨h1, Or.inr ⟨gg, cap, cur, h3, h4, ?_, h6⟩⟩
    rw [Deep.blk_setCell_other _ _ _ _ (show gg ≠ g from fun he => ?_)]
    · exact h5
    · subst he
      unfold Blk at hb
      rw [hb] at h5
      simp only [Option.some.injEq, Obj.cells.injEq] at h5
      exact ht h5.2.1
theorem own_u_setT {w : World} {S : Nat} {v : Value} {l : List Nat} (h : OwnU w S v l) {g j : Nat} {cs : List Value} {t : TypeId} (hb : Blk w g cs t) (ht : t ≠ 29) (u : Value) : OwnU (w.setCell ⟨g, j, none⟩ u) S v l := by
  obtain ⟨h1, h2 | ⟨gg, cap, cur, h3, h4, h5, h6⟩⟩ := h
  · exact ⟨h1, Or.inl h2⟩
  · refine ⟨h1, Or.inr ⟨gg, cap, cur, h3, h4, ?_, h6⟩⟩
    rw [Deep.blk_setCell_other _ _ _ _ (show gg ≠ g from fun he => ?_)]
    · exact h5
    · subst he
      unfold Blk at hb
      rw [hb] at h5
      simp only [Option.some.injEq, Obj.cells.injEq] at h5
      exact ht h5.2.1
theorem OwnR.ty {w : World} {S : Nat} {ao : Option Addr} {m cap : Nat} {l : List Int} (h : OwnR 3 ic 1 w S (.slice ao m cap) l) (hl : l.length = m) : Pl (fun b => S ≤ b ∧ TyB w b) ao l := fun hne => by
  have hm : 0 < m := by rw [← hl]; exact List.length_pos_iff.2 hne
  obtain ⟨_, ⟨h2, h0⟩ | ⟨g, cap', cur, h2, h3, h4, _⟩⟩ := h
  · omega
  · simp only [Value.slice.injEq] at h2
    exact ⟨g, 0, h2.1, h3, cur.toList, _, (by unfold Blk; simpa using h4), Or.inl rfl⟩
theorem OwnU.ty {w : World} {S : Nat} {ao : Option Addr} {m cap : Nat} {l : List Nat} (h : OwnU w S (.slice ao m cap) l) (hl : l.length = m) : Pl (fun b => S ≤ b ∧ TyB w b) ao l := fun hne => by
  have hm : 0 < m := by rw [← hl]; exact List.length_pos_iff.2 hne
  obtain ⟨_, ⟨h2, h0⟩ | ⟨g, cap', cur, h2, h3, h4, _⟩⟩ := h
  · omega
  · simp only [Value.slice.injEq] at h2
    exact ⟨g, 0, h2.1, h3, cur.toList, _, (by unfold Blk; simpa using h4), Or.inr rfl⟩
theorem step_copy_us (w : World) {ops : Array Oper} {o : Oper} {a : Act} {K : Act → World → Prop} {Q : Exit → Act → World → Prop} {E : Prop} (hgd : Region.wanted o (yielded ops a.tmps) = true) (s x : Operand)
    (ho : o.op = .call { callee := .builtin .append, args := #[s, x], argTypes := #[34, 34] }) (hty : o.type = 34) (hs : a.eval s = .slice none 0 0) (ao : Option Addr) (m cap : Nat) (hx : a.eval x = .slice ao m cap) (zs : List Nat) (hm : zs.length = m) (hu : Us w ao zs) (hn0 : ao = none → cap = 0) (hl : m ≤ 1000000000)
    (h : ∀ ao' cap' w', OwnU w' w.heap.size (.slice ao' m cap') zs → Us w' ao' zs → m ≤ cap' → cap' ≤ 9223372036854775807 → (ao' = none → cap' = 0) → Below w.heap.size w w' → K (a.put o.dst (.slice ao' m cap')) w') :
    if Region.wanted o (yielded ops a.tmps) = true then Oper.wp Try.prog o a w K Q else E := by
  rw [if_pos hgd]
  have hnil : OwnU w w.heap.size (.slice none 0 0) [] := ⟨by simp, Or.inl ⟨rfl, rfl⟩⟩
  obtain ⟨v', w', hrun, h1, h2⟩ := run_append_us hnil hm hu hn0 (by simpa using hl) (Nat.le_refl _)
  rw [List.nil_append] at h1
  obtain ⟨ao', cap', rfl, k2, k3, k4, k5⟩ := own_u_caps h1
  rw [hm] at h1 hrun k3
  unfold Oper.wp
  simp [execOp, ho, hty, resolve, invoke, builtin, hs, hx, hrun, Result.andThen]
  exact h ao' cap' w' h1 k2 k3 k4 k5 ((Below.refl _ w).grown h2 (Nat.le_refl _) (fun k hk => by simp [Value.ownBlock] at hk))
theorem But.grown {Z : Nat} {W a b : World} {row : Option Nat} (h : But Z W a) (hg : a.grownBy b row) (hr : ∀ j, row = some j → W.heap.size ≤ j) : But Z W b :=
  ⟨Nat.le_trans h.1 hg.size, fun c hc hz => (hg.block c (Nat.lt_of_lt_of_le hc h.1) (fun he => by have := hr c he.symm; omega)).trans (h.2 c hc hz)⟩
theorem OwnR.but {α : Type} {c : α → List Value} {n : Nat} {e : TypeId} {w w' : World} {S : Nat} {v : Value} {l : List α} (h : OwnR e c n w S v l) {Z : Nat} (hk : But Z w w') {cs : List Value} {t : TypeId} (hb : Blk w Z cs t) (ht : t ≠ e) : OwnR e c n w' S v l := by
  obtain ⟨h1, h2 | ⟨gg, cap, cur, h3, h4, h5, h6⟩⟩ := h
  · exact ⟨h1, Or.inl h2⟩
  · refine ⟨h1, Or.inr ⟨gg, cap, cur, h3, h4, ?_, h6⟩⟩
    rw [hk.2 gg (heapLt h5) (fun he => ?_)]
    · exact h5
    · subst he
      unfold Blk at hb
      rw [hb] at h5
      simp only [Option.some.injEq, Obj.cells.injEq] at h5
      exact ht h5.2.1
theorem LOK.but {w w' : World} {S : Nat} {L : List NdV} (h : LOK w S L) {Z : Nat} (hk : But Z w w') {cs : List Value} {t : TypeId} (hb : Blk w Z cs t) (ht : t ≠ 3 ∧ t ≠ 29) : LOK w' S L :=
  h.kept hk.1 (fun b hty hlt => hk.2 b hlt (fun he => by subst he; exact TyB.of hb ht hty))
/-- A graph that was built, in memory. -/
theorem graph_done {w W3 X w5 : World} {ao rao : Option Addr} {n cp m rcp : Nat} {L : List NdV} {R : List Int} {cs cs' : List Value} (HO : OwnR 36 nc 2 W3 w.heap.size (.slice ao n cp) L) (hL : L.length = n) (HK : LOK W3 w.heap.size L) (hG : Blk W3 (w.heap.size + 1) cs 25) (hU : But (w.heap.size + 1) W3 X)
    (HR : OwnR 3 ic 1 X W3.heap.size (.slice rao m rcp) R) (hR : R.length = m) (hc : m ≤ rcp ∧ rcp ≤ 9223372036854775807 ∧ (rao = none → rcp = 0)) (hb : ∀ p ∈ R, ib p) (hZ : Blk X w.heap.size cs' 25) (hU5 : But w.heap.size X w5) (hw : w.heap.size ≤ W3.heap.size) :
    GAt (fun b => w.heap.size ≤ b) w5 ao n cp rao m rcp ⟨L.map NdV.nd, R⟩ := by
  have HO5 := (HO.but hU hG (by decide)).but hU5 hZ (by decide)
  have HK5 := (HK.but hU hG (by decide)).but hU5 hZ (by decide)
  have HR5 := HR.but hU5 hZ (by decide)
  obtain ⟨ao', cap', hv, hr, hle, hcap, hno⟩ := HO5.rw' nc_len
  simp only [Value.slice.injEq] at hv
  obtain ⟨rfl, _, rfl⟩ := hv
  exact ⟨L, rfl, hL, hR, hr, fun x hx => (HK5 x hx).1, HR5.rows ic_len, by omega, hc.1, hcap, hc.2.1, hno, hc.2.2, hb, (fun hne => by
    obtain ⟨gg, e, h1, _⟩ := HO5.at (by rw [← hL]; exact List.length_pos_iff.2 hne) hL
    exact ⟨gg, 0, e, h1⟩), (HR5.ty hR).imp (fun b hb => by omega), fun x hx => (HK5 x hx).2.imp (fun b hb => hb.1)⟩
theorem OwnR.drewn {α : Type} {c : α → List Value} {n : Nat} {e : TypeId} {w : World} {S : Nat} {v : Value} {l : List α} (h : OwnR e c n w S v l) : OwnR e c n w.drew S v l := h
theorem rw_lit_in {w : World} {g : Nat} {x : Int} (h : Blk w g [.int .i64 x] 3) : Rw ic 1 w (some ⟨g, 0, none⟩) [x] := by
  intro j y hj
  match j, hj with
  | 0, hj =>
    simp at hj
    subst hj
    refine ⟨g, 0, rfl, h.lt, fun i v hi => ?_⟩
    rw [Nat.zero_mul, Nat.zero_add, Nat.zero_add]
    exact h.cell hi
theorem take_next {α : Type} {l : List α} {k : Nat} {x : α} (h : l[k]? = some x) : l.take k ++ [x] = l.take (k + 1) := by rw [List.take_add_one, h]; rfl

set_option maxRecDepth 100000 in
set_option maxHeartbeats 16000000 in
theorem gGraph (lo ro : Option Addr) (ln lc rn rc : Nat) (raws : List NdV) (roots : List Int) (w : World) (hln : raws.length = ln) (hrn : roots.length = rn) (hlm : ln ≤ lc) (hlc : lc ≤ 9223372036854775807) (hrm : rn ≤ rc) (hrc : rc ≤ 9223372036854775807)
    (hL : Rw nc 2 w lo raws) (hK : ∀ x ∈ raws, x.ok w) (hR : Rw ic 1 w ro roots) (hRb : ∀ p ∈ roots, ib p) :
    Calls Try.prog 10 #[.slice lo ln lc, .slice ro rn rc] w fun e w' => ∃ na n nq ra m rq, e = .returned (.agg #[.slice na n nq, .slice ra m rq]) ∧ GAt (fun b => w.heap.size ≤ b) w' na n nq ra m rq (gof (raws.map NdV.nd) roots) ∧ Below w.heap.size w w' := by
  obtain ⟨n, hn⟩ : ∃ n, min ln 10 = n := ⟨_, rfl⟩
  have hmin : min (ln : Int) 10 = (n : Int) := by omega
  have hnl : n ≤ ln := by omega
  have hn10 : n ≤ 10 := by omega
  have HL := Lib.hid hL
  have HK := Lib.hid hK
  have HR := Lib.hid hR
  have HRB := Lib.hid hRb
  have HLN := Lib.hid hln
  have HRN := Lib.hid hrn
  have HNN := Lib.hid hn
  clear hL hK hR hRb hln hrn hn
  have HZ : Hid (Blk ((w.alloc (.cells #[.slice none 0 0, .slice none 0 0] 25)).alloc (.cells #[.slice none 0 0, .slice none 0 0] 25)) w.heap.size [.slice none 0 0, .slice none 0 0] 25) := Lib.hid ((Blk.new w [.slice none 0 0, .slice none 0 0] 25).below (ba0 _ _))
  have HG : Hid (Blk ((w.alloc (.cells #[.slice none 0 0, .slice none 0 0] 25)).alloc (.cells #[.slice none 0 0, .slice none 0 0] 25)) (w.heap.size + 1) [.slice none 0 0, .slice none 0 0] 25) := Lib.hid (by
    have := Blk.new (w.alloc (.cells #[.slice none 0 0, .slice none 0 0] 25)) [.slice none 0 0, .slice none 0 0] 25
    rwa [World.size_alloc] at this)
  have HB := Lib.hid (ba (ba0 w (.cells #[.slice none 0 0, .slice none 0 0] 25)) (.cells #[.slice none 0 0, .slice none 0 0] 25))
  go_enter Try.func10, Try.ntmps10
  go_upto_region 3 with fail
  generalize (w.alloc (.cells #[.slice none 0 0, .slice none 0 0] 25)).alloc (.cells #[.slice none 0 0, .slice none 0 0] 25) = V at HZ HG HB ⊢
  have HV0 := Lib.hid HB.out
  go_wp2_with fail
  go_loopw [7, 8, 9] (fun iv _ _ wr => ∃ i : Nat, ∃ ao : Option Addr, ∃ cp : Nat, ∃ L : List NdV, i ≤ n ∧ iv = .int .i64 i ∧ Hid (Blk wr (w.heap.size + 1) [.slice ao i cp, .slice none 0 0] 25) ∧ Hid (OwnR 36 nc 2 wr w.heap.size (.slice ao i cp) L) ∧ Hid (L.length = i) ∧ Hid (L.map NdV.nd = ((raws.map NdV.nd).take i).map (gnd n)) ∧ Hid (LOK wr w.heap.size L) ∧ Hid (Blk wr w.heap.size [.slice none 0 0, .slice none 0 0] 25) ∧ Hid (Below w.heap.size w wr)) (fun iv _ _ _ => n - (intOf iv).toNat)
  case atStart => exact ⟨0, none, 0, [], by omega, rfl, HG, Lib.hid (OwnR.nil _ _ _), Lib.hid rfl, Lib.hid (by simp), Lib.hid (fun x hx => by simp at hx), HZ, HB⟩
  case round =>
    obtain ⟨i, ao, cp, L, hi, rfl, HG1, HO1, HLL, HLM, HLK, HZ1, HB1⟩ := hrel
    by_cases hlt : i < n
    · obtain ⟨x, hx, hxm⟩ := getq HLN.out (show i < ln by omega)
      obtain ⟨b1, o1, rfl, hb1, x0, x1⟩ := nd_cells HL.out hx
      have HX := Lib.hid hx
      have HXO := Lib.hid (HK.out x hxm)
      have hin : (i : Int) < (n : Int) := by omega
      have hil : (i : Int) < (ln : Int) := by omega
      have y0 := cellS HB1.out hb1 x0
      have y1 := cellS HB1.out hb1 x1
      obtain ⟨pl, hpl⟩ : ∃ z, x.ptrs.length = z := ⟨_, rfl⟩
      obtain ⟨dl, hdl⟩ : ∃ z, x.data.length = z := ⟨_, rfl⟩
      obtain ⟨pa, hpa⟩ : ∃ z, x.pa = z := ⟨_, rfl⟩
      obtain ⟨pq, hpq⟩ : ∃ z, x.pcap = z := ⟨_, rfl⟩
      obtain ⟨da, hda⟩ : ∃ z, x.da = z := ⟨_, rfl⟩
      obtain ⟨dq, hdq⟩ : ∃ z, x.dcap = z := ⟨_, rfl⟩
      rw [hpl, hpa, hpq] at y0
      rw [hdl, hda, hdq] at y1
      have hplm : pl ≤ 9223372036854775807 := by have h1 := HXO.out.pl; have h2 := HXO.out.pc; omega
      have hdlm : dl ≤ 9223372036854775807 := by have h1 := HXO.out.dl; have h2 := HXO.out.dc; omega
      have hdlq : dl ≤ dq := by have h1 := HXO.out.dl; omega
      have hdqm : dq ≤ 9223372036854775807 := by have h2 := HXO.out.dc; omega
      have HPL := Lib.hid hpl
      have HDL := Lib.hid hdl
      have HPA := Lib.hid hpa
      have HDA := Lib.hid hda
      have HDQ := Lib.hid hdq
      have hb1w : b1 < wr.heap.size := by have := HB1.out.size; omega
      have hZ1l := HZ1.out.lt
      have hG1l := HG1.out.lt
      clear hx hxm x0 x1 hpl hdl hpa hpq hda hdq
      go_wp2_with fail
      have HN8 := Lib.hid (Blk.new wr [.slice none 0 0, .slice none 0 0] 36)
      have HV8 := Lib.hid (ba0 wr (.cells #[.slice none 0 0, .slice none 0 0] 36))
      generalize wr.alloc (.cells #[.slice none 0 0, .slice none 0 0] 36) = X8 at HN8 HV8 ⊢
      generalize wr = W8 at HG1 HO1 HLK HZ1 HB1 y0 y1 hb1w hZ1l hG1l HN8 HV8 ⊢
      have HY0 := Lib.hid y0
      have HY1 := Lib.hid y1
      clear y0 y1
      go_loopw [9] (fun kv wr => ∃ k : Nat, ∃ pao : Option Addr, ∃ pcp : Nat, k ≤ min pl 4 ∧ kv = .int .i64 k ∧ Hid (Blk wr W8.heap.size [.slice pao k pcp, .slice none 0 0] 36) ∧ Hid (OwnR 3 ic 1 wr W8.heap.size (.slice pao k pcp) ((rawp n x.ptrs).take k)) ∧ Hid (k ≤ pcp ∧ pcp ≤ 9223372036854775807 ∧ (pao = none → pcp = 0)) ∧ Hid (Below W8.heap.size W8 wr)) (fun kv _ => 4 - (intOf kv).toNat)
      case atStart => exact ⟨0, none, 0, by omega, rfl, HN8, Lib.hid (OwnR.nil _ _ _), Lib.hid ⟨by omega, by omega, fun _ => rfl⟩, HV8⟩
      case round =>
        obtain ⟨k, pao, pcp, hk, rfl, HN9, HO9, HC9, HB9⟩ := hrel
        have y0 : wr.cell? ⟨b1, o1 + i * 2, none⟩ = some (.slice pa pl pq) := cellS HB9.out hb1w HY0.out
        by_cases hkl : k < min pl 4
        · have hk4 : k < 4 := by omega
          have hkp : k < pl := by omega
          obtain ⟨p, hp, hpm⟩ := getq HPL.out hkp
          have hpb := HXO.out.pb p hpm
          obtain ⟨b3, o3, he3, hb3, c3⟩ := in_cells HXO.out.p hp
          obtain rfl : pa = some ⟨b3, o3, none⟩ := HPA.out.symm.trans he3
          have HC3 := Lib.hid (cellS HB1.out hb3 c3)
          have hb3w : b3 < W8.heap.size := by have := HB1.out.size; omega
          obtain ⟨r, hr, hr2⟩ := pkN p ((n : Int) + 1) (by omega)
          have HPK := Lib.hid hr
          have hnext : (rawp n x.ptrs)[k]? = some ((r : Int) - 1) := by
            unfold rawp
            rw [List.getElem?_map, List.getElem?_take_of_lt hk4, hp]
            simp [hr]
          have HNX := Lib.hid (take_next hnext)
          have HTL := Lib.hid (show ((rawp n x.ptrs).take k).length = k by
            rw [List.length_take]; have h1 := HPL.out; unfold rawp; rw [List.length_map, List.length_take]; omega)
          have hk4i : (k : Int) < 4 := by omega
          have hkpi : (k : Int) < (pl : Int) := by omega
          clear hp hpm he3 c3 hr hnext
          go_upto_region 10 with fail
          have hz : W8.heap.size < wr.heap.size := HN9.out.lt
          have hwn : IntKind.i64.wrap ((n : Int) + 1) = (n : Int) + 1 := IntWalk.i64_in _ ⟨by omega, by omega⟩
          have hwr : IntKind.i64.wrap ((r : Int) - 1) = (r : Int) - 1 := IntWalk.i64_in _ ⟨by omega, by omega⟩
          have hb1r : b1 < wr.heap.size := by omega
          have hb3r : b3 < wr.heap.size := by omega
          have q0 : wr.cell? ⟨W8.heap.size, 0, none⟩ = some (.slice pao k pcp) := HN9.out.cell rfl
          have q3 : wr.cell? ⟨b3, o3 + k, none⟩ = some (.int .i64 p) := cellS HB9.out hb3w HC3.out
          have HNA := Lib.hid (HN9.out.below (ba0 wr (.cells #[.int .i64 ((r : Int) - 1)] 3)).drew)
          have HOA := Lib.hid (OwnR.drewn (HO9.out.alloc (.cells #[.int .i64 ((r : Int) - 1)] 3)))
          have HLA := Lib.hid (rw_lit_in (show Blk (wr.alloc (.cells #[.int .i64 ((r : Int) - 1)] 3)).drew wr.heap.size [.int .i64 ((r : Int) - 1)] 3 from Blk.new wr _ _))
          have HSA := Lib.hid (show W8.heap.size ≤ (wr.alloc (.cells #[.int .i64 ((r : Int) - 1)] 3)).drew.heap.size by show W8.heap.size ≤ (wr.alloc (.cells #[.int .i64 ((r : Int) - 1)] 3)).heap.size; rw [World.size_alloc]; omega)
          have HBA := Lib.hid (show Below W8.heap.size W8 (wr.alloc (.cells #[.int .i64 ((r : Int) - 1)] 3)).drew from (ba HB9.out _).drew)
          go_region_law (first
            | (go_simp; go_at_call 16; refine (pick08_int p ((n : Int) + 1) r _ hpb.1 hpb.2 (by omega) (by omega) HPK.out).mono ?_; rintro e w2 ⟨rfl, rfl⟩)
            | (refine step_append_rows 3 23 _ 8 info_in Try.underlying23 rfl (by decide) (by decide) ic_len ic_one (wr.alloc (.cells #[.int .i64 ((r : Int) - 1)] 3)).drew (by rfl) (.tmp 34) (.tmp 47) rfl rfl W8.heap.size (.slice pao k pcp) ((rawp n x.ptrs).take k) [(r : Int) - 1] rfl HOA.out (some ⟨wr.heap.size, 0, none⟩) 1 1 rfl rfl HLA.out (fun h => by cases h) (by rw [HTL.out]; simp; omega) HSA.out (k + 1) (by rw [List.length_append, HTL.out]; rfl) ?_; intro ao11 cp11 w11 ho11 hl11 hc11 hn11 hg11; have hn11b := HNA.out.grown hg11 (HOA.out.notblk HNA.out (by decide)); have r0 : w11.cell? ⟨W8.heap.size, 0, none⟩ = some (.slice pao k pcp) := hn11b.cell rfl; have rf := hn11b.frozen 0))
          all_goals (
            have HNE := Lib.hid (blk_set hn11b 0 (.slice ao11 (k + 1) cp11))
            have HOE := Lib.hid (ho11.setT hn11b (by decide) (.slice ao11 (k + 1) cp11) (j := 0))
            have HBE := Lib.hid ((HBA.out.grown hg11 HSA.out (fun j hj => (World.ownsRow.lt HOA.out j hj).1)).setCell (p := ⟨W8.heap.size, 0, none⟩) (Nat.le_refl _) (.slice ao11 (k + 1) cp11))
            generalize w11.setCell ⟨W8.heap.size, 0, none⟩ (.slice ao11 (k + 1) cp11) = w12 at HNE HOE HBE ⊢
            have hl12 : k + 1 ≤ min pl 4 := by omega
            rw [HNX.out] at HOE
            have HCE := Lib.hid (And.intro hl11 (And.intro hc11 hn11))
            clear hn11b r0 rf ho11 hg11 hl11 hc11 hn11 q0 q3 hwn hwr
            go_wp2_with fail
            go_roundw
            case rel => exact ⟨k + 1, ao11, cp11, hl12, by go_num, HNE, HOE, HCE, HBE⟩
            case measure => simp [intOf]; omega)
        · have hkK : k = min pl 4 := by omega
          have hexit : decide (k < pl) = false ∨ decide (k < pl) = true ∧ decide ((k : Int) < 4) = false := by
            by_cases h : k < pl
            · right; exact ⟨by simp; omega, by simp; omega⟩
            · left; simp; omega
          have hwhole : (rawp n x.ptrs).take k = rawp n x.ptrs := by
            apply List.take_of_length_le
            unfold rawp
            rw [List.length_map, List.length_take]
            have := HPL.out
            omega
          rw [hwhole] at HO9
          have HRL := Lib.hid (show (rawp n x.ptrs).length = k by unfold rawp; rw [List.length_map, List.length_take]; have := HPL.out; omega)
          obtain ⟨dm, hdm⟩ : ∃ dm, min dl 4 = dm := ⟨_, rfl⟩
          have hdmi : min (dl : Int) 4 = (dm : Int) := by omega
          have HDM := Lib.hid (show (x.data.take 4).length = dm by rw [List.length_take]; have := HDL.out; omega)
          have hdm4 : dm ≤ 4 := by omega
          have hdmd : dm ≤ dl := by omega
          have hdmq : dm ≤ dq := by omega
          have hdmqi : (dm : Int) ≤ (dq : Int) := by omega
          have hdm0 : (0 : Int) ≤ (dm : Int) := by omega
          have HDN := Lib.hid (show da = none → dq = 0 by have := HXO.out.dn; rw [HDA.out, HDQ.out] at this; exact this)
          have HUX := Lib.hid (show Us wr da (x.data.take 4) by rw [← HDA.out]; exact (HXO.out.d.below (Nat.le_refl _) (bt HB1.out HB9.out)).take 4)
          have HKK := Lib.hid hkK
          clear hwhole hdm hkK hkl hk
          rcases hexit with h | ⟨h, h2⟩
          all_goals (
            go_upto_region 11 with fail
            have hz : W8.heap.size < wr.heap.size := HN9.out.lt
            have y1 : wr.cell? ⟨b1, o1 + i * 2 + 1, none⟩ = some (.slice da dl dq) := cellS HB9.out hb1w HY1.out
            have hkeep : Hid (∀ w', But W8.heap.size wr w' → w'.cell? ⟨b1, o1 + i * 2 + 1, none⟩ = some (.slice da dl dq)) := Lib.hid fun w' hk => hk.cell (by omega) (by omega) (cellS HB9.out hb1w HY1.out)
            go_region_held3 (fun w' => w'.cell? ⟨b1, o1 + i * 2 + 1, none⟩ = some (.slice da dl dq)) (exact hkeep.out _ (by first | exact (But.refl _ _).drew | exact But.refl _ _ | exact (But.refl _ wr).drew.below hb9 | exact ((But.refl _ wr).drew.below hb9).set _ _)) ((first
              | (refine step_copy_us _ (by rfl) (.const (.slice none 0 0)) (.tmp 62) rfl rfl rfl da dm dq rfl (x.data.take 4) HDM.out (HUX.out.below (Nat.le_refl _) (Below.refl _ wr).drew) HDN.out (by omega) ?_; intro dao dcp w9 ho9 hr9 hl9 hc9 hn9 hb9; have r0 : w9.cell? ⟨W8.heap.size, 1, none⟩ = some (.slice none 0 0) := (HN9.out.below (bt (Below.refl _ wr).drew hb9)).cell rfl; have rf := (HN9.out.below (bt (Below.refl _ wr).drew hb9)).frozen 1)))
            have HNE := Lib.hid (blk_set (HN9.out.below (bt (Below.refl _ wr).drew hb9)) 1 (.slice dao dm dcp))
            have HBE := Lib.hid ((bt HB9.out (bt (Below.refl _ wr).drew hb9)).setCell (p := ⟨W8.heap.size, 1, none⟩) (Nat.le_refl _) (.slice dao dm dcp))
            have HPE := Lib.hid ((HO9.out.later (bt (Below.refl _ wr).drew hb9)).setT (HN9.out.below (bt (Below.refl _ wr).drew hb9)) (by decide) (.slice dao dm dcp) (j := 1))
            have HDE := Lib.hid (own_u_setT ho9 (HN9.out.below (bt (Below.refl _ wr).drew hb9)) (by decide) (.slice dao dm dcp) (j := 1))
            have HCE := Lib.hid (And.intro hl9 (And.intro hc9 hn9))
            have hzw : W8.heap.size ≤ wr.drew.heap.size := HB9.out.size
            generalize w9.setCell ⟨W8.heap.size, 1, none⟩ (.slice dao dm dcp) = X at HNE HBE HPE HDE ⊢
            clear r0 rf ho9 hr9 hb9 hl9 hc9 hn9 y0 y1 hkeep
            have HGX := Lib.hid (HG1.out.below HBE.out)
            have HZX := Lib.hid (HZ1.out.below HBE.out)
            have HOX := Lib.hid (HO1.out.later HBE.out)
            have HBX := Lib.hid (bt HB1.out HBE.out)
            have HLX : Hid (LOK X w.heap.size (L ++ [⟨pao, pcp, rawp n x.ptrs, dao, dcp, x.data.take 4⟩])) := Lib.hid (fun z hz => by
              rcases List.mem_append.1 hz with hz | hz
              · exact (HLK.out.below HBE.out) z hz
              · rw [List.mem_singleton] at hz
                subst hz
                refine ⟨⟨HPE.out.rows ic_len, ?_, by simp only; rw [HRL.out]; exact HC9.out.1, by simp only; rw [HDM.out]; exact HCE.out.1, HC9.out.2.1, HCE.out.2.1, HC9.out.2.2, HCE.out.2.2, ?_, ?_⟩, ⟨(HPE.out.ty HRL.out).imp (fun b hb => ⟨by omega, hb.2⟩), (HDE.out.ty HDM.out).imp (fun b hb => ⟨by omega, hb.2⟩)⟩⟩
                · obtain ⟨ao', cap', hv, hu, _⟩ := own_u_caps HDE.out
                  simp only [Value.slice.injEq] at hv
                  rw [hv.1]; exact hu
                · intro p hp
                  have := rawp_in n x.ptrs p hp
                  unfold gin at this; unfold ib; omega
                · intro v hv
                  exact HXO.out.db v (List.mem_of_mem_take hv))
            have HMX : Hid ((L ++ [(⟨pao, pcp, rawp n x.ptrs, dao, dcp, x.data.take 4⟩ : NdV)]).map NdV.nd = ((raws.map NdV.nd).take (i + 1)).map (gnd n)) := Lib.hid (by
              rw [← take_next (show (raws.map NdV.nd)[i]? = some x.nd by rw [List.getElem?_map, HX.out]; rfl), List.map_append, List.map_append, HLM.out]
              rfl)
            have HNC : Hid (nc (⟨pao, pcp, rawp n x.ptrs, dao, dcp, x.data.take 4⟩ : NdV) = [.slice pao k pcp, .slice dao dm dcp]) := Lib.hid (by unfold nc; simp only; rw [HRL.out, HDM.out])
            have x0 : X.cell? ⟨W8.heap.size, 0, none⟩ = some (.slice pao k pcp) := HNE.out.cell rfl
            have x1 : X.cell? ⟨W8.heap.size, 1, none⟩ = some (.slice dao dm dcp) := HNE.out.cell rfl
            have g0 : X.cell? ⟨w.heap.size + 1, 0, none⟩ = some (.slice ao i cp) := HGX.out.cell rfl
            have hGX2 := HGX.out.below (ba0 X (.cells #[.slice pao k pcp, .slice dao dm dcp] 36))
            have hlLX : X.heap.size < (X.alloc (.cells #[.slice pao k pcp, .slice dao dm dcp] 36)).heap.size := by rw [World.size_alloc]; omega
            have hwX : w.heap.size ≤ X.heap.size := HBX.out.size
            go_wp2_with (refine wp_append_row 36 22 _ 48 info_nd Try.underlying22 rfl (by decide) (by decide) nc_len nc_one (X.alloc (.cells #[.slice pao k pcp, .slice dao dm dcp] 36)) rfl (.tmp 66) (.tmp 68) rfl w.heap.size (.slice ao i cp) L rfl (HOX.out.alloc _) X.heap.size ⟨pao, pcp, rawp n x.ptrs, dao, dcp, x.data.take 4⟩ rfl (fun j u hj => by rw [HNC.out] at hj; exact (Blk.new X [.slice pao k pcp, .slice dao dm dcp] 36).cell hj) (by have := HLL.out; omega) (by rw [World.size_alloc]; omega) ?_; intro v5 w5 ho5 hg5; obtain ⟨ao5, cp5, rfl, _, _, _, hn5⟩ := ho5.rw' nc_len; have hG5 := hGX2.grown hg5 ((HOX.out.alloc (.cells #[.slice pao k pcp, .slice dao dm dcp] 36)).notblk hGX2 (by decide)); rw [List.length_append, HLL.out] at ho5; have f5 := hG5.frozen 0; have c5 := hG5.cell (j := 0) (v := .slice ao i cp) rfl; have HG5 := Lib.hid hG5; have HO5 := Lib.hid ho5; have HGR := Lib.hid hg5; clear ho5 hg5 hG5)
            have hON := HOX.out.alloc (.cells #[.slice pao k pcp, .slice dao dm dcp] 36)
            have hZ2 := HZX.out.below (ba0 X (.cells #[.slice pao k pcp, .slice dao dm dcp] 36))
            have hL5 : LOK w5 w.heap.size (L ++ [⟨pao, pcp, rawp n x.ptrs, dao, dcp, x.data.take 4⟩]) := (HLX.out.below (ba0 X (.cells #[.slice pao k pcp, .slice dao dm dcp] 36))).kept HGR.out.size (fun b hb hlt => HGR.out.block b hlt (fun he => by
              obtain ⟨cs, t, hbl, ht⟩ := hb
              exact hON.notblk hbl (by rcases ht with rfl | rfl <;> decide) he.symm))
            rw [HLL.out]
            refine ⟨⟨i + 1, ao5, cp5, L ++ [⟨pao, pcp, rawp n x.ptrs, dao, dcp, x.data.take 4⟩], by omega, by go_num, Lib.hid (blk_set HG5.out 0 _), Lib.hid (HO5.out.setT HG5.out (by decide) _), Lib.hid (by rw [List.length_append, HLL.out]; rfl), HMX, Lib.hid (hL5.kept (by rw [Deep.nblk_setCell]; exact Nat.le_refl _) (fun b hb _ => Deep.blk_setCell_other _ _ _ _ (fun he => ?_))), Lib.hid ((hZ2.grown HGR.out (hON.notblk hZ2 (by decide))).far (by omega) _), Lib.hid (((ba HBX.out (.cells #[.slice pao k pcp, .slice dao dm dcp] 36)).grown HGR.out (by rw [World.size_alloc]; omega) (fun j hj => (World.ownsRow.lt hON j hj).1)).setCell (p := ⟨w.heap.size + 1, 0, none⟩) (by show w.heap.size ≤ w.heap.size + 1; omega) _)⟩, ?_⟩
            · have he' : b = w.heap.size + 1 := he
              subst he'
              exact TyB.of HG5.out (by decide) hb
            · simp [intOf]; omega)
    · obtain rfl : i = n := by omega
      have dk : decide (i < i) = false := by simp
      have hZ1l := HZ1.out.lt
      have hG1l := HG1.out.lt
      go_wp2_with fail
      clear dk
      generalize wr = W3 at HG1 HO1 HLK HZ1 HB1 hZ1l hG1l ⊢
      have hw3 := HB1.out.size
      go_loopw [10] (fun kv wr => ∃ k : Nat, ∃ rao : Option Addr, ∃ rcp : Nat, k ≤ min rn 5 ∧ kv = .int .i64 k ∧ Hid (Blk wr (w.heap.size + 1) [.slice ao i cp, .slice rao k rcp] 25) ∧ Hid (OwnR 3 ic 1 wr W3.heap.size (.slice rao k rcp) (((roots.take 5).map fun p => pk p ((i : Int) + 1) - 1).take k)) ∧ Hid (k ≤ rcp ∧ rcp ≤ 9223372036854775807 ∧ (rao = none → rcp = 0)) ∧ Hid (But (w.heap.size + 1) W3 wr) ∧ Hid (Below w.heap.size w wr)) (fun kv _ => 5 - (intOf kv).toNat)
      case atStart => exact ⟨0, none, 0, by omega, rfl, HG1, Lib.hid (OwnR.nil _ _ _), Lib.hid ⟨by omega, by omega, fun _ => rfl⟩, Lib.hid (But.refl _ _), HB1⟩
      case round =>
        obtain ⟨k, rao, rcp, hk, rfl, HG9, HO9, HC9, HBU, HB9⟩ := hrel
        by_cases hkl : k < min rn 5
        · have hk5 : k < 5 := by omega
          have hkp : k < rn := by omega
          obtain ⟨p, hp, hpm⟩ := getq HRN.out hkp
          have hpb := HRB.out p hpm
          obtain ⟨b3, o3, rfl, hb3, c3⟩ := in_cells HR.out hp
          obtain ⟨r, hr, hr2⟩ := pkN p ((i : Int) + 1) (by omega)
          have HPK := Lib.hid hr
          have hnext : ((roots.take 5).map fun p => pk p ((i : Int) + 1) - 1)[k]? = some ((r : Int) - 1) := by
            rw [List.getElem?_map, List.getElem?_take_of_lt hk5, hp]
            simp [hr]
          have HNX := Lib.hid (take_next hnext)
          have HTL := Lib.hid (show (((roots.take 5).map fun p => pk p ((i : Int) + 1) - 1).take k).length = k by
            rw [List.length_take, List.length_map, List.length_take]; have h1 := HRN.out; omega)
          have hk5i : (k : Int) < 5 := by omega
          have hkpi : (k : Int) < (rn : Int) := by omega
          have q3 : wr.cell? ⟨b3, o3 + k, none⟩ = some (.int .i64 p) := cellS HB9.out hb3 c3
          have hl12 : k + 1 ≤ min rn 5 := by omega
          clear hp hpm c3 hr hnext
          go_upto_region 16 with fail
          have hz : w.heap.size + 1 < wr.heap.size := HG9.out.lt
          have hwn : IntKind.i64.wrap ((i : Int) + 1) = (i : Int) + 1 := IntWalk.i64_in _ ⟨by omega, by omega⟩
          have hwr : IntKind.i64.wrap ((r : Int) - 1) = (r : Int) - 1 := IntWalk.i64_in _ ⟨by omega, by omega⟩
          have hb3r : b3 < wr.heap.size := by have := HB9.out.size; omega
          have hW3r : W3.heap.size ≤ wr.heap.size := HBU.out.1
          have q0 : wr.cell? ⟨w.heap.size + 1, 1, none⟩ = some (.slice rao k rcp) := HG9.out.cell rfl
          have HNA := Lib.hid (HG9.out.below (ba0 wr (.cells #[.int .i64 ((r : Int) - 1)] 3)).drew)
          have HOA := Lib.hid (OwnR.drewn (HO9.out.alloc (.cells #[.int .i64 ((r : Int) - 1)] 3)))
          have HLA := Lib.hid (rw_lit_in (show Blk (wr.alloc (.cells #[.int .i64 ((r : Int) - 1)] 3)).drew wr.heap.size [.int .i64 ((r : Int) - 1)] 3 from Blk.new wr _ _))
          have HSA := Lib.hid (show W3.heap.size ≤ (wr.alloc (.cells #[.int .i64 ((r : Int) - 1)] 3)).drew.heap.size by show W3.heap.size ≤ (wr.alloc (.cells #[.int .i64 ((r : Int) - 1)] 3)).heap.size; rw [World.size_alloc]; omega)
          have HBA := Lib.hid (show Below w.heap.size w (wr.alloc (.cells #[.int .i64 ((r : Int) - 1)] 3)).drew from (ba HB9.out _).drew)
          have HUA := Lib.hid (show But (w.heap.size + 1) W3 (wr.alloc (.cells #[.int .i64 ((r : Int) - 1)] 3)).drew from HBU.out.below (ba0 wr _).drew)
          go_region_law (first
            | (go_simp; go_at_call 16; refine (pick08_int p ((i : Int) + 1) r _ hpb.1 hpb.2 (by omega) (by omega) HPK.out).mono ?_; rintro e w2 ⟨rfl, rfl⟩)
            | (refine step_append_rows 3 23 _ 8 info_in Try.underlying23 rfl (by decide) (by decide) ic_len ic_one (wr.alloc (.cells #[.int .i64 ((r : Int) - 1)] 3)).drew (by rfl) (.tmp 82) (.tmp 91) rfl rfl W3.heap.size (.slice rao k rcp) (((roots.take 5).map fun p => pk p ((i : Int) + 1) - 1).take k) [(r : Int) - 1] rfl HOA.out (some ⟨wr.heap.size, 0, none⟩) 1 1 rfl rfl HLA.out (fun h => by cases h) (by rw [HTL.out]; simp; omega) HSA.out (k + 1) (by rw [List.length_append, HTL.out]; rfl) ?_; intro ao11 cp11 w11 ho11 hl11 hc11 hn11 hg11; have hn11b := HNA.out.grown hg11 (HOA.out.notblk HNA.out (by decide)); have r0 : w11.cell? ⟨w.heap.size + 1, 1, none⟩ = some (.slice rao k rcp) := hn11b.cell rfl; have rf := hn11b.frozen 1))
          all_goals (
            have HNE := Lib.hid (blk_set hn11b 1 (.slice ao11 (k + 1) cp11))
            have HOE := Lib.hid (ho11.setT hn11b (by decide) (.slice ao11 (k + 1) cp11) (j := 1))
            have HBE := Lib.hid ((HBA.out.grown hg11 (by have := HSA.out; omega) (fun j hj => by have := (World.ownsRow.lt HOA.out j hj).1; omega)).setCell (p := ⟨w.heap.size + 1, 1, none⟩) (by show w.heap.size ≤ w.heap.size + 1; omega) (.slice ao11 (k + 1) cp11))
            have HUE := Lib.hid ((But.grown HUA.out hg11 (fun j hj => (World.ownsRow.lt HOA.out j hj).1)).set 1 (.slice ao11 (k + 1) cp11))
            generalize w11.setCell ⟨w.heap.size + 1, 1, none⟩ (.slice ao11 (k + 1) cp11) = w12 at HNE HOE HBE HUE ⊢
            rw [HNX.out] at HOE
            have HCE := Lib.hid (And.intro hl11 (And.intro hc11 hn11))
            clear hn11b r0 rf ho11 hg11 hl11 hc11 hn11 q0 q3 hwn hwr
            go_wp2_with fail
            go_roundw
            case rel => exact ⟨k + 1, ao11, cp11, hl12, by go_num, HNE, HOE, HCE, HUE, HBE⟩
            case measure => simp [intOf]; omega)
        · have hexit : decide (k < rn) = false ∨ decide (k < rn) = true ∧ decide ((k : Int) < 5) = false ∧ Hid (k = 5) := by
            by_cases h : k < rn
            · right; exact ⟨by simp; omega, by simp; omega, Lib.hid (by omega)⟩
            · left; simp; omega
          have hwhole : ((roots.take 5).map fun p => pk p ((i : Int) + 1) - 1).take k = (roots.take 5).map fun p => pk p ((i : Int) + 1) - 1 := by
            apply List.take_of_length_le
            rw [List.length_map, List.length_take]
            have := HRN.out
            omega
          rw [hwhole] at HO9
          have HRL := Lib.hid (show ((roots.take 5).map fun p => pk p ((i : Int) + 1) - 1).length = k by rw [List.length_map, List.length_take]; have := HRN.out; omega)
          have HKR := Lib.hid (show k = 0 → roots = [] from fun h0 => List.eq_nil_of_length_eq_zero (by have := HRN.out; omega))
          have HRI := Lib.hid (show ∀ p ∈ (roots.take 5).map fun p => pk p ((i : Int) + 1) - 1, ib p from fun p hp => by
            obtain ⟨c, _, rfl⟩ := List.mem_map.1 hp
            have := pk_bd c ((i : Int) + 1) (by omega)
            unfold ib; omega)
          have g1 : wr.cell? ⟨w.heap.size + 1, 1, none⟩ = some (.slice rao k rcp) := HG9.out.cell rfl
          have hsB9 := HB9.out.size
          clear hwhole hkl hk
          rcases hexit with h | ⟨h, h2, h5⟩
          all_goals (
            by_cases hk0 : k = 0
            · first
                | (exfalso; have := h5.out; omega)
                | (
              have HRO := Lib.hid (HKR.out hk0)
              subst hk0
              rw [HRO.out] at HO9
              simp only [List.take_nil, List.map_nil] at HO9
              go_upto_region 18 with fail
              have HGA := Lib.hid (HG9.out.below (ba0 wr (.cells #[.int .i64 ((i : Int) - 1)] 3)))
              have HOA := Lib.hid (HO9.out.alloc (.cells #[.int .i64 ((i : Int) - 1)] 3))
              have HLB := Lib.hid (Blk.new wr [.int .i64 ((i : Int) - 1)] 3)
              have hW3a : W3.heap.size ≤ (wr.alloc (.cells #[.int .i64 ((i : Int) - 1)] 3)).heap.size := by have := HBU.out.1; rw [World.size_alloc]; omega
              go_upto_region 19 with (refine wp_append_row 3 23 _ 8 info_in Try.underlying23 rfl (by decide) (by decide) ic_len ic_one (wr.alloc (.cells #[.int .i64 ((i : Int) - 1)] 3)) rfl (.tmp 99) (.tmp 102) rfl W3.heap.size (.slice rao 0 rcp) [] rfl HOA.out wr.heap.size ((i : Int) - 1) rfl (fun j u hj => HLB.out.cell hj) (by simp) hW3a ?_; intro v5 w5 ho5 hg5; obtain ⟨ao5, cp5, rfl, _, hl5, hc5, hn5⟩ := ho5.rw' ic_len; have hG5 := HGA.out.grown hg5 (HOA.out.notblk HGA.out (by decide)); have f5 := hG5.frozen 1; have c5 := hG5.cell (j := 1) (v := .slice rao 0 rcp) rfl; have HG5 := Lib.hid hG5; have HO5 := Lib.hid (show OwnR 3 ic 1 w5 W3.heap.size (.slice ao5 1 cp5) [(i : Int) - 1] from ho5); have HGR := Lib.hid hg5; have HCE := Lib.hid (show 1 ≤ cp5 ∧ cp5 ≤ 9223372036854775807 ∧ (ao5 = none → cp5 = 0) from ⟨hl5, hc5, hn5⟩); clear ho5 hg5 hG5 hl5 hc5 hn5)
              have HGX := Lib.hid (blk_set HG5.out 1 (.slice ao5 1 cp5))
              have HRX := Lib.hid (HO5.out.setT HG5.out (by decide) (.slice ao5 1 cp5) (j := 1))
              have HUX := Lib.hid ((But.grown (HBU.out.below (ba0 wr (.cells #[.int .i64 ((i : Int) - 1)] 3))) HGR.out (fun j hj => (World.ownsRow.lt HOA.out j hj).1)).set 1 (.slice ao5 1 cp5))
              have HBX := Lib.hid (((ba HB9.out (.cells #[.int .i64 ((i : Int) - 1)] 3)).grown HGR.out (by rw [World.size_alloc]; omega) (fun j hj => by have := (World.ownsRow.lt HOA.out j hj).1; omega)).setCell (p := ⟨w.heap.size + 1, 1, none⟩) (by show w.heap.size ≤ w.heap.size + 1; omega) (.slice ao5 1 cp5))
              clear g1
              generalize w5.setCell ⟨w.heap.size + 1, 1, none⟩ (.slice ao5 1 cp5) = X at HGX HRX HUX HBX ⊢
              have x0 : X.cell? ⟨w.heap.size + 1, 0, none⟩ = some (.slice ao i cp) := HGX.out.cell rfl
              have x1 : X.cell? ⟨w.heap.size + 1, 1, none⟩ = some (.slice ao5 1 cp5) := HGX.out.cell rfl
              have HZX := Lib.hid (HZ1.out.but HUX.out (by omega))
              go_wp2_with (refine wp_store_but rfl 25 (.tmp 4) (.tmp 105) rfl w.heap.size _ [.slice ao i cp, .slice ao5 1 cp5] rfl rfl _ HZX.out rfl (by kernel_rfl) (by simp [Value.oneCell']) ?_; intro w8 hz8 hf8 hb8; have HZ8 := Lib.hid hz8; have HB8 := Lib.hid (hb8 _ _ (Nat.le_refl _) HBX.out); have HF8 := Lib.hid hf8; clear hz8 hb8 hf8)
              refine bodyPost_ret (res_cell1 rfl _ _ _ w.heap.size _ rfl (load_two HZ8.out)) rfl ?_
              refine ⟨_, _, _, _, _, _, rfl, ?_, HB8.out⟩
              have h9 := graph_done HO1.out HLL.out HLK.out HG1.out HUX.out HRX.out rfl HCE.out (by intro p hp; rw [List.mem_singleton] at hp; subst hp; unfold ib; omega) HZX.out HF8.out hw3
              rw [HLM.out] at h9
              rw [gof_eq _ _ i (by rw [List.length_map, HLN.out]; exact HNN.out), if_pos HRO.out]
              exact h9)
            · have hne : (k == 0) = false := by simpa using hk0
              have hnei : ((k : Int) == 0) = false := by simp; omega
              have HK0 := Lib.hid hk0
              clear hk0
              go_upto_region 19 with fail
              have HGX := Lib.hid HG9.out
              have HRX := Lib.hid HO9.out
              have HUX := Lib.hid HBU.out
              have HBX := Lib.hid HB9.out
              generalize wr = X at HGX HRX HUX HBX ⊢
              have x0 : X.cell? ⟨w.heap.size + 1, 0, none⟩ = some (.slice ao i cp) := HGX.out.cell rfl
              have x1 : X.cell? ⟨w.heap.size + 1, 1, none⟩ = some (.slice rao k rcp) := HGX.out.cell rfl
              have HZX := Lib.hid (HZ1.out.but HUX.out (by omega))
              go_wp2_with (refine wp_store_but rfl 25 (.tmp 4) (.tmp 105) rfl w.heap.size _ [.slice ao i cp, .slice rao k rcp] rfl rfl _ HZX.out rfl (by kernel_rfl) (by simp [Value.oneCell']) ?_; intro w8 hz8 hf8 hb8; have HZ8 := Lib.hid hz8; have HB8 := Lib.hid (hb8 _ _ (Nat.le_refl _) HBX.out); have HF8 := Lib.hid hf8; clear hz8 hb8 hf8)
              refine bodyPost_ret (res_cell1 rfl _ _ _ w.heap.size _ rfl (load_two HZ8.out)) rfl ?_
              refine ⟨_, _, _, _, _, _, rfl, ?_, HB8.out⟩
              have h9 := graph_done HO1.out HLL.out HLK.out HG1.out HUX.out HRX.out HRL.out HC9.out HRI.out HZX.out HF8.out hw3
              rw [HLM.out] at h9
              rw [gof_eq _ _ i (by rw [List.length_map, HLN.out]; exact HNN.out), if_neg (fun h0 => HK0.out (by have := HRL.out; rw [h0] at this; simpa using this.symm))]
              exact h9)
end Go.Proofs.Ytjoacfjbdpmgpaa.V
