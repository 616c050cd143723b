/-
  The program's own: a graph whose lists are all in blocks of their own, each its own; walked.
-/
import Derived.Test.YtjoacfjbdpmgpaaGProg1
set_option linter.unusedVariables false
namespace Go.Proofs.Ytjoacfjbdpmgpaa.V
open Go.RowKit

def ptrV (x : NdV) : Value := .slice x.pa x.ptrs.length x.pcap
def datV (x : NdV) : Value := .slice x.da x.data.length x.dcap
/-- A node whose lists are its own, in blocks from S on. -/
structure NdO (S : Nat) (w : World) (x : NdV) : Prop where
  p : OwnR 3 ic 1 w S (ptrV x) x.ptrs
  d : OwnU w S (datV x) x.data
def NdLt (c : Nat) (x : NdV) : Prop := (∀ k, (ptrV x).ownBlock = some k → k < c) ∧ ∀ k, (datV x).ownBlock = some k → k < c
def NdGe (c : Nat) (x : NdV) : Prop := (∀ k, (ptrV x).ownBlock = some k → c ≤ k) ∧ ∀ k, (datV x).ownBlock = some k → c ≤ k
def Apart (x y : NdV) : Prop := ∃ c, NdLt c x ∧ NdGe c y
theorem OwnU.laterA {w w1 : World} {S : Nat} {v : Value} {l : List Nat} (hown : OwnU w S v l) (hb : Below w.heap.size w w1) : OwnU w1 S v l := by
  obtain ⟨h1, h2 | ⟨g, cap, cur, rfl, hg, hh, h3⟩⟩ := hown
  · exact ⟨h1, Or.inl h2⟩
  · have hlt : g < w.heap.size := (Array.getElem?_eq_some_iff.1 hh).1
    exact ⟨h1, Or.inr ⟨g, cap, cur, rfl, hg, by rw [hb.block g hlt]; exact hh, h3⟩⟩
theorem OwnR.butO {α : Type} {c : α → List Value} {n : Nat} {e : TypeId} {w w' : World} {S Z : Nat} {v : Value} {l : List α} (h : OwnR e c n w S v l) (hk : But Z w w') (hz : v.ownBlock ≠ some Z) : OwnR e c n w' S v l := by
  obtain ⟨h1, h2 | ⟨g, cap, cur, rfl, hg, hh, h3⟩⟩ := h
  · exact ⟨h1, Or.inl h2⟩
  · exact ⟨h1, Or.inr ⟨g, cap, cur, rfl, hg, by rw [hk.2 g (heapLt hh) (fun e => hz (by rw [e]; rfl))]; exact hh, h3⟩⟩
theorem OwnU.butO {w w' : World} {S Z : Nat} {v : Value} {l : List Nat} (h : OwnU w S v l) (hk : But Z w w') (hz : v.ownBlock ≠ some Z) : OwnU w' S v l := by
  obtain ⟨h1, h2 | ⟨g, cap, cur, rfl, hg, hh, h3⟩⟩ := h
  · exact ⟨h1, Or.inl h2⟩
  · exact ⟨h1, Or.inr ⟨g, cap, cur, rfl, hg, by rw [hk.2 g (heapLt hh) (fun e => hz (by rw [e]; rfl))]; exact hh, h3⟩⟩
theorem OwnU.notblk {w : World} {S : Nat} {v : Value} {l : List Nat} (h : OwnU w S v l) {b : Nat} {ds : List Value} {u : TypeId} (hb : Blk w b ds u) (hu : u ≠ 29) : v.ownBlock ≠ some b := by
  intro hv
  obtain ⟨_, ⟨rfl, h0⟩ | ⟨g, cap', cur, rfl, h3, h4, _⟩⟩ := h
  · cases hv
  · simp only [Value.ownBlock, Option.some.injEq] at hv
    subst hv
    unfold Blk at hb
    rw [hb] at h4
    simp only [Option.some.injEq, Obj.cells.injEq] at h4
    exact hu h4.2.1
theorem OwnR.blkOf {α : Type} {c : α → List Value} {n : Nat} {e : TypeId} {w : World} {S k : Nat} {v : Value} {l : List α} (h : OwnR e c n w S v l) (hk : v.ownBlock = some k) : ∃ ds, Blk w k ds e := by
  obtain ⟨h1, ⟨rfl, h0⟩ | ⟨g, cap, cur, rfl, hg, hh, h3⟩⟩ := h
  · cases hk
  · simp only [Value.ownBlock, Option.some.injEq] at hk
    subst hk
    exact ⟨cur.toList, by unfold Blk; simpa using hh⟩
theorem OwnU.blkOf {w : World} {S k : Nat} {v : Value} {l : List Nat} (h : OwnU w S v l) (hk : v.ownBlock = some k) : ∃ ds, Blk w k ds 29 := by
  obtain ⟨h1, ⟨rfl, h0⟩ | ⟨g, cap, cur, rfl, hg, hh, h3⟩⟩ := h
  · cases hk
  · simp only [Value.ownBlock, Option.some.injEq] at hk
    subst hk
    exact ⟨cur.toList, by unfold Blk; simpa using hh⟩
theorem NdO.later {S : Nat} {w w' : World} {x : NdV} (h : NdO S w x) (hb : Below w.heap.size w w') : NdO S w' x := ⟨h.p.later hb, h.d.laterA hb⟩
theorem NdO.but {S Z : Nat} {w w' : World} {x : NdV} (h : NdO S w x) (hk : But Z w w') (hp : (ptrV x).ownBlock ≠ some Z) (hd : (datV x).ownBlock ≠ some Z) : NdO S w' x := ⟨h.p.butO hk hp, h.d.butO hk hd⟩
theorem NdO.lt {S : Nat} {w : World} {x : NdV} (h : NdO S w x) : NdLt w.heap.size x := ⟨fun k hk => (World.ownsRow.lt h.p k hk).2, fun k hk => (World.ownsRow.lt h.d k hk).2⟩
theorem NdO.ge {S : Nat} {w : World} {x : NdV} (h : NdO S w x) : NdGe S x := ⟨fun k hk => (World.ownsRow.lt h.p k hk).1, fun k hk => (World.ownsRow.lt h.d k hk).1⟩
theorem NdO.notnd {S : Nat} {w : World} {x : NdV} (h : NdO S w x) {b : Nat} {ds : List Value} {u : TypeId} (hb : Blk w b ds u) (h1 : u ≠ 3) (h2 : u ≠ 29) : (ptrV x).ownBlock ≠ some b ∧ (datV x).ownBlock ≠ some b := ⟨h.p.notblk hb h1, h.d.notblk hb h2⟩
theorem NdO.low {S S' : Nat} {w : World} {x : NdV} (h : NdO S w x) (hs : S' ≤ S) : NdO S' w x := ⟨h.p.low hs, h.d.low hs⟩
def ndb (x : NdV) : Prop := (∀ p ∈ x.ptrs, ib p) ∧ ∀ v ∈ x.data, v < 2 ^ 64
theorem NdO.ok {S : Nat} {w : World} {x : NdV} (h : NdO S w x) (hb : ndb x) : x.ok w := by
  obtain ⟨ao, cap, e1, r1, r2, r3, r4⟩ := h.p.rw' ic_len
  obtain ⟨ao2, cap2, e2, s1, s2, s3, s4⟩ := own_u_caps h.d
  unfold ptrV at e1
  unfold datV at e2
  simp only [Value.slice.injEq] at e1 e2
  obtain ⟨e11, _, e12⟩ := e1
  obtain ⟨e21, _, e22⟩ := e2
  exact ⟨by rw [e11]; exact r1, by rw [e21]; exact s1, by rw [e12]; exact r2, by rw [e22]; exact s2, by rw [e12]; exact r3, by rw [e22]; exact s3, by rw [e11, e12]; exact r4, by rw [e21, e22]; exact s4, hb.1, hb.2⟩
theorem NdO.pl {S : Nat} {w : World} {x : NdV} (h : NdO S w x) : NdP (fun b => S ≤ b) x := by
  refine ⟨fun hl => ?_, fun hl => ?_⟩
  · obtain ⟨g, e, h1, _⟩ := OwnR.at (h := h.p) (List.length_pos_iff.2 hl) rfl
    exact ⟨g, 0, e, h1⟩
  · obtain ⟨g, e, h1, _⟩ := own_u_at (h := h.d) (List.length_pos_iff.2 hl) rfl
    exact ⟨g, 0, e, h1⟩
/-- A graph whose lists are all its own, each in a block of its own. -/
structure GO (S : Nat) (w : World) (na : Option Addr) (n nq : Nat) (ra : Option Addr) (m rq : Nat) (nodes : List NdV) (roots : List Int) : Prop where
  nl : nodes.length = n
  rl : roots.length = m
  no : OwnR 36 nc 2 w S (.slice na n nq) nodes
  xo : ∀ x ∈ nodes, NdO S w x
  ro : OwnR 3 ic 1 w S (.slice ra m rq) roots
  xb : ∀ x ∈ nodes, ndb x
  rb : ∀ p ∈ roots, ib p
  ap : nodes.Pairwise Apart
  rc : ∃ c, (∀ x ∈ nodes, NdLt c x) ∧ ∀ k, (Value.slice ra m rq).ownBlock = some k → c ≤ k
theorem GO.later {S : Nat} {w w' : World} {na ra : Option Addr} {n nq m rq : Nat} {nodes : List NdV} {roots : List Int} (h : GO S w na n nq ra m rq nodes roots) (hb : Below w.heap.size w w') : GO S w' na n nq ra m rq nodes roots :=
  ⟨h.nl, h.rl, h.no.later hb, fun x hx => (h.xo x hx).later hb, h.ro.later hb, h.xb, h.rb, h.ap, h.rc⟩
theorem GO.but {S Z : Nat} {w w' : World} {na ra : Option Addr} {n nq m rq : Nat} {nodes : List NdV} {roots : List Int} (h : GO S w na n nq ra m rq nodes roots) (hk : But Z w w') (hn : (Value.slice na n nq).ownBlock ≠ some Z) (hr : (Value.slice ra m rq).ownBlock ≠ some Z) (hx : ∀ x ∈ nodes, (ptrV x).ownBlock ≠ some Z ∧ (datV x).ownBlock ≠ some Z) : GO S w' na n nq ra m rq nodes roots :=
  ⟨h.nl, h.rl, h.no.butO hk hn, fun x hxm => (h.xo x hxm).but hk (hx x hxm).1 (hx x hxm).2, h.ro.butO hk hr, h.xb, h.rb, h.ap, h.rc⟩
/-- A block of another type is none of its lists'. -/
theorem GO.notblk {S : Nat} {w : World} {na ra : Option Addr} {n nq m rq : Nat} {nodes : List NdV} {roots : List Int} (h : GO S w na n nq ra m rq nodes roots) {b : Nat} {ds : List Value} {u : TypeId} (hb : Blk w b ds u) (h1 : u ≠ 3) (h2 : u ≠ 29) (h3 : u ≠ 36) :
    (Value.slice na n nq).ownBlock ≠ some b ∧ (Value.slice ra m rq).ownBlock ≠ some b ∧ ∀ x ∈ nodes, (ptrV x).ownBlock ≠ some b ∧ (datV x).ownBlock ≠ some b :=
  ⟨h.no.notblk hb h3, h.ro.notblk hb h1, fun x hx => (h.xo x hx).notnd hb h1 h2⟩
theorem own_pl {α : Type} {c : α → List Value} {n : Nat} {e : TypeId} {w : World} {S m cap : Nat} {ao : Option Addr} {l : List α} (h : OwnR e c n w S (.slice ao m cap) l) (hl : l.length = m) : Pl (fun b => S ≤ b) ao l := fun hne => by
  obtain ⟨g, e, h1, _⟩ := h.at (by have := List.length_pos_iff.2 hne; omega) hl
  exact ⟨g, 0, e, h1⟩
theorem own_caps {α : Type} {c : α → List Value} {n : Nat} (hc : ∀ x, (c x).length = n) {e : TypeId} {w : World} {S m cap : Nat} {ao : Option Addr} {l : List α} (h : OwnR e c n w S (.slice ao m cap) l) : Rw c n w ao l ∧ l.length ≤ cap ∧ cap ≤ 9223372036854775807 ∧ (ao = none → cap = 0) := by
  obtain ⟨ao', cap', hv, hr, h1, h2, h3⟩ := h.rw' hc
  simp only [Value.slice.injEq] at hv
  obtain ⟨rfl, _, rfl⟩ := hv
  exact ⟨hr, h1, h2, h3⟩
theorem GO.gat {S : Nat} {w : World} {na ra : Option Addr} {n nq m rq : Nat} {nodes : List NdV} {roots : List Int} (h : GO S w na n nq ra m rq nodes roots) : GAt (fun b => S ≤ b) w na n nq ra m rq ⟨nodes.map NdV.nd, roots⟩ := by
  obtain ⟨n1, n2, n3, n4⟩ := own_caps nc_len h.no
  obtain ⟨r1, r2, r3, r4⟩ := own_caps ic_len h.ro
  exact ⟨nodes, rfl, h.nl, h.rl, n1, fun x hx => (h.xo x hx).ok (h.xb x hx), r1, by rw [← h.nl]; exact n2, by rw [← h.rl]; exact r2, n3, r3, n4, r4, h.rb, own_pl h.no h.nl, own_pl h.ro h.rl, fun x hx => (h.xo x hx).pl⟩

theorem gpFreshI (ao : Option Addr) (m ca : Nat) (l : List Int) (w : World) (hm : l.length = m) (hu : Rw ic 1 w ao l) (hn0 : ao = none → ca = 0) (hl : m ≤ 1000000) :
    Calls Try.prog 35 #[.slice ao m ca] w fun e w' => ∃ ao' cap', e = .returned (.slice ao' m cap') ∧ OwnR 3 ic 1 w' w.heap.size (.slice ao' m cap') l ∧ Below w.heap.size w w' := by
  have HM := Lib.hid hm
  have HU := Lib.hid hu
  have HN := Lib.hid hn0
  clear hm hu hn0
  go_enter Try.func35, Try.ntmps35
  go_wp2_with (refine wp_copy_rows 3 23 _ 8 info_in Try.underlying23 rfl (by decide) (by decide) ic_len ic_one w (by rfl) (.const (.slice none 0 0)) (.tmp 3) rfl rfl rfl ao m ca rfl l HM.out HU.out HN.out (by omega) ?_; intro ao9 cp9 w9 ho9 hr9 hl9 hc9 hn9 hb9)
  go_ret
  exact ⟨ao9, cp9, rfl, ho9, hb9⟩
theorem gpFreshU (ao : Option Addr) (m ca : Nat) (l : List Nat) (w : World) (hm : l.length = m) (hu : Us w ao l) (hn0 : ao = none → ca = 0) (hl : m ≤ 1000000) :
    Calls Try.prog 36 #[.slice ao m ca] w fun e w' => ∃ ao' cap', e = .returned (.slice ao' m cap') ∧ OwnU w' w.heap.size (.slice ao' m cap') l ∧ Below w.heap.size w w' := by
  have HM := Lib.hid hm
  have HU := Lib.hid hu
  have HN := Lib.hid hn0
  clear hm hu hn0
  go_enter Try.func36, Try.ntmps36
  go_wp2_with (refine wp_copy_us w (by rfl) (.const (.slice none 0 0)) (.tmp 3) rfl rfl rfl ao m ca rfl l HM.out HU.out HN.out (by omega) ?_; intro ao9 cp9 w9 ho9 hr9 hl9 hc9 hn9 hb9)
  go_ret
  exact ⟨ao9, cp9, rfl, ho9, hb9⟩
/-- make([]api.Node, n) -/
theorem wp_make_nd (w : World) {ops : Array Oper} {rest : List Oper} {o : Oper} {a : Act} {Q : Exit → Act → World → Prop} (hg : o.guard = none) (l c : Operand)
    (hop : o.op = Op.makeSlice 22 l c) (n : Nat) (hl : a.eval l = .int .i64 (n : Int)) (hc : a.eval c = .int .i64 (n : Int)) (b2 : n ≤ 1000000000)
    (hK : ∀ w', OwnR 36 nc 2 w' w.heap.size (.slice (some ⟨w.heap.size, 0, none⟩) n n) (List.replicate n (default : NdV)) → w.heap.size < w'.heap.size → Below w.heap.size w w' → wpList Try.prog ops Q rest (a.put o.dst (.slice (some ⟨w.heap.size, 0, none⟩) n n)) w') : wpList Try.prog ops Q (o :: rest) a w := by
  obtain ⟨i0, hi, hz0, hz1, hz2⟩ := info_parts info_nd
  obtain ⟨w', hrun, ho, hgr⟩ := run_make_full w (P := Try.prog) w.heap.size 22 36 i0 (.agg #[.slice none 0 0, .slice none 0 0]) 2 Try.underlying22 hi hz0 hz1 .i64 .i64 n (by rw [hz2]; omega) (by unfold maxLen; omega) (Nat.le_refl _)
  have ho2 : OwnR 36 nc 2 w' w.heap.size (.slice (some ⟨w.heap.size, 0, none⟩) n n) (List.replicate n (default : NdV)) := by
    unfold OwnR
    rw [List.length_replicate]
    have e : (madeCells (Value.agg #[.slice none 0 0, .slice none 0 0]).cells (n * 2)).toList = (List.replicate n (default : NdV)).flatMap nc := by
      show (madeCells #[Value.slice none 0 0, Value.slice none 0 0] (n * 2)).toList = _
      have e2 : ∀ k : Nat, (List.replicate k (default : NdV)).flatMap nc = List.replicate (k * 2) (Value.slice none 0 0) := by
        intro k
        induction k with
        | zero => rfl
        | succ k ih => rw [List.replicate_succ, List.flatMap_cons, ih, Nat.succ_mul, Nat.add_comm (k * 2) 2, ← List.replicate_append_replicate]; rfl
      rw [e2]
      apply List.ext_getElem
      · simp [madeCells]
      · intro i h1 h2
        simp only [madeCells, List.getElem_replicate]
        simp
        rcases Nat.mod_two_eq_zero_or_one i with h | h <;> simp [h]
    rw [e] at ho
    exact ho
  have hlt : w.heap.size < w'.heap.size := (World.ownsRow.lt ho2 w.heap.size rfl).2
  refine wpList_plain hg fun _ hK' => ?_
  unfold Oper.wp execOp
  simp only [hop, hl, hc, Sem.run_bind, hrun, Result.andThen_ok, Sem.run_pure]
  exact hK' _ _ (hK w' ho2 hlt ((Below.refl _ w).grown hgr (Nat.le_refl _) (fun k hk => by cases hk)))
end Go.Proofs.Ytjoacfjbdpmgpaa.V
