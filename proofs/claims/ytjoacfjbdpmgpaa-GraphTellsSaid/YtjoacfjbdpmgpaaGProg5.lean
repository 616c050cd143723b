/-
  What one store leaves of a graph whose lists are its own: a root set, a pointer set, a scalar set.
-/
import Derived.Test.YtjoacfjbdpmgpaaGProg4
set_option linter.unusedVariables false
namespace Go.Proofs.Ytjoacfjbdpmgpaa.V
open Go.RowKit

section
variable {S : Nat} {w w' : World} {na ra : Option Addr} {n nq m rq : Nat} {nodes : List NdV} {roots : List Int}
theorem OwnR.heap {α : Type} {c : α → List Value} {n : Nat} {e : TypeId} {v : Value} {l : List α} (h : OwnR e c n w S v l) (he : w'.heap = w.heap) : OwnR e c n w' S v l := by
  unfold OwnR World.ownsRow at *; rw [he]; exact h
theorem OwnU.heap {v : Value} {l : List Nat} (h : OwnU w S v l) (he : w'.heap = w.heap) : OwnU w' S v l := by
  unfold OwnU World.ownsRow at *; rw [he]; exact h
theorem Blk.heap {b : Nat} {ds : List Value} {u : TypeId} (h : Blk w b ds u) (he : w'.heap = w.heap) : Blk w' b ds u := by
  unfold Blk at *; rw [he]; exact h
theorem GO.heap (h : GO S w na n nq ra m rq nodes roots) (he : w'.heap = w.heap) : GO S w' na n nq ra m rq nodes roots :=
  ⟨h.nl, h.rl, h.no.heap he, fun x hx => ⟨(h.xo x hx).p.heap he, (h.xo x hx).d.heap he⟩, h.ro.heap he, h.xb, h.rb, h.ap, h.rc⟩
theorem gat_of (nl : nodes.length = n) (rl : roots.length = m) (no : OwnR 36 nc 2 w S (.slice na n nq) nodes) (xo : ∀ x ∈ nodes, NdO S w x) (ro : OwnR 3 ic 1 w S (.slice ra m rq) roots) (xb : ∀ x ∈ nodes, ndb x) (rb : ∀ p ∈ roots, ib p) : GAt (fun b => S ≤ b) w na n nq ra m rq ⟨nodes.map NdV.nd, roots⟩ := by
  obtain ⟨n1, n2, n3, n4⟩ := own_caps nc_len no
  obtain ⟨r1, r2, r3, r4⟩ := own_caps ic_len ro
  exact ⟨nodes, rfl, nl, rl, n1, fun x hx => (xo x hx).ok (xb x hx), r1, by rw [← nl]; exact n2, by rw [← rl]; exact r2, n3, r3, n4, r4, rb, own_pl no nl, own_pl ro rl, fun x hx => (xo x hx).pl⟩
theorem GO.nd_apart (h : GO S w na n nq ra m rq nodes roots) {j k b : Nat} {y x : NdV} (hy : nodes[j]? = some y) (hx : nodes[k]? = some x) (hjk : j ≠ k) (hb : (ptrV x).ownBlock = some b ∨ (datV x).ownBlock = some b) : (ptrV y).ownBlock ≠ some b ∧ (datV y).ownBlock ≠ some b := by
  obtain ⟨hj, rfl⟩ := List.getElem?_eq_some_iff.1 hy
  obtain ⟨hk, rfl⟩ := List.getElem?_eq_some_iff.1 hx
  rcases Nat.lt_or_gt_of_ne hjk with hlt | hlt
  · obtain ⟨c, h1, h2⟩ := List.pairwise_iff_getElem.1 h.ap j k hj hk hlt
    have hcb : c ≤ b := by rcases hb with hb | hb; exact h2.1 b hb; exact h2.2 b hb
    exact ⟨fun e => by have := h1.1 b e; omega, fun e => by have := h1.2 b e; omega⟩
  · obtain ⟨c, h1, h2⟩ := List.pairwise_iff_getElem.1 h.ap k j hk hj hlt
    have hcb : b < c := by rcases hb with hb | hb; exact h1.1 b hb; exact h1.2 b hb
    exact ⟨fun e => by have := h2.1 b e; omega, fun e => by have := h2.2 b e; omega⟩
theorem GO.root_apart (h : GO S w na n nq ra m rq nodes roots) {b : Nat} {x : NdV} (hx : x ∈ nodes) (hb : (ptrV x).ownBlock = some b ∨ (datV x).ownBlock = some b) : (Value.slice ra m rq).ownBlock ≠ some b := by
  obtain ⟨c, h1, h2⟩ := h.rc
  intro e
  have := h2 b e
  rcases hb with hb | hb
  · have := (h1 x hx).1 b hb; omega
  · have := (h1 x hx).2 b hb; omega
/-- A root set. -/
theorem GO.rootset {rb R : Nat} {tv : Int} (h : GO S w na n nq (some ⟨rb, 0, none⟩) m rq nodes roots) (hr : R < m) (hto : ib tv) (he : w'.heap = (w.setCell ⟨rb, R, none⟩ (.int .i64 tv)).heap) : GO S w' na n nq (some ⟨rb, 0, none⟩) m rq nodes (roots.set R tv) := by
  refine GO.heap ?_ he
  have hk : But rb w (w.setCell ⟨rb, R, none⟩ (.int .i64 tv)) := (But.refl rb w).set R _
  obtain ⟨ds, hds⟩ := h.ro.blkOf (k := rb) rfl
  refine ⟨h.nl, by rw [List.length_set]; exact h.rl, h.no.butO hk (h.no.notblk hds (by decide)), fun x hx => ?_, (h.ro.stored1 h.rl R hr tv).1, h.xb, fun p hp => ?_, h.ap, h.rc⟩
  · exact (h.xo x hx).but hk (fun e => h.root_apart hx (Or.inl e) rfl) (fun e => h.root_apart hx (Or.inr e) rfl)
  · rcases List.mem_or_eq_of_mem_set hp with hp | rfl
    · exact h.rb p hp
    · exact hto
theorem nc_same {l : List NdV} {k : Nat} {x x' : NdV} (hx : l[k]? = some x) (he : nc x' = nc x) : (l.set k x').flatMap nc = l.flatMap nc := by
  have e : (l.set k x').map nc = l.map nc := by
    rw [List.map_set, he]
    apply List.ext_getElem?
    intro j
    by_cases hj : k = j
    · subst hj
      rw [List.getElem?_set_self (by rw [List.length_map]; exact (List.getElem?_eq_some_iff.1 hx).1), List.getElem?_map, hx]; rfl
    · rw [List.getElem?_set_ne hj]
  rw [List.flatMap_def, List.flatMap_def, e]
/-- A node changed in place: its lists lie where they lay. -/
theorem GO.changed {k b : Nat} {x x' : NdV} (h : GO S w na n nq ra m rq nodes roots) (hx : nodes[k]? = some x) (hk : But b w w') (hb : (ptrV x).ownBlock = some b ∨ (datV x).ownBlock = some b) (he : nc x' = nc x) (hx' : NdO S w' x') (hxb : ndb x') {ds : List Value} {u : TypeId} (hds : Blk w b ds u) (hu : u ≠ 36) :
    GAt (fun b => S ≤ b) w' na n nq ra m rq ⟨(nodes.map NdV.nd).set k x'.nd, roots⟩ := by
  have hxm := List.mem_of_getElem? hx
  have hno : OwnR 36 nc 2 w' S (.slice na n nq) (nodes.set k x') := by
    have := h.no.butO hk (h.no.notblk hds hu)
    unfold OwnR at this ⊢
    rw [List.length_set, nc_same hx he]
    exact this
  have hmem : ∀ y ∈ nodes.set k x', (y = x' ∨ ∃ j, nodes[j]? = some y ∧ j ≠ k) := by
    intro y hy
    obtain ⟨j, hj, hjy⟩ := List.getElem_of_mem hy
    by_cases hjk : k = j
    · subst hjk
      left
      rw [List.getElem_set_self] at hjy
      exact hjy.symm
    · right
      rw [List.getElem_set_ne hjk] at hjy
      exact ⟨j, by rw [← hjy]; exact List.getElem?_eq_getElem _, fun e => hjk e.symm⟩
  have := gat_of (nodes := nodes.set k x') (by rw [List.length_set]; exact h.nl) h.rl hno (fun y hy => by
    rcases hmem y hy with rfl | ⟨j, hj, hjk⟩
    · exact hx'
    · have h9 := h.nd_apart hj hx hjk hb
      exact (h.xo y (List.mem_of_getElem? hj)).but hk h9.1 h9.2) (h.ro.butO hk (h.root_apart hxm hb)) (fun y hy => by
    rcases hmem y hy with rfl | ⟨j, hj, _⟩
    · exact hxb
    · exact h.xb y (List.mem_of_getElem? hj)) h.rb
  rwa [List.map_set] at this
/-- A pointer of a node set. -/
theorem GO.ptrset {k pb I : Nat} {x : NdV} {tv : Int} (h : GO S w na n nq ra m rq nodes roots) (hx : nodes[k]? = some x) (hpb : x.pa = some ⟨pb, 0, none⟩) (hI : I < x.ptrs.length) (hto : ib tv) (he : w'.heap = (w.setCell ⟨pb, I, none⟩ (.int .i64 tv)).heap) :
    GAt (fun b => S ≤ b) w' na n nq ra m rq ⟨(nodes.map NdV.nd).set k ⟨x.ptrs.set I tv, x.data⟩, roots⟩ := by
  have hxm := List.mem_of_getElem? hx
  have hxo := h.xo x hxm
  have hpv : ptrV x = .slice (some ⟨pb, 0, none⟩) x.ptrs.length x.pcap := by unfold ptrV; rw [hpb]
  have hown : (ptrV x).ownBlock = some pb := by rw [hpv]; rfl
  obtain ⟨ds, hds⟩ := hxo.p.blkOf hown
  have hk0 : But pb w (w.setCell ⟨pb, I, none⟩ (.int .i64 tv)) := (But.refl pb w).set I _
  have hk : But pb w w' := ⟨by rw [he]; exact hk0.1, by rw [he]; exact hk0.2⟩
  have hxp := hxo.p
  rw [hpv] at hxp
  have hp' := (hxp.stored1 rfl I hI tv).1
  refine h.changed (x' := ⟨x.pa, x.pcap, x.ptrs.set I tv, x.da, x.dcap, x.data⟩) hx hk (Or.inl hown) (by simp [nc]) ⟨?_, ?_⟩ ⟨fun p hp => ?_, (h.xb x hxm).2⟩ hds (by decide)
  · refine OwnR.heap ?_ he
    unfold ptrV
    simp only [List.length_set]
    rw [hpb]
    exact hp'
  · exact (show OwnU w' S (datV x) x.data from hxo.d.butO hk (hxo.d.notblk hds (by decide)))
  · rcases List.mem_or_eq_of_mem_set hp with hp | rfl
    · exact (h.xb x hxm).1 p hp
    · exact hto
/-- A scalar of a node set. -/
theorem GO.datset {k pb I tv : Nat} {x : NdV} (h : GO S w na n nq ra m rq nodes roots) (hx : nodes[k]? = some x) (hpb : x.da = some ⟨pb, 0, none⟩) (hI : I < x.data.length) (hto : tv < 2 ^ 64) (he : w'.heap = (w.setCell ⟨pb, I, none⟩ (.int .u64 (tv : Int))).heap) :
    GAt (fun b => S ≤ b) w' na n nq ra m rq ⟨(nodes.map NdV.nd).set k ⟨x.ptrs, x.data.set I tv⟩, roots⟩ := by
  have hxm := List.mem_of_getElem? hx
  have hxo := h.xo x hxm
  have hdv : datV x = .slice (some ⟨pb, 0, none⟩) x.data.length x.dcap := by unfold datV; rw [hpb]
  have hown : (datV x).ownBlock = some pb := by rw [hdv]; rfl
  obtain ⟨ds, hds⟩ := hxo.d.blkOf hown
  have hk0 : But pb w (w.setCell ⟨pb, I, none⟩ (.int .u64 (tv : Int))) := (But.refl pb w).set I _
  have hk : But pb w w' := ⟨by rw [he]; exact hk0.1, by rw [he]; exact hk0.2⟩
  have hxd := hxo.d
  rw [hdv] at hxd
  have hp' := (own_u_stored hxd rfl I hI tv).1
  refine h.changed (x' := ⟨x.pa, x.pcap, x.ptrs, x.da, x.dcap, x.data.set I tv⟩) hx hk (Or.inr hown) (by simp [nc]) ⟨?_, ?_⟩ ⟨(h.xb x hxm).1, fun p hp => ?_⟩ hds (by decide)
  · exact (show OwnR 3 ic 1 w' S (ptrV x) x.ptrs from hxo.p.butO hk (hxo.p.notblk hds (by decide)))
  · refine OwnU.heap ?_ he
    unfold datV
    simp only [List.length_set]
    rw [hpb]
    exact hp'
  · rcases List.mem_or_eq_of_mem_set hp with hp | rfl
    · exact (h.xb x hxm).2 p hp
    · exact hto
end
end Go.Proofs.Ytjoacfjbdpmgpaa.V
