/-
  The document's own rooted and turned: a graph with one root, or one node, that is another one; walked.
-/
import Derived.Test.YtjoacfjbdpmgpaaGRef1
import Derived.Deep.RegionHeld3
set_option linter.unusedVariables false
namespace Go.Proofs.Ytjoacfjbdpmgpaa.V
open Go.RowKit

/-- A block made ahead of what grows the memory. -/
theorem blk_old {V w9 : World} (cs : List Value) (t : TypeId) (hb : Below (V.alloc (.cells cs.toArray t)).drew.heap.size (V.alloc (.cells cs.toArray t)).drew w9) : Blk w9 V.heap.size cs t :=
  Blk.below (w := (V.alloc (.cells cs.toArray t)).drew) (show Blk (V.alloc (.cells cs.toArray t)) V.heap.size cs t from Blk.new V _ _) hb
theorem blk_two {w : World} {g : Nat} {a b : Value} {t : TypeId} (h : Blk w g [a, b] t) : w.cell? ⟨g, 0, none⟩ = some a ∧ w.cell? ⟨g, 1, none⟩ = some b ∧ w.frozen? ⟨g, 0, none⟩ = false ∧ w.frozen? ⟨g, 1, none⟩ = false :=
  ⟨h.cell rfl, h.cell rfl, h.frozen 0, h.frozen 1⟩
theorem GAt.parts {P : Nat → Prop} {w : World} {na ra : Option Addr} {n nq m rq : Nat} {g : Gr} (h : GAt P w na n nq ra m rq g) : g.nodes.length = n ∧ g.roots.length = m ∧ Rw ic 1 w ra g.roots ∧ n ≤ nq ∧ m ≤ rq ∧ nq ≤ 9223372036854775807 ∧ rq ≤ 9223372036854775807 ∧ (na = none → nq = 0) ∧ (ra = none → rq = 0) ∧ ∀ p ∈ g.roots, ib p := by
  obtain ⟨nodes, h1, h2, h3, h4, h5, h6, h7, h8, h9, h10, h11, h12, h13, _⟩ := h
  exact ⟨by rw [← h1, List.length_map, h2], h3, h6, h7, h8, h9, h10, h11, h12, h13⟩
/-- Other roots, in their own slice. -/
theorem GAt.reroot {P : Nat → Prop} {w : World} {na ra ra' : Option Addr} {n nq m rq rq' : Nat} {g : Gr} (h : GAt P w na n nq ra m rq g) {l : List Int} (hl : l.length = m) (hr : Rw ic 1 w ra' l) (h1 : m ≤ rq') (h2 : rq' ≤ 9223372036854775807) (h3 : ra' = none → rq' = 0) (h4 : ∀ p ∈ l, ib p) (h5 : Pl P ra' l) : GAt P w na n nq ra' m rq' ⟨g.nodes, l⟩ := by
  obtain ⟨nodes, k1, k2, k3, k4, k5, k6, k7, k8, k9, k10, k11, k12, k13, k14, k15, k16⟩ := h
  exact ⟨nodes, k1, k2, hl, k4, k5, hr, k7, h1, k9, h2, k11, h3, h4, k14, h5, k16⟩
theorem OwnR.rows {α : Type} {c : α → List Value} {n : Nat} (hc : ∀ x, (c x).length = n) {e : TypeId} {w : World} {S : Nat} {ao : Option Addr} {m cap : Nat} {l : List α} (h : OwnR e c n w S (.slice ao m cap) l) : Rw c n w ao l := by
  obtain ⟨ao', cap', hv, hr, _⟩ := h.rw' hc
  simp only [Value.slice.injEq] at hv
  rw [hv.1]; exact hr
theorem OwnR.far {α : Type} {c : α → List Value} {n : Nat} {e : TypeId} {w : World} {S : Nat} {v : Value} {l : List α} (h : OwnR e c n w S v l) {g j : Nat} (hg : g < S) (u : Value) : OwnR e c n (w.setCell ⟨g, j, none⟩ u) S v l := ownsRow_setCell_below (a := ⟨g, j, none⟩) h hg u
set_option maxRecDepth 100000 in
set_option maxHeartbeats 2000000 in
theorem gRooted {g : Gr} {na ra : Option Addr} {n nq m rq : Nat} {w : World} {P : Nat → Prop} (hA : GAt P w na n nq ra m rq g) (hm1 : m ≤ 1000000) (r : Nat) (tv : Int) (hr : r < m) (hto : ib tv) :
    Calls Try.prog 27 #[.agg #[.slice na n nq, .slice ra m rq], .int .i64 (r : Int), .int .i64 tv] w fun e w' => ∃ ra' rq', e = .returned (.agg #[.slice na n nq, .slice ra' m rq']) ∧ GAt (fun b => P b ∨ w.heap.size ≤ b) w' na n nq ra' m rq' (grooted g r tv) ∧ Below w.heap.size w w' := by
  have HA := Lib.hid hA
  obtain ⟨p1, p2, p3, p4, p5, p6, p7, p8, p9, p10⟩ := hA.parts
  have HT := Lib.hid p3
  have HML := Lib.hid p2
  have HRN := Lib.hid p9
  have HIB := Lib.hid p10
  clear hA p1 p2 p3 p9 p10 p8
  have HZ : Hid (Blk ((w.alloc (.cells #[.slice na n nq, .slice ra m rq] 25)).alloc (.cells #[.slice none 0 0, .slice none 0 0] 25)) (w.heap.size + 1) [.slice none 0 0, .slice none 0 0] 25) := Lib.hid (by
    have := Blk.new (w.alloc (.cells #[.slice na n nq, .slice ra m rq] 25)) [.slice none 0 0, .slice none 0 0] 25
    rwa [World.size_alloc] at this)
  have HG : Hid (Blk ((w.alloc (.cells #[.slice na n nq, .slice ra m rq] 25)).alloc (.cells #[.slice none 0 0, .slice none 0 0] 25)) w.heap.size [.slice na n nq, .slice ra m rq] 25) := Lib.hid ((Blk.new w [.slice na n nq, .slice ra m rq] 25).below (ba0 _ _))
  have HB := Lib.hid (ba (ba0 w (.cells #[.slice na n nq, .slice ra m rq] 25)) (.cells #[.slice none 0 0, .slice none 0 0] 25))
  go_enter Try.func27, Try.ntmps27
  go_upto_region 1 with fail
  generalize (w.alloc (.cells #[.slice na n nq, .slice ra m rq] 25)).alloc (.cells #[.slice none 0 0, .slice none 0 0] 25) = V at HZ HG HB ⊢
  have hkeep : Hid (∀ w', Below V.heap.size V w' → w'.cell? ⟨w.heap.size, 0, none⟩ = some (.slice na n nq) ∧ w'.cell? ⟨w.heap.size, 1, none⟩ = some (.slice ra m rq)) := Lib.hid fun w' h => ⟨(HG.out.below h).cell rfl, (HG.out.below h).cell rfl⟩
  have HTV := Lib.hid (HT.out.below (Nat.le_refl _) HB.out)
  go_cut [7] from 8 (fun v wx => ∃ G : Nat, ∃ ao : Option Addr, ∃ cp : Nat, v = .pointer (some ⟨G, 0, none⟩) ∧ Hid (Blk wx G [.slice na n nq, .slice ao m cp] 25) ∧ V.heap.size ≤ G ∧ Hid (OwnR 3 ic 1 wx V.heap.size (.slice ao m cp) g.roots) ∧ m ≤ cp ∧ cp ≤ 9223372036854775807 ∧ Hid (ao = none → cp = 0) ∧ Hid (Below V.heap.size V wx))
  case first =>
    go_region_held3 (fun w' => w'.cell? ⟨w.heap.size, 0, none⟩ = some (.slice na n nq) ∧ w'.cell? ⟨w.heap.size, 1, none⟩ = some (.slice ra m rq)) (exact hkeep.out _ (by first | exact (Below.refl _ V).drew | exact Below.refl _ V | exact ba (Below.refl _ V).drew _ | exact ba0 V _ | exact bt (Below.refl _ V).drew hb9 | exact bt (ba0 V _).drew hb9 | exact ba (bt (Below.refl _ V).drew hb9) _ | exact ((bt (ba0 V _).drew hb9).setCell (Nat.le_refl _) _).setCell (Nat.le_refl _) _)) ((first
      | (refine step_copy_rows 3 23 _ 8 info_in Try.underlying23 rfl (by decide) (by decide) ic_len ic_one (World.drew (World.alloc V _)) (by rfl) (.const (.slice none 0 0)) (.tmp 11) rfl rfl rfl ra m rq rfl g.roots HML.out (HTV.out.below (Nat.le_refl _) (ba0 V _).drew) HRN.out (by omega) ?_; intro ao9 cp9 w9 ho9 _ hl9 hc9 hn9 hb9; obtain ⟨q0, q1, f0, f1⟩ := blk_two (blk_old [.slice none 0 0, .slice none 0 0] 25 hb9))
      | (refine step_copy_rows 3 23 _ 8 info_in Try.underlying23 rfl (by decide) (by decide) ic_len ic_one _ (by rfl) (.const (.slice none 0 0)) (.tmp 11) rfl rfl rfl ra m rq rfl g.roots HML.out (HTV.out.below (Nat.le_refl _) (Below.refl _ V).drew) HRN.out (by omega) ?_; intro ao9 cp9 w9 ho9 _ hl9 hc9 hn9 hb9)))
    all_goals (
      go_wp2_with fail
      go_meet
      first
        | exact ⟨_, ao9, cp9, rfl, Lib.hid (Blk.new w9 [.slice na n nq, .slice ao9 m cp9] _), hb9.size, Lib.hid ((OwnR.alloc ho9 _).low (Nat.le_refl _)), hl9, hc9, Lib.hid hn9, Lib.hid (ba (bt (Below.refl _ V).drew hb9) _)⟩
        | exact ⟨_, ao9, cp9, rfl, Lib.hid (blk_set (blk_set (blk_old [.slice none 0 0, .slice none 0 0] 25 hb9) 0 _) 1 _), Nat.le_refl _, Lib.hid (OwnR.low (OwnR.far (OwnR.far ho9 (by show V.heap.size < _; simp) _) (by show V.heap.size < _; simp) _) (by simp)), hl9, hc9, Lib.hid hn9, Lib.hid (((bt (ba0 V _).drew hb9).setCell (Nat.le_refl _) _).setCell (Nat.le_refl _) _)⟩)
  case rest =>
    obtain ⟨G, ao, cp, rfl, HG2, hG, HO, hl, hc, HN2, HB2⟩ := hcut
    obtain ⟨gg, rfl, hg1, hg2, hg3⟩ := HO.out.at (by omega) HML.out
    have hGg : G ≠ gg := hg3 G _ _ HG2.out (by decide)
    have c1 : wc.cell? ⟨G, 1, none⟩ = some (.slice (some ⟨gg, 0, none⟩) m cp) := HG2.out.cell rfl
    obtain ⟨old, hold⟩ : ∃ x, g.roots[r]? = some x := ⟨_, List.getElem?_eq_getElem (by have := HML.out; omega)⟩
    obtain ⟨b1, o1, he, _, cr⟩ := in_cells (HO.out.rows ic_len) hold
    simp only [Option.some.injEq, Addr.mk.injEq, and_true] at he
    obtain ⟨rfl, rfl⟩ := he
    rw [Nat.zero_add] at cr
    have fr : wc.frozen? ⟨gg, r, none⟩ = false := HO.out.fz HML.out r
    obtain ⟨HO3, _⟩ := HO.out.stored1 HML.out r hr tv
    have HO3 := Lib.hid HO3
    have HG3 := Lib.hid (HG2.out.far hGg (.int .i64 tv) (j := r))
    have HB3 := Lib.hid (bt HB.out (HB2.out.setCell (p := ⟨gg, r, none⟩) hg1 (.int .i64 tv)))
    have HZ3 := Lib.hid ((HZ.out.below HB2.out).far (show w.heap.size + 1 ≠ gg by have := HZ.out.lt; omega) (.int .i64 tv) (j := r))
    clear hkeep HO hold HG
    have hri : (r : Int) < (m : Int) := by omega
    go_upto_region 3 with fail
    generalize wc.setCell ⟨gg, r, none⟩ (.int .i64 tv) = X at HO3 HG3 HB3 HZ3 ⊢
    have hGz : w.heap.size + 1 < V.heap.size := HZ.out.lt
    have hgz : gg ≠ w.heap.size + 1 := by omega
    have hwg : w.heap.size ≤ gg := by omega
    clear c1 cr fr HG2 HB2 hg1 hg2 hg3 hGg HZ
    have x0 : X.cell? ⟨G, 0, none⟩ = some (.slice na n nq) := HG3.out.cell rfl
    have x1 : X.cell? ⟨G, 1, none⟩ = some (.slice (some ⟨gg, 0, none⟩) m cp) := HG3.out.cell rfl
    go_wp2_with (refine wp_store_whole rfl 25 (.tmp 6) (.tmp 19) rfl (w.heap.size + 1) _ [.slice na n nq, .slice (some ⟨gg, 0, none⟩) m cp] rfl rfl _ HZ3.out rfl (by kernel_rfl) (by simp [Value.oneCell']) ?_; intro w5 hz5 hf5 hb5; have HZ5 := Lib.hid hz5; have HB5 := Lib.hid (hb5 _ _ (by omega) HB3.out); have HO5 := Lib.hid (HO3.out.keep hgz hf5); clear hz5 hb5 hf5)
    refine bodyPost_ret (res_cell1 rfl _ _ _ (w.heap.size + 1) _ rfl (run_loadVar_mid _ _ _ _ _ _ (fun j v hj => by rw [Nat.zero_add]; exact Blk.cell HZ5.out hj) Try.underlying25 rfl (by kernel_rfl))) rfl ?_
    refine ⟨some ⟨gg, 0, none⟩, cp, rfl, ?_, HB5.out⟩
    have h9 := ((HA.out.below HB5.out).imp (fun b hb => (Or.inl hb : P b ∨ w.heap.size ≤ b))).reroot (l := g.roots.set r tv) (by rw [List.length_set]; exact HML.out) (HO5.out.rows ic_len) hl hc (fun h => by cases h) (fun p hp => by
      rcases List.mem_or_eq_of_mem_set hp with hp | rfl
      · exact HIB.out p hp
      · exact hto) (fun _ => ⟨gg, 0, rfl, Or.inr hwg⟩)
    simpa [grooted] using h9
end Go.Proofs.Ytjoacfjbdpmgpaa.V
