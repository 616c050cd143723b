/-
  Layout of the statements: one that is right, of raw numbers.
-/
import Derived.Test.YtifmlmbbmlnpmaaPlEq
import Derived.Test.YtifmlmbbmlnpmaaPick
import Derived.Deep.RegionHeld3
set_option linter.unusedVariables false
namespace Go.Proofs.Ytifmlmbbmlnpmaa.V
open Go.RowKit

def lay7 (b : Nat) (n0 n1 n2 n3 n4 n5 : Int) : Lo :=
  ⟨(1 + (b : Int) % (9223372036854775808 - 2 * pk n0 41)).toNat, pk n0 41, pk n1 2, pk n2 (pk n0 41 + 1), pk n3 (pk n0 41 - pk n2 (pk n0 41 + 1) + 1), pk n4 (pk n0 41 + 1), pk n5 (pk n0 41 - pk n4 (pk n0 41 + 1) + 1)⟩
theorem lay7_right (b : Nat) (n0 n1 n2 n3 n4 n5 : Int) : lright (lay7 b n0 n1 n2 n3 n4 n5) ∧ (lay7 b n0 n1 n2 n3 n4 n5).cap ≤ 40 := by
  have h0 := pk_bd n0 41 (by omega)
  have h1 := pk_bd n1 2 (by omega)
  have h2 := pk_bd n2 (pk n0 41 + 1) (by omega)
  have h3 := pk_bd n3 (pk n0 41 - pk n2 (pk n0 41 + 1) + 1) (by omega)
  have h4 := pk_bd n4 (pk n0 41 + 1) (by omega)
  have h5 := pk_bd n5 (pk n0 41 - pk n4 (pk n0 41 + 1) + 1) (by omega)
  have h6 := Int.emod_nonneg (b : Int) (b := 9223372036854775808 - 2 * pk n0 41) (by omega)
  have h7 := Int.emod_lt_of_pos (b : Int) (b := 9223372036854775808 - 2 * pk n0 41) (by omega)
  unfold lright lay7
  dsimp only
  omega

/-- What stands while Layout fills in its layout, in block G: its answer's block g + 1, and the argument's block g. -/
structure St7 (w : World) (g G : Nat) (ns : List Value) (X : World) (l : Lo) : Prop where
  b : Below g w X
  z : LoAt X (g + 1) ⟨0, 0, 0, 0, 0, 0, 0⟩
  l : LoAt X G l
  a : Blk X g ns 25
theorem St7.set {w : World} {g G : Nat} {ns : List Value} {X : World} {l l' : Lo} (h : St7 w g G ns X l) (hg : g + 1 < G) (j : Nat) (v : Value) (hl : (loc l).set j v = loc l') : St7 w g G ns (X.setCell ⟨G, j, none⟩ v) l' := by
  have hG := h.l.lt
  have hb0 : Below G X X := (Below.refl X.heap.size X).mono (by omega)
  have hb : Below G X (X.setCell ⟨G, j, none⟩ v) := hb0.setCell (p := ⟨G, j, none⟩) (Nat.le_refl _) v
  refine ⟨h.b.setCell (p := ⟨G, j, none⟩) (by show g ≤ G; omega) v, ?_, ?_, ?_⟩
  · exact (hb.block (g + 1) (by omega)).trans h.z
  · have := blk_set h.l j v
    rw [hl] at this
    exact this
  · exact (hb.block g (by omega)).trans h.a

set_option maxRecDepth 100000 in
set_option maxHeartbeats 1000000 in
theorem layout7 (b : Nat) (n0 n1 n2 n3 n4 n5 : Int) (w : World) (hb64 : b < 2 ^ 64) (l0 : -9223372036854775808 ≤ n0) (u0 : n0 ≤ 9223372036854775807) (l1 : -9223372036854775808 ≤ n1) (u1 : n1 ≤ 9223372036854775807)
    (l2 : -9223372036854775808 ≤ n2) (u2 : n2 ≤ 9223372036854775807) (l3 : -9223372036854775808 ≤ n3) (u3 : n3 ≤ 9223372036854775807) (l4 : -9223372036854775808 ≤ n4) (u4 : n4 ≤ 9223372036854775807) (l5 : -9223372036854775808 ≤ n5) (u5 : n5 ≤ 9223372036854775807) :
    Calls Try.prog 10 #[.int .u64 (b : Int), .agg #[.int .i64 n0, .int .i64 n1, .int .i64 n2, .int .i64 n3, .int .i64 n4, .int .i64 n5]] w fun e w' => e = .returned (lov (lay7 b n0 n1 n2 n3 n4 n5)) ∧ Below w.heap.size w w' := by
  obtain ⟨L, hL⟩ : ∃ L, lay7 b n0 n1 n2 n3 n4 n5 = L := ⟨_, rfl⟩
  rw [hL]
  obtain ⟨c, hc, c2⟩ := pkN n0 41 (by omega)
  obtain ⟨t, ht, t2⟩ := pkN n1 2 (by omega)
  obtain ⟨lo, hlo, lo2⟩ := pkN n2 ((c : Int) + 1) (by omega)
  obtain ⟨hi, hhi, hi2⟩ := pkN n3 ((c : Int) - lo + 1) (by omega)
  obtain ⟨ol, hol, ol2⟩ := pkN n4 ((c : Int) + 1) (by omega)
  obtain ⟨fa, hfa, fa2⟩ := pkN n5 ((c : Int) - ol + 1) (by omega)
  obtain ⟨m, hm⟩ : ∃ m : Nat, (b : Int) % (9223372036854775808 - 2 * (c : Int)) = (m : Int) := ⟨((b : Int) % (9223372036854775808 - 2 * (c : Int))).toNat, by have := Int.emod_nonneg (b : Int) (b := 9223372036854775808 - 2 * (c : Int)) (by omega); omega⟩
  have hm2 : (m : Int) < 9223372036854775808 - 2 * (c : Int) := by rw [← hm]; exact Int.emod_lt_of_pos _ (by omega)
  have HL := Lib.hid (show L = ⟨1 + m, c, t, lo, hi, ol, fa⟩ by
    rw [← hL]; unfold lay7; rw [hc, ht, hlo, hhi, hol, hfa, hm]; congr 1)
  clear hL
  have IHp := Lib.hid (fun (q : Int) (n : Int) (r : Int) w (h : (q = n0 ∧ n = 41 ∧ r = c) ∨ (q = n1 ∧ n = 2 ∧ r = t)) => show Calls Try.prog 11 #[.int .i64 q, .int .i64 n] w fun e w' => e = .returned (.int .i64 r) ∧ w = w' from
    pick07_int q n r w (by rcases h with ⟨rfl, _⟩ | ⟨rfl, _⟩ <;> assumption) (by rcases h with ⟨rfl, _⟩ | ⟨rfl, _⟩ <;> assumption) (by omega) (by omega) (by rcases h with ⟨rfl, rfl, rfl⟩ | ⟨rfl, rfl, rfl⟩ <;> assumption))
  have P2 := Lib.hid hlo
  have P3 := Lib.hid hhi
  have P4 := Lib.hid hol
  have P5 := Lib.hid hfa
  have HM := Lib.hid hm
  clear hc ht hlo hhi hol hfa hm
  have hz : LoAt ((w.alloc (.cells #[.int .i64 n0, .int .i64 n1, .int .i64 n2, .int .i64 n3, .int .i64 n4, .int .i64 n5] 25)).alloc (.cells #[.int .u64 0, .int .i64 0, .int .i64 0, .int .i64 0, .int .i64 0, .int .i64 0, .int .i64 0] 24)) (w.heap.size + 1) ⟨0, 0, 0, 0, 0, 0, 0⟩ := by
    have := LoAt.new (w.alloc (.cells #[.int .i64 n0, .int .i64 n1, .int .i64 n2, .int .i64 n3, .int .i64 n4, .int .i64 n5] 25)) ⟨0, 0, 0, 0, 0, 0, 0⟩
    rwa [World.size_alloc] at this
  have ha : Blk ((w.alloc (.cells #[.int .i64 n0, .int .i64 n1, .int .i64 n2, .int .i64 n3, .int .i64 n4, .int .i64 n5] 25)).alloc (.cells #[.int .u64 0, .int .i64 0, .int .i64 0, .int .i64 0, .int .i64 0, .int .i64 0, .int .i64 0] 24)) w.heap.size [.int .i64 n0, .int .i64 n1, .int .i64 n2, .int .i64 n3, .int .i64 n4, .int .i64 n5] 25 :=
    (Blk.new w _ _).below (ba0 _ _)
  have hbw : Below w.heap.size w ((w.alloc (.cells #[.int .i64 n0, .int .i64 n1, .int .i64 n2, .int .i64 n3, .int .i64 n4, .int .i64 n5] 25)).alloc (.cells #[.int .u64 0, .int .i64 0, .int .i64 0, .int .i64 0, .int .i64 0, .int .i64 0, .int .i64 0] 24)) := ba (ba0 w _) _
  have HZ := Lib.hid hz
  have HA := Lib.hid ha
  have HB := Lib.hid hbw
  clear hz ha hbw
  go_enter Try.func10, Try.ntmps10
  go_wp2_with fail
  generalize hV : (w.alloc (.cells #[.int .i64 n0, .int .i64 n1, .int .i64 n2, .int .i64 n3, .int .i64 n4, .int .i64 n5] 25)).alloc (.cells #[.int .u64 0, .int .i64 0, .int .i64 0, .int .i64 0, .int .i64 0, .int .i64 0, .int .i64 0] 24) = V at HZ HA HB ⊢
  clear hV
  have hg1 := HZ.out.lt
  have hg0 := HA.out.lt
  generalize hg : w.heap.size = g at HZ HA hg0 hg1 ⊢
  have q0 : V.cell? ⟨g, 0, none⟩ = some (.int .i64 n0) := HA.out.cell rfl
  have q1 : V.cell? ⟨g, 1, none⟩ = some (.int .i64 n1) := HA.out.cell rfl
  have hkeep : Hid (∀ w' : World, Below V.heap.size V w' → w'.cell? ⟨g, 0, none⟩ = some (.int .i64 n0) ∧ w'.cell? ⟨g, 1, none⟩ = some (.int .i64 n1)) := Lib.hid fun w' h => ⟨cellS h hg0 q0, cellS h hg0 q1⟩
  go_region_held3 (fun w' => w'.cell? ⟨g, 0, none⟩ = some (.int .i64 n0) ∧ w'.cell? ⟨g, 1, none⟩ = some (.int .i64 n1)) (exact hkeep.out _ (by first | exact (Below.refl _ V).drew | exact Below.refl _ V | exact ba (Below.refl _ V).drew _ | exact ba0 V _)) ((first
    | (go_at_call 11; refine (IHp.out _ _ _ _ (by first | exact Or.inl ⟨rfl, rfl, rfl⟩ | exact Or.inr ⟨rfl, rfl, rfl⟩)).mono ?_; rintro e w2 ⟨rfl, rfl⟩)))
  all_goals
    have hx : LoAt ((V.alloc (.cells #[.int .u64 0, .int .i64 (c : Int), .int .i64 (t : Int), .int .i64 0, .int .i64 0, .int .i64 0, .int .i64 0] 24)).drew) V.heap.size ⟨0, c, t, 0, 0, 0, 0⟩ := LoAt.new V ⟨0, c, t, 0, 0, 0, 0⟩
    have hvx : Below V.heap.size V ((V.alloc (.cells #[.int .u64 0, .int .i64 (c : Int), .int .i64 (t : Int), .int .i64 0, .int .i64 0, .int .i64 0, .int .i64 0] 24)).drew) := (ba0 V _).drew
    generalize (V.alloc (.cells #[.int .u64 0, .int .i64 (c : Int), .int .i64 (t : Int), .int .i64 0, .int .i64 0, .int .i64 0, .int .i64 0] 24)).drew = X at hx hvx ⊢
    have hgG : g + 1 < V.heap.size := hg1
    have hs : St7 w g V.heap.size [.int .i64 n0, .int .i64 n1, .int .i64 n2, .int .i64 n3, .int .i64 n4, .int .i64 n5] X ⟨0, c, t, 0, 0, 0, 0⟩ := ⟨by have h9 := HB.out.trans (hvx.mono HB.out.size); rw [← hg]; exact h9, HZ.out.below hvx, hx, HA.out.below hvx⟩
    generalize V.heap.size = G at hs hgG ⊢
    clear hvx hkeep q0 q1 IHp HZ HA HB hg0 hg1 hx
    have ne1 : ¬ g = G := by omega
    have hm := HM.out
    obtain ⟨c0, c1, _, _, _, _, _⟩ := hs.l.cells
    have f0 := Blk.frozen hs.l 0
    have q2 : X.cell? ⟨g, 2, none⟩ = some (.int .i64 n2) := hs.a.cell rfl
    have HS := Lib.hid (hs.set hgG 0 (.int .u64 (1 + (m : Int))) (l' := ⟨1 + m, c, t, 0, 0, 0, 0⟩) (by simp [loc]))
    clear hs
    go_wp2_with fail
    refine (pick07_int n2 ((c : Int) + 1) lo _ l2 u2 (by omega) (by omega) P2.out).mono ?_
    rintro e w2 ⟨rfl, rfl⟩
    generalize X.setCell ⟨G, 0, none⟩ (.int .u64 (1 + (m : Int))) = X1 at HS ⊢
    clear c0 c1 f0 q2 hm
    have hs := HS.out
    clear HS
    obtain ⟨_, c1, _, c3, _, _, _⟩ := hs.l.cells
    have f3 := Blk.frozen hs.l 3
    have q3 : X1.cell? ⟨g, 3, none⟩ = some (.int .i64 n3) := hs.a.cell rfl
    have c31 : (X1.setCell ⟨G, 3, none⟩ (.int .i64 (lo : Int))).cell? ⟨G, 3, none⟩ = some (.int .i64 (lo : Int)) := setAt _ c3
    have HS := Lib.hid (hs.set hgG 3 (.int .i64 (lo : Int)) (l' := ⟨1 + m, c, t, lo, 0, 0, 0⟩) (by simp [loc]))
    clear hs
    go_wp2_with fail
    refine (pick07_int n3 ((c : Int) - lo + 1) hi _ l3 u3 (by omega) (by omega) P3.out).mono ?_
    rintro e w2 ⟨rfl, rfl⟩
    generalize X1.setCell ⟨G, 3, none⟩ (.int .i64 (lo : Int)) = X2 at HS ⊢
    clear c1 c3 f3 q3 c31
    have hs := HS.out
    clear HS
    obtain ⟨_, c1, _, _, c4, _, _⟩ := hs.l.cells
    have f4 := Blk.frozen hs.l 4
    have q4 : X2.cell? ⟨g, 4, none⟩ = some (.int .i64 n4) := hs.a.cell rfl
    have HS := Lib.hid (hs.set hgG 4 (.int .i64 (hi : Int)) (l' := ⟨1 + m, c, t, lo, hi, 0, 0⟩) (by simp [loc]))
    clear hs
    go_wp2_with fail
    refine (pick07_int n4 ((c : Int) + 1) ol _ l4 u4 (by omega) (by omega) P4.out).mono ?_
    rintro e w2 ⟨rfl, rfl⟩
    generalize X2.setCell ⟨G, 4, none⟩ (.int .i64 (hi : Int)) = X3 at HS ⊢
    clear c1 c4 f4 q4
    have hs := HS.out
    clear HS
    obtain ⟨_, c1, _, _, _, c5, _⟩ := hs.l.cells
    have f5 := Blk.frozen hs.l 5
    have q5 : X3.cell? ⟨g, 5, none⟩ = some (.int .i64 n5) := hs.a.cell rfl
    have c51 : (X3.setCell ⟨G, 5, none⟩ (.int .i64 (ol : Int))).cell? ⟨G, 5, none⟩ = some (.int .i64 (ol : Int)) := setAt _ c5
    have HS := Lib.hid (hs.set hgG 5 (.int .i64 (ol : Int)) (l' := ⟨1 + m, c, t, lo, hi, ol, 0⟩) (by simp [loc]))
    clear hs
    go_wp2_with fail
    refine (pick07_int n5 ((c : Int) - ol + 1) fa _ l5 u5 (by omega) (by omega) P5.out).mono ?_
    rintro e w2 ⟨rfl, rfl⟩
    generalize X3.setCell ⟨G, 5, none⟩ (.int .i64 (ol : Int)) = X4 at HS ⊢
    clear c1 c5 f5 q5 c51
    have hs := HS.out
    clear HS
    obtain ⟨_, _, _, _, _, _, c6⟩ := hs.l.cells
    have f6 := Blk.frozen hs.l 6
    have hs := hs.set hgG 6 (.int .i64 (fa : Int)) (l' := ⟨1 + m, c, t, lo, hi, ol, fa⟩) (by simp [loc])
    obtain ⟨d0, d1, d2, d3, d4, d5, d6⟩ := hs.l.cells
    have HS := Lib.hid hs
    clear hs
    go_wp2_with (refine wp_store_lo rfl (.tmp 4) (.tmp 56) rfl (g + 1) ⟨1 + m, c, t, lo, hi, ol, fa⟩ _ rfl rfl HS.out.z ?_; intro w5 hz5 hb5; have HZ5 := Lib.hid hz5; have HB5 := Lib.hid (hb5 g w (by omega) HS.out.b); clear hz5 hb5)
    refine bodyPost_ret (res_cell1 rfl _ _ _ (g + 1) _ rfl (loadVar_lo HZ5.out)) rfl ?_
    exact ⟨by rw [HL.out], by rw [hg]; exact HB5.out⟩
end Go.Proofs.Ytifmlmbbmlnpmaa.V
