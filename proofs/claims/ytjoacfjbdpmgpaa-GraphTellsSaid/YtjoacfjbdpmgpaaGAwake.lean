/-
  What is asked of the program's functions of package graph; awake of the statements, walked.
-/
import Derived.Test.YtjoacfjbdpmgpaaGGraph
set_option linter.unusedVariables false
namespace Go.Proofs.Ytjoacfjbdpmgpaa.V
open Go.RowKit

/-- What an act answers, in memory; the number as an Int. -/
def DoRI (P : Nat → Prop) (w : World) (V : Int) (x : Gr) (E : Int) (e : Ending) (w' : World) : Prop :=
  ∃ na' n' nq' ra' m' rq', e = .returned (.tuple #[.int .u64 V, .agg #[.slice na' n' nq', .slice ra' m' rq'], .int .i64 E]) ∧ GAt (fun b => P b ∨ w.heap.size ≤ b) w' na' n' nq' ra' m' rq' x ∧ Below w.heap.size w w'
/-- What is asked of the program's functions. -/
structure GrC : Prop where
  right : ∀ {P : Nat → Prop} {g : Gr} {na ra : Option Addr} {n nq m rq : Nat} {w : World}, GAt P w na n nq ra m rq g → gsm g → ∀ R : Bool, decide (gright g) = R → Calls Try.prog 11 #[.agg #[.slice na n nq, .slice ra m rq]] w fun e w' => e = .returned (.bool R) ∧ Below w.heap.size w w'
  words : ∀ {P : Nat → Prop} {g : Gr} {na ra : Option Addr} {n nq m rq : Nat} {w : World}, GAt P w na n nq ra m rq g → gsm g → ∀ W : Int, (gwords g : Int) = W → Calls Try.prog 13 #[.agg #[.slice na n nq, .slice ra m rq]] w fun e w' => e = .returned (.int .i64 W) ∧ Below w.heap.size w w'
  act : ∀ {P : Nat → Prop} {g : Gr} {na ra : Option Addr} {n nq m rq : Nat} {w : World}, GAt P w na n nq ra m rq g → gsm g → ∀ (kd r s i sz pt : Int) (v : Nat) (va : Int), ib kd → ib r → ib s → ib i → ib sz → ib pt → v < 2 ^ 64 → va = (v : Int) → ∀ (V : Nat) (VI : Int) (X : Gr) (E : Int), gdo g ⟨kd, r, s, i, sz, pt, v⟩ = (V, X, E) → VI = (V : Int) →
    Calls Try.prog 17 #[.agg #[.slice na n nq, .slice ra m rq], .agg #[.int .i64 kd, .int .i64 r, .int .i64 s, .int .i64 i, .int .i64 sz, .int .i64 pt, .int .u64 va]] w (DoRI P w VI X E)
theorem ibL {x : Int} (h : -1000 ≤ x ∧ x ≤ 1000) : ib x := by unfold ib; omega
theorem us_blk1 {w : World} {g x : Nat} (h : Blk w g [.int .u64 (x : Int)] 29) : Us w (some ⟨g, 0, none⟩) [x] := by
  intro j hj
  refine ⟨g, 0, rfl, h.lt, ?_⟩
  match j, hj with
  | 0, _ => exact h.cell rfl
/-- The example's graph as a literal. -/
theorem gat_lit {w : World} {b1 b2 b3 b4 : Nat} (h1 : Blk w b1 [.int .i64 0] 3) (h2 : Blk w b2 [.int .u64 9] 29) (h3 : Blk w b3 [.slice (some ⟨b1, 0, none⟩) 1 1, .slice (some ⟨b2, 0, none⟩) 1 1] 36) (h4 : Blk w b4 [.int .i64 0] 3) :
    GAt (fun b => b < w.heap.size) w (some ⟨b3, 0, none⟩) 1 1 (some ⟨b4, 0, none⟩) 1 1 ⟨[⟨[0], [9]⟩], [0]⟩ := by
  have hk : NdV.ok w ⟨some ⟨b1, 0, none⟩, 1, [0], some ⟨b2, 0, none⟩, 1, [9]⟩ := ⟨rw_lit_in h1, us_blk1 h2, by simp, by simp, by simp, by simp, (fun h => by cases h), (fun h => by cases h), (fun p hp => by rw [List.mem_singleton] at hp; subst hp; unfold ib; omega), (fun v hv => by rw [List.mem_singleton] at hv; subst hv; decide)⟩
  have hr : Rw nc 2 w (some ⟨b3, 0, none⟩) [⟨some ⟨b1, 0, none⟩, 1, [0], some ⟨b2, 0, none⟩, 1, [9]⟩] := rw_lit_nd h3
  refine ⟨[⟨some ⟨b1, 0, none⟩, 1, [0], some ⟨b2, 0, none⟩, 1, [9]⟩], rfl, rfl, rfl, hr, fun x hx => ?_, rw_lit_in h4, by omega, by omega, by omega, by omega, (fun h => by cases h), (fun h => by cases h), (fun p hp => ?_), hr.pl, (rw_lit_in h4).pl, fun x hx => ?_⟩
  · rw [List.mem_singleton] at hx; subst hx; exact hk
  · rw [List.mem_singleton] at hp; subst hp; unfold ib; omega
  · rw [List.mem_singleton] at hx; subst hx; exact ⟨hk.p.pl, hk.d.pl⟩
theorem four_lit (V : World) : GAt (fun b => b < ((((V.alloc (.cells #[.int .i64 0] 3)).alloc (.cells #[.int .u64 9] 29)).alloc (.cells #[.slice (some ⟨V.heap.size, 0, none⟩) 1 1, .slice (some ⟨V.heap.size + 1, 0, none⟩) 1 1] 36)).alloc (.cells #[.int .i64 0] 3)).heap.size) ((((V.alloc (.cells #[.int .i64 0] 3)).alloc (.cells #[.int .u64 9] 29)).alloc (.cells #[.slice (some ⟨V.heap.size, 0, none⟩) 1 1, .slice (some ⟨V.heap.size + 1, 0, none⟩) 1 1] 36)).alloc (.cells #[.int .i64 0] 3))
    (some ⟨V.heap.size + 1 + 1, 0, none⟩) 1 1 (some ⟨V.heap.size + 1 + 1 + 1, 0, none⟩) 1 1 ⟨[⟨[0], [9]⟩], [0]⟩ := by
  have h1 := Blk.new V [.int .i64 0] 3
  have h2 := Blk.new (V.alloc (.cells #[.int .i64 0] 3)) [.int .u64 9] 29
  have h3 := Blk.new ((V.alloc (.cells #[.int .i64 0] 3)).alloc (.cells #[.int .u64 9] 29)) [.slice (some ⟨V.heap.size, 0, none⟩) 1 1, .slice (some ⟨V.heap.size + 1, 0, none⟩) 1 1] 36
  have h4 := Blk.new (((V.alloc (.cells #[.int .i64 0] 3)).alloc (.cells #[.int .u64 9] 29)).alloc (.cells #[.slice (some ⟨V.heap.size, 0, none⟩) 1 1, .slice (some ⟨V.heap.size + 1, 0, none⟩) 1 1] 36)) [.int .i64 0] 3
  have h1 := h1.below (ba (ba (ba0 _ (.cells #[.int .u64 9] 29)) (.cells #[.slice (some ⟨V.heap.size, 0, none⟩) 1 1, .slice (some ⟨V.heap.size + 1, 0, none⟩) 1 1] 36)) (.cells #[.int .i64 0] 3))
  have h2 := h2.below (ba (ba0 _ (.cells #[.slice (some ⟨V.heap.size, 0, none⟩) 1 1, .slice (some ⟨V.heap.size + 1, 0, none⟩) 1 1] 36)) (.cells #[.int .i64 0] 3))
  have h3 := h3.below (ba0 _ (.cells #[.int .i64 0] 3))
  simp only [World.size_alloc] at h2 h3 h4
  exact gat_lit h1 h2 h3 h4
/-- A graph of no nodes and one root. -/
theorem gat_lit0 {w : World} {b : Nat} (h : Blk w b [.int .i64 0] 3) : GAt (fun b => b < w.heap.size) w none 0 0 (some ⟨b, 0, none⟩) 1 1 ⟨[], [0]⟩ :=
  ⟨[], rfl, rfl, rfl, Rw.nil _ _, by simp, rw_lit_in h, by omega, by omega, by omega, by omega, fun _ => rfl, (fun h => by cases h), (fun p hp => by rw [List.mem_singleton] at hp; subst hp; unfold ib; omega), fun h => absurd rfl h, (rw_lit_in h).pl, by simp⟩
/-- Blocks that grow elsewhere. -/
theorem GAt.ne {w w' : World} {Z : Nat} {na ra : Option Addr} {n nq m rq : Nat} {g : Gr} (h : GAt (fun b => b ≠ Z ∨ w.heap.size ≤ b) w' na n nq ra m rq g) (hz : Z < w.heap.size) : GAt (fun b => b ≠ Z) w' na n nq ra m rq g :=
  h.imp (fun b hb => by rcases hb with hb | hb; exact hb; omega)

set_option maxRecDepth 100000 in
set_option maxHeartbeats 8000000 in
theorem awake08 (C : GrC) (w : World) : Calls Try.prog 9 #[] w fun e w' => e = .returned (.bool true) ∧ Below w.heap.size w w' := by
  have HL0 := Lib.hid (Blk.new w [.int .i64 (-1)] 3)
  have HG0 : Hid (Blk ((w.alloc (.cells #[.int .i64 (-1)] 3)).alloc (.cells #[.slice none 0 0, .slice (some ⟨w.heap.size, 0, none⟩) 1 1] 25)) (w.heap.size + 1) [.slice none 0 0, .slice (some ⟨w.heap.size, 0, none⟩) 1 1] 25) := Lib.hid (by
    have := Blk.new (w.alloc (.cells #[.int .i64 (-1)] 3)) [.slice none 0 0, .slice (some ⟨w.heap.size, 0, none⟩) 1 1] 25
    rwa [World.size_alloc] at this)
  have HL1 := Lib.hid (HL0.out.below (ba0 _ (.cells #[.slice none 0 0, .slice (some ⟨w.heap.size, 0, none⟩) 1 1] 25)))
  have HB0 := Lib.hid (ba (ba0 w (.cells #[.int .i64 (-1)] 3)) (.cells #[.slice none 0 0, .slice (some ⟨w.heap.size, 0, none⟩) 1 1] 25))
  go_enter Try.func9, Try.ntmps9
  go_upto_region 2 with fail
  generalize (w.alloc (.cells #[.int .i64 (-1)] 3)).alloc (.cells #[.slice none 0 0, .slice (some ⟨w.heap.size, 0, none⟩) 1 1] 25) = V0 at HG0 HL1 HB0 ⊢
  clear HL0
  have HA0 : Hid (GAt (fun b => b ≠ w.heap.size + 1) V0 none 0 0 (some ⟨w.heap.size, 0, none⟩) 1 1 ⟨[], [-1]⟩) := Lib.hid
    ⟨[], rfl, rfl, rfl, Rw.nil _ _, by simp, rw_lit_in HL1.out, by omega, by omega, by omega, by omega, fun _ => rfl, (fun h => by cases h), (fun p hp => by rw [List.mem_singleton] at hp; subst hp; unfold ib; omega), fun h => absurd rfl h, fun _ => ⟨w.heap.size, 0, rfl, by omega⟩, by simp⟩
  have hG0 := HG0.out.lt
  clear HL1
  obtain ⟨l0, hl0⟩ : ∃ l : Option Addr, l = some ⟨w.heap.size, 0, none⟩ := ⟨_, rfl⟩
  rw [← hl0] at HG0 HA0
  clear hl0
  have c0 : V0.cell? ⟨w.heap.size + 1, 0, none⟩ = some (.slice none 0 0) := HG0.out.cell rfl
  have c1 : V0.cell? ⟨w.heap.size + 1, 1, none⟩ = some (.slice l0 1 1) := HG0.out.cell rfl
  go_wp2_with fail
  refine (C.act HA0.out (gsm_right (by decide) (by decide)) 1 0 0 0 2 1 0 0 (ibL (by omega)) (ibL (by omega)) (ibL (by omega)) (ibL (by omega)) (ibL (by omega)) (ibL (by omega)) (by decide) rfl 0 0 ⟨[⟨[-1], [0]⟩], [0]⟩ 0 (by decide) rfl).mono ?_
  rintro e W1 ⟨na1, n1, nq1, ra1, m1, rq1, rfl, hA, hb⟩
  have HGb := Lib.hid (HG0.out.below hb)
  have HBb := Lib.hid (bt HB0.out hb)
  have HAb := Lib.hid (GAt.ne hA HG0.out.lt)
  clear hA hb c0 c1 HG0 HA0 HB0
  go_upto_region 3 with (refine wp_store_but rfl 25 (.tmp 1) (.tmp 31) rfl (w.heap.size + 1) _ [.slice na1 n1 nq1, .slice ra1 m1 rq1] rfl rfl _ HGb.out rfl (by kernel_rfl) (by simp [Value.oneCell']) ?_; intro V1 hz5 hf5 hb5; have HG1 := Lib.hid hz5; have HB1 := Lib.hid (hb5 _ _ (by omega) HBb.out); have HA1 := Lib.hid (HAb.out.but (Z := w.heap.size + 1) (fun b hb => hb) hf5); clear hz5 hf5 hb5 HAb HBb HGb)
  have c0 : V1.cell? ⟨w.heap.size + 1, 0, none⟩ = some (.slice na1 n1 nq1) := HG1.out.cell rfl
  have c1 : V1.cell? ⟨w.heap.size + 1, 1, none⟩ = some (.slice ra1 m1 rq1) := HG1.out.cell rfl
  go_wp2_with fail
  refine (C.act HA1.out (gsm_right (by decide) (by decide)) 4 0 0 0 0 0 0 0 (ibL (by omega)) (ibL (by omega)) (ibL (by omega)) (ibL (by omega)) (ibL (by omega)) (ibL (by omega)) (by decide) rfl 0 0 ⟨[⟨[0], [0]⟩], [0]⟩ 0 (by decide) rfl).mono ?_
  rintro e W2 ⟨na2, n2, nq2, ra2, m2, rq2, rfl, hA, hb⟩
  have HGb := Lib.hid (HG1.out.below hb)
  have HBb := Lib.hid (bt HB1.out hb)
  have HAb := Lib.hid (GAt.ne hA HG1.out.lt)
  clear hA hb c0 c1 HG1 HA1 HB1
  go_upto_region 4 with (refine wp_store_but rfl 25 (.tmp 1) (.tmp 38) rfl (w.heap.size + 1) _ [.slice na2 n2 nq2, .slice ra2 m2 rq2] rfl rfl _ HGb.out rfl (by kernel_rfl) (by simp [Value.oneCell']) ?_; intro V2 hz5 hf5 hb5; have HG2 := Lib.hid hz5; have HB2 := Lib.hid (hb5 _ _ (by omega) HBb.out); have HA2 := Lib.hid (HAb.out.but (Z := w.heap.size + 1) (fun b hb => hb) hf5); clear hz5 hf5 hb5 HAb HBb HGb)
  have c0 : V2.cell? ⟨w.heap.size + 1, 0, none⟩ = some (.slice na2 n2 nq2) := HG2.out.cell rfl
  have c1 : V2.cell? ⟨w.heap.size + 1, 1, none⟩ = some (.slice ra2 m2 rq2) := HG2.out.cell rfl
  go_wp2_with fail
  refine (C.act HA2.out (gsm_right (by decide) (by decide)) 5 0 0 0 0 0 9 9 (ibL (by omega)) (ibL (by omega)) (ibL (by omega)) (ibL (by omega)) (ibL (by omega)) (ibL (by omega)) (by decide) rfl 0 0 ⟨[⟨[0], [9]⟩], [0]⟩ 0 (by decide) rfl).mono ?_
  rintro e W3 ⟨na3, n3, nq3, ra3, m3, rq3, rfl, hA, hb⟩
  have HGb := Lib.hid (HG2.out.below hb)
  have HBb := Lib.hid (bt HB2.out hb)
  have HAb := Lib.hid (GAt.ne hA HG2.out.lt)
  clear hA hb c0 c1 HG2 HA2 HB2
  go_upto_region 5 with (refine wp_store_but rfl 25 (.tmp 1) (.tmp 45) rfl (w.heap.size + 1) _ [.slice na3 n3 nq3, .slice ra3 m3 rq3] rfl rfl _ HGb.out rfl (by kernel_rfl) (by simp [Value.oneCell']) ?_; intro V3 hz5 hf5 hb5; have HG3 := Lib.hid hz5; have HB3 := Lib.hid (hb5 _ _ (by omega) HBb.out); have HA3 := Lib.hid (HAb.out.but (Z := w.heap.size + 1) (fun b hb => hb) hf5); clear hz5 hf5 hb5 HAb HBb HGb)
  have c0 : V3.cell? ⟨w.heap.size + 1, 0, none⟩ = some (.slice na3 n3 nq3) := HG3.out.cell rfl
  have c1 : V3.cell? ⟨w.heap.size + 1, 1, none⟩ = some (.slice ra3 m3 rq3) := HG3.out.cell rfl
  go_wp2_with fail
  refine (C.act HA3.out (gsm_right (by decide) (by decide)) 3 0 0 0 0 0 0 0 (ibL (by omega)) (ibL (by omega)) (ibL (by omega)) (ibL (by omega)) (ibL (by omega)) (ibL (by omega)) (by decide) rfl 9 9 ⟨[⟨[0], [9]⟩], [0]⟩ 0 (by decide) rfl).mono ?_
  rintro e W4 ⟨na4, n4, nq4, ra4, m4, rq4, rfl, hA, hb⟩
  have HG4 := Lib.hid ((HG3.out.below hb).below (ba0 W4 (.cells #[.slice na4 n4 nq4, .slice ra4 m4 rq4] 25)))
  have HB4 := Lib.hid (ba (bt HB3.out hb) (.cells #[.slice na4 n4 nq4, .slice ra4 m4 rq4] 25))
  have HA4 := Lib.hid ((HA3.out.below hb).below (ba0 W4 (.cells #[.slice na4 n4 nq4, .slice ra4 m4 rq4] 25)))
  clear hA hb c0 c1 HG3 HA3 HB3
  go_upto_region 6 with fail
  generalize W4.alloc (.cells #[.slice na4 n4 nq4, .slice ra4 m4 rq4] 25) = V4 at HG4 HB4 HA4 ⊢
  have c0 : V4.cell? ⟨w.heap.size + 1, 0, none⟩ = some (.slice na3 n3 nq3) := HG4.out.cell rfl
  have c1 : V4.cell? ⟨w.heap.size + 1, 1, none⟩ = some (.slice ra3 m3 rq3) := HG4.out.cell rfl
  go_wp2_with fail
  refine (C.act HA4.out (gsm_right (by decide) (by decide)) 3 0 0 1 0 0 0 0 (ibL (by omega)) (ibL (by omega)) (ibL (by omega)) (ibL (by omega)) (ibL (by omega)) (ibL (by omega)) (by decide) rfl 0 0 ⟨[], []⟩ 1 (by decide) rfl).mono ?_
  rintro e W5 ⟨na5, n5, nq5, ra5, m5, rq5, rfl, hA, hb⟩
  have HG5 := Lib.hid ((HG4.out.below hb).below (ba0 W5 (.cells #[.slice na5 n5 nq5, .slice ra5 m5 rq5] 25)))
  have HB5 := Lib.hid (ba (bt HB4.out hb) (.cells #[.slice na5 n5 nq5, .slice ra5 m5 rq5] 25))
  have HA5 := Lib.hid ((HA4.out.below hb).below (ba0 W5 (.cells #[.slice na5 n5 nq5, .slice ra5 m5 rq5] 25)))
  clear hA hb c0 c1 HG4 HA4 HB4
  go_upto_region 7 with fail
  generalize W5.alloc (.cells #[.slice na5 n5 nq5, .slice ra5 m5 rq5] 25) = V5 at HG5 HB5 HA5 ⊢
  have c0 : V5.cell? ⟨w.heap.size + 1, 0, none⟩ = some (.slice na3 n3 nq3) := HG5.out.cell rfl
  have c1 : V5.cell? ⟨w.heap.size + 1, 1, none⟩ = some (.slice ra3 m3 rq3) := HG5.out.cell rfl
  go_wp2_with fail
  refine (C.act HA5.out (gsm_right (by decide) (by decide)) 8 0 0 0 0 0 0 0 (ibL (by omega)) (ibL (by omega)) (ibL (by omega)) (ibL (by omega)) (ibL (by omega)) (ibL (by omega)) (by decide) rfl 0 0 ⟨[], []⟩ 1 (by decide) rfl).mono ?_
  rintro e W6 ⟨na6, n6, nq6, ra6, m6, rq6, rfl, hA, hb⟩
  have HG6 := Lib.hid ((HG5.out.below hb).below (ba0 W6 (.cells #[.slice na6 n6 nq6, .slice ra6 m6 rq6] 25)))
  have HB6 := Lib.hid (ba (bt HB5.out hb) (.cells #[.slice na6 n6 nq6, .slice ra6 m6 rq6] 25))
  have HA6 := Lib.hid ((HA5.out.below hb).below (ba0 W6 (.cells #[.slice na6 n6 nq6, .slice ra6 m6 rq6] 25)))
  clear hA hb c0 c1 HG5 HA5 HB5
  go_upto_region 8 with fail
  generalize W6.alloc (.cells #[.slice na6 n6 nq6, .slice ra6 m6 rq6] 25) = V6 at HG6 HB6 HA6 ⊢
  have c0 : V6.cell? ⟨w.heap.size + 1, 0, none⟩ = some (.slice na3 n3 nq3) := HG6.out.cell rfl
  have c1 : V6.cell? ⟨w.heap.size + 1, 1, none⟩ = some (.slice ra3 m3 rq3) := HG6.out.cell rfl
  go_wp2_with fail
  refine (C.act HA6.out (gsm_right (by decide) (by decide)) 7 0 0 0 0 0 0 0 (ibL (by omega)) (ibL (by omega)) (ibL (by omega)) (ibL (by omega)) (ibL (by omega)) (ibL (by omega)) (by decide) rfl 0 0 ⟨[⟨[0], [9]⟩], [-1]⟩ 0 (by decide) rfl).mono ?_
  rintro e W7 ⟨na7, n7, nq7, ra7, m7, rq7, rfl, hA, hb⟩
  have HG7 := Lib.hid ((HG6.out.below hb).below (ba0 W7 (.cells #[.slice na7 n7 nq7, .slice ra7 m7 rq7] 25)))
  have HB7 := Lib.hid (ba (bt HB6.out hb) (.cells #[.slice na7 n7 nq7, .slice ra7 m7 rq7] 25))
  have HA7 := Lib.hid ((HA6.out.below hb).below (ba0 W7 (.cells #[.slice na7 n7 nq7, .slice ra7 m7 rq7] 25)))
  have HD := Lib.hid (Blk.new W7 [.slice na7 n7 nq7, .slice ra7 m7 rq7] 25)
  have HDA := Lib.hid (hA.below (ba0 W7 (.cells #[.slice na7 n7 nq7, .slice ra7 m7 rq7] 25)))
  clear hA hb c0 c1 HG6 HA6 HB6
  go_upto_region 9 with fail
  generalize W7.alloc (.cells #[.slice na7 n7 nq7, .slice ra7 m7 rq7] 25) = V7 at HG7 HB7 HA7 HD HDA ⊢
  generalize W7.heap.size = Gd at HD ⊢
  have c0 : V7.cell? ⟨Gd, 0, none⟩ = some (.slice na7 n7 nq7) := HD.out.cell rfl
  have c1 : V7.cell? ⟨Gd, 1, none⟩ = some (.slice ra7 m7 rq7) := HD.out.cell rfl
  go_wp2_with fail
  refine (C.act HDA.out (gsm_right (by decide) (by decide)) 2 0 0 0 0 0 0 0 (ibL (by omega)) (ibL (by omega)) (ibL (by omega)) (ibL (by omega)) (ibL (by omega)) (ibL (by omega)) (by decide) rfl 0 0 ⟨[], []⟩ 6 (by decide) rfl).mono ?_
  rintro e W8 ⟨na8, n8, nq8, ra8, m8, rq8, rfl, hA, hb⟩
  have HG8 := Lib.hid ((HG7.out.below hb).below (ba0 W8 (.cells #[.slice na8 n8 nq8, .slice ra8 m8 rq8] 25)))
  have HB8 := Lib.hid (ba (bt HB7.out hb) (.cells #[.slice na8 n8 nq8, .slice ra8 m8 rq8] 25))
  have HA8 := Lib.hid ((HA7.out.below hb).below (ba0 W8 (.cells #[.slice na8 n8 nq8, .slice ra8 m8 rq8] 25)))
  clear hA hb c0 c1 HG7 HA7 HB7 HD HDA
  go_upto_region 10 with fail
  generalize W8.alloc (.cells #[.slice na8 n8 nq8, .slice ra8 m8 rq8] 25) = V8 at HG8 HB8 HA8 ⊢
  have c0 : V8.cell? ⟨w.heap.size + 1, 0, none⟩ = some (.slice na3 n3 nq3) := HG8.out.cell rfl
  have c1 : V8.cell? ⟨w.heap.size + 1, 1, none⟩ = some (.slice ra3 m3 rq3) := HG8.out.cell rfl
  try simp only [List.append_eq, List.cons_append, List.nil_append]
  go_wp2_with fail
  have hq : Below V8.heap.size V8 ((((V8.alloc (.cells #[.int .i64 0] 3)).alloc (.cells #[.int .u64 9] 29)).alloc (.cells #[.slice (some ⟨V8.heap.size, 0, none⟩) 1 1, .slice (some ⟨V8.heap.size + 1, 0, none⟩) 1 1] 36)).alloc (.cells #[.int .i64 0] 3)) := ba (ba (ba (ba0 V8 _) _) _) _
  refine (gSame (HA8.out.below hq) (four_lit V8) (gsm_right (by decide) (by decide)) (gsm_right (by decide) (by decide)) true (by decide)).mono ?_
  rintro e W9 ⟨rfl, hb9⟩
  have hq9 := bt hq hb9
  have HA9 := Lib.hid (HA8.out.below hq9)
  have HG9 := Lib.hid (HG8.out.below hq9)
  have HB9 := Lib.hid (bt HB8.out hq9)
  clear hq hb9 hq9 c0 c1 HA8 HG8 HB8
  have c0 : W9.cell? ⟨w.heap.size + 1, 0, none⟩ = some (.slice na3 n3 nq3) := HG9.out.cell rfl
  have c1 : W9.cell? ⟨w.heap.size + 1, 1, none⟩ = some (.slice ra3 m3 rq3) := HG9.out.cell rfl
  go_wp2_with fail
  refine (C.right HA9.out (gsm_right (by decide) (by decide)) true (by decide)).mono ?_
  rintro e W10 ⟨rfl, hb9⟩
  have HA10 := Lib.hid (HA9.out.below hb9)
  have HG10 := Lib.hid (HG9.out.below hb9)
  have HB10 := Lib.hid (bt HB9.out hb9)
  clear hb9 c0 c1 HA9 HG9 HB9
  have c0 : W10.cell? ⟨w.heap.size + 1, 0, none⟩ = some (.slice na3 n3 nq3) := HG10.out.cell rfl
  have c1 : W10.cell? ⟨w.heap.size + 1, 1, none⟩ = some (.slice ra3 m3 rq3) := HG10.out.cell rfl
  go_wp2_with fail
  refine (C.words HA10.out (gsm_right (by decide) (by decide)) 3 (by decide)).mono ?_
  rintro e W11 ⟨rfl, hb9⟩
  have HB11 := Lib.hid (ba (bt HB10.out hb9) (.cells #[.int .i64 0] 3))
  clear hb9 c0 c1 HA10 HG10 HB10
  go_wp2_with fail
  refine (C.right (gat_lit0 (Blk.new W11 [.int .i64 0] _)) (by unfold gsm; simp) false (by decide)).mono ?_
  rintro e W12 ⟨rfl, hb9⟩
  have HB12 := Lib.hid (bt HB11.out hb9)
  clear hb9 HB11
  go_wp2_with fail
  go_ret
  exact ⟨rfl, HB12.out⟩
end Go.Proofs.Ytjoacfjbdpmgpaa.V
