/-
  The document's own slot, as a whole; what is named.
-/
import Derived.Test.YtjoacfjbdpmgpaaGSlotOk
set_option linter.unusedVariables false
namespace Go.Proofs.Ytjoacfjbdpmgpaa.V
open Go.RowKit

theorem gSlot {g : Gr} {na ra : Option Addr} {n nq m rq : Nat} {w : World} {P : Nat → Prop} (hA : GAt P w na n nq ra m rq g) (hg : gright g) (hn1 : n ≤ 1000000) (kd r s i sz pt : Int) (v : Nat) (hv : v < 2 ^ 64)
    (hk : kd = 2 ∨ kd = 3 ∨ kd = 4 ∨ kd = 5) (hn : gnames g ⟨kd, r, s, i, sz, pt, v⟩) (V : Nat) (X : Gr) (E : Int) (hd : gslot g ⟨kd, r, s, i, sz, pt, v⟩ = (V, X, E)) :
    Calls Try.prog 29 #[.agg #[.slice na n nq, .slice ra m rq], .agg #[.int .i64 kd, .int .i64 r, .int .i64 s, .int .i64 i, .int .i64 sz, .int .i64 pt, .int .u64 (v : Int)]] w (DoR P w V X E) := by
  have hml := hA.parts.2.1
  have hs : groot g s := by
    unfold gnames at hn
    simp only at hn
    rcases hn with ⟨h, _⟩ | ⟨_, h⟩ | ⟨_, _, h⟩
    · omega
    · exact h
    · exact h
  obtain ⟨S, rfl⟩ := Int.eq_ofNat_of_zero_le hs.1
  have hsm : S < m := by have := hs.2; rw [hml] at this; omega
  by_cases h0 : gat g (S : Int) < 0
  · rw [gslot_none (a := ⟨kd, r, S, i, sz, pt, v⟩) h0] at hd
    simp only [Prod.mk.injEq] at hd
    obtain ⟨rfl, rfl, rfl⟩ := hd
    exact gSlotNone hA hg hn1 kd r S i sz pt v hsm h0
  have h0' : 0 ≤ gat g (S : Int) := by omega
  rcases hk with rfl | rfl | rfl | rfl
  · have hr : groot g r := by
      unfold gnames at hn
      simp only at hn
      rcases hn with ⟨h, _⟩ | ⟨h, _⟩ | ⟨_, h, _⟩
      · omega
      · omega
      · exact h
    obtain ⟨R, rfl⟩ := Int.eq_ofNat_of_zero_le hr.1
    have hrm : R < m := by have := hr.2; rw [hml] at this; omega
    rw [gslot_load (a := ⟨2, R, S, i, sz, pt, v⟩) h0' rfl] at hd
    dsimp only at hd
    by_cases hi : 0 ≤ i ∧ i < ((gnode g (S : Int)).ptrs.length : Int)
    · rw [if_pos hi] at hd
      simp only [Prod.mk.injEq] at hd
      obtain ⟨rfl, rfl, rfl⟩ := hd
      obtain ⟨I, rfl⟩ := Int.eq_ofNat_of_zero_le hi.1
      have hI : I < (gnode g (S : Int)).ptrs.length := by omega
      obtain ⟨y, hy⟩ : ∃ y, (gnode g (S : Int)).ptrs[I]? = some y := ⟨_, List.getElem?_eq_getElem hI⟩
      have e : (gnode g (S : Int)).ptrs.getD (Int.toNat (I : Int)) 0 = y := by rw [Int.toNat_natCast, List.getD, hy]; rfl
      rw [e]
      exact gSlotLoad hA hg hn1 R S I sz pt v hsm h0' hrm y hy
    · rw [if_neg hi] at hd
      simp only [Prod.mk.injEq] at hd
      obtain ⟨rfl, rfl, rfl⟩ := hd
      exact gSlotBad2 hA hg hn1 R S i sz pt v hsm h0' hi
  · rw [gslot_get (a := ⟨3, r, S, i, sz, pt, v⟩) h0' rfl] at hd
    dsimp only at hd
    by_cases hi : 0 ≤ i ∧ i < ((gnode g (S : Int)).data.length : Int)
    · rw [if_pos hi] at hd
      simp only [Prod.mk.injEq] at hd
      obtain ⟨rfl, rfl, rfl⟩ := hd
      obtain ⟨I, rfl⟩ := Int.eq_ofNat_of_zero_le hi.1
      have hI : I < (gnode g (S : Int)).data.length := by omega
      obtain ⟨y, hy⟩ : ∃ y, (gnode g (S : Int)).data[I]? = some y := ⟨_, List.getElem?_eq_getElem hI⟩
      have e : (gnode g (S : Int)).data.getD (Int.toNat (I : Int)) 0 = y := by rw [Int.toNat_natCast, List.getD, hy]; rfl
      rw [e]
      exact gSlotGet hA hg hn1 r S I sz pt v hsm h0' y hy
    · rw [if_neg hi] at hd
      simp only [Prod.mk.injEq] at hd
      obtain ⟨rfl, rfl, rfl⟩ := hd
      exact gSlotBad3 hA hg hn1 r S i sz pt v hsm h0' hi
  · have hr : groot g r := by
      unfold gnames at hn
      simp only at hn
      rcases hn with ⟨h, _⟩ | ⟨h, _⟩ | ⟨_, h, _⟩
      · omega
      · omega
      · exact h
    obtain ⟨R, rfl⟩ := Int.eq_ofNat_of_zero_le hr.1
    have hrm : R < m := by have := hr.2; rw [hml] at this; omega
    rw [gslot_store (a := ⟨4, R, S, i, sz, pt, v⟩) h0' rfl] at hd
    dsimp only at hd
    by_cases hi : 0 ≤ i ∧ i < ((gnode g (S : Int)).ptrs.length : Int)
    · rw [if_pos hi] at hd
      simp only [Prod.mk.injEq] at hd
      obtain ⟨rfl, rfl, rfl⟩ := hd
      obtain ⟨I, rfl⟩ := Int.eq_ofNat_of_zero_le hi.1
      rw [Int.toNat_natCast]
      exact gSlotStore hA hg hn1 R S I sz pt v hsm h0' hrm (by omega)
    · rw [if_neg hi] at hd
      simp only [Prod.mk.injEq] at hd
      obtain ⟨rfl, rfl, rfl⟩ := hd
      exact gSlotBad4 hA hg hn1 R S i sz pt v hsm h0' hi
  · rw [gslot_set (a := ⟨5, r, S, i, sz, pt, v⟩) h0' rfl] at hd
    dsimp only at hd
    by_cases hi : 0 ≤ i ∧ i < ((gnode g (S : Int)).data.length : Int)
    · rw [if_pos hi] at hd
      simp only [Prod.mk.injEq] at hd
      obtain ⟨rfl, rfl, rfl⟩ := hd
      obtain ⟨I, rfl⟩ := Int.eq_ofNat_of_zero_le hi.1
      rw [Int.toNat_natCast]
      exact gSlotSet hA hg hn1 r S I sz pt v hsm h0' hv (by omega)
    · rw [if_neg hi] at hd
      simp only [Prod.mk.injEq] at hd
      obtain ⟨rfl, rfl, rfl⟩ := hd
      exact gSlotBad5 hA hg hn1 r S i sz pt v hsm h0' hi

theorem names_eq (g : Gr) (kd r s i sz pt : Int) (v m : Nat) (hm : g.roots.length = m) :
    (if kd = 1 ∨ kd = 7 then decide (0 ≤ r ∧ r < (m : Int)) else if kd = 3 ∨ kd = 5 then decide (0 ≤ s ∧ s < (m : Int)) else if kd = 2 ∨ kd = 4 ∨ kd = 6 then decide (0 ≤ r ∧ r < (m : Int)) && decide (0 ≤ s ∧ s < (m : Int)) else false) = decide (gnames g ⟨kd, r, s, i, sz, pt, v⟩) := by
  unfold gnames groot
  simp only [hm]
  by_cases h1 : kd = 1 ∨ kd = 7
  · rw [if_pos h1]
    have h2 : ¬ (kd = 3 ∨ kd = 5) := by omega
    have h3 : ¬ (kd = 2 ∨ kd = 4 ∨ kd = 6) := by omega
    simp [h1, h2, h3]
  · rw [if_neg h1]
    by_cases h2 : kd = 3 ∨ kd = 5
    · rw [if_pos h2]
      have h3 : ¬ (kd = 2 ∨ kd = 4 ∨ kd = 6) := by omega
      simp [h1, h2, h3]
    · rw [if_neg h2]
      by_cases h3 : kd = 2 ∨ kd = 4 ∨ kd = 6
      · rw [if_pos h3]
        simp [h1, h2, h3]
      · rw [if_neg h3]
        simp [h1, h2, h3]
theorem gNamesA {g : Gr} (na ra : Option Addr) (n nq m rq : Nat) (kd r s i sz pt : Int) (v : Nat) (R : Bool) (w : World) (hml : g.roots.length = m) (hm : m ≤ 1000000) (hR : decide (gnames g ⟨kd, r, s, i, sz, pt, v⟩) = R) :
    Calls Try.prog 25 #[.agg #[.slice na n nq, .slice ra m rq], .agg #[.int .i64 kd, .int .i64 r, .int .i64 s, .int .i64 i, .int .i64 sz, .int .i64 pt, .int .u64 (v : Int)]] w fun e w' => e = .returned (.bool R) ∧ Below w.heap.size w w' :=
  gNames na ra n nq m rq kd r s i sz pt v _ _ R w hm rfl rfl ((names_eq g kd r s i sz pt v m hml).trans hR)
end Go.Proofs.Ytjoacfjbdpmgpaa.V
