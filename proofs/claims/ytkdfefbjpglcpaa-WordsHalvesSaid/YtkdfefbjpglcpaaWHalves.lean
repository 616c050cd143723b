/-
  WordsHalves: for every number and every eight bytes the statement's function returns true, and writes nothing that was there.
-/
import Derived.Test.YtkdfefbjpglcpaaWBits
set_option linter.unusedVariables false
namespace Go.Proofs.Ytkdfefbjpglcpaa.V
open Go.RowKit

theorem OwnB.at {w : World} {base : Nat} {v : Value} {l : List UInt8} (h : OwnB w base v l) : (v = .slice none 0 0 ∧ l = []) ∨ ∃ g cap, v = .slice (some ⟨g, 0, none⟩) l.length cap ∧ ∀ j, j < l.length → w.cell? ⟨g, j, none⟩ = some (B (l.getD j 0)) := by
  have h' := h
  obtain ⟨_, ⟨rfl, h0⟩ | ⟨g, cap, cur, rfl, _⟩⟩ := h
  · exact Or.inl ⟨rfl, List.eq_nil_of_length_eq_zero h0⟩
  · refine Or.inr ⟨g, cap, rfl, fun j hj => ?_⟩
    rw [World.ownsRow.cellAt h' j (by simpa using hj)]
    simp [List.getD, hj]
/-- string(b), b any slice of bytes whose cells are known. -/
theorem run_str_cells {w : World} {g n cap : Nat} {l : List UInt8} (hn : l.length = n) (hc : ∀ j, j < l.length → w.cell? ⟨g, j, none⟩ = some (B (l.getD j 0))) :
    (convert 43 9 (.slice (some ⟨g, 0, none⟩) n cap)).run Try.prog w = .ok (.string (str l)) w := by
  have hu : ∀ x : List UInt8, x.map ((fun n => UInt8.ofNat n.toNat) ∘ fun c => (c.toNat : Int)) = x := by intro x; induction x <;> simp_all
  subst hn
  rw [run_convert_bytes_arg w 43 5 Try.underlying43 Try.underlying5 g 0 l.length cap (l.map fun c => (c.toNat : Int)) (by simp) ?_ 9 Try.underlying9]
  · simp [strOfNums, str, hu]
  · intro i hi
    rw [Nat.zero_add, hc i (by simpa using hi)]
    have hi2 : i < l.length := by simpa using hi
    simp [List.getD, hi2, B]
theorem run_str_later {w w' : World} {base : Nat} {v : Value} {l : List UInt8} (h : OwnB w base v l) (hb : Below w.heap.size w w') : (convert 43 9 v).run Try.prog w' = .ok (.string (str l)) w' := by
  rcases h.at with ⟨rfl, rfl⟩ | ⟨g, cap, rfl, hc⟩
  · rw [run_convert_bytes_nil w' 43 5 Try.underlying43 Try.underlying5 0 0 9 Try.underlying9]
    rfl
  · exact run_str_cells rfl (fun j hj => (hb.cell (p := ⟨g, j, none⟩) (World.block_lt_of_cell? w _ (hc j hj))).trans (hc j hj))

set_option maxRecDepth 100000 in
set_option maxHeartbeats 800000 in
theorem halves_in (v : Nat) (C : Array Value) (bs : List UInt8) (S P1 P2 : ByteArray) (w : World) (hv : v < 2 ^ 64)
    (HC : Hid (∀ j, j < 8 → C[j]? = some (B (bs.getD j 0)))) (HL : Hid (bs.length = 8))
    (HS : Hid (str (wrds 8 [v]) = S)) (hSz : (S.size : Int) = 8) (H1 : Hid (str (octs 4 (v % 4294967296)) = P1)) (H2 : Hid (str (octs 4 (v / 4294967296)) = P2))
    (h12 : P1 ++ P2 = S) (hp1 : P1.size ≤ 4) (hp2 : P2.size ≤ 4) :
    Calls Try.prog 6 #[.int .u64 v, .agg C] w fun e w' => e = .returned (.bool true) ∧ Below w.heap.size w w' := by
  go_enter Try.func6, Try.ntmps6
  go_wp2_with fail
  have hbA : Below w.heap.size w (w.alloc (.cells C 41)) := ba0 _ _
  have hgA : w.heap.size < (w.alloc (.cells C 41)).heap.size := by simp
  have hcA : ∀ j, j < 8 → (w.alloc (.cells C 41)).cell? ⟨w.heap.size, j, none⟩ = some (B (bs.getD j 0)) := fun j hj => (World.cell?_alloc_new w C _ j).trans (HC.out j hj)
  generalize w.alloc (.cells C 41) = W1 at hbA hgA hcA ⊢
  have HCA := Lib.hid hcA
  clear hcA HC
  refine (awake_any _).mono ?_
  rintro e w1 ⟨rfl, hb1⟩
  go_wp2_with fail
  refine (wput_lit _ _ [v] S _ (by simp) (by intro x hx; simp at hx; omega) (us_lit1 _ v) HS.out).mono ?_
  rintro e w2 ⟨rfl, hb2⟩
  go_wp2_with fail
  refine (puthalf_int _ (v % 4294967296) P1 _ (by simp) (by omega) H1.out).mono ?_
  rintro e w3 ⟨rfl, hb3⟩
  go_wp2_with fail
  refine (puthalf_int _ (v / 4294967296) P2 _ (by simp) (by omega) H2.out).mono ?_
  rintro e w4 ⟨rfl, hb4⟩
  have hb14 : Below W1.heap.size W1 w4 := bt (bt (bt (ba hb1 _) hb2) hb3) hb4
  have hb04 : Below w.heap.size w w4 := hbA.trans (hb14.mono hbA.size)
  clear hb1 hb2 hb3 hb4
  have hp12 : ¬ 9223372036854775807 < P1.size + P2.size := by omega
  go_wp2_with fail
  go_loopw [7, 8] (fun u i wr => ∃ (j : Nat) (I : Int) (l : List UInt8), j ≤ 8 ∧ i = .int .i64 I ∧ 7 - (j : Int) ≤ I ∧ I ≤ 7 - (j : Int) ∧ Hid (l = (bs.reverse).take j) ∧ l.length ≤ j ∧ OwnB wr w4.heap.size u l ∧ Below w4.heap.size w4 wr) (fun _ i _ => (intOf i + 1).toNat)
  case atStart => exact ⟨0, 7, [], by omega, rfl, by omega, by omega, Lib.hid (by simp), by simp, World.ownsRow_nil _ _ _ _, Below.refl _ _⟩
  case round =>
    obtain ⟨j, I, l, hj, rfl, hI1, hI2, HLl, hll, hown, hbel⟩ := hrel
    have hsz := hbel.size
    by_cases hlt : j < 8
    · obtain ⟨x, rfl⟩ : ∃ x : Nat, I = (x : Int) := ⟨I.toNat, by omega⟩
      have hx8 : x < 8 := by omega
      have hc1 := HCA.out x hx8
      have hc2 := ((hb14.trans (hbel.mono hb14.size)).cell (p := ⟨w.heap.size, x, none⟩) hgA).trans hc1
      have HL2 : Hid (l ++ [bs.getD x 0] = (bs.reverse).take (j + 1)) := by
        have h1 : j < bs.reverse.length := by simp [HL.out]; omega
        rw [HLl.out, List.take_add_one, List.getElem?_eq_getElem h1]
        have h2 := HL.out
        have h3 : bs.length - 1 - j = x := by omega
        have h4 : x < bs.length := by omega
        simp [Hid, h3, List.getD, h4]
      generalize hcc : bs.getD x 0 = c at hc2 HL2
      have hc3 : wr.cell? ⟨w.heap.size, x, none⟩ = some (.int .u8 (c.toNat : Int)) := hc2
      clear hc1 hc2 hcc HLl
      go_wp2_with (at_builtin; refine wp_append_byte _ rfl (.tmp 40) (.tmp 44) rfl w4.heap.size _ l rfl (hown.alloc _) _ c rfl ?_ ?_ ?_ ?_)
      · simp [B]
      · omega
      · simp; omega
      · intro v' w5 hown' hgrow
        have hb' := hown.below hbel (Nat.le_refl _) hgrow
        clear hgrow hown hbel
        go_wp2
        go_roundw
        case rel => exact ⟨j + 1, (x : Int) - 1, l ++ [c], by omega, rfl, by omega, by omega, HL2, by simp; omega, hown', hb'⟩
        case measure => simp [intOf]
    · have hI0 : I < 0 := by omega
      have hd : decide (0 ≤ I) = false := by simp; omega
      have hlr : l = bs.reverse := by rw [HLl.out]; exact List.take_of_length_le (by simp [HL.out]; omega)
      have hcv1 := run_str_cells (w := wr) (g := w.heap.size) (n := 8) (cap := 8) HL.out (fun j hj => ((hb14.trans (hbel.mono hb14.size)).cell (p := ⟨w.heap.size, j, none⟩) hgA).trans (HCA.out j (by rw [← HL.out]; exact hj)))
      have HT1 : Hid (takeW 8 (str bs).data.toList 0 1 = ([val bs], 8, 0)) := by
        have h := takeW_ok 8 (str bs).data.toList 0 1 (by decide) (by simp [str, HL.out])
        refine h.trans ?_
        simp [nums, str]
        rw [List.take_of_length_le (by have := HL.out; omega)]
      have HT2 : Hid (takeW 8 (str l).data.toList 0 1 = ([val l], 8, 0)) := by
        have h := takeW_ok 8 (str l).data.toList 0 1 (by decide) (by simp [str, hlr, HL.out])
        refine h.trans ?_
        simp [nums, str]
        rw [List.take_of_length_le (by simp [hlr, HL.out])]
      have hz1 : (str bs).size ≤ 1000000000 := by rw [str_size, HL.out]; omega
      have hz2 : (str l).size ≤ 1000000000 := by rw [str_size]; omega
      have hwr : Below w.heap.size w wr := hb04.trans (hbel.mono hb04.size)
      have HX1 : Hid (octs 8 (val bs) = bs) := octs_val_of HL.out
      have HX2 : Hid (val l = val bs.reverse) := by rw [hlr]; exact Lib.hid rfl
      generalize hT1 : str bs = T1 at hcv1 HT1 hz1
      generalize hT2 : str l = T2 at HT2 hz2
      generalize hx1 : val bs = x at HT1 HX1
      generalize hx2 : val l = y at HT2 HX2
      have HOwn : Hid (∀ w', Below wr.heap.size wr w' → (convert 43 9 u7).run Try.prog w' = .ok (.string T2) w') := by
        refine Lib.hid fun w' hb => ?_
        rw [← hT2]; exact run_str_later hown hb
      clear hT1 hT2 hx1 hx2 hlr HLl hown hbel hb14 hb04 hbA hgA
      go_wp2_with fail
      refine (wTake T1 0 1 _ [x] 8 0 8 0 hz1 HT1.out rfl rfl).mono ?_
      rintro e w5 ⟨ao5, cap5, rfl, hu5, hb5⟩
      have hcv2 := HOwn.out w5 hb5
      rw [show ([x] : List Nat).length = 1 from rfl]
      clear hcv1
      go_wp2_with fail
      refine (wTake T2 0 1 _ [y] 8 0 8 0 hz2 HT2.out rfl rfl).mono ?_
      rintro e w6 ⟨ao6, cap6, rfl, hu6, hb6⟩
      rw [show ([y] : List Nat).length = 1 from rfl]
      obtain ⟨b5, off5, rfl, _, hc5⟩ := hu5.below (Nat.le_refl _) hb6 0 (by simp)
      obtain ⟨b6, off6, rfl, _, hc6⟩ := hu6 0 (by simp)
      have hd5 : w6.cell? ⟨b5, off5, none⟩ = some (.int .u64 (x : Int)) := by simpa using hc5
      have hd6 : w6.cell? ⟨b6, off6, none⟩ = some (.int .u64 (y : Int)) := by simpa using hc6
      have hbb := bt (bt hwr hb5) hb6
      clear hcv2 hc5 hc6 hu5 hu6 hb5 hb6 hwr
      go_wp2_with fail
      go_loop [15, 16] (fun u i => ∃ k W : Nat, k ≤ 8 ∧ i = .int .i64 k ∧ u = .int .u64 W ∧ Hid (W = val (octs k x).reverse)) (fun _ i => 8 - (intOf i).toNat)
      case atStart => exact ⟨0, 0, by omega, rfl, rfl, Lib.hid (by simp [octs, val])⟩
      case round =>
        obtain ⟨k, W, hk, rfl, rfl, HW⟩ := hrel
        by_cases hk8 : k < 8
        · have hWlt : W < 72057594037927936 := by
            have h1 := val_lt_of (l := (octs k x).reverse) (w := 7) (by simp; omega)
            rw [← HW.out] at h1; exact h1
          obtain ⟨W2, hW2⟩ : ∃ W2, W * 256 + x / 2 ^ (8 * k) % 256 = W2 := ⟨_, rfl⟩
          have hw : Hid (IntKind.u64.wrap ((W : Int) * 256 + ((x : Int) / 2 ^ (8 * k)).tmod 256) = (W2 : Int)) := by
            have e : ((x : Int) / 2 ^ (8 * k)).tmod 256 = ((x / 2 ^ (8 * k) % 256 : Nat) : Int) := by
              rw [show ((x : Int) / 2 ^ (8 * k)) = ((x / 2 ^ (8 * k) : Nat) : Int) by push_cast; rfl, Int.tmod_eq_emod_of_nonneg (Int.natCast_nonneg _)]
              rfl
            have h1 : x / 2 ^ (8 * k) % 256 < 256 := Nat.mod_lt _ (by omega)
            show _ = _
            rw [e]
            generalize x / 2 ^ (8 * k) % 256 = r at h1 hW2
            rw [IntWalk.u64_in _ ⟨by omega, by omega⟩]
            omega
          have HW2 : Hid (W2 = val (octs (k + 1) x).reverse) := by
            rw [octs_snoc, List.reverse_append, List.reverse_singleton, List.singleton_append, val, UInt8.toNat_ofNat', ← HW.out, ← hW2, Nat.pow_mul]
            show _ = _
            rw [Nat.add_comm, Nat.mul_comm W]
          clear HW hW2
          go_wp2_with fail
          go_round
          case rel => exact ⟨k + 1, W2, by omega, by go_num, by rw [hw.out], HW2⟩
          case measure => simp [intOf]; omega
        · have hWy : W = y := by rw [HW.out, HX2.out, show k = 8 by omega, HX1.out]
          subst hWy
          have hdk : decide (k < 8) = false := by simp; omega
          have hdk2 : decide ((k : Int) < 8) = false := by simp; omega
          clear HW
          go_wp2_with fail
          go_ret
          exact ⟨rfl, hbb⟩

/-- An array of eight bytes that came in. -/
theorem wordsHalves_walk (v : Nat) (bs : List UInt8) (w : World) (hv : v < 2 ^ 64) (hl : bs.length = 8) :
    Calls Try.prog 6 #[.int .u64 v, .agg (bs.map B).toArray] w fun e w' => e = .returned (.bool true) ∧ Below w.heap.size w w' := by
  have hS : wrds 8 [v] = octs 4 (v % 4294967296) ++ octs 4 (v / 4294967296) := by
    have h1 := octs_add 4 4 v
    have h2 := octs_mod 4 v
    simp only [wrds, List.append_nil]
    rw [h1]
    congr 1
    exact h2.symm
  refine halves_in v _ bs _ _ _ w hv (fun j hj => ?_) hl (Lib.hid rfl) (by rw [str_size]; simp) (Lib.hid rfl) (Lib.hid rfl) ?_ (by rw [str_size]; simp) (by rw [str_size]; simp)
  · have : j < bs.length := by omega
    simp [List.getD, this]
  · rw [hS]; simp [str, ByteArray.ext_iff, ByteArray.data_append]
end Go.Proofs.Ytkdfefbjpglcpaa.V
