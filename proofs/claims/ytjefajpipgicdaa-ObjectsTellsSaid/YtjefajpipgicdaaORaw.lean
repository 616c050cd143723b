/-
  The statements' raw objects (Raw), and what is made of them: Shape, Slots, Words, walked.
-/
import Derived.Test.YtjefajpipgicdaaORefWalk
import Derived.Test.YtjefajpipgicdaaOLaws
import Derived.Test.YtjefajpipgicdaaAppZero
import Derived.Test.YtjefajpipgicdaaPick
set_option linter.unusedVariables false
namespace Go.Proofs.Ytjefajpipgicdaa.V
open Go.RowKit

/-- Raw numbers of an object: as the program holds them, and the slots' numbers. -/
structure RawV where
  size : Int
  ptrs : Int
  ao : Option Addr
  cap : Nat
  zs : List Nat
  gone : Bool
deriving Inhabited
def rc (r : RawV) : List Value := [.int .i64 r.size, .int .i64 r.ptrs, .slice r.ao r.zs.length r.cap, .bool r.gone]
theorem rc_len (x : RawV) : (rc x).length = 4 := rfl
def RawV.ok (w : World) (r : RawV) : Prop := (-9223372036854775808 ≤ r.size ∧ r.size ≤ 9223372036854775807) ∧ (-9223372036854775808 ≤ r.ptrs ∧ r.ptrs ≤ 9223372036854775807) ∧ (∀ v ∈ r.zs, v < 2 ^ 64) ∧ Us w r.ao r.zs ∧ r.zs.length ≤ r.cap ∧ r.cap ≤ 9223372036854775807 ∧ (r.ao = none → r.cap = 0)
theorem RawV.ok.below {w w' : World} {r : RawV} {S : Nat} (h : r.ok w) (hS : w.heap.size ≤ S) (hb : Below S w w') : r.ok w' := ⟨h.1, h.2.1, h.2.2.1, h.2.2.2.1.below hS hb, h.2.2.2.2⟩
def rawS (r : RawV) : Nat := (pk r.size 7).toNat
def rawP (r : RawV) : Nat := (pk r.ptrs ((rawS r : Int) + 1)).toNat
def slotW (zs : List Nat) (p i : Nat) : Nat := if i < p ∧ isPtr (zs.getD i 0) = false then zs.getD i 0 ||| 3 else zs.getD i 0
def rawSlots (r : RawV) : List Nat := (List.range (rawS r)).map (slotW r.zs (rawP r))
def rawIt (old : Bool) (i : Nat) (r : RawV) : It := if old && r.gone then ⟨rawS r, rawP r, true, 100 + i, List.replicate (rawS r) 0⟩ else ⟨rawS r, rawP r, false, 0, rawSlots r⟩
def rawIts (old : Bool) (l : List RawV) : List It := (l.zipIdx).map fun x => rawIt old x.2 x.1

theorem rawS_lt (r : RawV) : rawS r < 7 ∧ pk r.size 7 = (rawS r : Int) := by have := pk_bd r.size 7 (by decide); unfold rawS; omega
theorem rawP_le (r : RawV) : rawP r ≤ rawS r ∧ pk r.ptrs ((rawS r : Int) + 1) = (rawP r : Int) := by have := pk_bd r.ptrs ((rawS r : Int) + 1) (by omega); unfold rawP; omega
theorem rawSlots_len (r : RawV) : (rawSlots r).length = rawS r := by simp [rawSlots]
theorem isPtr_or3 (w : Nat) : isPtr (w ||| 3) = true := by
  rw [isPtr_iff]
  have h1 : 3 ≤ w ||| 3 := Nat.right_le_or
  have h2 : (w ||| 3) % 2 = 1 := by
    have h3 : (w ||| 3) % 2 ^ 1 = w % 2 ^ 1 ||| 3 % 2 ^ 1 := Nat.or_mod_two_pow
    have h4 : w % 2 = 0 ∨ w % 2 = 1 := by omega
    rw [show (2 : Nat) ^ 1 = 2 from rfl] at h3
    rcases h4 with h4 | h4 <;> rw [h4] at h3 <;> exact h3
  exact Or.inr ⟨h2, by omega⟩
theorem slotW_ptr (zs : List Nat) (p i : Nat) (h : i < p) : isPtr (slotW zs p i) = true := by
  unfold slotW
  split
  · exact isPtr_or3 _
  · rename_i h1
    cases h2 : isPtr (zs.getD i 0) with
    | true => rfl
    | false => exact absurd ⟨h, h2⟩ h1
theorem slotW_lt (zs : List Nat) (p i : Nat) (h : ∀ v ∈ zs, v < 2 ^ 64) : slotW zs p i < 2 ^ 64 := by
  have h0 : zs.getD i 0 < 2 ^ 64 := by
    by_cases hi : i < zs.length
    · exact h _ (by simp [List.getD, hi])
    · simp [List.getD, hi]
  unfold slotW
  split
  · exact Nat.or_lt_two_pow h0 (by decide)
  · exact h0
theorem slotsOk_all : ∀ (l : List Nat) (p : Int) (g : Bool), (∀ (i : Nat) (v : Nat), l[i]? = some v → (g = true → v = 0) ∧ ((i : Int) < p → isPtr v = true)) → slotsOk l p g = true
  | [], _, _, _ => rfl
  | x :: r, p, g, h => by
    have h0 := h 0 x rfl
    have ih := slotsOk_all r (p - 1) g (fun i v hi => by
      have := h (i + 1) v (by simpa using hi)
      exact ⟨this.1, fun hp => this.2 (by omega)⟩)
    simp only [slotsOk, ih, Bool.and_true]
    cases g with
    | true =>
      have := h0.1 rfl
      subst this
      simp [isPtr_zero]
    | false =>
      by_cases hp : (0 : Int) < p
      · simp [h0.2 (by omega)]
      · simp [hp]
theorem rawIt_ok (old : Bool) (i : Nat) (r : RawV) : (rawIt old i r).ok := by
  have h1 := rawS_lt r
  have h2 := rawP_le r
  unfold rawIt
  split
  · refine ⟨by simp; omega, h2.1, by simp, slotsOk_all _ _ _ fun j v hj => ?_, (fun _ => by simp; omega), (fun h => by cases h)⟩
    have : v = 0 := by
      have := List.mem_of_getElem? hj
      simpa using (List.mem_replicate.1 this).2
    subst this
    exact ⟨fun _ => rfl, fun _ => isPtr_zero⟩
  · refine ⟨by simp; omega, h2.1, rawSlots_len r, slotsOk_all _ _ _ fun j v hj => ⟨(fun h => by cases h), fun hp => ?_⟩, (fun h => by cases h), fun _ => rfl⟩
    simp only [rawSlots, List.getElem?_map] at hj
    have hj2 : j < rawS r := by
      by_cases h : j < rawS r
      · exact h
      · simp [h] at hj
    simp [hj2] at hj
    rw [← hj]
    exact slotW_ptr _ _ _ (by simp at hp; omega)
theorem rawIts_ok (old : Bool) (l : List RawV) : ∀ i ∈ rawIts old l, i.ok := by
  intro i hi
  obtain ⟨x, _, rfl⟩ := List.mem_map.1 hi
  exact rawIt_ok old x.2 x.1
theorem rawIts_none (l : List RawV) : ∀ i ∈ rawIts false l, i.gone = false := by
  intro i hi
  obtain ⟨x, _, rfl⟩ := List.mem_map.1 hi
  simp [rawIt]
theorem rawIts_len (old : Bool) (l : List RawV) : (rawIts old l).length = l.length := by simp [rawIts]
theorem rawIts_take (old : Bool) (l : List RawV) (k : Nat) (r : RawV) (hk : l[k]? = some r) : rawIts old (l.take (k + 1)) = rawIts old (l.take k) ++ [rawIt old k r] := by
  have hlt : k < l.length := (List.getElem?_eq_some_iff.1 hk).1
  rw [List.take_add_one, hk]
  simp only [rawIts, Option.toList_some, List.zipIdx_append, List.map_append]
  simp
  rw [Nat.min_eq_left (by omega)]

theorem raw_cells {w : World} {ao : Option Addr} {l : List RawV} (h : Rw rc 4 w ao l) {k : Nat} {o : RawV} (hk : l[k]? = some o) : ∃ b off, ao = some ⟨b, off, none⟩ ∧ b < w.heap.size ∧ w.cell? ⟨b, off + k * 4, none⟩ = some (.int .i64 o.size) ∧ w.cell? ⟨b, off + k * 4 + 1, none⟩ = some (.int .i64 o.ptrs) ∧ w.cell? ⟨b, off + k * 4 + 2, none⟩ = some (.slice o.ao o.zs.length o.cap) ∧ w.cell? ⟨b, off + k * 4 + 3, none⟩ = some (.bool o.gone) := by
  obtain ⟨b, off, rfl, hb, hc⟩ := h k o hk
  exact ⟨b, off, rfl, hb, by simpa using hc 0 _ rfl, by simpa [Nat.add_assoc] using hc 1 _ rfl, by simpa [Nat.add_assoc] using hc 2 _ rfl, by simpa [Nat.add_assoc] using hc 3 _ rfl⟩

theorem results_cell1 {fn : Func} {p : Tmp} {ty : TypeId} (h : fn.results = #[.cell p ty]) (tmps : Array Value) (P : Program) (w : World) (g : Nat) (r : Value)
    (hp : tmps.getD p undef = .pointer (some ⟨g, 0, none⟩)) (hr : (loadVar ty ⟨g, 0, none⟩).run P w = .ok r w) : (results fn tmps).run P w = .ok r w := by
  have hp' : tmps[p]?.getD undef = .pointer (some ⟨g, 0, none⟩) := by simpa using hp
  simp [results, h, hp', asAddr, hr]
set_option maxRecDepth 100000 in
set_option maxHeartbeats 1000000 in
theorem shapeOf (r : RawV) (s p : Nat) (w : World) (hr : r.ok w) (hs : rawS r = s) (hp : rawP r = p) :
    Calls Try.prog 23 #[.agg #[.int .i64 r.size, .int .i64 r.ptrs, .slice r.ao r.zs.length r.cap, .bool r.gone]] w fun e w' => e = .returned (.agg #[.int .i64 s, .int .i64 p]) ∧ Below w.heap.size w w' := by
  have h1 := (rawS_lt r).2
  have h2 := (rawP_le r).2
  rw [hs] at h1 h2
  rw [hp] at h2
  have h3 := (rawS_lt r).1
  rw [hs] at h3
  obtain ⟨⟨b0, b1⟩, ⟨b2, b3⟩, _⟩ := hr
  have H1 := Lib.hid h1
  have H2 := Lib.hid h2
  obtain ⟨size, ptrs, ao, cap, zs, gone⟩ := r
  simp only at H1 H2 b0 b1 b2 b3 ⊢
  generalize zs.length = len
  clear h1 h2 hs hp
  go_enter Try.func23, Try.ntmps23
  go_wp2_with fail
  refine (pick06_int size 7 s _ b0 b1 (by decide) (by decide) H1.out).mono ?_
  rintro e w2 ⟨rfl, rfl⟩
  go_wp2_with fail
  refine (pick06_int ptrs ((s : Int) + 1) p _ b2 b3 (by omega) (by omega) H2.out).mono ?_
  rintro e w2 ⟨rfl, rfl⟩
  go_wp2_with fail
  refine bodyPost_ret (results_cell1 rfl _ _ _ (w.heap.size + 1) (.agg #[.int .i64 (s : Int), .int .i64 (p : Int)]) rfl (loadVar_sh (cell_step (ba0 _ _) (by simp) ((World.cell?_alloc_at _ _ _ _ (by simp)).trans rfl)) (cell_step (ba0 _ _) (by simp) ((World.cell?_alloc_at _ _ _ _ (by simp)).trans rfl)))) rfl ?_
  exact ⟨rfl, ba (ba (ba0 _ _) _) _⟩

theorem OwnU.mono {w : World} {b b' : Nat} {v : Value} {l : List Nat} (h : OwnU w b v l) (hb : b' ≤ b) : OwnU w b' v l := by
  obtain ⟨h1, h2 | ⟨g, cap, cur, h3, h4, h5⟩⟩ := h
  · exact ⟨h1, Or.inl h2⟩
  · exact ⟨h1, Or.inr ⟨g, cap, cur, h3, Nat.le_trans hb h4, h5⟩⟩
set_option maxRecDepth 100000 in
set_option maxHeartbeats 2000000 in
theorem slotsOf (r : RawV) (s p : Nat) (w : World) (hr : r.ok w) (hs : rawS r = s) (hp : rawP r = p) :
    Calls Try.prog 24 #[.agg #[.int .i64 r.size, .int .i64 r.ptrs, .slice r.ao r.zs.length r.cap, .bool r.gone]] w fun e w' => ∃ v', e = .returned v' ∧ OwnU w' w.heap.size v' (rawSlots r) ∧ Below w.heap.size w w' := by
  have IH := Lib.hid (fun w' (hb : Below w.heap.size w w') => shapeOf r s p w' (hr.below (Nat.le_refl _) hb) hs hp)
  have h3 := (rawS_lt r).1
  have h4 := (rawP_le r).1
  rw [hs] at h3 h4
  rw [hp] at h4
  have HE : Hid (rawSlots r = (List.range s).map (slotW r.zs p)) := Lib.hid (by unfold rawSlots; rw [hs, hp])
  obtain ⟨hb0, hb1, hv, hu, hlc, hcc, hn0⟩ := hr
  have HV := Lib.hid hv
  have HU := Lib.hid hu
  obtain ⟨size, ptrs, ao, cap, zs, gone⟩ := r
  simp only at IH HE HV HU hlc hcc ⊢
  obtain ⟨len, hlen⟩ : ∃ len, zs.length = len := ⟨_, rfl⟩
  rw [hlen] at IH hlc ⊢
  have HLEN := Lib.hid hlen
  clear hv hu hs hp hn0 hb0 hb1 hlen
  go_enter Try.func24, Try.ntmps24
  go_wp2_with fail
  refine (IH.out _ (ba0 _ _)).mono ?_
  rintro e w1 ⟨rfl, hb1⟩
  have c2 : w1.cell? ⟨w.heap.size, 2, none⟩ = some (.slice ao len cap) := cell_step hb1 (by simp) (by simp)
  have hl1 : w.heap.size < w1.heap.size := by have := hb1.size; simp at this; omega
  have C2 := cell_step (ba0 w1 (.cells #[.int .i64 s, .int .i64 p] 28)) hl1 c2
  have d0 : (w1.alloc (.cells #[.int .i64 s, .int .i64 p] 28)).cell? ⟨w1.heap.size, 0, none⟩ = some (.int .i64 s) := by simp
  have d1 : (w1.alloc (.cells #[.int .i64 s, .int .i64 p] 28)).cell? ⟨w1.heap.size, 1, none⟩ = some (.int .i64 p) := by simp
  have HB := Lib.hid (ba (bt (ba0 _ _) hb1) (.cells #[.int .i64 s, .int .i64 p] 28))
  have gl : w1.heap.size < (w1.alloc (.cells #[.int .i64 s, .int .i64 p] 28)).heap.size := by simp
  clear hb1 c2 IH
  go_wp2_with fail
  generalize w1.alloc (.cells #[.int .i64 s, .int .i64 p] 28) = W at C2 d0 d1 HB gl ⊢
  have wl : w.heap.size < W.heap.size := World.block_lt_of_cell? W _ C2
  -- SLOTS
  go_loopw [4, 5] (fun vo i wr => ∃ k : Nat, i = .int .i64 k ∧ k ≤ s ∧ Hid (OwnU wr W.heap.size vo ((List.range k).map (slotW zs p))) ∧ Below W.heap.size W wr) (fun _ i _ => s - (intOf i).toNat)
  case atStart => exact ⟨0, rfl, by omega, Lib.hid ⟨rfl, Or.inl ⟨rfl, rfl⟩⟩, Below.refl _ _⟩
  case round =>
    obtain ⟨k, rfl, hk, HO, hbel⟩ := hrel
    have hC2 := cell_step hbel wl C2
    have hd0 := cell_step hbel gl d0
    have hd1 := cell_step hbel gl d1
    by_cases hks : k < s
    · have dk : decide (k < s) = true := by simp; omega
      by_cases hkl : k < len
      · have dl : decide (k < len) = true := by simp; omega
        obtain ⟨b, off, rfl, hbb, hc⟩ := (HU.out.below (Nat.le_refl _) (HB.out.trans (hbel.mono HB.out.size))) k (by have := HLEN.out; omega)
        have hxk : zs.getD k 0 < 2 ^ 64 := HV.out _ (by simp [List.getD, show k < zs.length by have := HLEN.out; omega])
        generalize hx : zs.getD k 0 = x at hc hxk
        have HX := Lib.hid hx
        clear hx
        by_cases hkp : k < p
        · have dp : decide (k < p) = true := by simp; omega
          cases hq : isPtr x with
          | false =>
            obtain ⟨y, hy⟩ : ∃ y : Nat, bits .or .u64 (x : Int) 3 = (y : Int) := ⟨x ||| 3, by simpa using u64_or_nat x 3 (by omega) (by omega)⟩
            have HSW : Hid (slotW zs p k = y) := Lib.hid (by
              have h9 : bits .or .u64 (x : Int) 3 = ((x ||| 3 : Nat) : Int) := by simpa using u64_or_nat x 3 (by omega) (by omega)
              unfold slotW
              rw [HX.out, if_pos ⟨hkp, hq⟩]
              omega)
            have HQ := Lib.hid hq
            clear hq hkp
            go_wp2_with fail
            refine (refPointer x _ hxk).mono ?_
            rintro e w' ⟨rfl, rfl⟩
            rw [HQ.out]
            have HB5 := Lib.hid (ba hbel (.cells #[.int .u64 (y : Int)] 24))
            have HO5 := Lib.hid (HO.out.alloc (.cells #[.int .u64 (y : Int)] 24))
            have hsz := HB5.out.size
            clear hbel
            go_wp2_with (at_builtin; refine wp_append_u64 _ rfl (.tmp 36) (.tmp 38) rfl W.heap.size _ ((List.range k).map (slotW zs p)) rfl HO5.out wr.heap.size y rfl ?_ ?_ ?_ ?_)
            · simp [U]
            · simp; omega
            · exact hsz
            · intro v6 w6 hown6 hgrow6
              have HB6 := Lib.hid (HB5.out.grown hgrow6 HB5.out.size (fun j hj => (World.ownsRow.lt HO5.out j hj).1))
              have HO6 : Hid (OwnU w6 W.heap.size v6 ((List.range (k + 1)).map (slotW zs p))) := Lib.hid (by rw [List.range_succ, List.map_append, List.map_cons, List.map_nil, HSW.out]; exact hown6)
              clear hgrow6 hown6 HO5 HB5 hsz
              go_wp2_with fail
              go_roundw
              case rel => exact ⟨k + 1, by go_num, by omega, HO6, HB6.out⟩
              case measure => simp [intOf]; omega
          | true =>
            have HSW : Hid (slotW zs p k = x) := Lib.hid (by
              unfold slotW
              rw [HX.out, if_neg (by rintro ⟨_, h⟩; rw [hq] at h; cases h)])
            have HQ := Lib.hid hq
            clear hq hkp
            go_wp2_with fail
            refine (refPointer x _ hxk).mono ?_
            rintro e w' ⟨rfl, rfl⟩
            rw [HQ.out]
            have HB5 := Lib.hid (ba hbel (.cells #[.int .u64 (x : Int)] 24))
            have HO5 := Lib.hid (HO.out.alloc (.cells #[.int .u64 (x : Int)] 24))
            have hsz := HB5.out.size
            clear hbel
            go_wp2_with (at_builtin; refine wp_append_u64 _ rfl (.tmp 36) (.tmp 38) rfl W.heap.size _ ((List.range k).map (slotW zs p)) rfl HO5.out wr.heap.size x rfl ?_ ?_ ?_ ?_)
            · simp [U]
            · simp; omega
            · exact hsz
            · intro v6 w6 hown6 hgrow6
              have HB6 := Lib.hid (HB5.out.grown hgrow6 HB5.out.size (fun j hj => (World.ownsRow.lt HO5.out j hj).1))
              have HO6 : Hid (OwnU w6 W.heap.size v6 ((List.range (k + 1)).map (slotW zs p))) := Lib.hid (by rw [List.range_succ, List.map_append, List.map_cons, List.map_nil, HSW.out]; exact hown6)
              clear hgrow6 hown6 HO5 HB5 hsz
              go_wp2_with fail
              go_roundw
              case rel => exact ⟨k + 1, by go_num, by omega, HO6, HB6.out⟩
              case measure => simp [intOf]; omega
        · have dp : decide (k < p) = false := by simp; omega
          have HSW : Hid (slotW zs p k = x) := Lib.hid (by
            unfold slotW
            rw [HX.out, if_neg (fun h => hkp h.1)])
          clear hkp
          have HB5 := Lib.hid (ba hbel (.cells #[.int .u64 (x : Int)] 24))
          have HO5 := Lib.hid (HO.out.alloc (.cells #[.int .u64 (x : Int)] 24))
          have hsz := HB5.out.size
          clear hbel
          go_wp2_with (at_builtin; refine wp_append_u64 _ rfl (.tmp 36) (.tmp 38) rfl W.heap.size _ ((List.range k).map (slotW zs p)) rfl HO5.out wr.heap.size x rfl ?_ ?_ ?_ ?_)
          · simp [U]
          · simp; omega
          · exact hsz
          · intro v6 w6 hown6 hgrow6
            have HB6 := Lib.hid (HB5.out.grown hgrow6 HB5.out.size (fun j hj => (World.ownsRow.lt HO5.out j hj).1))
            have HO6 : Hid (OwnU w6 W.heap.size v6 ((List.range (k + 1)).map (slotW zs p))) := Lib.hid (by rw [List.range_succ, List.map_append, List.map_cons, List.map_nil, HSW.out]; exact hown6)
            clear hgrow6 hown6 HO5 HB5 hsz
            go_wp2_with fail
            go_roundw
            case rel => exact ⟨k + 1, by go_num, by omega, HO6, HB6.out⟩
            case measure => simp [intOf]; omega
      · have dl : decide (k < len) = false := by simp; omega
        have HSW : Hid (slotW zs p k = 0) := Lib.hid (by
          have h0 : zs.getD k 0 = 0 := by simp [List.getD, show ¬ k < zs.length by have := HLEN.out; omega]
          unfold slotW
          rw [h0, if_neg (by rintro ⟨_, h⟩; rw [isPtr_zero] at h; cases h)])
        by_cases hkp : k < p
        · have dp : decide (k < p) = true := by simp; omega
          clear hkp
          go_wp2_with fail
          refine (refPointer 0 _ (by decide)).mono ?_
          rintro e w' ⟨rfl, rfl⟩
          rw [isPtr_zero]
          have HB5 := Lib.hid (ba hbel (.cells #[.int .u64 0] 24))
          have HO5 := Lib.hid (HO.out.alloc (.cells #[.int .u64 0] 24))
          have hsz := HB5.out.size
          clear hbel
          go_wp2_with (at_builtin; refine wp_append_u64 _ rfl (.tmp 36) (.tmp 38) rfl W.heap.size _ ((List.range k).map (slotW zs p)) rfl HO5.out wr.heap.size 0 rfl ?_ ?_ ?_ ?_)
          · simp [U]
          · simp; omega
          · exact hsz
          · intro v6 w6 hown6 hgrow6
            have HB6 := Lib.hid (HB5.out.grown hgrow6 HB5.out.size (fun j hj => (World.ownsRow.lt HO5.out j hj).1))
            have HO6 : Hid (OwnU w6 W.heap.size v6 ((List.range (k + 1)).map (slotW zs p))) := Lib.hid (by rw [List.range_succ, List.map_append, List.map_cons, List.map_nil, HSW.out]; exact hown6)
            clear hgrow6 hown6 HO5 HB5 hsz
            go_wp2_with fail
            go_roundw
            case rel => exact ⟨k + 1, by go_num, by omega, HO6, HB6.out⟩
            case measure => simp [intOf]; omega
        · have dp : decide (k < p) = false := by simp; omega
          clear hkp
          have HB5 := Lib.hid (ba hbel (.cells #[.int .u64 0] 24))
          have HO5 := Lib.hid (HO.out.alloc (.cells #[.int .u64 0] 24))
          have hsz := HB5.out.size
          clear hbel
          go_wp2_with (at_builtin; refine wp_append_u64 _ rfl (.tmp 36) (.tmp 38) rfl W.heap.size _ ((List.range k).map (slotW zs p)) rfl HO5.out wr.heap.size 0 rfl ?_ ?_ ?_ ?_)
          · simp [U]
          · simp; omega
          · exact hsz
          · intro v6 w6 hown6 hgrow6
            have HB6 := Lib.hid (HB5.out.grown hgrow6 HB5.out.size (fun j hj => (World.ownsRow.lt HO5.out j hj).1))
            have HO6 : Hid (OwnU w6 W.heap.size v6 ((List.range (k + 1)).map (slotW zs p))) := Lib.hid (by rw [List.range_succ, List.map_append, List.map_cons, List.map_nil, HSW.out]; exact hown6)
            clear hgrow6 hown6 HO5 HB5 hsz
            go_wp2_with fail
            go_roundw
            case rel => exact ⟨k + 1, by go_num, by omega, HO6, HB6.out⟩
            case measure => simp [intOf]; omega
    · have dk : decide (k < s) = false := by simp; omega
      obtain rfl : k = s := by omega
      have HO9 : Hid (OwnU wr w.heap.size u4 (rawSlots { size := size, ptrs := ptrs, ao := ao, cap := cap, zs := zs, gone := gone })) := Lib.hid (by rw [HE.out]; exact OwnU.mono HO.out HB.out.size)
      go_wp2_with fail
      go_ret
      exact ⟨_, rfl, HO9.out, HB.out.trans (hbel.mono HB.out.size)⟩
  -- END
end Go.Proofs.Ytjefajpipgicdaa.V
