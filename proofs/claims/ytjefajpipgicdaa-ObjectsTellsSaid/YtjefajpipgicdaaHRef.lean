/-
  Headers and pointers on plain numbers, and the document's own answers of layer 5, walked: Right, Pack, Unpack, Ref, Address.
-/
import Derived.Test.YtjefajpipgicdaaBase
import Derived.Laws.ResultCell
import Derived.Deep.MidRow
set_option linter.unusedVariables false
namespace Go.Proofs.Ytjefajpipgicdaa.V
open Go.RowKit

abbrev hright (s p : Int) : Prop := 0 ≤ s ∧ s ≤ 255 ∧ 0 ≤ p ∧ p ≤ s
def hpack (s p : Nat) : Nat := 2 * (s + 65536 * p)
/-- Pack of any shape: the word, the error. -/
def hpackI (s p : Int) : Nat × Nat := if hright s p then (hpack s.toNat p.toNat, 0) else (0, 1)
/-- Unpack of any word: Size, Ptrs, the error. -/
def hunpack (w : Nat) : Nat × Nat × Nat := if w / 2 % 65536 ≤ 255 ∧ w / 131072 % 65536 ≤ w / 2 % 65536 ∧ hpack (w / 2 % 65536) (w / 131072 % 65536) = w then (w / 2 % 65536, w / 131072 % 65536, 0) else (0, 0, 3)
def href (a : Nat) : Nat × Nat := if 1 ≤ a ∧ a ≤ 9223372036854775807 then (2 * a + 1, 0) else (0, 1)
def haddr (w : Nat) : Nat × Nat := if w = 0 then (0, 6) else if w % 2 = 0 ∨ w = 1 then (0, 3) else (w / 2, 0)

theorem hpack_lt (s p : Nat) (h1 : s ≤ 255) (h2 : p ≤ s) : hpack s p < 33554432 := by unfold hpack; omega
theorem hunpack_pack (s p : Nat) (h1 : s ≤ 255) (h2 : p ≤ s) : hunpack (hpack s p) = (s, p, 0) := by
  have e1 : hpack s p / 2 % 65536 = s := by unfold hpack; omega
  have e2 : hpack s p / 131072 % 65536 = p := by unfold hpack; omega
  unfold hunpack
  rw [e1, e2, if_pos ⟨h1, h2, rfl⟩]
theorem hunpack_ok (w : Nat) (h : (hunpack w).2.2 = 0) : (hunpack w).1 ≤ 255 ∧ (hunpack w).2.1 ≤ (hunpack w).1 ∧ hpack (hunpack w).1 (hunpack w).2.1 = w := by
  unfold hunpack at h ⊢
  split at h
  · rename_i h2; rw [if_pos h2]; exact h2
  · simp at h
theorem hunpack_err (w : Nat) (h : (hunpack w).2.2 ≠ 0) : hunpack w = (0, 0, 3) := by
  unfold hunpack at h ⊢
  split at h
  · simp at h
  · rename_i h2; rw [if_neg h2]
theorem haddr_ref (a : Nat) (h1 : 1 ≤ a) : haddr (2 * a + 1) = (a, 0) := by
  unfold haddr
  rw [if_neg (by omega), if_neg (by omega)]
  congr 1; omega

theorem rightNo (s p : Int) (w : World) (h : ¬ hright s p) : Calls Try.prog 33 #[.agg #[.int .i64 s, .int .i64 p]] w fun e w' => e = .returned (.bool false) ∧ Below w.heap.size w w' := by
  by_cases h1 : s < 0
  · have d1 : decide (0 ≤ s) = false := by simp; omega
    go_enter Try.func33, Try.ntmps33
    go_wp2_with fail
    go_ret
    exact ⟨rfl, ba0 _ _⟩
  · have d1 : decide (0 ≤ s) = true := by simp; omega
    by_cases h2 : 255 < s
    · have d2 : decide (s ≤ 255) = false := by simp; omega
      go_enter Try.func33, Try.ntmps33
      go_wp2_with fail
      go_ret
      exact ⟨rfl, ba0 _ _⟩
    · have d2 : decide (s ≤ 255) = true := by simp; omega
      by_cases h3 : p < 0
      · have d3 : decide (0 ≤ p) = false := by simp; omega
        go_enter Try.func33, Try.ntmps33
        go_wp2_with fail
        go_ret
        exact ⟨rfl, ba0 _ _⟩
      · have d3 : decide (0 ≤ p) = true := by simp; omega
        have d4 : decide (p ≤ s) = false := by simp; omega
        go_enter Try.func33, Try.ntmps33
        go_wp2_with fail
        go_ret
        exact ⟨rfl, ba0 _ _⟩
theorem rightYes (s p : Int) (w : World) (h : hright s p) : Calls Try.prog 33 #[.agg #[.int .i64 s, .int .i64 p]] w fun e w' => e = .returned (.bool true) ∧ Below w.heap.size w w' := by
  obtain ⟨h1, h2, h3, h4⟩ := h
  go_enter Try.func33, Try.ntmps33
  go_wp2_with fail
  go_ret
  exact ⟨rfl, ba0 _ _⟩
theorem refRight (s p : Int) (w : World) : Calls Try.prog 33 #[.agg #[.int .i64 s, .int .i64 p]] w fun e w' => e = .returned (.bool (decide (hright s p))) ∧ Below w.heap.size w w' := by
  by_cases h : hright s p
  · simpa [h] using rightYes s p w h
  · simpa [h] using rightNo s p w h

set_option maxRecDepth 100000 in
theorem refPackNo (s p : Int) (w : World) (h : ¬ hright s p) : Calls Try.prog 27 #[.agg #[.int .i64 s, .int .i64 p]] w fun e w' => e = .returned (.tuple #[.int .u64 0, .int .i64 1]) ∧ Below w.heap.size w w' := by
  go_enter Try.func27, Try.ntmps27
  go_wp2_with fail
  refine (rightNo s p _ h).mono ?_
  rintro e w1 ⟨rfl, hb⟩
  go_wp2_with fail
  go_ret2
  exact ⟨rfl, bt (ba0 _ _) hb⟩
set_option maxRecDepth 100000 in
theorem refPackYes (s p : Nat) (v : Nat) (w : World) (h1 : s ≤ 255) (h2 : p ≤ s) (hv : hpack s p = v) : Calls Try.prog 27 #[.agg #[.int .i64 s, .int .i64 p]] w fun e w' => e = .returned (.tuple #[.int .u64 v, .int .i64 0]) ∧ Below w.heap.size w w' := by
  have hV := Lib.hid hv
  clear hv
  go_enter Try.func27, Try.ntmps27
  go_wp2_with fail
  refine (rightYes s p _ ⟨by omega, by omega, by omega, by omega⟩).mono ?_
  rintro e w1 ⟨rfl, hb⟩
  have hc0 : w1.cell? ⟨w.heap.size, 0, none⟩ = some (.int .i64 s) := (hb.cell (p := ⟨w.heap.size, 0, none⟩) (by simp)).trans (by simp)
  have hc1 : w1.cell? ⟨w.heap.size, 1, none⟩ = some (.int .i64 p) := (hb.cell (p := ⟨w.heap.size, 1, none⟩) (by simp)).trans (by simp)
  have hb2 := Lib.hid (bt (ba0 _ _) hb)
  clear hb
  have hval : (2 * ((s : Int) + 65536 * (p : Int))) = (v : Int) := by have h9 := hV.out; unfold hpack at h9; omega
  have HVal := Lib.hid hval
  clear hval
  go_wp2_with fail
  go_ret2
  refine ⟨?_, hb2.out⟩
  show Ending.returned (.tuple #[.int .u64 (2 * ((s : Int) + 65536 * (p : Int))), .int .i64 0]) = _
  rw [HVal.out]
theorem refPack (s p : Int) (w : World) : Calls Try.prog 27 #[.agg #[.int .i64 s, .int .i64 p]] w fun e w' => e = .returned (.tuple #[.int .u64 (hpackI s p).1, .int .i64 (hpackI s p).2]) ∧ Below w.heap.size w w' := by
  unfold hpackI
  by_cases h : hright s p
  · rw [if_pos h]
    obtain ⟨a, rfl⟩ := Int.eq_ofNat_of_zero_le h.1
    obtain ⟨b, rfl⟩ := Int.eq_ofNat_of_zero_le h.2.2.1
    exact refPackYes a b _ w (by have := h.2.1; omega) (by have := h.2.2.2; omega) rfl
  · rw [if_neg h]
    exact refPackNo s p w h

theorem refAddress (a : Nat) (w : World) (ha : a < 2 ^ 64) : Calls Try.prog 36 #[.int .u64 a] w fun e w' => e = .returned (.tuple #[.int .u64 (haddr a).1, .int .i64 (haddr a).2]) ∧ w = w' := by
  by_cases h1 : a = 0
  · subst h1
    go_enter Try.func36, Try.ntmps36
    go_wp2_with fail
    go_ret2
    exact ⟨rfl, rfl⟩
  · have d0 : ((a : Int) == 0) = false := by simp; omega
    by_cases h2 : a % 2 = 0
    · have e : haddr a = (0, 3) := by unfold haddr; rw [if_neg h1, if_pos (Or.inl h2)]
      have hm : (a : Int) % 2 = 0 := by omega
      have E := Lib.hid e
      clear e
      go_enter Try.func36, Try.ntmps36
      go_wp2_with fail
      go_ret2
      exact ⟨by rw [E.out]; rfl, rfl⟩
    · have hm : (a : Int) % 2 = 1 := by omega
      by_cases h3 : a = 1
      · subst h3
        go_enter Try.func36, Try.ntmps36
        go_wp2_with fail
        go_ret2
        exact ⟨rfl, rfl⟩
      · have e : haddr a = (a / 2, 0) := by unfold haddr; rw [if_neg h1, if_neg (by omega)]
        have d3 : ((a : Int) == 1) = false := by simp; omega
        have hv : Hid ((a : Int) / 2 = ((a / 2 : Nat) : Int)) := Lib.hid (by simp)
        have E := Lib.hid e
        clear e
        go_enter Try.func36, Try.ntmps36
        go_wp2_with fail
        go_ret2
        exact ⟨by rw [E.out]; rfl, rfl⟩
/-- A struct of two cells, read and stored whole, at its place. -/
theorem loadVar_sh {w : World} {b : Nat} {s p : Int} (h1 : w.cell? ⟨b, 0, none⟩ = some (.int .i64 s)) (h2 : w.cell? ⟨b, 1, none⟩ = some (.int .i64 p)) :
    (loadVar 28 ⟨b, 0, none⟩).run Try.prog w = .ok (.agg #[.int .i64 s, .int .i64 p]) w := by
  refine run_loadVar_mid w b 0 28 [.int .i64 s, .int .i64 p] _ ?_ Try.underlying28 rfl (by kernel_rfl)
  intro j v hj
  match j, hj with
  | 0, hj => simp at hj; subst hj; exact h1
  | 1, hj => simp at hj; subst hj; exact h2
theorem wp_store_sh {ops : Array Oper} {rest : List Oper} {op : Oper} {a : Act} {w : World} {Q : Exit → Act → World → Prop} (hgd : op.guard = none) (x y : Operand) (ho : op.op = .store 28 x y)
    (g : Nat) (s p : Int) (hx : a.eval x = .pointer (some ⟨g, 0, none⟩)) (hy : a.eval y = .agg #[.int .i64 s, .int .i64 p])
    (hc : ∀ j, j < 2 → (w.cell? ⟨g, j, none⟩).isSome = true) (hf : ∀ j, j < 2 → w.frozen? ⟨g, j, none⟩ = false)
    (h : ∀ w2, w2.cell? ⟨g, 0, none⟩ = some (.int .i64 s) → w2.cell? ⟨g, 1, none⟩ = some (.int .i64 p) → (∀ S v, S ≤ g → Below S v w → Below S v w2) → wpList Try.prog ops Q rest (a.put op.dst undef) w2) : wpList Try.prog ops Q (op :: rest) a w := by
  have ht : w.there g 0 2 := fun j hj => by rw [Nat.zero_add]; exact ⟨hc j hj, hf j hj⟩
  refine wpList_store_mid hgd 28 x y ho g 0 #[.int .i64 s, .int .i64 p] hx hy ht (by kernel_rfl) (by simp [Value.oneCell']) ?_
  have hr := World.rangeAt_setCells_same w g 0 [.int .i64 s, .int .i64 p] ht
  refine h _ (by simpa using hr 0 _ rfl) (by simpa using hr 1 _ rfl) ?_
  intro S v hS hb
  exact (hb.setCell hS _).setCell hS _
theorem results_cell2 {fn : Func} {p u : Tmp} {ty : TypeId} (h : fn.results = #[.cell p ty, .tmp u]) (tmps : Array Value) (P : Program) (w : World) (g : Nat) (r : Value)
    (hp : tmps.getD p undef = .pointer (some ⟨g, 0, none⟩)) (hr : (loadVar ty ⟨g, 0, none⟩).run P w = .ok r w) : (results fn tmps).run P w = .ok (.tuple #[r, tmps.getD u undef]) w := by
  have hp' : tmps[p]?.getD undef = .pointer (some ⟨g, 0, none⟩) := by simpa using hp
  simp [results, h, hp', asAddr, Result.andThen, hr]

set_option maxRecDepth 100000 in
theorem unpackOk (v s p : Nat) (w : World) (hv : v < 2 ^ 64) (hsp : ((v : Int) / 2 % 65536 = (s : Int)) ∧ ((v : Int) / 131072 % 65536 = (p : Int))) (h1 : s ≤ 255) (h2 : p ≤ s) (hx : hpack s p = v) : Calls Try.prog 37 #[.int .u64 v] w fun e w' => e = .returned (.tuple #[.agg #[.int .i64 s, .int .i64 p], .int .i64 0]) ∧ Below w.heap.size w w' := by
  have HX := Lib.hid hx
  clear hx
  obtain ⟨e1, e2⟩ := hsp
  go_enter Try.func37, Try.ntmps37
  go_wp2_with fail
  refine (refPackYes s p v _ h1 h2 HX.out).mono ?_
  rintro e w1 ⟨rfl, hb⟩
  have ha0 : ∀ j, j < 2 → (w1.cell? ⟨w.heap.size, j, none⟩).isSome = true := by
    intro j hj
    rw [hb.cell (p := ⟨w.heap.size, j, none⟩) (by simp; omega)]
    match j, hj with
    | 0, _ => simp
    | 1, _ => simp
  have hf0 : ∀ j, j < 2 → w1.frozen? ⟨w.heap.size, j, none⟩ = false := by
    intro j hj
    rw [hb.frozen (p := ⟨w.heap.size, j, none⟩) (by simp; omega)]
    simp
  have hc0 : w1.cell? ⟨w.heap.size + 1, 0, none⟩ = some (.int .i64 s) := (hb.cell (p := ⟨w.heap.size + 1, 0, none⟩) (by simp)).trans (by simp)
  have hc1 : w1.cell? ⟨w.heap.size + 1, 1, none⟩ = some (.int .i64 p) := (hb.cell (p := ⟨w.heap.size + 1, 1, none⟩) (by simp)).trans (by simp)
  have hb2 := Lib.hid (bt (ba (ba0 w _) _) hb)
  have HA0 := Lib.hid ha0
  have HF0 := Lib.hid hf0
  clear hb ha0 hf0
  go_wp2_with (refine wp_store_sh rfl (.tmp 2) (.tmp 29) rfl w.heap.size (s : Int) (p : Int) rfl rfl HA0.out HF0.out ?_; intro w5 q1 q2 q3; have hb5 := Lib.hid (q3 _ _ (Nat.le_refl _) hb2.out); clear q3; have HQ1 := Lib.hid q1; have HQ2 := Lib.hid q2; clear q1 q2)
  refine bodyPost_ret (results_cell2 rfl _ _ _ w.heap.size (.agg #[.int .i64 (s : Int), .int .i64 (p : Int)]) rfl (loadVar_sh HQ1.out HQ2.out)) rfl ?_
  exact ⟨rfl, hb5.out⟩

set_option maxRecDepth 100000 in
theorem unpackNo (v s p : Nat) (w : World) (hv : v < 2 ^ 64) (hsp : ((v : Int) / 2 % 65536 = (s : Int)) ∧ ((v : Int) / 131072 % 65536 = (p : Int))) (h : ¬ hright s p) : Calls Try.prog 37 #[.int .u64 v] w fun e w' => e = .returned (.tuple #[.agg #[.int .i64 0, .int .i64 0], .int .i64 3]) ∧ Below w.heap.size w w' := by
  have HX := Lib.hid h
  clear h
  obtain ⟨e1, e2⟩ := hsp
  go_enter Try.func37, Try.ntmps37
  go_wp2_with fail
  refine (refPackNo s p _ HX.out).mono ?_
  rintro e w1 ⟨rfl, hb⟩
  have ha0 : ∀ j, j < 2 → (w1.cell? ⟨w.heap.size, j, none⟩).isSome = true := by
    intro j hj
    rw [hb.cell (p := ⟨w.heap.size, j, none⟩) (by simp; omega)]
    match j, hj with
    | 0, _ => simp
    | 1, _ => simp
  have hf0 : ∀ j, j < 2 → w1.frozen? ⟨w.heap.size, j, none⟩ = false := by
    intro j hj
    rw [hb.frozen (p := ⟨w.heap.size, j, none⟩) (by simp; omega)]
    simp
  have hc0 : w1.cell? ⟨w.heap.size + 1, 0, none⟩ = some (.int .i64 s) := (hb.cell (p := ⟨w.heap.size + 1, 0, none⟩) (by simp)).trans (by simp)
  have hc1 : w1.cell? ⟨w.heap.size + 1, 1, none⟩ = some (.int .i64 p) := (hb.cell (p := ⟨w.heap.size + 1, 1, none⟩) (by simp)).trans (by simp)
  have hb2 := Lib.hid (bt (ba (ba0 w _) _) hb)
  have HA0 := Lib.hid ha0
  have HF0 := Lib.hid hf0
  clear hb ha0 hf0
  go_wp2_with (refine wp_store_sh rfl (.tmp 2) (.tmp 28) rfl w.heap.size (0 : Int) (0 : Int) rfl rfl HA0.out HF0.out ?_; intro w5 q1 q2 q3; have hb5 := Lib.hid (q3 _ _ (Nat.le_refl _) hb2.out); clear q3; have HQ1 := Lib.hid q1; have HQ2 := Lib.hid q2; clear q1 q2)
  refine bodyPost_ret (results_cell2 rfl _ _ _ w.heap.size (.agg #[.int .i64 (0 : Int), .int .i64 (0 : Int)]) rfl (loadVar_sh HQ1.out HQ2.out)) rfl ?_
  exact ⟨rfl, hb5.out⟩

set_option maxRecDepth 100000 in
theorem unpackNot (v s p x : Nat) (w : World) (hv : v < 2 ^ 64) (hsp : ((v : Int) / 2 % 65536 = (s : Int)) ∧ ((v : Int) / 131072 % 65536 = (p : Int))) (h1 : s ≤ 255) (h2 : p ≤ s) (hx : hpack s p = x) (hne : x ≠ v) : Calls Try.prog 37 #[.int .u64 v] w fun e w' => e = .returned (.tuple #[.agg #[.int .i64 0, .int .i64 0], .int .i64 3]) ∧ Below w.heap.size w w' := by
  have HX := Lib.hid hx
  have hn1 : ((x : Int) != v) = true := by simp; omega
  clear hx hne
  obtain ⟨e1, e2⟩ := hsp
  go_enter Try.func37, Try.ntmps37
  go_wp2_with fail
  refine (refPackYes s p x _ h1 h2 HX.out).mono ?_
  rintro e w1 ⟨rfl, hb⟩
  have ha0 : ∀ j, j < 2 → (w1.cell? ⟨w.heap.size, j, none⟩).isSome = true := by
    intro j hj
    rw [hb.cell (p := ⟨w.heap.size, j, none⟩) (by simp; omega)]
    match j, hj with
    | 0, _ => simp
    | 1, _ => simp
  have hf0 : ∀ j, j < 2 → w1.frozen? ⟨w.heap.size, j, none⟩ = false := by
    intro j hj
    rw [hb.frozen (p := ⟨w.heap.size, j, none⟩) (by simp; omega)]
    simp
  have hc0 : w1.cell? ⟨w.heap.size + 1, 0, none⟩ = some (.int .i64 s) := (hb.cell (p := ⟨w.heap.size + 1, 0, none⟩) (by simp)).trans (by simp)
  have hc1 : w1.cell? ⟨w.heap.size + 1, 1, none⟩ = some (.int .i64 p) := (hb.cell (p := ⟨w.heap.size + 1, 1, none⟩) (by simp)).trans (by simp)
  have hb2 := Lib.hid (bt (ba (ba0 w _) _) hb)
  have HA0 := Lib.hid ha0
  have HF0 := Lib.hid hf0
  clear hb ha0 hf0
  go_wp2_with (refine wp_store_sh rfl (.tmp 2) (.tmp 28) rfl w.heap.size (0 : Int) (0 : Int) rfl rfl HA0.out HF0.out ?_; intro w5 q1 q2 q3; have hb5 := Lib.hid (q3 _ _ (Nat.le_refl _) hb2.out); clear q3; have HQ1 := Lib.hid q1; have HQ2 := Lib.hid q2; clear q1 q2)
  refine bodyPost_ret (results_cell2 rfl _ _ _ w.heap.size (.agg #[.int .i64 (0 : Int), .int .i64 (0 : Int)]) rfl (loadVar_sh HQ1.out HQ2.out)) rfl ?_
  exact ⟨rfl, hb5.out⟩

theorem refUnpack (v : Nat) (w : World) (hv : v < 2 ^ 64) : Calls Try.prog 37 #[.int .u64 v] w fun e w' => e = .returned (.tuple #[.agg #[.int .i64 (hunpack v).1, .int .i64 (hunpack v).2.1], .int .i64 (hunpack v).2.2]) ∧ Below w.heap.size w w' := by
  have hsp : ((v : Int) / 2 % 65536 = ((v / 2 % 65536 : Nat) : Int)) ∧ ((v : Int) / 131072 % 65536 = ((v / 131072 % 65536 : Nat) : Int)) := by constructor <;> simp
  unfold hunpack
  by_cases h1 : v / 2 % 65536 ≤ 255 ∧ v / 131072 % 65536 ≤ v / 2 % 65536
  · by_cases h2 : hpack (v / 2 % 65536) (v / 131072 % 65536) = v
    · rw [if_pos ⟨h1.1, h1.2, h2⟩]
      exact unpackOk v _ _ w hv hsp h1.1 h1.2 h2
    · rw [if_neg (fun h => h2 h.2.2)]
      exact unpackNot v _ _ _ w hv hsp h1.1 h1.2 rfl h2
  · rw [if_neg (fun h => h1 ⟨h.1, h.2.1⟩)]
    exact unpackNo v _ _ w hv hsp (fun h => h1 ⟨by have := h.2.1; omega, by have := h.2.2.2; omega⟩)
end Go.Proofs.Ytjefajpipgicdaa.V
