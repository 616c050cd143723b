/-
  The program's functions of package objects beside its iterator, walked: demand, the closures, slices' IndexFunc and ContainsFunc at them, pointers, fits.
-/
import Derived.Test.YtjefajpipgicdaaORefSlots
import Derived.Test.YtjefajpipgicdaaHAwake
set_option linter.unusedVariables false
namespace Go.Proofs.Ytjefajpipgicdaa.V
open Go.RowKit

theorem oDemandYes (E : Int) (w : World) : Calls Try.prog 41 #[.bool true, .int .i64 E] w fun e w' => e = .returned (.tuple #[]) ∧ w = w' := by
  go_enter Try.func41, Try.ntmps41
  go_wp2_with fail
  go_end0
  exact ⟨rfl, rfl⟩
theorem oDemandNo (E : Int) (w : World) : Calls Try.prog 41 #[.bool false, .int .i64 E] w fun e w' => e = .panicked [{ v := .iface 34 (.int .i64 E), recovered := false }] ∧ w = w' := by
  have hp : ∀ (t : TypeId) (v : Value) (w : World), (Instr.panic (.iface t v)).run Try.prog w = .halt (.panic (.iface t v)) w := fun _ _ _ => rfl
  go_enter Try.func41, Try.ntmps41
  go_wp2_with fail
  exact ⟨rfl, rfl, rfl⟩
theorem oPtr1 (x : Nat) (w : World) (hx : x < 2 ^ 64) : Calls Try.prog 45 #[.int .u64 x] w fun e w' => e = .returned (.bool (!isPtr x)) ∧ w = w' := by
  by_cases h0 : x = 0
  · subst h0
    obtain ⟨V, hV⟩ : ∃ V : Int, ((haddr 0).1 : Int) = V := ⟨_, rfl⟩
    obtain ⟨E, hE⟩ : ∃ E : Int, ((haddr 0).2 : Int) = E := ⟨_, rfl⟩
    have HV := Lib.hid hV
    have HE := Lib.hid hE
    clear hV hE
    go_enter Try.func45, Try.ntmps45
    go_wp2_with fail
    refine (hAddressI _ 0 V E _ rfl (by decide) HV.out HE.out).mono ?_
    rintro e w1 ⟨rfl, rfl⟩
    go_wp2_with fail
    go_ret
    exact ⟨rfl, rfl⟩
  · have hz : ((x : Int) != 0) = true := by simp; omega
    obtain ⟨V, hV⟩ : ∃ V : Int, ((haddr x).1 : Int) = V := ⟨_, rfl⟩
    have HV := Lib.hid hV
    by_cases h1 : (haddr x).2 = 0
    · have HE := Lib.hid (show ((haddr x).2 : Int) = 0 by omega)
      have HR := Lib.hid (show isPtr x = true by unfold isPtr; rw [h1]; simp)
      clear hV h1 h0
      go_enter Try.func45, Try.ntmps45
      go_wp2_with fail
      refine (hAddressI _ x V 0 _ rfl hx HV.out HE.out).mono ?_
      rintro e w1 ⟨rfl, rfl⟩
      go_wp2_with fail
      go_ret
      exact ⟨by rw [HR.out]; rfl, rfl⟩
    · obtain ⟨E, hE⟩ : ∃ E : Int, ((haddr x).2 : Int) = E := ⟨_, rfl⟩
      have hne : (E != 0) = true := by simp; omega
      have HE := Lib.hid hE
      have HR := Lib.hid (show isPtr x = false by unfold isPtr; simp; exact ⟨h0, h1⟩)
      clear hV h1 hE h0
      go_enter Try.func45, Try.ntmps45
      go_wp2_with fail
      refine (hAddressI _ x V E _ rfl hx HV.out HE.out).mono ?_
      rintro e w1 ⟨rfl, rfl⟩
      go_wp2_with fail
      go_ret
      exact ⟨by rw [HR.out]; rfl, rfl⟩
theorem oFit1 (x : Nat) (w : World) (hx : x < 2 ^ 64) : Calls Try.prog 47 #[.int .u64 x] w fun e w' => e = .returned (.bool (!(x == 0))) ∧ w = w' := by
  by_cases h0 : x = 0
  · subst h0
    go_enter Try.func47, Try.ntmps47
    go_wp2_with fail
    go_ret
    exact ⟨rfl, rfl⟩
  · have hz : ((x : Int) != 0) = true := by simp; omega
    have HR := Lib.hid (show (x == 0) = false by simp; exact h0)
    clear h0
    go_enter Try.func47, Try.ntmps47
    go_wp2_with fail
    go_ret
    exact ⟨by rw [HR.out]; rfl, rfl⟩
set_option maxRecDepth 100000 in
theorem oIndexPtr (ao : Option Addr) (ca m : Nat) (l : List Nat) (w : World) (hm : l.length = m) (hl : m ≤ 1000000000) (hv : ∀ v ∈ l, v < 2 ^ 64) (hu : Us w ao l) :
    Calls Try.prog 50 #[.slice ao m ca, .func (.func 45) #[] #[]] w fun e w' => ∃ r : Int, e = .returned (.int .i64 r) ∧ decide (0 ≤ r) = !l.all isPtr ∧ w = w' := by
  have HV := Lib.hid hv
  have HU := Lib.hid hu
  have HM := Lib.hid hm
  clear hv hu hm
  go_enter Try.func50, Try.ntmps50
  go_wp2_with fail
  go_loopw [8] (fun i wr => ∃ k : Nat, k ≤ m ∧ i = .int .i64 k ∧ Hid ((l.take k).all isPtr = true) ∧ wr = w) (fun i _ => m - (intOf i).toNat)
  case atStart => exact ⟨0, by omega, rfl, Lib.hid (by simp), rfl⟩
  case round =>
    obtain ⟨k, hk, rfl, HT, rfl⟩ := hrel
    by_cases hkm : k < m
    · have hkl : k < l.length := by have := HM.out; omega
      obtain ⟨b, off, rfl, hbb, hc⟩ := HU.out k hkl
      have hxk : l.getD k 0 < 2 ^ 64 := HV.out _ (by simp [List.getD, hkl])
      have hst : (l.take (k + 1)).all isPtr = isPtr (l.getD k 0) := by
        rw [List.take_add_one, List.all_append, HT.out, List.getElem?_eq_getElem hkl]
        simp [List.getD, hkl]
      have hin : l.getD k 0 ∈ l := by simp [List.getD, hkl]
      generalize hx : l.getD k 0 = x at hc hxk hst hin
      have HX := Lib.hid hx
      have HS := Lib.hid hst
      have HI := Lib.hid hin
      clear hx hst hkl hin
      cases hq : isPtr x with
      | true =>
        have HQ := Lib.hid hq
        clear hq
        go_wp2_with fail
        refine (oPtr1 x _ hxk).mono ?_
        rintro e w1 ⟨rfl, rfl⟩
        rw [HQ.out]
        go_wp2_with fail
        go_roundw
        case rel => exact ⟨k + 1, by omega, by go_num, Lib.hid (by rw [HS.out, HQ.out]), by trivial⟩
        case measure => simp [intOf]; omega
      | false =>
        have HQ := Lib.hid hq
        clear hq
        go_wp2_with fail
        refine (oPtr1 x _ hxk).mono ?_
        rintro e w1 ⟨rfl, rfl⟩
        rw [HQ.out]
        go_wp2_with fail
        go_ret
        exact ⟨k, rfl, by rw [show l.all isPtr = false from List.all_eq_false.2 ⟨x, HI.out, by rw [HQ.out]; simp⟩]; simp, rfl⟩
    · obtain rfl : k = m := by omega
      go_wp2_with fail
      go_ret
      exact ⟨-1, rfl, by rw [List.take_of_length_le (by rw [HM.out]; exact Nat.le_refl _)] at HT; rw [HT.out]; rfl, rfl⟩
set_option maxRecDepth 100000 in
theorem oIndexFit (ao : Option Addr) (ca m : Nat) (l : List Nat) (w : World) (hm : l.length = m) (hl : m ≤ 1000000000) (hv : ∀ v ∈ l, v < 2 ^ 64) (hu : Us w ao l) :
    Calls Try.prog 50 #[.slice ao m ca, .func (.func 47) #[] #[]] w fun e w' => ∃ r : Int, e = .returned (.int .i64 r) ∧ decide (0 ≤ r) = !l.all (· == 0) ∧ w = w' := by
  have HV := Lib.hid hv
  have HU := Lib.hid hu
  have HM := Lib.hid hm
  clear hv hu hm
  go_enter Try.func50, Try.ntmps50
  go_wp2_with fail
  go_loopw [8] (fun i wr => ∃ k : Nat, k ≤ m ∧ i = .int .i64 k ∧ Hid ((l.take k).all (· == 0) = true) ∧ wr = w) (fun i _ => m - (intOf i).toNat)
  case atStart => exact ⟨0, by omega, rfl, Lib.hid (by simp), rfl⟩
  case round =>
    obtain ⟨k, hk, rfl, HT, rfl⟩ := hrel
    by_cases hkm : k < m
    · have hkl : k < l.length := by have := HM.out; omega
      obtain ⟨b, off, rfl, hbb, hc⟩ := HU.out k hkl
      have hxk : l.getD k 0 < 2 ^ 64 := HV.out _ (by simp [List.getD, hkl])
      have hst : (l.take (k + 1)).all (· == 0) = (l.getD k 0 == 0) := by
        rw [List.take_add_one, List.all_append, HT.out, List.getElem?_eq_getElem hkl]
        simp [List.getD, hkl]
      have hin : l.getD k 0 ∈ l := by simp [List.getD, hkl]
      generalize hx : l.getD k 0 = x at hc hxk hst hin
      have HX := Lib.hid hx
      have HS := Lib.hid hst
      have HI := Lib.hid hin
      clear hx hst hkl hin
      cases hq : (x == 0) with
      | true =>
        have HQ := Lib.hid hq
        clear hq
        go_wp2_with fail
        refine (oFit1 x _ hxk).mono ?_
        rintro e w1 ⟨rfl, rfl⟩
        rw [HQ.out]
        go_wp2_with fail
        go_roundw
        case rel => exact ⟨k + 1, by omega, by go_num, Lib.hid (by rw [HS.out, HQ.out]), by trivial⟩
        case measure => simp [intOf]; omega
      | false =>
        have HQ := Lib.hid hq
        clear hq
        go_wp2_with fail
        refine (oFit1 x _ hxk).mono ?_
        rintro e w1 ⟨rfl, rfl⟩
        rw [HQ.out]
        go_wp2_with fail
        go_ret
        exact ⟨k, rfl, by rw [show l.all (· == 0) = false from List.all_eq_false.2 ⟨x, HI.out, by rw [HQ.out]; simp⟩]; simp, rfl⟩
    · obtain rfl : k = m := by omega
      go_wp2_with fail
      go_ret
      exact ⟨-1, rfl, by rw [List.take_of_length_le (by rw [HM.out]; exact Nat.le_refl _)] at HT; rw [HT.out]; rfl, rfl⟩

theorem oContPtr (ao : Option Addr) (ca m : Nat) (l : List Nat) (w : World) (hm : l.length = m) (hl : m ≤ 1000000000) (hv : ∀ v ∈ l, v < 2 ^ 64) (hu : Us w ao l) :
    Calls Try.prog 44 #[.slice ao m ca, .func (.func 45) #[] #[]] w fun e w' => e = .returned (.bool (!l.all isPtr)) ∧ w = w' := by
  go_enter Try.func44, Try.ntmps44
  go_wp2_with fail
  refine (oIndexPtr ao ca m l _ hm hl hv hu).mono ?_
  rintro e w1 ⟨r, rfl, hr, rfl⟩
  go_wp2_with fail
  go_ret
  exact ⟨rfl, rfl⟩
theorem oContFit (ao : Option Addr) (ca m : Nat) (l : List Nat) (w : World) (hm : l.length = m) (hl : m ≤ 1000000000) (hv : ∀ v ∈ l, v < 2 ^ 64) (hu : Us w ao l) :
    Calls Try.prog 44 #[.slice ao m ca, .func (.func 47) #[] #[]] w fun e w' => e = .returned (.bool (!l.all (· == 0))) ∧ w = w' := by
  go_enter Try.func44, Try.ntmps44
  go_wp2_with fail
  refine (oIndexFit ao ca m l _ hm hl hv hu).mono ?_
  rintro e w1 ⟨r, rfl, hr, rfl⟩
  go_wp2_with fail
  go_ret
  exact ⟨rfl, rfl⟩
theorem oPointers (ao : Option Addr) (ca m : Nat) (l : List Nat) (b : Bool) (w : World) (hm : l.length = m) (hl : m ≤ 1000000000) (hv : ∀ v ∈ l, v < 2 ^ 64) (hu : Us w ao l) (hb : l.all isPtr = b) :
    Calls Try.prog 34 #[.slice ao m ca] w fun e w' => e = .returned (.bool b) ∧ w = w' := by
  have HBB := Lib.hid hb
  clear hb
  go_enter Try.func34, Try.ntmps34
  go_wp2_with fail
  refine (oContPtr ao ca m l _ hm hl hv hu).mono ?_
  rintro e w1 ⟨rfl, rfl⟩
  rw [HBB.out]
  cases b <;> (go_wp2_with fail; go_ret; exact ⟨rfl, rfl⟩)

theorem slotsOk_gone : ∀ (l : List Nat) (p : Int), slotsOk l p true = l.all (· == 0)
  | [], _ => rfl
  | x :: r, p => by
    have ih := slotsOk_gone r (p - 1)
    simp only [slotsOk, List.all_cons, ih]
    by_cases h : x = 0
    · subst h; simp [isPtr_zero]
    · have h' : (x == 0) = false := by simpa using h
      simp only [h', Bool.false_and, Bool.not_true, Bool.false_or]
theorem slotsOk_live : ∀ (l : List Nat) (p : Nat), slotsOk l p false = (l.take p).all isPtr
  | [], p => by simp [slotsOk]
  | x :: r, 0 => by
    have ih : ∀ (l : List Nat) (q : Int), q ≤ 0 → slotsOk l q false = true := by
      intro l
      induction l with
      | nil => intro q _; rfl
      | cons y t ih => intro q hq; simp only [slotsOk]; rw [ih (q - 1) (by omega)]; simp; left; omega
    rw [ih _ _ (by omega)]; rfl
  | x :: r, p + 1 => by
    have ih := slotsOk_live r p
    simp only [slotsOk, List.take_succ_cons, List.all_cons]
    rw [show ((p + 1 : Nat) : Int) - 1 = (p : Int) by omega, ih]
    simp
set_option maxRecDepth 100000 in
theorem oFits (o : Ob) (p : Nat) (ao : Option Addr) (ca m : Nat) (l : List Nat) (b : Bool) (w : World) (hm : l.length = m) (hl : m ≤ 1000000000) (hv : ∀ v ∈ l, v < 2 ^ 64) (hu : Us w ao l) (hp : o.ptrs = (p : Int)) (hpm : p ≤ m) (hmc : m ≤ ca) (hcm : ca ≤ 9223372036854775807) (hb : slotsOk l o.ptrs o.gone = b) :
    Calls Try.prog 42 #[.agg #[.int .i64 o.pos, .int .i64 o.size, .int .i64 o.ptrs, .bool o.gone, .int .u64 (o.tgt : Int)], .slice ao m ca] w fun e w' => e = .returned (.bool b) ∧ Below w.heap.size w w' := by
  obtain ⟨pos, size, ptrs, gone, tgt⟩ := o
  simp only at hp hb ⊢
  subst hp
  cases gone with
  | true =>
    rw [slotsOk_gone] at hb
    have HBB := Lib.hid hb
    clear hb
    go_enter Try.func42, Try.ntmps42
    go_wp2_with fail
    refine (oContFit ao ca m l _ hm hl hv (hu.below (Nat.le_refl _) (ba0 _ _))).mono ?_
    rintro e w1 ⟨rfl, rfl⟩
    rw [HBB.out]
    cases b <;> (go_wp2_with fail; go_ret; exact ⟨rfl, ba0 _ _⟩)
  | false =>
    rw [slotsOk_live] at hb
    have HBB := Lib.hid hb
    clear hb
    go_enter Try.func42, Try.ntmps42
    go_wp2_with fail
    refine (oPointers ao ca p (l.take p) b _ (by simp; omega) (by omega) (fun v h => hv v (List.mem_of_mem_take h)) ((hu.take p).below (Nat.le_refl _) (ba0 _ _)) HBB.out).mono ?_
    rintro e w1 ⟨rfl, rfl⟩
    go_wp2_with fail
    go_ret
    exact ⟨rfl, ba0 _ _⟩
end Go.Proofs.Ytjefajpipgicdaa.V
