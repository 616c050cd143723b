/-
  The program's choose: what an act's row does, as a method value; walked.
-/
import Derived.Test.YtjoacfjbdpmgpaaGProg7
set_option linter.unusedVariables false
namespace Go.Proofs.Ytjoacfjbdpmgpaa.V
open Go.RowKit

set_option maxRecDepth 100000 in
set_option maxHeartbeats 1000000 in
theorem gpChoose1 {S Z : Nat} {w : World} {na ra : Option Addr} {n cq m rq : Nat} (hz : Blk w Z [.slice na n cq, .slice ra m rq] 61) (hm : m ≤ 1000000) (r s i sz pt v : Int) (R T : Bool) (hR : decide (0 ≤ r ∧ r < (m : Int)) = R) (hT : decide (0 ≤ s ∧ s < (m : Int)) = T) :
    Calls Try.prog 24 #[.pointer (some ⟨Z, 0, none⟩), .agg #[.int .i64 1, .int .i64 r, .int .i64 s, .int .i64 i, .int .i64 sz, .int .i64 pt, .int .u64 v]] w fun e w' => e = .returned (.func (.func (bif R then 37 else 45)) #[.pointer (some ⟨Z, 0, none⟩)] #[]) ∧ Below w.heap.size w w' := by
  have HB : Hid (Below w.heap.size w ((w.alloc (.cells #[.int .i64 1, .int .i64 r, .int .i64 s, .int .i64 i, .int .i64 sz, .int .i64 pt, .int .u64 v] 31)).alloc (.cells #[.nilFunc, .nilFunc, .nilFunc, .nilFunc, .nilFunc, .nilFunc, .nilFunc, .nilFunc] 77))) := Lib.hid (ba (ba0 w _) _)
  have HC : Hid (Blk ((w.alloc (.cells #[.int .i64 1, .int .i64 r, .int .i64 s, .int .i64 i, .int .i64 sz, .int .i64 pt, .int .u64 v] 31)).alloc (.cells #[.nilFunc, .nilFunc, .nilFunc, .nilFunc, .nilFunc, .nilFunc, .nilFunc, .nilFunc] 77)) w.heap.size [.int .i64 1, .int .i64 r, .int .i64 s, .int .i64 i, .int .i64 sz, .int .i64 pt, .int .u64 v] 31) := Lib.hid ((Blk.new w [.int .i64 1, .int .i64 r, .int .i64 s, .int .i64 i, .int .i64 sz, .int .i64 pt, .int .u64 v] 31).below (ba0 _ _))
  have HD : Hid (Blk ((w.alloc (.cells #[.int .i64 1, .int .i64 r, .int .i64 s, .int .i64 i, .int .i64 sz, .int .i64 pt, .int .u64 v] 31)).alloc (.cells #[.nilFunc, .nilFunc, .nilFunc, .nilFunc, .nilFunc, .nilFunc, .nilFunc, .nilFunc] 77)) (w.heap.size + 1) [.nilFunc, .nilFunc, .nilFunc, .nilFunc, .nilFunc, .nilFunc, .nilFunc, .nilFunc] 77) := Lib.hid (by
    have := Blk.new (w.alloc (.cells #[.int .i64 1, .int .i64 r, .int .i64 s, .int .i64 i, .int .i64 sz, .int .i64 pt, .int .u64 v] 31)) [.nilFunc, .nilFunc, .nilFunc, .nilFunc, .nilFunc, .nilFunc, .nilFunc, .nilFunc] 77
    rwa [World.size_alloc] at this)
  have HZ := Lib.hid (hz.below HB.out)
  have hZl := hz.lt
  have hmf : ∀ (fn : Fn) (first cap : Array Value) (w : World), (Instr.makeFunc fn first cap).run Try.prog w = .ok (.func fn first cap) w := fun _ _ _ _ => rfl
  have HR0 := Lib.hid hR
  have HT0 := Lib.hid hT
  clear hR hT
  clear hz
  go_enter Try.func24, Try.ntmps24
  go_upto_region 2 with (refine wp_store_but rfl 77 (.tmp 5) (.tmp 20) rfl (w.heap.size + 1) _ [.nilFunc, .func (.func 37) #[.pointer (some ⟨Z, 0, none⟩)] #[], .func (.func 38) #[.pointer (some ⟨Z, 0, none⟩)] #[], .func (.func 39) #[.pointer (some ⟨Z, 0, none⟩)] #[], .func (.func 40) #[.pointer (some ⟨Z, 0, none⟩)] #[], .func (.func 41) #[.pointer (some ⟨Z, 0, none⟩)] #[], .func (.func 42) #[.pointer (some ⟨Z, 0, none⟩)] #[], .func (.func 43) #[.pointer (some ⟨Z, 0, none⟩)] #[]] rfl rfl _ HD.out rfl (by kernel_rfl) (by simp [Value.oneCell']) ?_; intro V hz5 hf5 hb5; have HR := Lib.hid hz5; have HBV := Lib.hid (hb5 _ _ (by omega) HB.out); have HCV := Lib.hid (HC.out.but hf5 (by omega)); have HZV := Lib.hid (HZ.out.but hf5 (by omega)); clear hz5 hf5 hb5)
  clear HB HC HD HZ
  have k0 : V.cell? ⟨w.heap.size, 0, none⟩ = some (.int .i64 1) := HCV.out.cell rfl
  have z1 : ∀ x : GW V, x.w'.cell? ⟨Z, 1, none⟩ = some (.slice ra m rq) := fun x => (HZV.out.below x.h).cell rfl
  have a1 : ∀ x : GW V, x.w'.cell? ⟨w.heap.size, 1, none⟩ = some (.int .i64 r) := fun x => (HCV.out.below x.h).cell rfl
  have a2 : ∀ x : GW V, x.w'.cell? ⟨w.heap.size, 2, none⟩ = some (.int .i64 s) := fun x => (HCV.out.below x.h).cell rfl
  go_wp2_with fail
  cases R with
  | false =>
    refine wp_region_grow (by kernel_rfl) (by kernel_rfl) ?_
    repeat (go_big_quiet_step ((go_at_call 44; exact grow_same (gpWithinI r _ m rq false _ hm HR0.out))))
    refine wpQuiet_nil ?_
    first | rintro _ ⟨w4, rfl⟩ | intro w4
    go_wp2_with fail
    go_ret
    exact ⟨rfl, bt HBV.out w4.h⟩
  | true =>
    refine wp_region_grow (by kernel_rfl) (by kernel_rfl) ?_
    repeat (go_big_quiet_step ((go_at_call 44; exact grow_same (gpWithinI r _ m rq true _ hm HR0.out))))
    refine wpQuiet_nil ?_
    first | rintro _ ⟨w4, rfl⟩ | intro w4
    have kk : w4.w'.cell? ⟨w.heap.size, 0, none⟩ = some (.int .i64 1) := (HCV.out.below (w4.h)).cell rfl
    have rr : w4.w'.cell? ⟨w.heap.size + 1, 1, none⟩ = some (.func (.func 37) #[.pointer (some ⟨Z, 0, none⟩)] #[]) := (HR.out.below (w4.h)).cell rfl
    go_wp2_with fail
    go_ret
    exact ⟨rfl, bt HBV.out (w4.h)⟩

set_option maxRecDepth 100000 in
set_option maxHeartbeats 1000000 in
theorem gpChoose2 {S Z : Nat} {w : World} {na ra : Option Addr} {n cq m rq : Nat} (hz : Blk w Z [.slice na n cq, .slice ra m rq] 61) (hm : m ≤ 1000000) (r s i sz pt v : Int) (R T : Bool) (hR : decide (0 ≤ r ∧ r < (m : Int)) = R) (hT : decide (0 ≤ s ∧ s < (m : Int)) = T) :
    Calls Try.prog 24 #[.pointer (some ⟨Z, 0, none⟩), .agg #[.int .i64 2, .int .i64 r, .int .i64 s, .int .i64 i, .int .i64 sz, .int .i64 pt, .int .u64 v]] w fun e w' => e = .returned (.func (.func (bif (R && T) then 38 else 45)) #[.pointer (some ⟨Z, 0, none⟩)] #[]) ∧ Below w.heap.size w w' := by
  have HB : Hid (Below w.heap.size w ((w.alloc (.cells #[.int .i64 2, .int .i64 r, .int .i64 s, .int .i64 i, .int .i64 sz, .int .i64 pt, .int .u64 v] 31)).alloc (.cells #[.nilFunc, .nilFunc, .nilFunc, .nilFunc, .nilFunc, .nilFunc, .nilFunc, .nilFunc] 77))) := Lib.hid (ba (ba0 w _) _)
  have HC : Hid (Blk ((w.alloc (.cells #[.int .i64 2, .int .i64 r, .int .i64 s, .int .i64 i, .int .i64 sz, .int .i64 pt, .int .u64 v] 31)).alloc (.cells #[.nilFunc, .nilFunc, .nilFunc, .nilFunc, .nilFunc, .nilFunc, .nilFunc, .nilFunc] 77)) w.heap.size [.int .i64 2, .int .i64 r, .int .i64 s, .int .i64 i, .int .i64 sz, .int .i64 pt, .int .u64 v] 31) := Lib.hid ((Blk.new w [.int .i64 2, .int .i64 r, .int .i64 s, .int .i64 i, .int .i64 sz, .int .i64 pt, .int .u64 v] 31).below (ba0 _ _))
  have HD : Hid (Blk ((w.alloc (.cells #[.int .i64 2, .int .i64 r, .int .i64 s, .int .i64 i, .int .i64 sz, .int .i64 pt, .int .u64 v] 31)).alloc (.cells #[.nilFunc, .nilFunc, .nilFunc, .nilFunc, .nilFunc, .nilFunc, .nilFunc, .nilFunc] 77)) (w.heap.size + 1) [.nilFunc, .nilFunc, .nilFunc, .nilFunc, .nilFunc, .nilFunc, .nilFunc, .nilFunc] 77) := Lib.hid (by
    have := Blk.new (w.alloc (.cells #[.int .i64 2, .int .i64 r, .int .i64 s, .int .i64 i, .int .i64 sz, .int .i64 pt, .int .u64 v] 31)) [.nilFunc, .nilFunc, .nilFunc, .nilFunc, .nilFunc, .nilFunc, .nilFunc, .nilFunc] 77
    rwa [World.size_alloc] at this)
  have HZ := Lib.hid (hz.below HB.out)
  have hZl := hz.lt
  have hmf : ∀ (fn : Fn) (first cap : Array Value) (w : World), (Instr.makeFunc fn first cap).run Try.prog w = .ok (.func fn first cap) w := fun _ _ _ _ => rfl
  have HR0 := Lib.hid hR
  have HT0 := Lib.hid hT
  clear hR hT
  clear hz
  go_enter Try.func24, Try.ntmps24
  go_upto_region 2 with (refine wp_store_but rfl 77 (.tmp 5) (.tmp 20) rfl (w.heap.size + 1) _ [.nilFunc, .func (.func 37) #[.pointer (some ⟨Z, 0, none⟩)] #[], .func (.func 38) #[.pointer (some ⟨Z, 0, none⟩)] #[], .func (.func 39) #[.pointer (some ⟨Z, 0, none⟩)] #[], .func (.func 40) #[.pointer (some ⟨Z, 0, none⟩)] #[], .func (.func 41) #[.pointer (some ⟨Z, 0, none⟩)] #[], .func (.func 42) #[.pointer (some ⟨Z, 0, none⟩)] #[], .func (.func 43) #[.pointer (some ⟨Z, 0, none⟩)] #[]] rfl rfl _ HD.out rfl (by kernel_rfl) (by simp [Value.oneCell']) ?_; intro V hz5 hf5 hb5; have HR := Lib.hid hz5; have HBV := Lib.hid (hb5 _ _ (by omega) HB.out); have HCV := Lib.hid (HC.out.but hf5 (by omega)); have HZV := Lib.hid (HZ.out.but hf5 (by omega)); clear hz5 hf5 hb5)
  clear HB HC HD HZ
  have k0 : V.cell? ⟨w.heap.size, 0, none⟩ = some (.int .i64 2) := HCV.out.cell rfl
  have z1 : ∀ x : GW V, x.w'.cell? ⟨Z, 1, none⟩ = some (.slice ra m rq) := fun x => (HZV.out.below x.h).cell rfl
  have a1 : ∀ x : GW V, x.w'.cell? ⟨w.heap.size, 1, none⟩ = some (.int .i64 r) := fun x => (HCV.out.below x.h).cell rfl
  have a2 : ∀ x : GW V, x.w'.cell? ⟨w.heap.size, 2, none⟩ = some (.int .i64 s) := fun x => (HCV.out.below x.h).cell rfl
  go_wp2_with fail
  cases R with
  | false =>
    refine wp_region_grow (by kernel_rfl) (by kernel_rfl) ?_
    repeat (go_big_quiet_step ((go_at_call 44; exact grow_same (gpWithinI r _ m rq false _ hm HR0.out))))
    refine wpQuiet_nil ?_
    first | rintro _ ⟨w4, rfl⟩ | intro w4
    go_wp2_with fail
    go_ret
    exact ⟨rfl, bt HBV.out w4.h⟩
  | true =>
    refine wp_region_grow (by kernel_rfl) (by kernel_rfl) ?_
    repeat (go_big_quiet_step ((go_at_call 44; exact grow_same (gpWithinI r _ m rq true _ hm HR0.out))))
    refine wpQuiet_nil ?_
    first | rintro _ ⟨w4, rfl⟩ | intro w4
    have z1 : ∀ x : GW w4.w', x.w'.cell? ⟨Z, 1, none⟩ = some (.slice ra m rq) := fun x => (HZV.out.below (bt w4.h x.h)).cell rfl
    have a2 : ∀ x : GW w4.w', x.w'.cell? ⟨w.heap.size, 2, none⟩ = some (.int .i64 s) := fun x => (HCV.out.below (bt w4.h x.h)).cell rfl
    go_wp2_with fail
    cases T with
    | false =>
      refine wp_region_grow (by kernel_rfl) (by kernel_rfl) ?_
      repeat (go_big_quiet_step ((go_at_call 44; exact grow_same (gpWithinI s _ m rq false _ hm HT0.out))))
      refine wpQuiet_nil ?_
      first | rintro _ ⟨w5, rfl⟩ | intro w5
      go_wp2_with fail
      go_ret
      exact ⟨rfl, bt HBV.out (bt w4.h w5.h)⟩
    | true =>
      refine wp_region_grow (by kernel_rfl) (by kernel_rfl) ?_
      repeat (go_big_quiet_step ((go_at_call 44; exact grow_same (gpWithinI s _ m rq true _ hm HT0.out))))
      refine wpQuiet_nil ?_
      first | rintro _ ⟨w5, rfl⟩ | intro w5
      have kk : w5.w'.cell? ⟨w.heap.size, 0, none⟩ = some (.int .i64 2) := (HCV.out.below (bt w4.h w5.h)).cell rfl
      have rr : w5.w'.cell? ⟨w.heap.size + 1, 2, none⟩ = some (.func (.func 38) #[.pointer (some ⟨Z, 0, none⟩)] #[]) := (HR.out.below (bt w4.h w5.h)).cell rfl
      go_wp2_with fail
      go_ret
      exact ⟨rfl, bt HBV.out (bt w4.h w5.h)⟩

set_option maxRecDepth 100000 in
set_option maxHeartbeats 1000000 in
theorem gpChoose3 {S Z : Nat} {w : World} {na ra : Option Addr} {n cq m rq : Nat} (hz : Blk w Z [.slice na n cq, .slice ra m rq] 61) (hm : m ≤ 1000000) (r s i sz pt v : Int) (R T : Bool) (hR : decide (0 ≤ r ∧ r < (m : Int)) = R) (hT : decide (0 ≤ s ∧ s < (m : Int)) = T) :
    Calls Try.prog 24 #[.pointer (some ⟨Z, 0, none⟩), .agg #[.int .i64 3, .int .i64 r, .int .i64 s, .int .i64 i, .int .i64 sz, .int .i64 pt, .int .u64 v]] w fun e w' => e = .returned (.func (.func (bif T then 39 else 45)) #[.pointer (some ⟨Z, 0, none⟩)] #[]) ∧ Below w.heap.size w w' := by
  have HB : Hid (Below w.heap.size w ((w.alloc (.cells #[.int .i64 3, .int .i64 r, .int .i64 s, .int .i64 i, .int .i64 sz, .int .i64 pt, .int .u64 v] 31)).alloc (.cells #[.nilFunc, .nilFunc, .nilFunc, .nilFunc, .nilFunc, .nilFunc, .nilFunc, .nilFunc] 77))) := Lib.hid (ba (ba0 w _) _)
  have HC : Hid (Blk ((w.alloc (.cells #[.int .i64 3, .int .i64 r, .int .i64 s, .int .i64 i, .int .i64 sz, .int .i64 pt, .int .u64 v] 31)).alloc (.cells #[.nilFunc, .nilFunc, .nilFunc, .nilFunc, .nilFunc, .nilFunc, .nilFunc, .nilFunc] 77)) w.heap.size [.int .i64 3, .int .i64 r, .int .i64 s, .int .i64 i, .int .i64 sz, .int .i64 pt, .int .u64 v] 31) := Lib.hid ((Blk.new w [.int .i64 3, .int .i64 r, .int .i64 s, .int .i64 i, .int .i64 sz, .int .i64 pt, .int .u64 v] 31).below (ba0 _ _))
  have HD : Hid (Blk ((w.alloc (.cells #[.int .i64 3, .int .i64 r, .int .i64 s, .int .i64 i, .int .i64 sz, .int .i64 pt, .int .u64 v] 31)).alloc (.cells #[.nilFunc, .nilFunc, .nilFunc, .nilFunc, .nilFunc, .nilFunc, .nilFunc, .nilFunc] 77)) (w.heap.size + 1) [.nilFunc, .nilFunc, .nilFunc, .nilFunc, .nilFunc, .nilFunc, .nilFunc, .nilFunc] 77) := Lib.hid (by
    have := Blk.new (w.alloc (.cells #[.int .i64 3, .int .i64 r, .int .i64 s, .int .i64 i, .int .i64 sz, .int .i64 pt, .int .u64 v] 31)) [.nilFunc, .nilFunc, .nilFunc, .nilFunc, .nilFunc, .nilFunc, .nilFunc, .nilFunc] 77
    rwa [World.size_alloc] at this)
  have HZ := Lib.hid (hz.below HB.out)
  have hZl := hz.lt
  have hmf : ∀ (fn : Fn) (first cap : Array Value) (w : World), (Instr.makeFunc fn first cap).run Try.prog w = .ok (.func fn first cap) w := fun _ _ _ _ => rfl
  have HR0 := Lib.hid hR
  have HT0 := Lib.hid hT
  clear hR hT
  clear hz
  go_enter Try.func24, Try.ntmps24
  go_upto_region 2 with (refine wp_store_but rfl 77 (.tmp 5) (.tmp 20) rfl (w.heap.size + 1) _ [.nilFunc, .func (.func 37) #[.pointer (some ⟨Z, 0, none⟩)] #[], .func (.func 38) #[.pointer (some ⟨Z, 0, none⟩)] #[], .func (.func 39) #[.pointer (some ⟨Z, 0, none⟩)] #[], .func (.func 40) #[.pointer (some ⟨Z, 0, none⟩)] #[], .func (.func 41) #[.pointer (some ⟨Z, 0, none⟩)] #[], .func (.func 42) #[.pointer (some ⟨Z, 0, none⟩)] #[], .func (.func 43) #[.pointer (some ⟨Z, 0, none⟩)] #[]] rfl rfl _ HD.out rfl (by kernel_rfl) (by simp [Value.oneCell']) ?_; intro V hz5 hf5 hb5; have HR := Lib.hid hz5; have HBV := Lib.hid (hb5 _ _ (by omega) HB.out); have HCV := Lib.hid (HC.out.but hf5 (by omega)); have HZV := Lib.hid (HZ.out.but hf5 (by omega)); clear hz5 hf5 hb5)
  clear HB HC HD HZ
  have k0 : V.cell? ⟨w.heap.size, 0, none⟩ = some (.int .i64 3) := HCV.out.cell rfl
  have z1 : ∀ x : GW V, x.w'.cell? ⟨Z, 1, none⟩ = some (.slice ra m rq) := fun x => (HZV.out.below x.h).cell rfl
  have a1 : ∀ x : GW V, x.w'.cell? ⟨w.heap.size, 1, none⟩ = some (.int .i64 r) := fun x => (HCV.out.below x.h).cell rfl
  have a2 : ∀ x : GW V, x.w'.cell? ⟨w.heap.size, 2, none⟩ = some (.int .i64 s) := fun x => (HCV.out.below x.h).cell rfl
  go_wp2_with fail
  cases T with
  | false =>
    refine wp_region_grow (by kernel_rfl) (by kernel_rfl) ?_
    repeat (go_big_quiet_step ((go_at_call 44; exact grow_same (gpWithinI s _ m rq false _ hm HT0.out))))
    refine wpQuiet_nil ?_
    first | rintro _ ⟨w4, rfl⟩ | intro w4
    go_wp2_with fail
    go_ret
    exact ⟨rfl, bt HBV.out w4.h⟩
  | true =>
    refine wp_region_grow (by kernel_rfl) (by kernel_rfl) ?_
    repeat (go_big_quiet_step ((go_at_call 44; exact grow_same (gpWithinI s _ m rq true _ hm HT0.out))))
    refine wpQuiet_nil ?_
    first | rintro _ ⟨w4, rfl⟩ | intro w4
    have kk : w4.w'.cell? ⟨w.heap.size, 0, none⟩ = some (.int .i64 3) := (HCV.out.below (w4.h)).cell rfl
    have rr : w4.w'.cell? ⟨w.heap.size + 1, 3, none⟩ = some (.func (.func 39) #[.pointer (some ⟨Z, 0, none⟩)] #[]) := (HR.out.below (w4.h)).cell rfl
    go_wp2_with fail
    go_ret
    exact ⟨rfl, bt HBV.out (w4.h)⟩

set_option maxRecDepth 100000 in
set_option maxHeartbeats 1000000 in
theorem gpChoose4 {S Z : Nat} {w : World} {na ra : Option Addr} {n cq m rq : Nat} (hz : Blk w Z [.slice na n cq, .slice ra m rq] 61) (hm : m ≤ 1000000) (r s i sz pt v : Int) (R T : Bool) (hR : decide (0 ≤ r ∧ r < (m : Int)) = R) (hT : decide (0 ≤ s ∧ s < (m : Int)) = T) :
    Calls Try.prog 24 #[.pointer (some ⟨Z, 0, none⟩), .agg #[.int .i64 4, .int .i64 r, .int .i64 s, .int .i64 i, .int .i64 sz, .int .i64 pt, .int .u64 v]] w fun e w' => e = .returned (.func (.func (bif (R && T) then 40 else 45)) #[.pointer (some ⟨Z, 0, none⟩)] #[]) ∧ Below w.heap.size w w' := by
  have HB : Hid (Below w.heap.size w ((w.alloc (.cells #[.int .i64 4, .int .i64 r, .int .i64 s, .int .i64 i, .int .i64 sz, .int .i64 pt, .int .u64 v] 31)).alloc (.cells #[.nilFunc, .nilFunc, .nilFunc, .nilFunc, .nilFunc, .nilFunc, .nilFunc, .nilFunc] 77))) := Lib.hid (ba (ba0 w _) _)
  have HC : Hid (Blk ((w.alloc (.cells #[.int .i64 4, .int .i64 r, .int .i64 s, .int .i64 i, .int .i64 sz, .int .i64 pt, .int .u64 v] 31)).alloc (.cells #[.nilFunc, .nilFunc, .nilFunc, .nilFunc, .nilFunc, .nilFunc, .nilFunc, .nilFunc] 77)) w.heap.size [.int .i64 4, .int .i64 r, .int .i64 s, .int .i64 i, .int .i64 sz, .int .i64 pt, .int .u64 v] 31) := Lib.hid ((Blk.new w [.int .i64 4, .int .i64 r, .int .i64 s, .int .i64 i, .int .i64 sz, .int .i64 pt, .int .u64 v] 31).below (ba0 _ _))
  have HD : Hid (Blk ((w.alloc (.cells #[.int .i64 4, .int .i64 r, .int .i64 s, .int .i64 i, .int .i64 sz, .int .i64 pt, .int .u64 v] 31)).alloc (.cells #[.nilFunc, .nilFunc, .nilFunc, .nilFunc, .nilFunc, .nilFunc, .nilFunc, .nilFunc] 77)) (w.heap.size + 1) [.nilFunc, .nilFunc, .nilFunc, .nilFunc, .nilFunc, .nilFunc, .nilFunc, .nilFunc] 77) := Lib.hid (by
    have := Blk.new (w.alloc (.cells #[.int .i64 4, .int .i64 r, .int .i64 s, .int .i64 i, .int .i64 sz, .int .i64 pt, .int .u64 v] 31)) [.nilFunc, .nilFunc, .nilFunc, .nilFunc, .nilFunc, .nilFunc, .nilFunc, .nilFunc] 77
    rwa [World.size_alloc] at this)
  have HZ := Lib.hid (hz.below HB.out)
  have hZl := hz.lt
  have hmf : ∀ (fn : Fn) (first cap : Array Value) (w : World), (Instr.makeFunc fn first cap).run Try.prog w = .ok (.func fn first cap) w := fun _ _ _ _ => rfl
  have HR0 := Lib.hid hR
  have HT0 := Lib.hid hT
  clear hR hT
  clear hz
  go_enter Try.func24, Try.ntmps24
  go_upto_region 2 with (refine wp_store_but rfl 77 (.tmp 5) (.tmp 20) rfl (w.heap.size + 1) _ [.nilFunc, .func (.func 37) #[.pointer (some ⟨Z, 0, none⟩)] #[], .func (.func 38) #[.pointer (some ⟨Z, 0, none⟩)] #[], .func (.func 39) #[.pointer (some ⟨Z, 0, none⟩)] #[], .func (.func 40) #[.pointer (some ⟨Z, 0, none⟩)] #[], .func (.func 41) #[.pointer (some ⟨Z, 0, none⟩)] #[], .func (.func 42) #[.pointer (some ⟨Z, 0, none⟩)] #[], .func (.func 43) #[.pointer (some ⟨Z, 0, none⟩)] #[]] rfl rfl _ HD.out rfl (by kernel_rfl) (by simp [Value.oneCell']) ?_; intro V hz5 hf5 hb5; have HR := Lib.hid hz5; have HBV := Lib.hid (hb5 _ _ (by omega) HB.out); have HCV := Lib.hid (HC.out.but hf5 (by omega)); have HZV := Lib.hid (HZ.out.but hf5 (by omega)); clear hz5 hf5 hb5)
  clear HB HC HD HZ
  have k0 : V.cell? ⟨w.heap.size, 0, none⟩ = some (.int .i64 4) := HCV.out.cell rfl
  have z1 : ∀ x : GW V, x.w'.cell? ⟨Z, 1, none⟩ = some (.slice ra m rq) := fun x => (HZV.out.below x.h).cell rfl
  have a1 : ∀ x : GW V, x.w'.cell? ⟨w.heap.size, 1, none⟩ = some (.int .i64 r) := fun x => (HCV.out.below x.h).cell rfl
  have a2 : ∀ x : GW V, x.w'.cell? ⟨w.heap.size, 2, none⟩ = some (.int .i64 s) := fun x => (HCV.out.below x.h).cell rfl
  go_wp2_with fail
  cases R with
  | false =>
    refine wp_region_grow (by kernel_rfl) (by kernel_rfl) ?_
    repeat (go_big_quiet_step ((go_at_call 44; exact grow_same (gpWithinI r _ m rq false _ hm HR0.out))))
    refine wpQuiet_nil ?_
    first | rintro _ ⟨w4, rfl⟩ | intro w4
    go_wp2_with fail
    go_ret
    exact ⟨rfl, bt HBV.out w4.h⟩
  | true =>
    refine wp_region_grow (by kernel_rfl) (by kernel_rfl) ?_
    repeat (go_big_quiet_step ((go_at_call 44; exact grow_same (gpWithinI r _ m rq true _ hm HR0.out))))
    refine wpQuiet_nil ?_
    first | rintro _ ⟨w4, rfl⟩ | intro w4
    have z1 : ∀ x : GW w4.w', x.w'.cell? ⟨Z, 1, none⟩ = some (.slice ra m rq) := fun x => (HZV.out.below (bt w4.h x.h)).cell rfl
    have a2 : ∀ x : GW w4.w', x.w'.cell? ⟨w.heap.size, 2, none⟩ = some (.int .i64 s) := fun x => (HCV.out.below (bt w4.h x.h)).cell rfl
    go_wp2_with fail
    cases T with
    | false =>
      refine wp_region_grow (by kernel_rfl) (by kernel_rfl) ?_
      repeat (go_big_quiet_step ((go_at_call 44; exact grow_same (gpWithinI s _ m rq false _ hm HT0.out))))
      refine wpQuiet_nil ?_
      first | rintro _ ⟨w5, rfl⟩ | intro w5
      go_wp2_with fail
      go_ret
      exact ⟨rfl, bt HBV.out (bt w4.h w5.h)⟩
    | true =>
      refine wp_region_grow (by kernel_rfl) (by kernel_rfl) ?_
      repeat (go_big_quiet_step ((go_at_call 44; exact grow_same (gpWithinI s _ m rq true _ hm HT0.out))))
      refine wpQuiet_nil ?_
      first | rintro _ ⟨w5, rfl⟩ | intro w5
      have kk : w5.w'.cell? ⟨w.heap.size, 0, none⟩ = some (.int .i64 4) := (HCV.out.below (bt w4.h w5.h)).cell rfl
      have rr : w5.w'.cell? ⟨w.heap.size + 1, 4, none⟩ = some (.func (.func 40) #[.pointer (some ⟨Z, 0, none⟩)] #[]) := (HR.out.below (bt w4.h w5.h)).cell rfl
      go_wp2_with fail
      go_ret
      exact ⟨rfl, bt HBV.out (bt w4.h w5.h)⟩

set_option maxRecDepth 100000 in
set_option maxHeartbeats 1000000 in
theorem gpChoose5 {S Z : Nat} {w : World} {na ra : Option Addr} {n cq m rq : Nat} (hz : Blk w Z [.slice na n cq, .slice ra m rq] 61) (hm : m ≤ 1000000) (r s i sz pt v : Int) (R T : Bool) (hR : decide (0 ≤ r ∧ r < (m : Int)) = R) (hT : decide (0 ≤ s ∧ s < (m : Int)) = T) :
    Calls Try.prog 24 #[.pointer (some ⟨Z, 0, none⟩), .agg #[.int .i64 5, .int .i64 r, .int .i64 s, .int .i64 i, .int .i64 sz, .int .i64 pt, .int .u64 v]] w fun e w' => e = .returned (.func (.func (bif T then 41 else 45)) #[.pointer (some ⟨Z, 0, none⟩)] #[]) ∧ Below w.heap.size w w' := by
  have HB : Hid (Below w.heap.size w ((w.alloc (.cells #[.int .i64 5, .int .i64 r, .int .i64 s, .int .i64 i, .int .i64 sz, .int .i64 pt, .int .u64 v] 31)).alloc (.cells #[.nilFunc, .nilFunc, .nilFunc, .nilFunc, .nilFunc, .nilFunc, .nilFunc, .nilFunc] 77))) := Lib.hid (ba (ba0 w _) _)
  have HC : Hid (Blk ((w.alloc (.cells #[.int .i64 5, .int .i64 r, .int .i64 s, .int .i64 i, .int .i64 sz, .int .i64 pt, .int .u64 v] 31)).alloc (.cells #[.nilFunc, .nilFunc, .nilFunc, .nilFunc, .nilFunc, .nilFunc, .nilFunc, .nilFunc] 77)) w.heap.size [.int .i64 5, .int .i64 r, .int .i64 s, .int .i64 i, .int .i64 sz, .int .i64 pt, .int .u64 v] 31) := Lib.hid ((Blk.new w [.int .i64 5, .int .i64 r, .int .i64 s, .int .i64 i, .int .i64 sz, .int .i64 pt, .int .u64 v] 31).below (ba0 _ _))
  have HD : Hid (Blk ((w.alloc (.cells #[.int .i64 5, .int .i64 r, .int .i64 s, .int .i64 i, .int .i64 sz, .int .i64 pt, .int .u64 v] 31)).alloc (.cells #[.nilFunc, .nilFunc, .nilFunc, .nilFunc, .nilFunc, .nilFunc, .nilFunc, .nilFunc] 77)) (w.heap.size + 1) [.nilFunc, .nilFunc, .nilFunc, .nilFunc, .nilFunc, .nilFunc, .nilFunc, .nilFunc] 77) := Lib.hid (by
    have := Blk.new (w.alloc (.cells #[.int .i64 5, .int .i64 r, .int .i64 s, .int .i64 i, .int .i64 sz, .int .i64 pt, .int .u64 v] 31)) [.nilFunc, .nilFunc, .nilFunc, .nilFunc, .nilFunc, .nilFunc, .nilFunc, .nilFunc] 77
    rwa [World.size_alloc] at this)
  have HZ := Lib.hid (hz.below HB.out)
  have hZl := hz.lt
  have hmf : ∀ (fn : Fn) (first cap : Array Value) (w : World), (Instr.makeFunc fn first cap).run Try.prog w = .ok (.func fn first cap) w := fun _ _ _ _ => rfl
  have HR0 := Lib.hid hR
  have HT0 := Lib.hid hT
  clear hR hT
  clear hz
  go_enter Try.func24, Try.ntmps24
  go_upto_region 2 with (refine wp_store_but rfl 77 (.tmp 5) (.tmp 20) rfl (w.heap.size + 1) _ [.nilFunc, .func (.func 37) #[.pointer (some ⟨Z, 0, none⟩)] #[], .func (.func 38) #[.pointer (some ⟨Z, 0, none⟩)] #[], .func (.func 39) #[.pointer (some ⟨Z, 0, none⟩)] #[], .func (.func 40) #[.pointer (some ⟨Z, 0, none⟩)] #[], .func (.func 41) #[.pointer (some ⟨Z, 0, none⟩)] #[], .func (.func 42) #[.pointer (some ⟨Z, 0, none⟩)] #[], .func (.func 43) #[.pointer (some ⟨Z, 0, none⟩)] #[]] rfl rfl _ HD.out rfl (by kernel_rfl) (by simp [Value.oneCell']) ?_; intro V hz5 hf5 hb5; have HR := Lib.hid hz5; have HBV := Lib.hid (hb5 _ _ (by omega) HB.out); have HCV := Lib.hid (HC.out.but hf5 (by omega)); have HZV := Lib.hid (HZ.out.but hf5 (by omega)); clear hz5 hf5 hb5)
  clear HB HC HD HZ
  have k0 : V.cell? ⟨w.heap.size, 0, none⟩ = some (.int .i64 5) := HCV.out.cell rfl
  have z1 : ∀ x : GW V, x.w'.cell? ⟨Z, 1, none⟩ = some (.slice ra m rq) := fun x => (HZV.out.below x.h).cell rfl
  have a1 : ∀ x : GW V, x.w'.cell? ⟨w.heap.size, 1, none⟩ = some (.int .i64 r) := fun x => (HCV.out.below x.h).cell rfl
  have a2 : ∀ x : GW V, x.w'.cell? ⟨w.heap.size, 2, none⟩ = some (.int .i64 s) := fun x => (HCV.out.below x.h).cell rfl
  go_wp2_with fail
  cases T with
  | false =>
    refine wp_region_grow (by kernel_rfl) (by kernel_rfl) ?_
    repeat (go_big_quiet_step ((go_at_call 44; exact grow_same (gpWithinI s _ m rq false _ hm HT0.out))))
    refine wpQuiet_nil ?_
    first | rintro _ ⟨w4, rfl⟩ | intro w4
    go_wp2_with fail
    go_ret
    exact ⟨rfl, bt HBV.out w4.h⟩
  | true =>
    refine wp_region_grow (by kernel_rfl) (by kernel_rfl) ?_
    repeat (go_big_quiet_step ((go_at_call 44; exact grow_same (gpWithinI s _ m rq true _ hm HT0.out))))
    refine wpQuiet_nil ?_
    first | rintro _ ⟨w4, rfl⟩ | intro w4
    have kk : w4.w'.cell? ⟨w.heap.size, 0, none⟩ = some (.int .i64 5) := (HCV.out.below (w4.h)).cell rfl
    have rr : w4.w'.cell? ⟨w.heap.size + 1, 5, none⟩ = some (.func (.func 41) #[.pointer (some ⟨Z, 0, none⟩)] #[]) := (HR.out.below (w4.h)).cell rfl
    go_wp2_with fail
    go_ret
    exact ⟨rfl, bt HBV.out (w4.h)⟩

set_option maxRecDepth 100000 in
set_option maxHeartbeats 1000000 in
theorem gpChoose6 {S Z : Nat} {w : World} {na ra : Option Addr} {n cq m rq : Nat} (hz : Blk w Z [.slice na n cq, .slice ra m rq] 61) (hm : m ≤ 1000000) (r s i sz pt v : Int) (R T : Bool) (hR : decide (0 ≤ r ∧ r < (m : Int)) = R) (hT : decide (0 ≤ s ∧ s < (m : Int)) = T) :
    Calls Try.prog 24 #[.pointer (some ⟨Z, 0, none⟩), .agg #[.int .i64 6, .int .i64 r, .int .i64 s, .int .i64 i, .int .i64 sz, .int .i64 pt, .int .u64 v]] w fun e w' => e = .returned (.func (.func (bif (R && T) then 42 else 45)) #[.pointer (some ⟨Z, 0, none⟩)] #[]) ∧ Below w.heap.size w w' := by
  have HB : Hid (Below w.heap.size w ((w.alloc (.cells #[.int .i64 6, .int .i64 r, .int .i64 s, .int .i64 i, .int .i64 sz, .int .i64 pt, .int .u64 v] 31)).alloc (.cells #[.nilFunc, .nilFunc, .nilFunc, .nilFunc, .nilFunc, .nilFunc, .nilFunc, .nilFunc] 77))) := Lib.hid (ba (ba0 w _) _)
  have HC : Hid (Blk ((w.alloc (.cells #[.int .i64 6, .int .i64 r, .int .i64 s, .int .i64 i, .int .i64 sz, .int .i64 pt, .int .u64 v] 31)).alloc (.cells #[.nilFunc, .nilFunc, .nilFunc, .nilFunc, .nilFunc, .nilFunc, .nilFunc, .nilFunc] 77)) w.heap.size [.int .i64 6, .int .i64 r, .int .i64 s, .int .i64 i, .int .i64 sz, .int .i64 pt, .int .u64 v] 31) := Lib.hid ((Blk.new w [.int .i64 6, .int .i64 r, .int .i64 s, .int .i64 i, .int .i64 sz, .int .i64 pt, .int .u64 v] 31).below (ba0 _ _))
  have HD : Hid (Blk ((w.alloc (.cells #[.int .i64 6, .int .i64 r, .int .i64 s, .int .i64 i, .int .i64 sz, .int .i64 pt, .int .u64 v] 31)).alloc (.cells #[.nilFunc, .nilFunc, .nilFunc, .nilFunc, .nilFunc, .nilFunc, .nilFunc, .nilFunc] 77)) (w.heap.size + 1) [.nilFunc, .nilFunc, .nilFunc, .nilFunc, .nilFunc, .nilFunc, .nilFunc, .nilFunc] 77) := Lib.hid (by
    have := Blk.new (w.alloc (.cells #[.int .i64 6, .int .i64 r, .int .i64 s, .int .i64 i, .int .i64 sz, .int .i64 pt, .int .u64 v] 31)) [.nilFunc, .nilFunc, .nilFunc, .nilFunc, .nilFunc, .nilFunc, .nilFunc, .nilFunc] 77
    rwa [World.size_alloc] at this)
  have HZ := Lib.hid (hz.below HB.out)
  have hZl := hz.lt
  have hmf : ∀ (fn : Fn) (first cap : Array Value) (w : World), (Instr.makeFunc fn first cap).run Try.prog w = .ok (.func fn first cap) w := fun _ _ _ _ => rfl
  have HR0 := Lib.hid hR
  have HT0 := Lib.hid hT
  clear hR hT
  clear hz
  go_enter Try.func24, Try.ntmps24
  go_upto_region 2 with (refine wp_store_but rfl 77 (.tmp 5) (.tmp 20) rfl (w.heap.size + 1) _ [.nilFunc, .func (.func 37) #[.pointer (some ⟨Z, 0, none⟩)] #[], .func (.func 38) #[.pointer (some ⟨Z, 0, none⟩)] #[], .func (.func 39) #[.pointer (some ⟨Z, 0, none⟩)] #[], .func (.func 40) #[.pointer (some ⟨Z, 0, none⟩)] #[], .func (.func 41) #[.pointer (some ⟨Z, 0, none⟩)] #[], .func (.func 42) #[.pointer (some ⟨Z, 0, none⟩)] #[], .func (.func 43) #[.pointer (some ⟨Z, 0, none⟩)] #[]] rfl rfl _ HD.out rfl (by kernel_rfl) (by simp [Value.oneCell']) ?_; intro V hz5 hf5 hb5; have HR := Lib.hid hz5; have HBV := Lib.hid (hb5 _ _ (by omega) HB.out); have HCV := Lib.hid (HC.out.but hf5 (by omega)); have HZV := Lib.hid (HZ.out.but hf5 (by omega)); clear hz5 hf5 hb5)
  clear HB HC HD HZ
  have k0 : V.cell? ⟨w.heap.size, 0, none⟩ = some (.int .i64 6) := HCV.out.cell rfl
  have z1 : ∀ x : GW V, x.w'.cell? ⟨Z, 1, none⟩ = some (.slice ra m rq) := fun x => (HZV.out.below x.h).cell rfl
  have a1 : ∀ x : GW V, x.w'.cell? ⟨w.heap.size, 1, none⟩ = some (.int .i64 r) := fun x => (HCV.out.below x.h).cell rfl
  have a2 : ∀ x : GW V, x.w'.cell? ⟨w.heap.size, 2, none⟩ = some (.int .i64 s) := fun x => (HCV.out.below x.h).cell rfl
  go_wp2_with fail
  cases R with
  | false =>
    refine wp_region_grow (by kernel_rfl) (by kernel_rfl) ?_
    repeat (go_big_quiet_step ((go_at_call 44; exact grow_same (gpWithinI r _ m rq false _ hm HR0.out))))
    refine wpQuiet_nil ?_
    first | rintro _ ⟨w4, rfl⟩ | intro w4
    go_wp2_with fail
    go_ret
    exact ⟨rfl, bt HBV.out w4.h⟩
  | true =>
    refine wp_region_grow (by kernel_rfl) (by kernel_rfl) ?_
    repeat (go_big_quiet_step ((go_at_call 44; exact grow_same (gpWithinI r _ m rq true _ hm HR0.out))))
    refine wpQuiet_nil ?_
    first | rintro _ ⟨w4, rfl⟩ | intro w4
    have z1 : ∀ x : GW w4.w', x.w'.cell? ⟨Z, 1, none⟩ = some (.slice ra m rq) := fun x => (HZV.out.below (bt w4.h x.h)).cell rfl
    have a2 : ∀ x : GW w4.w', x.w'.cell? ⟨w.heap.size, 2, none⟩ = some (.int .i64 s) := fun x => (HCV.out.below (bt w4.h x.h)).cell rfl
    go_wp2_with fail
    cases T with
    | false =>
      refine wp_region_grow (by kernel_rfl) (by kernel_rfl) ?_
      repeat (go_big_quiet_step ((go_at_call 44; exact grow_same (gpWithinI s _ m rq false _ hm HT0.out))))
      refine wpQuiet_nil ?_
      first | rintro _ ⟨w5, rfl⟩ | intro w5
      go_wp2_with fail
      go_ret
      exact ⟨rfl, bt HBV.out (bt w4.h w5.h)⟩
    | true =>
      refine wp_region_grow (by kernel_rfl) (by kernel_rfl) ?_
      repeat (go_big_quiet_step ((go_at_call 44; exact grow_same (gpWithinI s _ m rq true _ hm HT0.out))))
      refine wpQuiet_nil ?_
      first | rintro _ ⟨w5, rfl⟩ | intro w5
      have kk : w5.w'.cell? ⟨w.heap.size, 0, none⟩ = some (.int .i64 6) := (HCV.out.below (bt w4.h w5.h)).cell rfl
      have rr : w5.w'.cell? ⟨w.heap.size + 1, 6, none⟩ = some (.func (.func 42) #[.pointer (some ⟨Z, 0, none⟩)] #[]) := (HR.out.below (bt w4.h w5.h)).cell rfl
      go_wp2_with fail
      go_ret
      exact ⟨rfl, bt HBV.out (bt w4.h w5.h)⟩

set_option maxRecDepth 100000 in
set_option maxHeartbeats 1000000 in
theorem gpChoose7 {S Z : Nat} {w : World} {na ra : Option Addr} {n cq m rq : Nat} (hz : Blk w Z [.slice na n cq, .slice ra m rq] 61) (hm : m ≤ 1000000) (r s i sz pt v : Int) (R T : Bool) (hR : decide (0 ≤ r ∧ r < (m : Int)) = R) (hT : decide (0 ≤ s ∧ s < (m : Int)) = T) :
    Calls Try.prog 24 #[.pointer (some ⟨Z, 0, none⟩), .agg #[.int .i64 7, .int .i64 r, .int .i64 s, .int .i64 i, .int .i64 sz, .int .i64 pt, .int .u64 v]] w fun e w' => e = .returned (.func (.func (bif R then 43 else 45)) #[.pointer (some ⟨Z, 0, none⟩)] #[]) ∧ Below w.heap.size w w' := by
  have HB : Hid (Below w.heap.size w ((w.alloc (.cells #[.int .i64 7, .int .i64 r, .int .i64 s, .int .i64 i, .int .i64 sz, .int .i64 pt, .int .u64 v] 31)).alloc (.cells #[.nilFunc, .nilFunc, .nilFunc, .nilFunc, .nilFunc, .nilFunc, .nilFunc, .nilFunc] 77))) := Lib.hid (ba (ba0 w _) _)
  have HC : Hid (Blk ((w.alloc (.cells #[.int .i64 7, .int .i64 r, .int .i64 s, .int .i64 i, .int .i64 sz, .int .i64 pt, .int .u64 v] 31)).alloc (.cells #[.nilFunc, .nilFunc, .nilFunc, .nilFunc, .nilFunc, .nilFunc, .nilFunc, .nilFunc] 77)) w.heap.size [.int .i64 7, .int .i64 r, .int .i64 s, .int .i64 i, .int .i64 sz, .int .i64 pt, .int .u64 v] 31) := Lib.hid ((Blk.new w [.int .i64 7, .int .i64 r, .int .i64 s, .int .i64 i, .int .i64 sz, .int .i64 pt, .int .u64 v] 31).below (ba0 _ _))
  have HD : Hid (Blk ((w.alloc (.cells #[.int .i64 7, .int .i64 r, .int .i64 s, .int .i64 i, .int .i64 sz, .int .i64 pt, .int .u64 v] 31)).alloc (.cells #[.nilFunc, .nilFunc, .nilFunc, .nilFunc, .nilFunc, .nilFunc, .nilFunc, .nilFunc] 77)) (w.heap.size + 1) [.nilFunc, .nilFunc, .nilFunc, .nilFunc, .nilFunc, .nilFunc, .nilFunc, .nilFunc] 77) := Lib.hid (by
    have := Blk.new (w.alloc (.cells #[.int .i64 7, .int .i64 r, .int .i64 s, .int .i64 i, .int .i64 sz, .int .i64 pt, .int .u64 v] 31)) [.nilFunc, .nilFunc, .nilFunc, .nilFunc, .nilFunc, .nilFunc, .nilFunc, .nilFunc] 77
    rwa [World.size_alloc] at this)
  have HZ := Lib.hid (hz.below HB.out)
  have hZl := hz.lt
  have hmf : ∀ (fn : Fn) (first cap : Array Value) (w : World), (Instr.makeFunc fn first cap).run Try.prog w = .ok (.func fn first cap) w := fun _ _ _ _ => rfl
  have HR0 := Lib.hid hR
  have HT0 := Lib.hid hT
  clear hR hT
  clear hz
  go_enter Try.func24, Try.ntmps24
  go_upto_region 2 with (refine wp_store_but rfl 77 (.tmp 5) (.tmp 20) rfl (w.heap.size + 1) _ [.nilFunc, .func (.func 37) #[.pointer (some ⟨Z, 0, none⟩)] #[], .func (.func 38) #[.pointer (some ⟨Z, 0, none⟩)] #[], .func (.func 39) #[.pointer (some ⟨Z, 0, none⟩)] #[], .func (.func 40) #[.pointer (some ⟨Z, 0, none⟩)] #[], .func (.func 41) #[.pointer (some ⟨Z, 0, none⟩)] #[], .func (.func 42) #[.pointer (some ⟨Z, 0, none⟩)] #[], .func (.func 43) #[.pointer (some ⟨Z, 0, none⟩)] #[]] rfl rfl _ HD.out rfl (by kernel_rfl) (by simp [Value.oneCell']) ?_; intro V hz5 hf5 hb5; have HR := Lib.hid hz5; have HBV := Lib.hid (hb5 _ _ (by omega) HB.out); have HCV := Lib.hid (HC.out.but hf5 (by omega)); have HZV := Lib.hid (HZ.out.but hf5 (by omega)); clear hz5 hf5 hb5)
  clear HB HC HD HZ
  have k0 : V.cell? ⟨w.heap.size, 0, none⟩ = some (.int .i64 7) := HCV.out.cell rfl
  have z1 : ∀ x : GW V, x.w'.cell? ⟨Z, 1, none⟩ = some (.slice ra m rq) := fun x => (HZV.out.below x.h).cell rfl
  have a1 : ∀ x : GW V, x.w'.cell? ⟨w.heap.size, 1, none⟩ = some (.int .i64 r) := fun x => (HCV.out.below x.h).cell rfl
  have a2 : ∀ x : GW V, x.w'.cell? ⟨w.heap.size, 2, none⟩ = some (.int .i64 s) := fun x => (HCV.out.below x.h).cell rfl
  go_wp2_with fail
  cases R with
  | false =>
    refine wp_region_grow (by kernel_rfl) (by kernel_rfl) ?_
    repeat (go_big_quiet_step ((go_at_call 44; exact grow_same (gpWithinI r _ m rq false _ hm HR0.out))))
    refine wpQuiet_nil ?_
    first | rintro _ ⟨w4, rfl⟩ | intro w4
    go_wp2_with fail
    go_ret
    exact ⟨rfl, bt HBV.out w4.h⟩
  | true =>
    refine wp_region_grow (by kernel_rfl) (by kernel_rfl) ?_
    repeat (go_big_quiet_step ((go_at_call 44; exact grow_same (gpWithinI r _ m rq true _ hm HR0.out))))
    refine wpQuiet_nil ?_
    first | rintro _ ⟨w4, rfl⟩ | intro w4
    have kk : w4.w'.cell? ⟨w.heap.size, 0, none⟩ = some (.int .i64 7) := (HCV.out.below (w4.h)).cell rfl
    have rr : w4.w'.cell? ⟨w.heap.size + 1, 7, none⟩ = some (.func (.func 43) #[.pointer (some ⟨Z, 0, none⟩)] #[]) := (HR.out.below (w4.h)).cell rfl
    go_wp2_with fail
    go_ret
    exact ⟨rfl, bt HBV.out (w4.h)⟩

set_option maxRecDepth 100000 in
set_option maxHeartbeats 1000000 in
theorem gpChooseNo {S Z : Nat} {w : World} {na ra : Option Addr} {n cq m rq : Nat} (hz : Blk w Z [.slice na n cq, .slice ra m rq] 61) (hm : m ≤ 1000000) (kd r s i sz pt v : Int) (d1 : (kd == 1) = false) (d2 : (kd == 2) = false) (d3 : (kd == 3) = false) (d4 : (kd == 4) = false) (d5 : (kd == 5) = false) (d6 : (kd == 6) = false) (d7 : (kd == 7) = false) :
    Calls Try.prog 24 #[.pointer (some ⟨Z, 0, none⟩), .agg #[.int .i64 kd, .int .i64 r, .int .i64 s, .int .i64 i, .int .i64 sz, .int .i64 pt, .int .u64 v]] w fun e w' => e = .returned (.func (.func 45) #[.pointer (some ⟨Z, 0, none⟩)] #[]) ∧ Below w.heap.size w w' := by
  have HB : Hid (Below w.heap.size w ((w.alloc (.cells #[.int .i64 kd, .int .i64 r, .int .i64 s, .int .i64 i, .int .i64 sz, .int .i64 pt, .int .u64 v] 31)).alloc (.cells #[.nilFunc, .nilFunc, .nilFunc, .nilFunc, .nilFunc, .nilFunc, .nilFunc, .nilFunc] 77))) := Lib.hid (ba (ba0 w _) _)
  have HC : Hid (Blk ((w.alloc (.cells #[.int .i64 kd, .int .i64 r, .int .i64 s, .int .i64 i, .int .i64 sz, .int .i64 pt, .int .u64 v] 31)).alloc (.cells #[.nilFunc, .nilFunc, .nilFunc, .nilFunc, .nilFunc, .nilFunc, .nilFunc, .nilFunc] 77)) w.heap.size [.int .i64 kd, .int .i64 r, .int .i64 s, .int .i64 i, .int .i64 sz, .int .i64 pt, .int .u64 v] 31) := Lib.hid ((Blk.new w [.int .i64 kd, .int .i64 r, .int .i64 s, .int .i64 i, .int .i64 sz, .int .i64 pt, .int .u64 v] 31).below (ba0 _ _))
  have HD : Hid (Blk ((w.alloc (.cells #[.int .i64 kd, .int .i64 r, .int .i64 s, .int .i64 i, .int .i64 sz, .int .i64 pt, .int .u64 v] 31)).alloc (.cells #[.nilFunc, .nilFunc, .nilFunc, .nilFunc, .nilFunc, .nilFunc, .nilFunc, .nilFunc] 77)) (w.heap.size + 1) [.nilFunc, .nilFunc, .nilFunc, .nilFunc, .nilFunc, .nilFunc, .nilFunc, .nilFunc] 77) := Lib.hid (by
    have := Blk.new (w.alloc (.cells #[.int .i64 kd, .int .i64 r, .int .i64 s, .int .i64 i, .int .i64 sz, .int .i64 pt, .int .u64 v] 31)) [.nilFunc, .nilFunc, .nilFunc, .nilFunc, .nilFunc, .nilFunc, .nilFunc, .nilFunc] 77
    rwa [World.size_alloc] at this)
  have HZ := Lib.hid (hz.below HB.out)
  have hZl := hz.lt
  have hmf : ∀ (fn : Fn) (first cap : Array Value) (w : World), (Instr.makeFunc fn first cap).run Try.prog w = .ok (.func fn first cap) w := fun _ _ _ _ => rfl
  clear hz
  go_enter Try.func24, Try.ntmps24
  go_upto_region 2 with (refine wp_store_but rfl 77 (.tmp 5) (.tmp 20) rfl (w.heap.size + 1) _ [.nilFunc, .func (.func 37) #[.pointer (some ⟨Z, 0, none⟩)] #[], .func (.func 38) #[.pointer (some ⟨Z, 0, none⟩)] #[], .func (.func 39) #[.pointer (some ⟨Z, 0, none⟩)] #[], .func (.func 40) #[.pointer (some ⟨Z, 0, none⟩)] #[], .func (.func 41) #[.pointer (some ⟨Z, 0, none⟩)] #[], .func (.func 42) #[.pointer (some ⟨Z, 0, none⟩)] #[], .func (.func 43) #[.pointer (some ⟨Z, 0, none⟩)] #[]] rfl rfl _ HD.out rfl (by kernel_rfl) (by simp [Value.oneCell']) ?_; intro V hz5 hf5 hb5; have HR := Lib.hid hz5; have HBV := Lib.hid (hb5 _ _ (by omega) HB.out); have HCV := Lib.hid (HC.out.but hf5 (by omega)); have HZV := Lib.hid (HZ.out.but hf5 (by omega)); clear hz5 hf5 hb5)
  clear HB HC HD HZ
  have k0 : V.cell? ⟨w.heap.size, 0, none⟩ = some (.int .i64 kd) := HCV.out.cell rfl
  have z1 : ∀ x : GW V, x.w'.cell? ⟨Z, 1, none⟩ = some (.slice ra m rq) := fun x => (HZV.out.below x.h).cell rfl
  have a1 : ∀ x : GW V, x.w'.cell? ⟨w.heap.size, 1, none⟩ = some (.int .i64 r) := fun x => (HCV.out.below x.h).cell rfl
  have a2 : ∀ x : GW V, x.w'.cell? ⟨w.heap.size, 2, none⟩ = some (.int .i64 s) := fun x => (HCV.out.below x.h).cell rfl
  go_wp2_with fail
  go_ret
  exact ⟨rfl, HBV.out⟩

end Go.Proofs.Ytjoacfjbdpmgpaa.V
