/-
  The document's own Do, walked, but for New.
-/
import Derived.Test.YtjoacfjbdpmgpaaGDo
set_option linter.unusedVariables false
namespace Go.Proofs.Ytjoacfjbdpmgpaa.V
open Go.RowKit

set_option maxRecDepth 100000 in
set_option maxHeartbeats 2000000 in
theorem gDoBadG {g : Gr} {na ra : Option Addr} {n nq m rq : Nat} {w : World} {P : Nat → Prop} (hA : GAt P w na n nq ra m rq g) (sm : gsm g) (kd r s : Int) (i sz pt : Int) (v : Nat) (hg : ¬ gright g) :
    Calls Try.prog 18 #[.agg #[.slice na n nq, .slice ra m rq], .agg #[.int .i64 kd, .int .i64 r, .int .i64 s, .int .i64 i, .int .i64 sz, .int .i64 pt, .int .u64 (v : Int)]] w (DoR P w 0 ⟨[], []⟩ 1) := by
  have HD := Lib.hid (decide_eq_false hg)
  clear hg
  have HA := Lib.hid hA
  obtain ⟨p1, p2, p3, p4, p5, p6, p7, p8, p9, p10⟩ := hA.parts
  have HSM := Lib.hid sm
  have hn1 : n ≤ 1000000 := by have := sm.1; omega
  have hm1 : m ≤ 1000000 := by have := sm.2.1; omega
  have HNL := Lib.hid p1
  have HML := Lib.hid p2
  clear hA sm p1 p2 p3 p8 p9 p10
  have HB := Lib.hid (ba (ba (ba0 w (.cells #[.slice na n nq, .slice ra m rq] 25)) (.cells #[.int .i64 kd, .int .i64 r, .int .i64 s, .int .i64 i, .int .i64 sz, .int .i64 pt, .int .u64 (v : Int)] 31)) (.cells #[.slice none 0 0, .slice none 0 0] 25))
  have HG : Hid (Blk (((w.alloc (.cells #[.slice na n nq, .slice ra m rq] 25)).alloc (.cells #[.int .i64 kd, .int .i64 r, .int .i64 s, .int .i64 i, .int .i64 sz, .int .i64 pt, .int .u64 (v : Int)] 31)).alloc (.cells #[.slice none 0 0, .slice none 0 0] 25)) w.heap.size [.slice na n nq, .slice ra m rq] 25) := Lib.hid (((Blk.new w [.slice na n nq, .slice ra m rq] 25).below (ba0 _ _)).below (ba0 _ _))
  have HC : Hid (Blk (((w.alloc (.cells #[.slice na n nq, .slice ra m rq] 25)).alloc (.cells #[.int .i64 kd, .int .i64 r, .int .i64 s, .int .i64 i, .int .i64 sz, .int .i64 pt, .int .u64 (v : Int)] 31)).alloc (.cells #[.slice none 0 0, .slice none 0 0] 25)) (w.heap.size + 1) [.int .i64 kd, .int .i64 r, .int .i64 s, .int .i64 i, .int .i64 sz, .int .i64 pt, .int .u64 (v : Int)] 31) := Lib.hid blk2
  have HZ : Hid (Blk (((w.alloc (.cells #[.slice na n nq, .slice ra m rq] 25)).alloc (.cells #[.int .i64 kd, .int .i64 r, .int .i64 s, .int .i64 i, .int .i64 sz, .int .i64 pt, .int .u64 (v : Int)] 31)).alloc (.cells #[.slice none 0 0, .slice none 0 0] 25)) (w.heap.size + 1 + 1) [.slice none 0 0, .slice none 0 0] 25) := Lib.hid blk3
  go_enter Try.func18, Try.ntmps18
  go_upto_region 1 with fail
  generalize ((w.alloc (.cells #[.slice na n nq, .slice ra m rq] 25)).alloc (.cells #[.int .i64 kd, .int .i64 r, .int .i64 s, .int .i64 i, .int .i64 sz, .int .i64 pt, .int .u64 (v : Int)] 31)).alloc (.cells #[.slice none 0 0, .slice none 0 0] 25) = V at HB HG HC HZ ⊢
  have hZl := HZ.out.lt
  have g0 : V.cell? ⟨w.heap.size, 0, none⟩ = some (.slice na n nq) := HG.out.cell rfl
  have g1 : V.cell? ⟨w.heap.size, 1, none⟩ = some (.slice ra m rq) := HG.out.cell rfl
  have HAV := Lib.hid (HA.out.below HB.out)
  go_wp2_with fail
  refine (gRightA HAV.out HSM.out false HD.out).mono ?_
  rintro e w1 ⟨rfl, hb1⟩
  have HG1 := Lib.hid (HG.out.below hb1)
  have HC1 := Lib.hid (HC.out.below hb1)
  have HZ1 := Lib.hid (HZ.out.below hb1)
  have HB1 := Lib.hid (bt HB.out hb1)
  clear hb1 g0 g1 HG HC HZ HAV
  go_wp2_with (refine wp_store_but rfl 25 (.tmp 5) (.tmp 20) rfl (w.heap.size + 1 + 1) _ [.slice none 0 0, .slice none 0 0] rfl rfl _ HZ1.out rfl (by kernel_rfl) (by simp [Value.oneCell']) ?_; intro w5 hz5 hf5 hb5; have HZ5 := Lib.hid hz5; have HB5 := Lib.hid (hb5 _ _ (by omega) HB1.out); clear hz5 hb5 hf5)
  refine bodyPost_ret (res_mid3 rfl _ _ _ (w.heap.size + 1 + 1) _ rfl (load_two HZ5.out)) rfl ?_
  exact ⟨none, 0, 0, none, 0, 0, rfl, GAt.nil _ _, HB5.out⟩
set_option maxRecDepth 100000 in
set_option maxHeartbeats 2000000 in
theorem gDoBadN {g : Gr} {na ra : Option Addr} {n nq m rq : Nat} {w : World} {P : Nat → Prop} (hA : GAt P w na n nq ra m rq g) (sm : gsm g) (kd r s : Int) (i sz pt : Int) (v : Nat) (hg : gright g) (hn : ¬ gnames g ⟨kd, r, s, i, sz, pt, v⟩) :
    Calls Try.prog 18 #[.agg #[.slice na n nq, .slice ra m rq], .agg #[.int .i64 kd, .int .i64 r, .int .i64 s, .int .i64 i, .int .i64 sz, .int .i64 pt, .int .u64 (v : Int)]] w (DoR P w 0 ⟨[], []⟩ 1) := by
  have HD := Lib.hid (decide_eq_true hg)
  have HN := Lib.hid (decide_eq_false hn)
  clear hg hn
  have HA := Lib.hid hA
  obtain ⟨p1, p2, p3, p4, p5, p6, p7, p8, p9, p10⟩ := hA.parts
  have HSM := Lib.hid sm
  have hn1 : n ≤ 1000000 := by have := sm.1; omega
  have hm1 : m ≤ 1000000 := by have := sm.2.1; omega
  have HNL := Lib.hid p1
  have HML := Lib.hid p2
  clear hA sm p1 p2 p3 p8 p9 p10
  have HB := Lib.hid (ba (ba (ba0 w (.cells #[.slice na n nq, .slice ra m rq] 25)) (.cells #[.int .i64 kd, .int .i64 r, .int .i64 s, .int .i64 i, .int .i64 sz, .int .i64 pt, .int .u64 (v : Int)] 31)) (.cells #[.slice none 0 0, .slice none 0 0] 25))
  have HG : Hid (Blk (((w.alloc (.cells #[.slice na n nq, .slice ra m rq] 25)).alloc (.cells #[.int .i64 kd, .int .i64 r, .int .i64 s, .int .i64 i, .int .i64 sz, .int .i64 pt, .int .u64 (v : Int)] 31)).alloc (.cells #[.slice none 0 0, .slice none 0 0] 25)) w.heap.size [.slice na n nq, .slice ra m rq] 25) := Lib.hid (((Blk.new w [.slice na n nq, .slice ra m rq] 25).below (ba0 _ _)).below (ba0 _ _))
  have HC : Hid (Blk (((w.alloc (.cells #[.slice na n nq, .slice ra m rq] 25)).alloc (.cells #[.int .i64 kd, .int .i64 r, .int .i64 s, .int .i64 i, .int .i64 sz, .int .i64 pt, .int .u64 (v : Int)] 31)).alloc (.cells #[.slice none 0 0, .slice none 0 0] 25)) (w.heap.size + 1) [.int .i64 kd, .int .i64 r, .int .i64 s, .int .i64 i, .int .i64 sz, .int .i64 pt, .int .u64 (v : Int)] 31) := Lib.hid blk2
  have HZ : Hid (Blk (((w.alloc (.cells #[.slice na n nq, .slice ra m rq] 25)).alloc (.cells #[.int .i64 kd, .int .i64 r, .int .i64 s, .int .i64 i, .int .i64 sz, .int .i64 pt, .int .u64 (v : Int)] 31)).alloc (.cells #[.slice none 0 0, .slice none 0 0] 25)) (w.heap.size + 1 + 1) [.slice none 0 0, .slice none 0 0] 25) := Lib.hid blk3
  go_enter Try.func18, Try.ntmps18
  go_upto_region 1 with fail
  generalize ((w.alloc (.cells #[.slice na n nq, .slice ra m rq] 25)).alloc (.cells #[.int .i64 kd, .int .i64 r, .int .i64 s, .int .i64 i, .int .i64 sz, .int .i64 pt, .int .u64 (v : Int)] 31)).alloc (.cells #[.slice none 0 0, .slice none 0 0] 25) = V at HB HG HC HZ ⊢
  have hZl := HZ.out.lt
  have g0 : V.cell? ⟨w.heap.size, 0, none⟩ = some (.slice na n nq) := HG.out.cell rfl
  have g1 : V.cell? ⟨w.heap.size, 1, none⟩ = some (.slice ra m rq) := HG.out.cell rfl
  have HAV := Lib.hid (HA.out.below HB.out)
  go_wp2_with fail
  refine (gRightA HAV.out HSM.out true HD.out).mono ?_
  rintro e w1 ⟨rfl, hb1⟩
  have HG1 := Lib.hid (HG.out.below hb1)
  have HC1 := Lib.hid (HC.out.below hb1)
  have HZ1 := Lib.hid (HZ.out.below hb1)
  have HB1 := Lib.hid (bt HB.out hb1)
  clear hb1 g0 g1 HG HC HZ HAV
  have g0 : w1.cell? ⟨w.heap.size, 0, none⟩ = some (.slice na n nq) := HG1.out.cell rfl
  have g1 : w1.cell? ⟨w.heap.size, 1, none⟩ = some (.slice ra m rq) := HG1.out.cell rfl
  have a0 : w1.cell? ⟨w.heap.size + 1, 0, none⟩ = some (.int .i64 kd) := HC1.out.cell rfl
  have a1 : w1.cell? ⟨w.heap.size + 1, 1, none⟩ = some (.int .i64 r) := HC1.out.cell rfl
  have a2 : w1.cell? ⟨w.heap.size + 1, 2, none⟩ = some (.int .i64 s) := HC1.out.cell rfl
  have a3 : w1.cell? ⟨w.heap.size + 1, 3, none⟩ = some (.int .i64 i) := HC1.out.cell rfl
  have a4 : w1.cell? ⟨w.heap.size + 1, 4, none⟩ = some (.int .i64 sz) := HC1.out.cell rfl
  have a5 : w1.cell? ⟨w.heap.size + 1, 5, none⟩ = some (.int .i64 pt) := HC1.out.cell rfl
  have a6 : w1.cell? ⟨w.heap.size + 1, 6, none⟩ = some (.int .u64 (v : Int)) := HC1.out.cell rfl
  go_wp2_with fail
  refine (gNamesA (g := g) na ra n nq m rq kd r s i sz pt v false _ HML.out hm1 HN.out).mono ?_
  rintro e w2 ⟨rfl, hb2⟩
  have HG2 := Lib.hid (HG1.out.below hb2)
  have HC2 := Lib.hid (HC1.out.below hb2)
  have HZ2 := Lib.hid (HZ1.out.below hb2)
  have HB2 := Lib.hid (bt HB1.out hb2)
  clear hb2 g0 g1 a0 a1 a2 a3 a4 a5 a6 HG1 HC1 HZ1 HB1
  go_wp2_with (refine wp_store_but rfl 25 (.tmp 5) (.tmp 20) rfl (w.heap.size + 1 + 1) _ [.slice none 0 0, .slice none 0 0] rfl rfl _ HZ2.out rfl (by kernel_rfl) (by simp [Value.oneCell']) ?_; intro w5 hz5 hf5 hb5; have HZ5 := Lib.hid hz5; have HB5 := Lib.hid (hb5 _ _ (by omega) HB2.out); clear hz5 hb5 hf5)
  refine bodyPost_ret (res_mid3 rfl _ _ _ (w.heap.size + 1 + 1) _ rfl (load_two HZ5.out)) rfl ?_
  exact ⟨none, 0, 0, none, 0, 0, rfl, GAt.nil _ _, HB5.out⟩
set_option maxRecDepth 100000 in
set_option maxHeartbeats 2000000 in
theorem gDoSlot {g : Gr} {na ra : Option Addr} {n nq m rq : Nat} {w : World} {P : Nat → Prop} (hA : GAt P w na n nq ra m rq g) (sm : gsm g) (kd r s : Int) (i sz pt : Int) (v : Nat) (hv : v < 2 ^ 64) (hg : gright g) (hn : gnames g ⟨kd, r, s, i, sz, pt, v⟩) (hk : kd = 2 ∨ kd = 3 ∨ kd = 4 ∨ kd = 5) (V' : Nat) (X : Gr) (E : Int) (hd : gslot g ⟨kd, r, s, i, sz, pt, v⟩ = (V', X, E)) :
    Calls Try.prog 18 #[.agg #[.slice na n nq, .slice ra m rq], .agg #[.int .i64 kd, .int .i64 r, .int .i64 s, .int .i64 i, .int .i64 sz, .int .i64 pt, .int .u64 (v : Int)]] w (DoR P w V' X E) := by
  have HD := Lib.hid (decide_eq_true hg)
  have HN := Lib.hid (decide_eq_true hn)
  have HH := Lib.hid hg
  have HNM := Lib.hid hn
  have HK := Lib.hid hk
  have HDO := Lib.hid hd
  have e1 : (kd == 1) = false := by simp; omega
  have e6 : (kd == 6) = false := by simp; omega
  have e7 : (kd == 7) = false := by simp; omega
  clear hg hn hk hd
  have HA := Lib.hid hA
  obtain ⟨p1, p2, p3, p4, p5, p6, p7, p8, p9, p10⟩ := hA.parts
  have HSM := Lib.hid sm
  have hn1 : n ≤ 1000000 := by have := sm.1; omega
  have hm1 : m ≤ 1000000 := by have := sm.2.1; omega
  have HNL := Lib.hid p1
  have HML := Lib.hid p2
  clear hA sm p1 p2 p3 p8 p9 p10
  have HB := Lib.hid (ba (ba (ba0 w (.cells #[.slice na n nq, .slice ra m rq] 25)) (.cells #[.int .i64 kd, .int .i64 r, .int .i64 s, .int .i64 i, .int .i64 sz, .int .i64 pt, .int .u64 (v : Int)] 31)) (.cells #[.slice none 0 0, .slice none 0 0] 25))
  have HG : Hid (Blk (((w.alloc (.cells #[.slice na n nq, .slice ra m rq] 25)).alloc (.cells #[.int .i64 kd, .int .i64 r, .int .i64 s, .int .i64 i, .int .i64 sz, .int .i64 pt, .int .u64 (v : Int)] 31)).alloc (.cells #[.slice none 0 0, .slice none 0 0] 25)) w.heap.size [.slice na n nq, .slice ra m rq] 25) := Lib.hid (((Blk.new w [.slice na n nq, .slice ra m rq] 25).below (ba0 _ _)).below (ba0 _ _))
  have HC : Hid (Blk (((w.alloc (.cells #[.slice na n nq, .slice ra m rq] 25)).alloc (.cells #[.int .i64 kd, .int .i64 r, .int .i64 s, .int .i64 i, .int .i64 sz, .int .i64 pt, .int .u64 (v : Int)] 31)).alloc (.cells #[.slice none 0 0, .slice none 0 0] 25)) (w.heap.size + 1) [.int .i64 kd, .int .i64 r, .int .i64 s, .int .i64 i, .int .i64 sz, .int .i64 pt, .int .u64 (v : Int)] 31) := Lib.hid blk2
  have HZ : Hid (Blk (((w.alloc (.cells #[.slice na n nq, .slice ra m rq] 25)).alloc (.cells #[.int .i64 kd, .int .i64 r, .int .i64 s, .int .i64 i, .int .i64 sz, .int .i64 pt, .int .u64 (v : Int)] 31)).alloc (.cells #[.slice none 0 0, .slice none 0 0] 25)) (w.heap.size + 1 + 1) [.slice none 0 0, .slice none 0 0] 25) := Lib.hid blk3
  go_enter Try.func18, Try.ntmps18
  go_upto_region 1 with fail
  generalize ((w.alloc (.cells #[.slice na n nq, .slice ra m rq] 25)).alloc (.cells #[.int .i64 kd, .int .i64 r, .int .i64 s, .int .i64 i, .int .i64 sz, .int .i64 pt, .int .u64 (v : Int)] 31)).alloc (.cells #[.slice none 0 0, .slice none 0 0] 25) = V at HB HG HC HZ ⊢
  have hZl := HZ.out.lt
  have g0 : V.cell? ⟨w.heap.size, 0, none⟩ = some (.slice na n nq) := HG.out.cell rfl
  have g1 : V.cell? ⟨w.heap.size, 1, none⟩ = some (.slice ra m rq) := HG.out.cell rfl
  have HAV := Lib.hid (HA.out.below HB.out)
  go_wp2_with fail
  refine (gRightA HAV.out HSM.out true HD.out).mono ?_
  rintro e w1 ⟨rfl, hb1⟩
  have HG1 := Lib.hid (HG.out.below hb1)
  have HC1 := Lib.hid (HC.out.below hb1)
  have HZ1 := Lib.hid (HZ.out.below hb1)
  have HB1 := Lib.hid (bt HB.out hb1)
  clear hb1 g0 g1 HG HC HZ HAV
  have g0 : w1.cell? ⟨w.heap.size, 0, none⟩ = some (.slice na n nq) := HG1.out.cell rfl
  have g1 : w1.cell? ⟨w.heap.size, 1, none⟩ = some (.slice ra m rq) := HG1.out.cell rfl
  have a0 : w1.cell? ⟨w.heap.size + 1, 0, none⟩ = some (.int .i64 kd) := HC1.out.cell rfl
  have a1 : w1.cell? ⟨w.heap.size + 1, 1, none⟩ = some (.int .i64 r) := HC1.out.cell rfl
  have a2 : w1.cell? ⟨w.heap.size + 1, 2, none⟩ = some (.int .i64 s) := HC1.out.cell rfl
  have a3 : w1.cell? ⟨w.heap.size + 1, 3, none⟩ = some (.int .i64 i) := HC1.out.cell rfl
  have a4 : w1.cell? ⟨w.heap.size + 1, 4, none⟩ = some (.int .i64 sz) := HC1.out.cell rfl
  have a5 : w1.cell? ⟨w.heap.size + 1, 5, none⟩ = some (.int .i64 pt) := HC1.out.cell rfl
  have a6 : w1.cell? ⟨w.heap.size + 1, 6, none⟩ = some (.int .u64 (v : Int)) := HC1.out.cell rfl
  go_wp2_with fail
  refine (gNamesA (g := g) na ra n nq m rq kd r s i sz pt v true _ HML.out hm1 HN.out).mono ?_
  rintro e w2 ⟨rfl, hb2⟩
  have HG2 := Lib.hid (HG1.out.below hb2)
  have HC2 := Lib.hid (HC1.out.below hb2)
  have HZ2 := Lib.hid (HZ1.out.below hb2)
  have HB2 := Lib.hid (bt HB1.out hb2)
  clear hb2 g0 g1 a0 a1 a2 a3 a4 a5 a6 HG1 HC1 HZ1 HB1
  have g0 : w2.cell? ⟨w.heap.size, 0, none⟩ = some (.slice na n nq) := HG2.out.cell rfl
  have g1 : w2.cell? ⟨w.heap.size, 1, none⟩ = some (.slice ra m rq) := HG2.out.cell rfl
  have a0 : w2.cell? ⟨w.heap.size + 1, 0, none⟩ = some (.int .i64 kd) := HC2.out.cell rfl
  have a1 : w2.cell? ⟨w.heap.size + 1, 1, none⟩ = some (.int .i64 r) := HC2.out.cell rfl
  have a2 : w2.cell? ⟨w.heap.size + 1, 2, none⟩ = some (.int .i64 s) := HC2.out.cell rfl
  have a3 : w2.cell? ⟨w.heap.size + 1, 3, none⟩ = some (.int .i64 i) := HC2.out.cell rfl
  have a4 : w2.cell? ⟨w.heap.size + 1, 4, none⟩ = some (.int .i64 sz) := HC2.out.cell rfl
  have a5 : w2.cell? ⟨w.heap.size + 1, 5, none⟩ = some (.int .i64 pt) := HC2.out.cell rfl
  have a6 : w2.cell? ⟨w.heap.size + 1, 6, none⟩ = some (.int .u64 (v : Int)) := HC2.out.cell rfl
  have HA2 := Lib.hid (HA.out.both.below HB2.out)
  have hs2 := HB2.out.size
  have hZl2 := HZ2.out.lt
  go_wp2_with fail
  refine (gSlot HA2.out HH.out hn1 kd r s i sz pt v hv HK.out HNM.out V' X E HDO.out).mono ?_
  rintro e w9 ⟨na9, n9, nq9, ra9, m9, rq9, rfl, hA9, hb9⟩
  have HZ9 := Lib.hid (HZ2.out.below hb9)
  have HB9 := Lib.hid (bt HB2.out hb9)
  have HA9 := Lib.hid hA9
  clear hA9 hb9 g0 g1 a0 a1 a2 a3 a4 a5 a6
  go_wp2_with (refine wp_store_but rfl 25 (.tmp 5) (.tmp 70) rfl (w.heap.size + 1 + 1) _ [.slice na9 n9 nq9, .slice ra9 m9 rq9] rfl rfl _ HZ9.out rfl (by kernel_rfl) (by simp [Value.oneCell']) ?_; intro w5 hz5 hf5 hb5; have HZ5 := Lib.hid hz5; have HB5 := Lib.hid (hb5 _ _ (by omega) HB9.out); have HF5 := Lib.hid hf5; clear hz5 hb5 hf5)
  refine bodyPost_ret (res_mid3 rfl _ _ _ (w.heap.size + 1 + 1) _ rfl (load_two HZ5.out)) rfl ?_
  refine ⟨_, _, _, _, _, _, rfl, ?_, HB5.out⟩
  exact (HA9.out.but (Z := w.heap.size + 1 + 1) (fun b hb => by
    rcases hb with ⟨_, hb⟩ | hb <;> omega) HF5.out).imp (fun b hb => by
    rcases hb with ⟨hb, _⟩ | hb
    · exact Or.inl hb
    · exact Or.inr (by omega))
set_option maxRecDepth 100000 in
set_option maxHeartbeats 2000000 in
theorem gDoAssign {g : Gr} {na ra : Option Addr} {n nq m rq : Nat} {w : World} {P : Nat → Prop} (hA : GAt P w na n nq ra m rq g) (sm : gsm g) (r s : Nat) (i sz pt : Int) (v : Nat) (hg : gright g) (hr : r < g.roots.length) (hs : s < g.roots.length) :
    Calls Try.prog 18 #[.agg #[.slice na n nq, .slice ra m rq], .agg #[.int .i64 6, .int .i64 (r : Int), .int .i64 (s : Int), .int .i64 i, .int .i64 sz, .int .i64 pt, .int .u64 (v : Int)]] w (DoR P w 0 (grooted g (r : Int) (gat g (s : Int))) 0) := by
  have HD := Lib.hid (decide_eq_true hg)
  have HN := Lib.hid (show decide (gnames g ⟨6, r, s, i, sz, pt, v⟩) = true from decide_eq_true (Or.inr (Or.inr ⟨Or.inr (Or.inr rfl), ⟨by simp, by simp only; omega⟩, ⟨by simp, by simp only; omega⟩⟩)))
  have hm16 : m ≤ 16 := by have := hg.1; have := hA.parts.2.1; omega
  obtain ⟨y, hys⟩ : ∃ y, g.roots[s]? = some y := ⟨_, List.getElem?_eq_getElem hs⟩
  have hgy : gat g (s : Int) = y := by unfold gat; rw [Int.toNat_natCast, List.getD, hys]; rfl
  have hyb : ib y := hA.parts.2.2.2.2.2.2.2.2.2 y (by obtain ⟨hk, rfl⟩ := List.getElem?_eq_some_iff.1 hys; exact List.getElem_mem hk)
  rw [hgy]
  obtain ⟨b7, o7, he7, hb7, hc7⟩ := in_cells hA.parts.2.2.1 hys
  have HE7 := Lib.hid he7
  have HC7 := Lib.hid hc7
  rw [hA.parts.2.1] at hr hs
  clear hg hgy he7 hc7 hys
  have HA := Lib.hid hA
  obtain ⟨p1, p2, p3, p4, p5, p6, p7, p8, p9, p10⟩ := hA.parts
  have HSM := Lib.hid sm
  have hn1 : n ≤ 1000000 := by have := sm.1; omega
  have hm1 : m ≤ 1000000 := by have := sm.2.1; omega
  have HNL := Lib.hid p1
  have HML := Lib.hid p2
  clear hA sm p1 p2 p3 p8 p9 p10
  have HB := Lib.hid (ba (ba (ba0 w (.cells #[.slice na n nq, .slice ra m rq] 25)) (.cells #[.int .i64 6, .int .i64 (r : Int), .int .i64 (s : Int), .int .i64 i, .int .i64 sz, .int .i64 pt, .int .u64 (v : Int)] 31)) (.cells #[.slice none 0 0, .slice none 0 0] 25))
  have HG : Hid (Blk (((w.alloc (.cells #[.slice na n nq, .slice ra m rq] 25)).alloc (.cells #[.int .i64 6, .int .i64 (r : Int), .int .i64 (s : Int), .int .i64 i, .int .i64 sz, .int .i64 pt, .int .u64 (v : Int)] 31)).alloc (.cells #[.slice none 0 0, .slice none 0 0] 25)) w.heap.size [.slice na n nq, .slice ra m rq] 25) := Lib.hid (((Blk.new w [.slice na n nq, .slice ra m rq] 25).below (ba0 _ _)).below (ba0 _ _))
  have HC : Hid (Blk (((w.alloc (.cells #[.slice na n nq, .slice ra m rq] 25)).alloc (.cells #[.int .i64 6, .int .i64 (r : Int), .int .i64 (s : Int), .int .i64 i, .int .i64 sz, .int .i64 pt, .int .u64 (v : Int)] 31)).alloc (.cells #[.slice none 0 0, .slice none 0 0] 25)) (w.heap.size + 1) [.int .i64 6, .int .i64 (r : Int), .int .i64 (s : Int), .int .i64 i, .int .i64 sz, .int .i64 pt, .int .u64 (v : Int)] 31) := Lib.hid blk2
  have HZ : Hid (Blk (((w.alloc (.cells #[.slice na n nq, .slice ra m rq] 25)).alloc (.cells #[.int .i64 6, .int .i64 (r : Int), .int .i64 (s : Int), .int .i64 i, .int .i64 sz, .int .i64 pt, .int .u64 (v : Int)] 31)).alloc (.cells #[.slice none 0 0, .slice none 0 0] 25)) (w.heap.size + 1 + 1) [.slice none 0 0, .slice none 0 0] 25) := Lib.hid blk3
  go_enter Try.func18, Try.ntmps18
  go_upto_region 1 with fail
  generalize ((w.alloc (.cells #[.slice na n nq, .slice ra m rq] 25)).alloc (.cells #[.int .i64 6, .int .i64 (r : Int), .int .i64 (s : Int), .int .i64 i, .int .i64 sz, .int .i64 pt, .int .u64 (v : Int)] 31)).alloc (.cells #[.slice none 0 0, .slice none 0 0] 25) = V at HB HG HC HZ ⊢
  have hZl := HZ.out.lt
  have g0 : V.cell? ⟨w.heap.size, 0, none⟩ = some (.slice na n nq) := HG.out.cell rfl
  have g1 : V.cell? ⟨w.heap.size, 1, none⟩ = some (.slice ra m rq) := HG.out.cell rfl
  have HAV := Lib.hid (HA.out.below HB.out)
  go_wp2_with fail
  refine (gRightA HAV.out HSM.out true HD.out).mono ?_
  rintro e w1 ⟨rfl, hb1⟩
  have HG1 := Lib.hid (HG.out.below hb1)
  have HC1 := Lib.hid (HC.out.below hb1)
  have HZ1 := Lib.hid (HZ.out.below hb1)
  have HB1 := Lib.hid (bt HB.out hb1)
  clear hb1 g0 g1 HG HC HZ HAV
  have g0 : w1.cell? ⟨w.heap.size, 0, none⟩ = some (.slice na n nq) := HG1.out.cell rfl
  have g1 : w1.cell? ⟨w.heap.size, 1, none⟩ = some (.slice ra m rq) := HG1.out.cell rfl
  have a0 : w1.cell? ⟨w.heap.size + 1, 0, none⟩ = some (.int .i64 6) := HC1.out.cell rfl
  have a1 : w1.cell? ⟨w.heap.size + 1, 1, none⟩ = some (.int .i64 r) := HC1.out.cell rfl
  have a2 : w1.cell? ⟨w.heap.size + 1, 2, none⟩ = some (.int .i64 s) := HC1.out.cell rfl
  have a3 : w1.cell? ⟨w.heap.size + 1, 3, none⟩ = some (.int .i64 i) := HC1.out.cell rfl
  have a4 : w1.cell? ⟨w.heap.size + 1, 4, none⟩ = some (.int .i64 sz) := HC1.out.cell rfl
  have a5 : w1.cell? ⟨w.heap.size + 1, 5, none⟩ = some (.int .i64 pt) := HC1.out.cell rfl
  have a6 : w1.cell? ⟨w.heap.size + 1, 6, none⟩ = some (.int .u64 (v : Int)) := HC1.out.cell rfl
  go_wp2_with fail
  refine (gNamesA (g := g) na ra n nq m rq 6 r s i sz pt v true _ HML.out hm1 HN.out).mono ?_
  rintro e w2 ⟨rfl, hb2⟩
  have HG2 := Lib.hid (HG1.out.below hb2)
  have HC2 := Lib.hid (HC1.out.below hb2)
  have HZ2 := Lib.hid (HZ1.out.below hb2)
  have HB2 := Lib.hid (bt HB1.out hb2)
  clear hb2 g0 g1 a0 a1 a2 a3 a4 a5 a6 HG1 HC1 HZ1 HB1
  have g0 : w2.cell? ⟨w.heap.size, 0, none⟩ = some (.slice na n nq) := HG2.out.cell rfl
  have g1 : w2.cell? ⟨w.heap.size, 1, none⟩ = some (.slice ra m rq) := HG2.out.cell rfl
  have a0 : w2.cell? ⟨w.heap.size + 1, 0, none⟩ = some (.int .i64 6) := HC2.out.cell rfl
  have a1 : w2.cell? ⟨w.heap.size + 1, 1, none⟩ = some (.int .i64 (r : Int)) := HC2.out.cell rfl
  have a2 : w2.cell? ⟨w.heap.size + 1, 2, none⟩ = some (.int .i64 (s : Int)) := HC2.out.cell rfl
  have a3 : w2.cell? ⟨w.heap.size + 1, 3, none⟩ = some (.int .i64 i) := HC2.out.cell rfl
  have a4 : w2.cell? ⟨w.heap.size + 1, 4, none⟩ = some (.int .i64 sz) := HC2.out.cell rfl
  have a5 : w2.cell? ⟨w.heap.size + 1, 5, none⟩ = some (.int .i64 pt) := HC2.out.cell rfl
  have a6 : w2.cell? ⟨w.heap.size + 1, 6, none⟩ = some (.int .u64 (v : Int)) := HC2.out.cell rfl
  have HA2 := Lib.hid (HA.out.both.below HB2.out)
  have hs2 := HB2.out.size
  have hZl2 := HZ2.out.lt
  obtain rfl := HE7.out
  have hri : (r : Int) < (m : Int) := by omega
  have hsi : (s : Int) < (m : Int) := by omega
  have HY := Lib.hid (cellS HB2.out hb7 HC7.out)
  have hkeep : Hid (∀ w', But (w.heap.size + 1 + 1) w2 w' → w'.cell? ⟨w.heap.size, 0, none⟩ = some (.slice na n nq) ∧ w'.cell? ⟨w.heap.size, 1, none⟩ = some (.slice (some ⟨b7, o7, none⟩) m rq) ∧ w'.cell? ⟨w.heap.size + 1, 1, none⟩ = some (.int .i64 (r : Int)) ∧ w'.cell? ⟨w.heap.size + 1, 2, none⟩ = some (.int .i64 (s : Int)) ∧ w'.cell? ⟨b7, o7 + s, none⟩ = some (.int .i64 y)) := Lib.hid fun w' hk => ⟨(HG2.out.but hk (by omega)).cell rfl, (HG2.out.but hk (by omega)).cell rfl, (HC2.out.but hk (by omega)).cell rfl, (HC2.out.but hk (by omega)).cell rfl, hk.cell (by omega) (by omega) HY.out⟩
  go_upto_region 13 with fail
  clear g0 g1 a0 a1 a2 a3 a4 a5 a6
  go_region_held3 (fun w' => w'.cell? ⟨w.heap.size, 0, none⟩ = some (.slice na n nq) ∧ w'.cell? ⟨w.heap.size, 1, none⟩ = some (.slice (some ⟨b7, o7, none⟩) m rq) ∧ w'.cell? ⟨w.heap.size + 1, 1, none⟩ = some (.int .i64 (r : Int)) ∧ w'.cell? ⟨w.heap.size + 1, 2, none⟩ = some (.int .i64 (s : Int)) ∧ w'.cell? ⟨b7, o7 + s, none⟩ = some (.int .i64 y)) (exact hkeep.out _ (by first | exact (But.refl _ w2).drew | exact But.refl _ w2 | exact (But.refl _ w2).drew.below hb9 | exact (((But.refl _ w2).drew.below hb9).set _ _).set _ _)) ((first
    | (go_at_call 27; refine (gRooted (HA2.out.below (Below.refl _ w2).drew) hm1 r y hr hyb).mono ?_; rintro e w9 ⟨ra9, rq9, rfl, hA9, hb9⟩; obtain ⟨q0, q1, f0, f1⟩ := blk_two (HZ2.out.below (bt (Below.refl _ w2).drew hb9)))))
  have hfin : But (w.heap.size + 1 + 1) w9 ((w9.setCell ⟨w.heap.size + 1 + 1, 0, none⟩ (.slice na n nq)).setCell ⟨w.heap.size + 1 + 1, 1, none⟩ (.slice ra9 m rq9)) := ((But.refl _ w9).set _ _).set _ _
  have HZ5 := Lib.hid (show Blk ((w9.setCell ⟨w.heap.size + 1 + 1, 0, none⟩ (.slice na n nq)).setCell ⟨w.heap.size + 1 + 1, 1, none⟩ (.slice ra9 m rq9)) (w.heap.size + 1 + 1) [.slice na n nq, .slice ra9 m rq9] 25 from blk_set (blk_set (HZ2.out.below (bt (Below.refl _ w2).drew hb9)) 0 (.slice na n nq)) 1 (.slice ra9 m rq9))
  have HB5 := Lib.hid (((bt HB2.out (bt (Below.refl _ w2).drew hb9)).setCell (p := ⟨w.heap.size + 1 + 1, 0, none⟩) (by show w.heap.size ≤ w.heap.size + 1 + 1; omega) (.slice na n nq)).setCell (p := ⟨w.heap.size + 1 + 1, 1, none⟩) (by show w.heap.size ≤ w.heap.size + 1 + 1; omega) (.slice ra9 m rq9))
  have HF5 := Lib.hid hfin
  have HA9 := Lib.hid (show GAt (fun b => (P b ∧ b < w.heap.size) ∨ w2.heap.size ≤ b) w9 na n nq ra9 m rq9 (grooted g r y) from hA9)
  clear hfin
  generalize (w9.setCell ⟨w.heap.size + 1 + 1, 0, none⟩ (.slice na n nq)).setCell ⟨w.heap.size + 1 + 1, 1, none⟩ (.slice ra9 m rq9) = w5 at HZ5 HB5 HF5 ⊢
  go_wp2_with fail
  refine bodyPost_ret (res_mid3 rfl _ _ _ (w.heap.size + 1 + 1) _ rfl (load_two HZ5.out)) rfl ?_
  refine ⟨_, _, _, _, _, _, rfl, ?_, HB5.out⟩
  exact (HA9.out.but (Z := w.heap.size + 1 + 1) (fun b hb => by
    rcases hb with ⟨_, hb⟩ | hb <;> omega) HF5.out).imp (fun b hb => by
    rcases hb with ⟨hb, _⟩ | hb
    · exact Or.inl hb
    · exact Or.inr (by omega))
set_option maxRecDepth 100000 in
set_option maxHeartbeats 2000000 in
theorem gDoDrop {g : Gr} {na ra : Option Addr} {n nq m rq : Nat} {w : World} {P : Nat → Prop} (hA : GAt P w na n nq ra m rq g) (sm : gsm g) (r : Nat) (s : Int) (i sz pt : Int) (v : Nat) (hg : gright g) (hr : r < g.roots.length) :
    Calls Try.prog 18 #[.agg #[.slice na n nq, .slice ra m rq], .agg #[.int .i64 7, .int .i64 (r : Int), .int .i64 s, .int .i64 i, .int .i64 sz, .int .i64 pt, .int .u64 (v : Int)]] w (DoR P w 0 (grooted g (r : Int) (-1)) 0) := by
  have HD := Lib.hid (decide_eq_true hg)
  have HN := Lib.hid (show decide (gnames g ⟨7, r, s, i, sz, pt, v⟩) = true from decide_eq_true (Or.inl ⟨Or.inr rfl, ⟨by simp, by simp only; omega⟩⟩))
  rw [hA.parts.2.1] at hr
  clear hg
  have HA := Lib.hid hA
  obtain ⟨p1, p2, p3, p4, p5, p6, p7, p8, p9, p10⟩ := hA.parts
  have HSM := Lib.hid sm
  have hn1 : n ≤ 1000000 := by have := sm.1; omega
  have hm1 : m ≤ 1000000 := by have := sm.2.1; omega
  have HNL := Lib.hid p1
  have HML := Lib.hid p2
  clear hA sm p1 p2 p3 p8 p9 p10
  have HB := Lib.hid (ba (ba (ba0 w (.cells #[.slice na n nq, .slice ra m rq] 25)) (.cells #[.int .i64 7, .int .i64 (r : Int), .int .i64 s, .int .i64 i, .int .i64 sz, .int .i64 pt, .int .u64 (v : Int)] 31)) (.cells #[.slice none 0 0, .slice none 0 0] 25))
  have HG : Hid (Blk (((w.alloc (.cells #[.slice na n nq, .slice ra m rq] 25)).alloc (.cells #[.int .i64 7, .int .i64 (r : Int), .int .i64 s, .int .i64 i, .int .i64 sz, .int .i64 pt, .int .u64 (v : Int)] 31)).alloc (.cells #[.slice none 0 0, .slice none 0 0] 25)) w.heap.size [.slice na n nq, .slice ra m rq] 25) := Lib.hid (((Blk.new w [.slice na n nq, .slice ra m rq] 25).below (ba0 _ _)).below (ba0 _ _))
  have HC : Hid (Blk (((w.alloc (.cells #[.slice na n nq, .slice ra m rq] 25)).alloc (.cells #[.int .i64 7, .int .i64 (r : Int), .int .i64 s, .int .i64 i, .int .i64 sz, .int .i64 pt, .int .u64 (v : Int)] 31)).alloc (.cells #[.slice none 0 0, .slice none 0 0] 25)) (w.heap.size + 1) [.int .i64 7, .int .i64 (r : Int), .int .i64 s, .int .i64 i, .int .i64 sz, .int .i64 pt, .int .u64 (v : Int)] 31) := Lib.hid blk2
  have HZ : Hid (Blk (((w.alloc (.cells #[.slice na n nq, .slice ra m rq] 25)).alloc (.cells #[.int .i64 7, .int .i64 (r : Int), .int .i64 s, .int .i64 i, .int .i64 sz, .int .i64 pt, .int .u64 (v : Int)] 31)).alloc (.cells #[.slice none 0 0, .slice none 0 0] 25)) (w.heap.size + 1 + 1) [.slice none 0 0, .slice none 0 0] 25) := Lib.hid blk3
  go_enter Try.func18, Try.ntmps18
  go_upto_region 1 with fail
  generalize ((w.alloc (.cells #[.slice na n nq, .slice ra m rq] 25)).alloc (.cells #[.int .i64 7, .int .i64 (r : Int), .int .i64 s, .int .i64 i, .int .i64 sz, .int .i64 pt, .int .u64 (v : Int)] 31)).alloc (.cells #[.slice none 0 0, .slice none 0 0] 25) = V at HB HG HC HZ ⊢
  have hZl := HZ.out.lt
  have g0 : V.cell? ⟨w.heap.size, 0, none⟩ = some (.slice na n nq) := HG.out.cell rfl
  have g1 : V.cell? ⟨w.heap.size, 1, none⟩ = some (.slice ra m rq) := HG.out.cell rfl
  have HAV := Lib.hid (HA.out.below HB.out)
  go_wp2_with fail
  refine (gRightA HAV.out HSM.out true HD.out).mono ?_
  rintro e w1 ⟨rfl, hb1⟩
  have HG1 := Lib.hid (HG.out.below hb1)
  have HC1 := Lib.hid (HC.out.below hb1)
  have HZ1 := Lib.hid (HZ.out.below hb1)
  have HB1 := Lib.hid (bt HB.out hb1)
  clear hb1 g0 g1 HG HC HZ HAV
  have g0 : w1.cell? ⟨w.heap.size, 0, none⟩ = some (.slice na n nq) := HG1.out.cell rfl
  have g1 : w1.cell? ⟨w.heap.size, 1, none⟩ = some (.slice ra m rq) := HG1.out.cell rfl
  have a0 : w1.cell? ⟨w.heap.size + 1, 0, none⟩ = some (.int .i64 7) := HC1.out.cell rfl
  have a1 : w1.cell? ⟨w.heap.size + 1, 1, none⟩ = some (.int .i64 r) := HC1.out.cell rfl
  have a2 : w1.cell? ⟨w.heap.size + 1, 2, none⟩ = some (.int .i64 s) := HC1.out.cell rfl
  have a3 : w1.cell? ⟨w.heap.size + 1, 3, none⟩ = some (.int .i64 i) := HC1.out.cell rfl
  have a4 : w1.cell? ⟨w.heap.size + 1, 4, none⟩ = some (.int .i64 sz) := HC1.out.cell rfl
  have a5 : w1.cell? ⟨w.heap.size + 1, 5, none⟩ = some (.int .i64 pt) := HC1.out.cell rfl
  have a6 : w1.cell? ⟨w.heap.size + 1, 6, none⟩ = some (.int .u64 (v : Int)) := HC1.out.cell rfl
  go_wp2_with fail
  refine (gNamesA (g := g) na ra n nq m rq 7 r s i sz pt v true _ HML.out hm1 HN.out).mono ?_
  rintro e w2 ⟨rfl, hb2⟩
  have HG2 := Lib.hid (HG1.out.below hb2)
  have HC2 := Lib.hid (HC1.out.below hb2)
  have HZ2 := Lib.hid (HZ1.out.below hb2)
  have HB2 := Lib.hid (bt HB1.out hb2)
  clear hb2 g0 g1 a0 a1 a2 a3 a4 a5 a6 HG1 HC1 HZ1 HB1
  have g0 : w2.cell? ⟨w.heap.size, 0, none⟩ = some (.slice na n nq) := HG2.out.cell rfl
  have g1 : w2.cell? ⟨w.heap.size, 1, none⟩ = some (.slice ra m rq) := HG2.out.cell rfl
  have a0 : w2.cell? ⟨w.heap.size + 1, 0, none⟩ = some (.int .i64 7) := HC2.out.cell rfl
  have a1 : w2.cell? ⟨w.heap.size + 1, 1, none⟩ = some (.int .i64 (r : Int)) := HC2.out.cell rfl
  have a2 : w2.cell? ⟨w.heap.size + 1, 2, none⟩ = some (.int .i64 s) := HC2.out.cell rfl
  have a3 : w2.cell? ⟨w.heap.size + 1, 3, none⟩ = some (.int .i64 i) := HC2.out.cell rfl
  have a4 : w2.cell? ⟨w.heap.size + 1, 4, none⟩ = some (.int .i64 sz) := HC2.out.cell rfl
  have a5 : w2.cell? ⟨w.heap.size + 1, 5, none⟩ = some (.int .i64 pt) := HC2.out.cell rfl
  have a6 : w2.cell? ⟨w.heap.size + 1, 6, none⟩ = some (.int .u64 (v : Int)) := HC2.out.cell rfl
  have HA2 := Lib.hid (HA.out.both.below HB2.out)
  have hs2 := HB2.out.size
  have hZl2 := HZ2.out.lt
  go_wp2_with fail
  refine (gRooted HA2.out hm1 r (-1) hr (by unfold ib; omega)).mono ?_
  rintro e w9 ⟨ra9, rq9, rfl, hA9, hb9⟩
  have HZ9 := Lib.hid (HZ2.out.below hb9)
  have HB9 := Lib.hid (bt HB2.out hb9)
  have HA9 := Lib.hid hA9
  clear hA9 hb9 g0 g1 a0 a1 a2 a3 a4 a5 a6
  go_wp2_with (refine wp_store_but rfl 25 (.tmp 5) (.tmp 65) rfl (w.heap.size + 1 + 1) _ [.slice na n nq, .slice ra9 m rq9] rfl rfl _ HZ9.out rfl (by kernel_rfl) (by simp [Value.oneCell']) ?_; intro w5 hz5 hf5 hb5; have HZ5 := Lib.hid hz5; have HB5 := Lib.hid (hb5 _ _ (by omega) HB9.out); have HF5 := Lib.hid hf5; clear hz5 hb5 hf5)
  refine bodyPost_ret (res_mid3 rfl _ _ _ (w.heap.size + 1 + 1) _ rfl (load_two HZ5.out)) rfl ?_
  refine ⟨_, _, _, _, _, _, rfl, ?_, HB5.out⟩
  exact (HA9.out.but (Z := w.heap.size + 1 + 1) (fun b hb => by
    rcases hb with ⟨_, hb⟩ | hb <;> omega) HF5.out).imp (fun b hb => by
    rcases hb with ⟨hb, _⟩ | hb
    · exact Or.inl hb
    · exact Or.inr (by omega))
set_option maxRecDepth 100000 in
set_option maxHeartbeats 2000000 in
theorem gDoNewBad {g : Gr} {na ra : Option Addr} {n nq m rq : Nat} {w : World} {P : Nat → Prop} (hA : GAt P w na n nq ra m rq g) (sm : gsm g) (r : Nat) (s : Int) (i sz pt : Int) (v : Nat) (hg : gright g) (hr : r < g.roots.length) (hsh : ¬ hright sz pt) :
    Calls Try.prog 18 #[.agg #[.slice na n nq, .slice ra m rq], .agg #[.int .i64 1, .int .i64 (r : Int), .int .i64 s, .int .i64 i, .int .i64 sz, .int .i64 pt, .int .u64 (v : Int)]] w (DoR P w 0 ⟨[], []⟩ 1) := by
  have HD := Lib.hid (decide_eq_true hg)
  have HN := Lib.hid (show decide (gnames g ⟨1, r, s, i, sz, pt, v⟩) = true from decide_eq_true (Or.inl ⟨Or.inl rfl, ⟨by simp, by simp only; omega⟩⟩))
  have HSH := Lib.hid hsh
  rw [hA.parts.2.1] at hr
  clear hg hsh
  have HA := Lib.hid hA
  obtain ⟨p1, p2, p3, p4, p5, p6, p7, p8, p9, p10⟩ := hA.parts
  have HSM := Lib.hid sm
  have hn1 : n ≤ 1000000 := by have := sm.1; omega
  have hm1 : m ≤ 1000000 := by have := sm.2.1; omega
  have HNL := Lib.hid p1
  have HML := Lib.hid p2
  clear hA sm p1 p2 p3 p8 p9 p10
  have HB := Lib.hid (ba (ba (ba0 w (.cells #[.slice na n nq, .slice ra m rq] 25)) (.cells #[.int .i64 1, .int .i64 (r : Int), .int .i64 s, .int .i64 i, .int .i64 sz, .int .i64 pt, .int .u64 (v : Int)] 31)) (.cells #[.slice none 0 0, .slice none 0 0] 25))
  have HG : Hid (Blk (((w.alloc (.cells #[.slice na n nq, .slice ra m rq] 25)).alloc (.cells #[.int .i64 1, .int .i64 (r : Int), .int .i64 s, .int .i64 i, .int .i64 sz, .int .i64 pt, .int .u64 (v : Int)] 31)).alloc (.cells #[.slice none 0 0, .slice none 0 0] 25)) w.heap.size [.slice na n nq, .slice ra m rq] 25) := Lib.hid (((Blk.new w [.slice na n nq, .slice ra m rq] 25).below (ba0 _ _)).below (ba0 _ _))
  have HC : Hid (Blk (((w.alloc (.cells #[.slice na n nq, .slice ra m rq] 25)).alloc (.cells #[.int .i64 1, .int .i64 (r : Int), .int .i64 s, .int .i64 i, .int .i64 sz, .int .i64 pt, .int .u64 (v : Int)] 31)).alloc (.cells #[.slice none 0 0, .slice none 0 0] 25)) (w.heap.size + 1) [.int .i64 1, .int .i64 (r : Int), .int .i64 s, .int .i64 i, .int .i64 sz, .int .i64 pt, .int .u64 (v : Int)] 31) := Lib.hid blk2
  have HZ : Hid (Blk (((w.alloc (.cells #[.slice na n nq, .slice ra m rq] 25)).alloc (.cells #[.int .i64 1, .int .i64 (r : Int), .int .i64 s, .int .i64 i, .int .i64 sz, .int .i64 pt, .int .u64 (v : Int)] 31)).alloc (.cells #[.slice none 0 0, .slice none 0 0] 25)) (w.heap.size + 1 + 1) [.slice none 0 0, .slice none 0 0] 25) := Lib.hid blk3
  go_enter Try.func18, Try.ntmps18
  go_upto_region 1 with fail
  generalize ((w.alloc (.cells #[.slice na n nq, .slice ra m rq] 25)).alloc (.cells #[.int .i64 1, .int .i64 (r : Int), .int .i64 s, .int .i64 i, .int .i64 sz, .int .i64 pt, .int .u64 (v : Int)] 31)).alloc (.cells #[.slice none 0 0, .slice none 0 0] 25) = V at HB HG HC HZ ⊢
  have hZl := HZ.out.lt
  have g0 : V.cell? ⟨w.heap.size, 0, none⟩ = some (.slice na n nq) := HG.out.cell rfl
  have g1 : V.cell? ⟨w.heap.size, 1, none⟩ = some (.slice ra m rq) := HG.out.cell rfl
  have HAV := Lib.hid (HA.out.below HB.out)
  go_wp2_with fail
  refine (gRightA HAV.out HSM.out true HD.out).mono ?_
  rintro e w1 ⟨rfl, hb1⟩
  have HG1 := Lib.hid (HG.out.below hb1)
  have HC1 := Lib.hid (HC.out.below hb1)
  have HZ1 := Lib.hid (HZ.out.below hb1)
  have HB1 := Lib.hid (bt HB.out hb1)
  clear hb1 g0 g1 HG HC HZ HAV
  have g0 : w1.cell? ⟨w.heap.size, 0, none⟩ = some (.slice na n nq) := HG1.out.cell rfl
  have g1 : w1.cell? ⟨w.heap.size, 1, none⟩ = some (.slice ra m rq) := HG1.out.cell rfl
  have a0 : w1.cell? ⟨w.heap.size + 1, 0, none⟩ = some (.int .i64 1) := HC1.out.cell rfl
  have a1 : w1.cell? ⟨w.heap.size + 1, 1, none⟩ = some (.int .i64 r) := HC1.out.cell rfl
  have a2 : w1.cell? ⟨w.heap.size + 1, 2, none⟩ = some (.int .i64 s) := HC1.out.cell rfl
  have a3 : w1.cell? ⟨w.heap.size + 1, 3, none⟩ = some (.int .i64 i) := HC1.out.cell rfl
  have a4 : w1.cell? ⟨w.heap.size + 1, 4, none⟩ = some (.int .i64 sz) := HC1.out.cell rfl
  have a5 : w1.cell? ⟨w.heap.size + 1, 5, none⟩ = some (.int .i64 pt) := HC1.out.cell rfl
  have a6 : w1.cell? ⟨w.heap.size + 1, 6, none⟩ = some (.int .u64 (v : Int)) := HC1.out.cell rfl
  go_wp2_with fail
  refine (gNamesA (g := g) na ra n nq m rq 1 r s i sz pt v true _ HML.out hm1 HN.out).mono ?_
  rintro e w2 ⟨rfl, hb2⟩
  have HG2 := Lib.hid (HG1.out.below hb2)
  have HC2 := Lib.hid (HC1.out.below hb2)
  have HZ2 := Lib.hid (HZ1.out.below hb2)
  have HB2 := Lib.hid (bt HB1.out hb2)
  clear hb2 g0 g1 a0 a1 a2 a3 a4 a5 a6 HG1 HC1 HZ1 HB1
  have g0 : w2.cell? ⟨w.heap.size, 0, none⟩ = some (.slice na n nq) := HG2.out.cell rfl
  have g1 : w2.cell? ⟨w.heap.size, 1, none⟩ = some (.slice ra m rq) := HG2.out.cell rfl
  have a0 : w2.cell? ⟨w.heap.size + 1, 0, none⟩ = some (.int .i64 1) := HC2.out.cell rfl
  have a1 : w2.cell? ⟨w.heap.size + 1, 1, none⟩ = some (.int .i64 (r : Int)) := HC2.out.cell rfl
  have a2 : w2.cell? ⟨w.heap.size + 1, 2, none⟩ = some (.int .i64 s) := HC2.out.cell rfl
  have a3 : w2.cell? ⟨w.heap.size + 1, 3, none⟩ = some (.int .i64 i) := HC2.out.cell rfl
  have a4 : w2.cell? ⟨w.heap.size + 1, 4, none⟩ = some (.int .i64 sz) := HC2.out.cell rfl
  have a5 : w2.cell? ⟨w.heap.size + 1, 5, none⟩ = some (.int .i64 pt) := HC2.out.cell rfl
  have a6 : w2.cell? ⟨w.heap.size + 1, 6, none⟩ = some (.int .u64 (v : Int)) := HC2.out.cell rfl
  have HA2 := Lib.hid (HA.out.both.below HB2.out)
  have hs2 := HB2.out.size
  have hZl2 := HZ2.out.lt
  go_wp2_with fail
  refine (rightNo sz pt _ HSH.out).mono ?_
  rintro e w3 ⟨rfl, hb3⟩
  have HZ3 := Lib.hid (HZ2.out.below hb3)
  have HB3 := Lib.hid (bt HB2.out hb3)
  clear hb3 g0 g1 a0 a1 a2 a3 a4 a5 a6
  go_wp2_with (refine wp_store_but rfl 25 (.tmp 5) (.tmp 30) rfl (w.heap.size + 1 + 1) _ [.slice none 0 0, .slice none 0 0] rfl rfl _ HZ3.out rfl (by kernel_rfl) (by simp [Value.oneCell']) ?_; intro w5 hz5 hf5 hb5; have HZ5 := Lib.hid hz5; have HB5 := Lib.hid (hb5 _ _ (by omega) HB3.out); clear hz5 hb5 hf5)
  refine bodyPost_ret (res_mid3 rfl _ _ _ (w.heap.size + 1 + 1) _ rfl (load_two HZ5.out)) rfl ?_
  exact ⟨none, 0, 0, none, 0, 0, rfl, GAt.nil _ _, HB5.out⟩
end Go.Proofs.Ytjoacfjbdpmgpaa.V
