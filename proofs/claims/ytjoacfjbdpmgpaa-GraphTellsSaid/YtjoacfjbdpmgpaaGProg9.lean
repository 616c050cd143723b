/-
  The program's Do; what is asked of the program's functions of package graph holds: grC.
-/
import Derived.Test.YtjoacfjbdpmgpaaGProg8
import Derived.Test.YtjoacfjbdpmgpaaGAwake
set_option linter.unusedVariables false
namespace Go.Proofs.Ytjoacfjbdpmgpaa.V
open Go.RowKit

theorem Blk.belowS {S : Nat} {w w' : World} {b : Nat} {cs : List Value} {t : TypeId} (h : Blk w b cs t) (hb : Below S w w') (hlt : b < S) : Blk w' b cs t := (hb.block b hlt).trans h

set_option maxRecDepth 100000 in
set_option maxHeartbeats 1000000 in
theorem gpDoWrong {P : Nat → Prop} {g : Gr} {na ra : Option Addr} {n cq m rq : Nat} {w : World} (hA : GAt P w na n cq ra m rq g) (sm : gsm g) (hg : ¬ gright g) (kd r s i sz pt v : Int) : Calls Try.prog 17 #[.agg #[.slice na n cq, .slice ra m rq], .agg #[.int .i64 kd, .int .i64 r, .int .i64 s, .int .i64 i, .int .i64 sz, .int .i64 pt, .int .u64 v]] w (DoRI P w 0 ⟨[], []⟩ 1) := by
  have HH := Lib.hid (decide_eq_false hg)
  clear hg
  have HA := Lib.hid hA
  have HSM := Lib.hid sm
  have HB : Hid (Below w.heap.size w (((w.alloc (.cells #[.slice na n cq, .slice ra m rq] 25)).alloc (.cells #[.int .i64 kd, .int .i64 r, .int .i64 s, .int .i64 i, .int .i64 sz, .int .i64 pt, .int .u64 v] 31)).alloc (.cells #[.slice none 0 0, .slice none 0 0] 25))) := Lib.hid (ba (ba (ba0 w _) _) _)
  have HG : Hid (Blk (((w.alloc (.cells #[.slice na n cq, .slice ra m rq] 25)).alloc (.cells #[.int .i64 kd, .int .i64 r, .int .i64 s, .int .i64 i, .int .i64 sz, .int .i64 pt, .int .u64 v] 31)).alloc (.cells #[.slice none 0 0, .slice none 0 0] 25)) w.heap.size [.slice na n cq, .slice ra m rq] 25) := Lib.hid (((Blk.new w [.slice na n cq, .slice ra m rq] 25).below (ba0 _ _)).below (ba0 _ _))
  have HC : Hid (Blk (((w.alloc (.cells #[.slice na n cq, .slice ra m rq] 25)).alloc (.cells #[.int .i64 kd, .int .i64 r, .int .i64 s, .int .i64 i, .int .i64 sz, .int .i64 pt, .int .u64 v] 31)).alloc (.cells #[.slice none 0 0, .slice none 0 0] 25)) (w.heap.size + 1) [.int .i64 kd, .int .i64 r, .int .i64 s, .int .i64 i, .int .i64 sz, .int .i64 pt, .int .u64 v] 31) := Lib.hid blk2
  have HR : Hid (Blk (((w.alloc (.cells #[.slice na n cq, .slice ra m rq] 25)).alloc (.cells #[.int .i64 kd, .int .i64 r, .int .i64 s, .int .i64 i, .int .i64 sz, .int .i64 pt, .int .u64 v] 31)).alloc (.cells #[.slice none 0 0, .slice none 0 0] 25)) (w.heap.size + 1 + 1) [.slice none 0 0, .slice none 0 0] 25) := Lib.hid blk3
  clear hA sm
  go_enter Try.func17, Try.ntmps17
  go_upto_region 1 with fail
  generalize ((w.alloc (.cells #[.slice na n cq, .slice ra m rq] 25)).alloc (.cells #[.int .i64 kd, .int .i64 r, .int .i64 s, .int .i64 i, .int .i64 sz, .int .i64 pt, .int .u64 v] 31)).alloc (.cells #[.slice none 0 0, .slice none 0 0] 25) = V at HB HG HC HR ⊢
  have g0 : V.cell? ⟨w.heap.size, 0, none⟩ = some (.slice na n cq) := HG.out.cell rfl
  have g1 : V.cell? ⟨w.heap.size, 1, none⟩ = some (.slice ra m rq) := HG.out.cell rfl
  have HAV := Lib.hid (HA.out.below HB.out)
  go_wp2_with fail
  refine (gpRight HAV.out HSM.out false HH.out).mono ?_
  rintro e w1 ⟨rfl, hb1⟩
  have HR1 := Lib.hid (HR.out.below hb1)
  have HB1 := Lib.hid (bt HB.out hb1)
  clear hb1 g0 g1 HG HC HR HAV HB
  go_wp2_with (refine wp_store_but rfl 25 (.tmp 5) (.tmp 12) rfl (w.heap.size + 1 + 1) _ [.slice none 0 0, .slice none 0 0] rfl rfl _ HR1.out rfl (by kernel_rfl) (by simp [Value.oneCell']) ?_; intro wz hz5 hf5 hb5; have HZ5 := Lib.hid hz5; have HB5 := Lib.hid (hb5 w.heap.size w (by omega) HB1.out); clear hz5 hf5 hb5)
  refine bodyPost_ret (res_mid3 rfl _ _ _ (w.heap.size + 1 + 1) _ rfl (load_two HZ5.out)) rfl ?_
  exact ⟨_, _, _, _, _, _, rfl, GAt.nil _ _, HB5.out⟩

set_option maxRecDepth 100000 in
set_option maxHeartbeats 2000000 in
theorem gpDoNo {P : Nat → Prop} {g : Gr} {na ra : Option Addr} {n cq m rq : Nat} {w : World} (hA : GAt P w na n cq ra m rq g) (sm : gsm g) (hg : gright g) (kd r s i sz pt v : Int) (F : Nat) (E : Int) (hE : (E != 0) = true) (hcf : ∀ (args : Array Value) (w : World), (callFunc F args).run Try.prog w = .ok (.enter F args) w) (hch : ∀ {Z : Nat} {w1 : World} {na1 ra1 : Option Addr} {n1 q1 m1 p1 : Nat}, Blk w1 Z [.slice na1 n1 q1, .slice ra1 m1 p1] 61 → m1 = m → Calls Try.prog 24 #[.pointer (some ⟨Z, 0, none⟩), .agg #[.int .i64 kd, .int .i64 r, .int .i64 s, .int .i64 i, .int .i64 sz, .int .i64 pt, .int .u64 v]] w1 fun e w' => e = .returned (.func (.func F) #[.pointer (some ⟨Z, 0, none⟩)] #[]) ∧ Below w1.heap.size w1 w') (hdo : ∀ {S Z : Nat} {w1 : World} {na1 ra1 : Option Addr} {q1 p1 : Nat} {nodes : List NdV}, Blk w1 Z [.slice na1 n q1, .slice ra1 m p1] 61 → GO S w1 na1 n q1 ra1 m p1 nodes g.roots → nodes.map NdV.nd = g.nodes → S ≤ w1.heap.size → S ≤ Z → Calls Try.prog F #[.pointer (some ⟨Z, 0, none⟩), .agg #[.int .i64 kd, .int .i64 r, .int .i64 s, .int .i64 i, .int .i64 sz, .int .i64 pt, .int .u64 v]] w1 (DeedNo S w1 E)) : Calls Try.prog 17 #[.agg #[.slice na n cq, .slice ra m rq], .agg #[.int .i64 kd, .int .i64 r, .int .i64 s, .int .i64 i, .int .i64 sz, .int .i64 pt, .int .u64 v]] w (DoRI P w 0 ⟨[], []⟩ E) := by
  have HH := Lib.hid (decide_eq_true hg)
  have HCH : Hid (∀ {Z : Nat} {w1 : World} {na1 ra1 : Option Addr} {n1 q1 m1 p1 : Nat}, Blk w1 Z [.slice na1 n1 q1, .slice ra1 m1 p1] 61 → m1 = m → Calls Try.prog 24 #[.pointer (some ⟨Z, 0, none⟩), .agg #[.int .i64 kd, .int .i64 r, .int .i64 s, .int .i64 i, .int .i64 sz, .int .i64 pt, .int .u64 v]] w1 fun e w' => e = .returned (.func (.func F) #[.pointer (some ⟨Z, 0, none⟩)] #[]) ∧ Below w1.heap.size w1 w') := Lib.hid (fun h e => hch h e)
  have HDO : Hid (∀ {S Z : Nat} {w1 : World} {na1 ra1 : Option Addr} {q1 p1 : Nat} {nodes : List NdV}, Blk w1 Z [.slice na1 n q1, .slice ra1 m p1] 61 → GO S w1 na1 n q1 ra1 m p1 nodes g.roots → nodes.map NdV.nd = g.nodes → S ≤ w1.heap.size → S ≤ Z → Calls Try.prog F #[.pointer (some ⟨Z, 0, none⟩), .agg #[.int .i64 kd, .int .i64 r, .int .i64 s, .int .i64 i, .int .i64 sz, .int .i64 pt, .int .u64 v]] w1 (DeedNo S w1 E)) := Lib.hid (fun h1 h2 h3 h4 h5 => hdo h1 h2 h3 h4 h5)
  clear hg hch hdo
  have HA := Lib.hid hA
  have HSM := Lib.hid sm
  have HB : Hid (Below w.heap.size w (((w.alloc (.cells #[.slice na n cq, .slice ra m rq] 25)).alloc (.cells #[.int .i64 kd, .int .i64 r, .int .i64 s, .int .i64 i, .int .i64 sz, .int .i64 pt, .int .u64 v] 31)).alloc (.cells #[.slice none 0 0, .slice none 0 0] 25))) := Lib.hid (ba (ba (ba0 w _) _) _)
  have HG : Hid (Blk (((w.alloc (.cells #[.slice na n cq, .slice ra m rq] 25)).alloc (.cells #[.int .i64 kd, .int .i64 r, .int .i64 s, .int .i64 i, .int .i64 sz, .int .i64 pt, .int .u64 v] 31)).alloc (.cells #[.slice none 0 0, .slice none 0 0] 25)) w.heap.size [.slice na n cq, .slice ra m rq] 25) := Lib.hid (((Blk.new w [.slice na n cq, .slice ra m rq] 25).below (ba0 _ _)).below (ba0 _ _))
  have HC : Hid (Blk (((w.alloc (.cells #[.slice na n cq, .slice ra m rq] 25)).alloc (.cells #[.int .i64 kd, .int .i64 r, .int .i64 s, .int .i64 i, .int .i64 sz, .int .i64 pt, .int .u64 v] 31)).alloc (.cells #[.slice none 0 0, .slice none 0 0] 25)) (w.heap.size + 1) [.int .i64 kd, .int .i64 r, .int .i64 s, .int .i64 i, .int .i64 sz, .int .i64 pt, .int .u64 v] 31) := Lib.hid blk2
  have HR : Hid (Blk (((w.alloc (.cells #[.slice na n cq, .slice ra m rq] 25)).alloc (.cells #[.int .i64 kd, .int .i64 r, .int .i64 s, .int .i64 i, .int .i64 sz, .int .i64 pt, .int .u64 v] 31)).alloc (.cells #[.slice none 0 0, .slice none 0 0] 25)) (w.heap.size + 1 + 1) [.slice none 0 0, .slice none 0 0] 25) := Lib.hid blk3
  clear hA sm
  go_enter Try.func17, Try.ntmps17
  go_upto_region 1 with fail
  generalize ((w.alloc (.cells #[.slice na n cq, .slice ra m rq] 25)).alloc (.cells #[.int .i64 kd, .int .i64 r, .int .i64 s, .int .i64 i, .int .i64 sz, .int .i64 pt, .int .u64 v] 31)).alloc (.cells #[.slice none 0 0, .slice none 0 0] 25) = V at HB HG HC HR ⊢
  have g0 : V.cell? ⟨w.heap.size, 0, none⟩ = some (.slice na n cq) := HG.out.cell rfl
  have g1 : V.cell? ⟨w.heap.size, 1, none⟩ = some (.slice ra m rq) := HG.out.cell rfl
  have HAV := Lib.hid (HA.out.below HB.out)
  go_wp2_with fail
  refine (gpRight HAV.out HSM.out true HH.out).mono ?_
  rintro e w1 ⟨rfl, hb1⟩
  have HG1 := Lib.hid (HG.out.below hb1)
  have HC1 := Lib.hid (HC.out.below hb1)
  have HR1 := Lib.hid (HR.out.below hb1)
  have HA1 := Lib.hid (HAV.out.below hb1)
  have HB1 := Lib.hid (bt HB.out hb1)
  clear hb1 g0 g1 HG HC HR HAV HB
  have g0 : w1.cell? ⟨w.heap.size, 0, none⟩ = some (.slice na n cq) := HG1.out.cell rfl
  have g1 : w1.cell? ⟨w.heap.size, 1, none⟩ = some (.slice ra m rq) := HG1.out.cell rfl
  go_wp2_with fail
  refine (gpOwn HA1.out HSM.out).mono ?_
  rintro e w2 ⟨na1, q1, ra1, p1, nodes, rfl, hO, hN, hb2⟩
  have hR1l := HR1.out.lt
  have hSw : w.heap.size ≤ w1.heap.size := HB1.out.size
  have hw12 : w1.heap.size ≤ w2.heap.size := hb2.size
  have HCX := Lib.hid ((HC1.out.below hb2).below (ba0 w2 (.cells #[.slice na1 n q1, .slice ra1 m p1] 61)))
  have HRX := Lib.hid ((HR1.out.below hb2).below (ba0 w2 (.cells #[.slice na1 n q1, .slice ra1 m p1] 61)))
  have HBX := Lib.hid (ba (bt HB1.out hb2) (.cells #[.slice na1 n q1, .slice ra1 m p1] 61))
  have HOX := Lib.hid (hO.later (ba0 w2 (.cells #[.slice na1 n q1, .slice ra1 m p1] 61)))
  have HZX := Lib.hid (Blk.new w2 [.slice na1 n q1, .slice ra1 m p1] 61)
  have HN := Lib.hid hN
  have hsX : w1.heap.size ≤ (w2.alloc (.cells #[.slice na1 n q1, .slice ra1 m p1] 61)).heap.size := by rw [World.size_alloc]; omega
  clear hO hb2 hN g0 g1 HG1 HC1 HR1 HA1 HB1
  go_upto_region 4 with fail
  generalize w2.alloc (.cells #[.slice na1 n q1, .slice ra1 m p1] 61) = X3 at HCX HRX HBX HOX HZX hsX ⊢
  generalize w2.heap.size = Z at HZX hw12 ⊢
  generalize w1.heap.size = S at HOX hsX hw12 hR1l hSw ⊢
  obtain ⟨a0, a1, a2, a3, a4, a5, a6⟩ : X3.cell? ⟨w.heap.size + 1, 0, none⟩ = some (.int .i64 kd) ∧ X3.cell? ⟨w.heap.size + 1, 1, none⟩ = some (.int .i64 r) ∧ X3.cell? ⟨w.heap.size + 1, 2, none⟩ = some (.int .i64 s) ∧ X3.cell? ⟨w.heap.size + 1, 3, none⟩ = some (.int .i64 i) ∧ X3.cell? ⟨w.heap.size + 1, 4, none⟩ = some (.int .i64 sz) ∧ X3.cell? ⟨w.heap.size + 1, 5, none⟩ = some (.int .i64 pt) ∧ X3.cell? ⟨w.heap.size + 1, 6, none⟩ = some (.int .u64 v) := ⟨HCX.out.cell rfl, HCX.out.cell rfl, HCX.out.cell rfl, HCX.out.cell rfl, HCX.out.cell rfl, HCX.out.cell rfl, HCX.out.cell rfl⟩
  go_wp2_with fail
  refine (HCH.out HZX.out rfl).mono ?_
  rintro e X4 ⟨rfl, hb4⟩
  have HC4 := Lib.hid (HCX.out.below hb4)
  have HR4 := Lib.hid (HRX.out.below hb4)
  have HZ4 := Lib.hid (HZX.out.below hb4)
  have HO4 := Lib.hid (HOX.out.later hb4)
  have HB4 := Lib.hid (bt HBX.out hb4)
  have hs4 : S ≤ X4.heap.size := Nat.le_trans hsX hb4.size
  clear hb4 a0 a1 a2 a3 a4 a5 a6 HCX HRX HZX HOX HBX
  obtain ⟨a0, a1, a2, a3, a4, a5, a6⟩ : X4.cell? ⟨w.heap.size + 1, 0, none⟩ = some (.int .i64 kd) ∧ X4.cell? ⟨w.heap.size + 1, 1, none⟩ = some (.int .i64 r) ∧ X4.cell? ⟨w.heap.size + 1, 2, none⟩ = some (.int .i64 s) ∧ X4.cell? ⟨w.heap.size + 1, 3, none⟩ = some (.int .i64 i) ∧ X4.cell? ⟨w.heap.size + 1, 4, none⟩ = some (.int .i64 sz) ∧ X4.cell? ⟨w.heap.size + 1, 5, none⟩ = some (.int .i64 pt) ∧ X4.cell? ⟨w.heap.size + 1, 6, none⟩ = some (.int .u64 v) := ⟨HC4.out.cell rfl, HC4.out.cell rfl, HC4.out.cell rfl, HC4.out.cell rfl, HC4.out.cell rfl, HC4.out.cell rfl, HC4.out.cell rfl⟩
  go_wp2_with fail
  refine (HDO.out HZ4.out HO4.out HN.out hs4 hw12).mono ?_
  rintro e X5 ⟨rfl, hb5⟩
  have HR5 := Lib.hid (HR4.out.belowS hb5 hR1l)
  have HBQ := Lib.hid (HB4.out.trans (hb5.mono hSw))
  clear hb5 a0 a1 a2 a3 a4 a5 a6 HC4 HR4 HZ4 HO4 HB4
  go_wp2_with (refine wp_store_but rfl 25 (.tmp 5) (.tmp 28) rfl (w.heap.size + 1 + 1) _ [.slice none 0 0, .slice none 0 0] rfl rfl _ HR5.out rfl (by kernel_rfl) (by simp [Value.oneCell']) ?_; intro wz hz5 hf5 hb5; have HZ5 := Lib.hid hz5; have HB5 := Lib.hid (hb5 w.heap.size w (by omega) HBQ.out); clear hz5 hf5 hb5)
  refine bodyPost_ret (res_mid3 rfl _ _ _ (w.heap.size + 1 + 1) _ rfl (load_two HZ5.out)) rfl ?_
  exact ⟨_, _, _, _, _, _, rfl, GAt.nil _ _, HB5.out⟩

set_option maxRecDepth 100000 in
set_option maxHeartbeats 2000000 in
theorem gpDoOk {P : Nat → Prop} {g : Gr} {na ra : Option Addr} {n cq m rq : Nat} {w : World} (hA : GAt P w na n cq ra m rq g) (sm : gsm g) (hg : gright g) (kd r s i sz pt v : Int) (F : Nat) (VI : Int) (XG : Gr) (hcf : ∀ (args : Array Value) (w : World), (callFunc F args).run Try.prog w = .ok (.enter F args) w) (hch : ∀ {Z : Nat} {w1 : World} {na1 ra1 : Option Addr} {n1 q1 m1 p1 : Nat}, Blk w1 Z [.slice na1 n1 q1, .slice ra1 m1 p1] 61 → m1 = m → Calls Try.prog 24 #[.pointer (some ⟨Z, 0, none⟩), .agg #[.int .i64 kd, .int .i64 r, .int .i64 s, .int .i64 i, .int .i64 sz, .int .i64 pt, .int .u64 v]] w1 fun e w' => e = .returned (.func (.func F) #[.pointer (some ⟨Z, 0, none⟩)] #[]) ∧ Below w1.heap.size w1 w') (hdo : ∀ {S Z : Nat} {w1 : World} {na1 ra1 : Option Addr} {q1 p1 : Nat} {nodes : List NdV}, Blk w1 Z [.slice na1 n q1, .slice ra1 m p1] 61 → GO S w1 na1 n q1 ra1 m p1 nodes g.roots → nodes.map NdV.nd = g.nodes → S ≤ w1.heap.size → S ≤ Z → Calls Try.prog F #[.pointer (some ⟨Z, 0, none⟩), .agg #[.int .i64 kd, .int .i64 r, .int .i64 s, .int .i64 i, .int .i64 sz, .int .i64 pt, .int .u64 v]] w1 (DeedOk S Z w1 VI XG)) : Calls Try.prog 17 #[.agg #[.slice na n cq, .slice ra m rq], .agg #[.int .i64 kd, .int .i64 r, .int .i64 s, .int .i64 i, .int .i64 sz, .int .i64 pt, .int .u64 v]] w (DoRI P w VI XG 0) := by
  have HH := Lib.hid (decide_eq_true hg)
  have HCH : Hid (∀ {Z : Nat} {w1 : World} {na1 ra1 : Option Addr} {n1 q1 m1 p1 : Nat}, Blk w1 Z [.slice na1 n1 q1, .slice ra1 m1 p1] 61 → m1 = m → Calls Try.prog 24 #[.pointer (some ⟨Z, 0, none⟩), .agg #[.int .i64 kd, .int .i64 r, .int .i64 s, .int .i64 i, .int .i64 sz, .int .i64 pt, .int .u64 v]] w1 fun e w' => e = .returned (.func (.func F) #[.pointer (some ⟨Z, 0, none⟩)] #[]) ∧ Below w1.heap.size w1 w') := Lib.hid (fun h e => hch h e)
  have HDO : Hid (∀ {S Z : Nat} {w1 : World} {na1 ra1 : Option Addr} {q1 p1 : Nat} {nodes : List NdV}, Blk w1 Z [.slice na1 n q1, .slice ra1 m p1] 61 → GO S w1 na1 n q1 ra1 m p1 nodes g.roots → nodes.map NdV.nd = g.nodes → S ≤ w1.heap.size → S ≤ Z → Calls Try.prog F #[.pointer (some ⟨Z, 0, none⟩), .agg #[.int .i64 kd, .int .i64 r, .int .i64 s, .int .i64 i, .int .i64 sz, .int .i64 pt, .int .u64 v]] w1 (DeedOk S Z w1 VI XG)) := Lib.hid (fun h1 h2 h3 h4 h5 => hdo h1 h2 h3 h4 h5)
  clear hg hch hdo
  have HA := Lib.hid hA
  have HSM := Lib.hid sm
  have HB : Hid (Below w.heap.size w (((w.alloc (.cells #[.slice na n cq, .slice ra m rq] 25)).alloc (.cells #[.int .i64 kd, .int .i64 r, .int .i64 s, .int .i64 i, .int .i64 sz, .int .i64 pt, .int .u64 v] 31)).alloc (.cells #[.slice none 0 0, .slice none 0 0] 25))) := Lib.hid (ba (ba (ba0 w _) _) _)
  have HG : Hid (Blk (((w.alloc (.cells #[.slice na n cq, .slice ra m rq] 25)).alloc (.cells #[.int .i64 kd, .int .i64 r, .int .i64 s, .int .i64 i, .int .i64 sz, .int .i64 pt, .int .u64 v] 31)).alloc (.cells #[.slice none 0 0, .slice none 0 0] 25)) w.heap.size [.slice na n cq, .slice ra m rq] 25) := Lib.hid (((Blk.new w [.slice na n cq, .slice ra m rq] 25).below (ba0 _ _)).below (ba0 _ _))
  have HC : Hid (Blk (((w.alloc (.cells #[.slice na n cq, .slice ra m rq] 25)).alloc (.cells #[.int .i64 kd, .int .i64 r, .int .i64 s, .int .i64 i, .int .i64 sz, .int .i64 pt, .int .u64 v] 31)).alloc (.cells #[.slice none 0 0, .slice none 0 0] 25)) (w.heap.size + 1) [.int .i64 kd, .int .i64 r, .int .i64 s, .int .i64 i, .int .i64 sz, .int .i64 pt, .int .u64 v] 31) := Lib.hid blk2
  have HR : Hid (Blk (((w.alloc (.cells #[.slice na n cq, .slice ra m rq] 25)).alloc (.cells #[.int .i64 kd, .int .i64 r, .int .i64 s, .int .i64 i, .int .i64 sz, .int .i64 pt, .int .u64 v] 31)).alloc (.cells #[.slice none 0 0, .slice none 0 0] 25)) (w.heap.size + 1 + 1) [.slice none 0 0, .slice none 0 0] 25) := Lib.hid blk3
  clear hA sm
  go_enter Try.func17, Try.ntmps17
  go_upto_region 1 with fail
  generalize ((w.alloc (.cells #[.slice na n cq, .slice ra m rq] 25)).alloc (.cells #[.int .i64 kd, .int .i64 r, .int .i64 s, .int .i64 i, .int .i64 sz, .int .i64 pt, .int .u64 v] 31)).alloc (.cells #[.slice none 0 0, .slice none 0 0] 25) = V at HB HG HC HR ⊢
  have g0 : V.cell? ⟨w.heap.size, 0, none⟩ = some (.slice na n cq) := HG.out.cell rfl
  have g1 : V.cell? ⟨w.heap.size, 1, none⟩ = some (.slice ra m rq) := HG.out.cell rfl
  have HAV := Lib.hid (HA.out.below HB.out)
  go_wp2_with fail
  refine (gpRight HAV.out HSM.out true HH.out).mono ?_
  rintro e w1 ⟨rfl, hb1⟩
  have HG1 := Lib.hid (HG.out.below hb1)
  have HC1 := Lib.hid (HC.out.below hb1)
  have HR1 := Lib.hid (HR.out.below hb1)
  have HA1 := Lib.hid (HAV.out.below hb1)
  have HB1 := Lib.hid (bt HB.out hb1)
  clear hb1 g0 g1 HG HC HR HAV HB
  have g0 : w1.cell? ⟨w.heap.size, 0, none⟩ = some (.slice na n cq) := HG1.out.cell rfl
  have g1 : w1.cell? ⟨w.heap.size, 1, none⟩ = some (.slice ra m rq) := HG1.out.cell rfl
  go_wp2_with fail
  refine (gpOwn HA1.out HSM.out).mono ?_
  rintro e w2 ⟨na1, q1, ra1, p1, nodes, rfl, hO, hN, hb2⟩
  have hR1l := HR1.out.lt
  have hSw : w.heap.size ≤ w1.heap.size := HB1.out.size
  have hw12 : w1.heap.size ≤ w2.heap.size := hb2.size
  have HCX := Lib.hid ((HC1.out.below hb2).below (ba0 w2 (.cells #[.slice na1 n q1, .slice ra1 m p1] 61)))
  have HRX := Lib.hid ((HR1.out.below hb2).below (ba0 w2 (.cells #[.slice na1 n q1, .slice ra1 m p1] 61)))
  have HBX := Lib.hid (ba (bt HB1.out hb2) (.cells #[.slice na1 n q1, .slice ra1 m p1] 61))
  have HOX := Lib.hid (hO.later (ba0 w2 (.cells #[.slice na1 n q1, .slice ra1 m p1] 61)))
  have HZX := Lib.hid (Blk.new w2 [.slice na1 n q1, .slice ra1 m p1] 61)
  have HN := Lib.hid hN
  have hsX : w1.heap.size ≤ (w2.alloc (.cells #[.slice na1 n q1, .slice ra1 m p1] 61)).heap.size := by rw [World.size_alloc]; omega
  clear hO hb2 hN g0 g1 HG1 HC1 HR1 HA1 HB1
  go_upto_region 4 with fail
  generalize w2.alloc (.cells #[.slice na1 n q1, .slice ra1 m p1] 61) = X3 at HCX HRX HBX HOX HZX hsX ⊢
  generalize w2.heap.size = Z at HZX hw12 ⊢
  generalize w1.heap.size = S at HOX hsX hw12 hR1l hSw ⊢
  obtain ⟨a0, a1, a2, a3, a4, a5, a6⟩ : X3.cell? ⟨w.heap.size + 1, 0, none⟩ = some (.int .i64 kd) ∧ X3.cell? ⟨w.heap.size + 1, 1, none⟩ = some (.int .i64 r) ∧ X3.cell? ⟨w.heap.size + 1, 2, none⟩ = some (.int .i64 s) ∧ X3.cell? ⟨w.heap.size + 1, 3, none⟩ = some (.int .i64 i) ∧ X3.cell? ⟨w.heap.size + 1, 4, none⟩ = some (.int .i64 sz) ∧ X3.cell? ⟨w.heap.size + 1, 5, none⟩ = some (.int .i64 pt) ∧ X3.cell? ⟨w.heap.size + 1, 6, none⟩ = some (.int .u64 v) := ⟨HCX.out.cell rfl, HCX.out.cell rfl, HCX.out.cell rfl, HCX.out.cell rfl, HCX.out.cell rfl, HCX.out.cell rfl, HCX.out.cell rfl⟩
  go_wp2_with fail
  refine (HCH.out HZX.out rfl).mono ?_
  rintro e X4 ⟨rfl, hb4⟩
  have HC4 := Lib.hid (HCX.out.below hb4)
  have HR4 := Lib.hid (HRX.out.below hb4)
  have HZ4 := Lib.hid (HZX.out.below hb4)
  have HO4 := Lib.hid (HOX.out.later hb4)
  have HB4 := Lib.hid (bt HBX.out hb4)
  have hs4 : S ≤ X4.heap.size := Nat.le_trans hsX hb4.size
  clear hb4 a0 a1 a2 a3 a4 a5 a6 HCX HRX HZX HOX HBX
  obtain ⟨a0, a1, a2, a3, a4, a5, a6⟩ : X4.cell? ⟨w.heap.size + 1, 0, none⟩ = some (.int .i64 kd) ∧ X4.cell? ⟨w.heap.size + 1, 1, none⟩ = some (.int .i64 r) ∧ X4.cell? ⟨w.heap.size + 1, 2, none⟩ = some (.int .i64 s) ∧ X4.cell? ⟨w.heap.size + 1, 3, none⟩ = some (.int .i64 i) ∧ X4.cell? ⟨w.heap.size + 1, 4, none⟩ = some (.int .i64 sz) ∧ X4.cell? ⟨w.heap.size + 1, 5, none⟩ = some (.int .i64 pt) ∧ X4.cell? ⟨w.heap.size + 1, 6, none⟩ = some (.int .u64 v) := ⟨HC4.out.cell rfl, HC4.out.cell rfl, HC4.out.cell rfl, HC4.out.cell rfl, HC4.out.cell rfl, HC4.out.cell rfl, HC4.out.cell rfl⟩
  go_wp2_with fail
  refine (HDO.out HZ4.out HO4.out HN.out hs4 hw12).mono ?_
  rintro e X5 ⟨na9, n9, q9, ra9, m9, p9, rfl, hz9, hA9, hb5⟩
  have HR5 := Lib.hid (HR4.out.belowS hb5 hR1l)
  have HBQ := Lib.hid (HB4.out.trans (hb5.mono hSw))
  have HZ9 := Lib.hid hz9
  have HA9 := Lib.hid hA9
  have hZR : w.heap.size + 1 + 1 ≠ Z := by omega
  clear hb5 a0 a1 a2 a3 a4 a5 a6 HC4 HR4 HZ4 HO4 HB4 hz9 hA9
  go_upto_region 8 with fail
  have hkeep : Hid (∀ w', But (w.heap.size + 1 + 1) X5 w' → w'.cell? ⟨Z, 0, none⟩ = some (.slice na9 n9 q9) ∧ w'.cell? ⟨Z, 1, none⟩ = some (.slice ra9 m9 p9)) := Lib.hid fun w' hk => ⟨(HZ9.out.but hk (Ne.symm hZR)).cell rfl, (HZ9.out.but hk (Ne.symm hZR)).cell rfl⟩
  obtain ⟨z0, z1, f0, f1⟩ := blk_two HR5.out
  go_region_held3 (fun w' => w'.cell? ⟨Z, 0, none⟩ = some (.slice na9 n9 q9) ∧ w'.cell? ⟨Z, 1, none⟩ = some (.slice ra9 m9 p9)) (exact hkeep.out _ (by first | exact (But.refl _ _).drew | exact But.refl _ _ | exact (((But.refl _ X5).drew).set _ _).set _ _ | exact (((But.refl _ X5).set _ _).set _ _).drew)) ((fail))
  have HZ5 := Lib.hid (show Blk ((X5.setCell ⟨w.heap.size + 1 + 1, 0, none⟩ (.slice na9 n9 q9)).setCell ⟨w.heap.size + 1 + 1, 1, none⟩ (.slice ra9 m9 p9)).drew (w.heap.size + 1 + 1) [.slice na9 n9 q9, .slice ra9 m9 p9] 25 from blk_set (blk_set HR5.out 0 (.slice na9 n9 q9)) 1 (.slice ra9 m9 p9))
  have HB5 := Lib.hid ((HBQ.out.setCell (p := ⟨w.heap.size + 1 + 1, 0, none⟩) (by show w.heap.size ≤ w.heap.size + 1 + 1; omega) (.slice na9 n9 q9)).setCell (p := ⟨w.heap.size + 1 + 1, 1, none⟩) (by show w.heap.size ≤ w.heap.size + 1 + 1; omega) (.slice ra9 m9 p9)).drew
  have HF5 := Lib.hid (((But.refl (w.heap.size + 1 + 1) X5).set 0 (.slice na9 n9 q9)).set 1 (.slice ra9 m9 p9)).drew
  generalize ((X5.setCell ⟨w.heap.size + 1 + 1, 0, none⟩ (.slice na9 n9 q9)).setCell ⟨w.heap.size + 1 + 1, 1, none⟩ (.slice ra9 m9 p9)).drew = w5 at HZ5 HB5 HF5 ⊢
  go_wp2_with fail
  refine bodyPost_ret (res_mid3 rfl _ _ _ (w.heap.size + 1 + 1) _ rfl (load_two HZ5.out)) rfl ?_
  exact ⟨_, _, _, _, _, _, rfl, (HA9.out.but (Z := w.heap.size + 1 + 1) (fun b hb => by omega) HF5.out).imp (fun b hb => Or.inr (by omega)), HB5.out⟩

theorem enterF {f : FuncId} {fn : Func} {c : Code} (hf : Try.prog.funcs[f]? = some fn) (hname : (fn.name == "runtime.NumGoroutine") = false) (hb : fn.body = some c) : ∀ (args : Array Value) (w : World), (callFunc f args).run Try.prog w = .ok (.enter f args) w := by
  intro args w
  have h1 : fn.name ≠ "runtime.NumGoroutine" := by simpa using hname
  simp [callFunc, hf, h1, hb]
theorem hcf0 : ∀ (args : Array Value) (w : World), (callFunc 45 args).run Try.prog w = .ok (.enter 45 args) w := enterF Try.func45 (by kernel_rfl) rfl
theorem hcf1 : ∀ (args : Array Value) (w : World), (callFunc 37 args).run Try.prog w = .ok (.enter 37 args) w := enterF Try.func37 (by kernel_rfl) rfl
theorem hcf2 : ∀ (args : Array Value) (w : World), (callFunc 38 args).run Try.prog w = .ok (.enter 38 args) w := enterF Try.func38 (by kernel_rfl) rfl
theorem hcf3 : ∀ (args : Array Value) (w : World), (callFunc 39 args).run Try.prog w = .ok (.enter 39 args) w := enterF Try.func39 (by kernel_rfl) rfl
theorem hcf4 : ∀ (args : Array Value) (w : World), (callFunc 40 args).run Try.prog w = .ok (.enter 40 args) w := enterF Try.func40 (by kernel_rfl) rfl
theorem hcf5 : ∀ (args : Array Value) (w : World), (callFunc 41 args).run Try.prog w = .ok (.enter 41 args) w := enterF Try.func41 (by kernel_rfl) rfl
theorem hcf6 : ∀ (args : Array Value) (w : World), (callFunc 42 args).run Try.prog w = .ok (.enter 42 args) w := enterF Try.func42 (by kernel_rfl) rfl
theorem hcf7 : ∀ (args : Array Value) (w : World), (callFunc 43 args).run Try.prog w = .ok (.enter 43 args) w := enterF Try.func43 (by kernel_rfl) rfl
def namesM (m : Nat) (kd r s : Int) : Prop := ((kd = 1 ∨ kd = 7) ∧ (0 ≤ r ∧ r < (m : Int))) ∨ ((kd = 3 ∨ kd = 5) ∧ (0 ≤ s ∧ s < (m : Int))) ∨ ((kd = 2 ∨ kd = 4 ∨ kd = 6) ∧ (0 ≤ r ∧ r < (m : Int)) ∧ (0 ≤ s ∧ s < (m : Int)))
theorem chYes1 {Z : Nat} {w : World} {na ra : Option Addr} {n cq m rq : Nat} (hz : Blk w Z [.slice na n cq, .slice ra m rq] 61) (hm : m ≤ 1000000) (r s i sz pt v : Int) (hn : namesM m 1 r s) : Calls Try.prog 24 #[.pointer (some ⟨Z, 0, none⟩), .agg #[.int .i64 1, .int .i64 r, .int .i64 s, .int .i64 i, .int .i64 sz, .int .i64 pt, .int .u64 v]] w fun e w' => e = .returned (.func (.func 37) #[.pointer (some ⟨Z, 0, none⟩)] #[]) ∧ Below w.heap.size w w' := by
  unfold namesM at hn
  obtain ⟨R, hR⟩ : ∃ R : Bool, decide (0 ≤ r ∧ r < (m : Int)) = R := ⟨_, rfl⟩
  obtain ⟨T, hT⟩ : ∃ T : Bool, decide (0 ≤ s ∧ s < (m : Int)) = T := ⟨_, rfl⟩
  have h := gpChoose1 (S := 0) hz hm r s i sz pt v R T hR hT
  have hc : R = true := by rw [← hR]; simp; omega
  rw [hc] at h
  exact h
theorem chYes2 {Z : Nat} {w : World} {na ra : Option Addr} {n cq m rq : Nat} (hz : Blk w Z [.slice na n cq, .slice ra m rq] 61) (hm : m ≤ 1000000) (r s i sz pt v : Int) (hn : namesM m 2 r s) : Calls Try.prog 24 #[.pointer (some ⟨Z, 0, none⟩), .agg #[.int .i64 2, .int .i64 r, .int .i64 s, .int .i64 i, .int .i64 sz, .int .i64 pt, .int .u64 v]] w fun e w' => e = .returned (.func (.func 38) #[.pointer (some ⟨Z, 0, none⟩)] #[]) ∧ Below w.heap.size w w' := by
  unfold namesM at hn
  obtain ⟨R, hR⟩ : ∃ R : Bool, decide (0 ≤ r ∧ r < (m : Int)) = R := ⟨_, rfl⟩
  obtain ⟨T, hT⟩ : ∃ T : Bool, decide (0 ≤ s ∧ s < (m : Int)) = T := ⟨_, rfl⟩
  have h := gpChoose2 (S := 0) hz hm r s i sz pt v R T hR hT
  have hc : (R && T) = true := by rw [← hR, ← hT]; simp; omega
  rw [hc] at h
  exact h
theorem chYes3 {Z : Nat} {w : World} {na ra : Option Addr} {n cq m rq : Nat} (hz : Blk w Z [.slice na n cq, .slice ra m rq] 61) (hm : m ≤ 1000000) (r s i sz pt v : Int) (hn : namesM m 3 r s) : Calls Try.prog 24 #[.pointer (some ⟨Z, 0, none⟩), .agg #[.int .i64 3, .int .i64 r, .int .i64 s, .int .i64 i, .int .i64 sz, .int .i64 pt, .int .u64 v]] w fun e w' => e = .returned (.func (.func 39) #[.pointer (some ⟨Z, 0, none⟩)] #[]) ∧ Below w.heap.size w w' := by
  unfold namesM at hn
  obtain ⟨R, hR⟩ : ∃ R : Bool, decide (0 ≤ r ∧ r < (m : Int)) = R := ⟨_, rfl⟩
  obtain ⟨T, hT⟩ : ∃ T : Bool, decide (0 ≤ s ∧ s < (m : Int)) = T := ⟨_, rfl⟩
  have h := gpChoose3 (S := 0) hz hm r s i sz pt v R T hR hT
  have hc : T = true := by rw [← hT]; simp; omega
  rw [hc] at h
  exact h
theorem chYes4 {Z : Nat} {w : World} {na ra : Option Addr} {n cq m rq : Nat} (hz : Blk w Z [.slice na n cq, .slice ra m rq] 61) (hm : m ≤ 1000000) (r s i sz pt v : Int) (hn : namesM m 4 r s) : Calls Try.prog 24 #[.pointer (some ⟨Z, 0, none⟩), .agg #[.int .i64 4, .int .i64 r, .int .i64 s, .int .i64 i, .int .i64 sz, .int .i64 pt, .int .u64 v]] w fun e w' => e = .returned (.func (.func 40) #[.pointer (some ⟨Z, 0, none⟩)] #[]) ∧ Below w.heap.size w w' := by
  unfold namesM at hn
  obtain ⟨R, hR⟩ : ∃ R : Bool, decide (0 ≤ r ∧ r < (m : Int)) = R := ⟨_, rfl⟩
  obtain ⟨T, hT⟩ : ∃ T : Bool, decide (0 ≤ s ∧ s < (m : Int)) = T := ⟨_, rfl⟩
  have h := gpChoose4 (S := 0) hz hm r s i sz pt v R T hR hT
  have hc : (R && T) = true := by rw [← hR, ← hT]; simp; omega
  rw [hc] at h
  exact h
theorem chYes5 {Z : Nat} {w : World} {na ra : Option Addr} {n cq m rq : Nat} (hz : Blk w Z [.slice na n cq, .slice ra m rq] 61) (hm : m ≤ 1000000) (r s i sz pt v : Int) (hn : namesM m 5 r s) : Calls Try.prog 24 #[.pointer (some ⟨Z, 0, none⟩), .agg #[.int .i64 5, .int .i64 r, .int .i64 s, .int .i64 i, .int .i64 sz, .int .i64 pt, .int .u64 v]] w fun e w' => e = .returned (.func (.func 41) #[.pointer (some ⟨Z, 0, none⟩)] #[]) ∧ Below w.heap.size w w' := by
  unfold namesM at hn
  obtain ⟨R, hR⟩ : ∃ R : Bool, decide (0 ≤ r ∧ r < (m : Int)) = R := ⟨_, rfl⟩
  obtain ⟨T, hT⟩ : ∃ T : Bool, decide (0 ≤ s ∧ s < (m : Int)) = T := ⟨_, rfl⟩
  have h := gpChoose5 (S := 0) hz hm r s i sz pt v R T hR hT
  have hc : T = true := by rw [← hT]; simp; omega
  rw [hc] at h
  exact h
theorem chYes6 {Z : Nat} {w : World} {na ra : Option Addr} {n cq m rq : Nat} (hz : Blk w Z [.slice na n cq, .slice ra m rq] 61) (hm : m ≤ 1000000) (r s i sz pt v : Int) (hn : namesM m 6 r s) : Calls Try.prog 24 #[.pointer (some ⟨Z, 0, none⟩), .agg #[.int .i64 6, .int .i64 r, .int .i64 s, .int .i64 i, .int .i64 sz, .int .i64 pt, .int .u64 v]] w fun e w' => e = .returned (.func (.func 42) #[.pointer (some ⟨Z, 0, none⟩)] #[]) ∧ Below w.heap.size w w' := by
  unfold namesM at hn
  obtain ⟨R, hR⟩ : ∃ R : Bool, decide (0 ≤ r ∧ r < (m : Int)) = R := ⟨_, rfl⟩
  obtain ⟨T, hT⟩ : ∃ T : Bool, decide (0 ≤ s ∧ s < (m : Int)) = T := ⟨_, rfl⟩
  have h := gpChoose6 (S := 0) hz hm r s i sz pt v R T hR hT
  have hc : (R && T) = true := by rw [← hR, ← hT]; simp; omega
  rw [hc] at h
  exact h
theorem chYes7 {Z : Nat} {w : World} {na ra : Option Addr} {n cq m rq : Nat} (hz : Blk w Z [.slice na n cq, .slice ra m rq] 61) (hm : m ≤ 1000000) (r s i sz pt v : Int) (hn : namesM m 7 r s) : Calls Try.prog 24 #[.pointer (some ⟨Z, 0, none⟩), .agg #[.int .i64 7, .int .i64 r, .int .i64 s, .int .i64 i, .int .i64 sz, .int .i64 pt, .int .u64 v]] w fun e w' => e = .returned (.func (.func 43) #[.pointer (some ⟨Z, 0, none⟩)] #[]) ∧ Below w.heap.size w w' := by
  unfold namesM at hn
  obtain ⟨R, hR⟩ : ∃ R : Bool, decide (0 ≤ r ∧ r < (m : Int)) = R := ⟨_, rfl⟩
  obtain ⟨T, hT⟩ : ∃ T : Bool, decide (0 ≤ s ∧ s < (m : Int)) = T := ⟨_, rfl⟩
  have h := gpChoose7 (S := 0) hz hm r s i sz pt v R T hR hT
  have hc : R = true := by rw [← hR]; simp; omega
  rw [hc] at h
  exact h
theorem chNo {Z : Nat} {w : World} {na ra : Option Addr} {n cq m rq : Nat} (hz : Blk w Z [.slice na n cq, .slice ra m rq] 61) (hm : m ≤ 1000000) (kd r s i sz pt v : Int) (hn : ¬ namesM m kd r s) : Calls Try.prog 24 #[.pointer (some ⟨Z, 0, none⟩), .agg #[.int .i64 kd, .int .i64 r, .int .i64 s, .int .i64 i, .int .i64 sz, .int .i64 pt, .int .u64 v]] w fun e w' => e = .returned (.func (.func 45) #[.pointer (some ⟨Z, 0, none⟩)] #[]) ∧ Below w.heap.size w w' := by
  unfold namesM at hn
  obtain ⟨R, hR⟩ : ∃ R : Bool, decide (0 ≤ r ∧ r < (m : Int)) = R := ⟨_, rfl⟩
  obtain ⟨T, hT⟩ : ∃ T : Bool, decide (0 ≤ s ∧ s < (m : Int)) = T := ⟨_, rfl⟩
  by_cases h1 : kd = 1
  · subst h1
    have h := gpChoose1 (S := 0) hz hm r s i sz pt v R T hR hT
    have hc : R = false := by rw [← hR]; simp; omega
    rw [hc] at h
    exact h
  by_cases h2 : kd = 2
  · subst h2
    have h := gpChoose2 (S := 0) hz hm r s i sz pt v R T hR hT
    have hc : (R && T) = false := by rw [← hR, ← hT]; simp; omega
    rw [hc] at h
    exact h
  by_cases h3 : kd = 3
  · subst h3
    have h := gpChoose3 (S := 0) hz hm r s i sz pt v R T hR hT
    have hc : T = false := by rw [← hT]; simp; omega
    rw [hc] at h
    exact h
  by_cases h4 : kd = 4
  · subst h4
    have h := gpChoose4 (S := 0) hz hm r s i sz pt v R T hR hT
    have hc : (R && T) = false := by rw [← hR, ← hT]; simp; omega
    rw [hc] at h
    exact h
  by_cases h5 : kd = 5
  · subst h5
    have h := gpChoose5 (S := 0) hz hm r s i sz pt v R T hR hT
    have hc : T = false := by rw [← hT]; simp; omega
    rw [hc] at h
    exact h
  by_cases h6 : kd = 6
  · subst h6
    have h := gpChoose6 (S := 0) hz hm r s i sz pt v R T hR hT
    have hc : (R && T) = false := by rw [← hR, ← hT]; simp; omega
    rw [hc] at h
    exact h
  by_cases h7 : kd = 7
  · subst h7
    have h := gpChoose7 (S := 0) hz hm r s i sz pt v R T hR hT
    have hc : R = false := by rw [← hR]; simp; omega
    rw [hc] at h
    exact h
  exact gpChooseNo (S := 0) hz hm kd r s i sz pt v (by simp; omega) (by simp; omega) (by simp; omega) (by simp; omega) (by simp; omega) (by simp; omega) (by simp; omega)
theorem node_of {nodes : List NdV} {l : List Nd} (h : nodes.map NdV.nd = l) {k : Nat} {y : Nd} (hy : l[k]? = some y) : ∃ x, nodes[k]? = some x ∧ x.ptrs = y.ptrs ∧ x.data = y.data := by
  rw [← h, List.getElem?_map] at hy
  cases hx : nodes[k]? with
  | none => rw [hx] at hy; cases hy
  | some x => rw [hx] at hy; simp only [Option.map_some, Option.some.injEq] at hy; subst hy; exact ⟨x, rfl, rfl, rfl⟩
theorem nd_eq {l : List NdV} {g : Gr} (h : l.map NdV.nd = g.nodes) (roots : List Int) : (⟨l.map NdV.nd, roots⟩ : Gr) = ⟨g.nodes, roots⟩ := by rw [h]
theorem gdRefuse {P : Nat → Prop} {g : Gr} {na ra : Option Addr} {n cq m rq : Nat} {w : World} (hA : GAt P w na n cq ra m rq g) (sm : gsm g) (hg : gright g) (hml : g.roots.length = m) (hn : n ≤ 1000000) (hm : m ≤ 1000000) (kd r s i sz pt : Int) (v : Nat) (hnm : ¬ namesM m kd r s) : Calls Try.prog 17 #[.agg #[.slice na n cq, .slice ra m rq], .agg #[.int .i64 kd, .int .i64 r, .int .i64 s, .int .i64 i, .int .i64 sz, .int .i64 pt, .int .u64 (v : Int)]] w (DoRI P w 0 ⟨[], []⟩ 1) :=
  gpDoNo hA sm hg kd r s i sz pt v 45 1 (by decide) hcf0 (fun hz e => by subst e; exact chNo hz hm kd r s i sz pt v hnm) (fun {S Z w1 _ _ _ _ _} hz hO hN hS hSZ => (gpRefuse Z w1 kd r s i sz pt v).mono (fun e w' h => ⟨h.1, h.2.mono hS⟩))
theorem gdNew {P : Nat → Prop} {g : Gr} {na ra : Option Addr} {n cq m rq : Nat} {w : World} (hA : GAt P w na n cq ra m rq g) (sm : gsm g) (hg : gright g) (hml : g.roots.length = m) (hn : n ≤ 1000000) (hm : m ≤ 1000000) (s i : Int) (r SZ PT : Nat) (v : Nat) (hr : r < m) (h1 : SZ ≤ 255) (h2 : PT ≤ SZ) : Calls Try.prog 17 #[.agg #[.slice na n cq, .slice ra m rq], .agg #[.int .i64 1, .int .i64 (r : Int), .int .i64 s, .int .i64 i, .int .i64 (SZ : Int), .int .i64 (PT : Int), .int .u64 (v : Int)]] w (DoRI P w 0 ⟨g.nodes ++ [gfresh SZ PT], g.roots.set r (n : Int)⟩ 0) :=
  gpDoOk hA sm hg 1 r s i SZ PT v 37 0 _ hcf1 (fun hz e => by subst e; exact chYes1 hz hm r s i SZ PT v (Or.inl ⟨Or.inl rfl, by omega⟩)) (fun hz hO hN hS hSZ => by have := gpAdd_ok hz hO hS hn hm hSZ 1 s i v r SZ PT hr h1 h2; rw [hN] at this; exact this)
theorem gdNewNo {P : Nat → Prop} {g : Gr} {na ra : Option Addr} {n cq m rq : Nat} {w : World} (hA : GAt P w na n cq ra m rq g) (sm : gsm g) (hg : gright g) (hml : g.roots.length = m) (hn : n ≤ 1000000) (hm : m ≤ 1000000) (r s i sz pt : Int) (v : Nat) (hr : 0 ≤ r ∧ r < (m : Int)) (hh : ¬ hright sz pt) : Calls Try.prog 17 #[.agg #[.slice na n cq, .slice ra m rq], .agg #[.int .i64 1, .int .i64 r, .int .i64 s, .int .i64 i, .int .i64 sz, .int .i64 pt, .int .u64 (v : Int)]] w (DoRI P w 0 ⟨[], []⟩ 1) :=
  gpDoNo hA sm hg 1 r s i sz pt v 37 1 (by decide) hcf1 (fun hz e => by subst e; exact chYes1 hz hm r s i sz pt v (Or.inl ⟨Or.inl rfl, hr⟩)) (fun hz hO hN hS hSZ => gpAdd_no hz hO hS hn hm hSZ 1 r s i sz pt v hh)
theorem gdDrop {P : Nat → Prop} {g : Gr} {na ra : Option Addr} {n cq m rq : Nat} {w : World} (hA : GAt P w na n cq ra m rq g) (sm : gsm g) (hg : gright g) (hml : g.roots.length = m) (hn : n ≤ 1000000) (hm : m ≤ 1000000) (s i sz pt : Int) (r : Nat) (v : Nat) (hr : r < m) : Calls Try.prog 17 #[.agg #[.slice na n cq, .slice ra m rq], .agg #[.int .i64 7, .int .i64 (r : Int), .int .i64 s, .int .i64 i, .int .i64 sz, .int .i64 pt, .int .u64 (v : Int)]] w (DoRI P w 0 ⟨g.nodes, g.roots.set r (-1)⟩ 0) :=
  gpDoOk hA sm hg 7 r s i sz pt v 43 0 _ hcf7 (fun hz e => by subst e; exact chYes7 hz hm r s i sz pt v (Or.inl ⟨Or.inr rfl, by omega⟩)) (fun hz hO hN hS hSZ => by have := gpDrop hz hO hS hn hm 7 s i sz pt v r hr; rw [hN] at this; exact this)
theorem gdAssign {P : Nat → Prop} {g : Gr} {na ra : Option Addr} {n cq m rq : Nat} {w : World} (hA : GAt P w na n cq ra m rq g) (sm : gsm g) (hg : gright g) (hml : g.roots.length = m) (hn : n ≤ 1000000) (hm : m ≤ 1000000) (i sz pt : Int) (r s : Nat) (tv : Int) (v : Nat) (hr : r < m) (hs : g.roots[s]? = some tv) : Calls Try.prog 17 #[.agg #[.slice na n cq, .slice ra m rq], .agg #[.int .i64 6, .int .i64 (r : Int), .int .i64 (s : Int), .int .i64 i, .int .i64 sz, .int .i64 pt, .int .u64 (v : Int)]] w (DoRI P w 0 ⟨g.nodes, g.roots.set r tv⟩ 0) :=
  gpDoOk hA sm hg 6 r s i sz pt v 42 0 _ hcf6 (fun hz e => by subst e; exact chYes6 hz hm r s i sz pt v (Or.inr (Or.inr ⟨Or.inr (Or.inr rfl), by omega, by have := (List.getElem?_eq_some_iff.1 hs).1; omega⟩))) (fun hz hO hN hS hSZ => by have := gpAssign hz hO hS hn hm 6 i sz pt v r s tv hr hs; rw [hN] at this; exact this)
theorem gdLoadNone {P : Nat → Prop} {g : Gr} {na ra : Option Addr} {n cq m rq : Nat} {w : World} (hA : GAt P w na n cq ra m rq g) (sm : gsm g) (hg : gright g) (hml : g.roots.length = m) (hn : n ≤ 1000000) (hm : m ≤ 1000000) (r i sz pt : Int) (s : Nat) (v : Nat) (hr : 0 ≤ r ∧ r < (m : Int)) (hs : g.roots[s]? = some (-1)) : Calls Try.prog 17 #[.agg #[.slice na n cq, .slice ra m rq], .agg #[.int .i64 2, .int .i64 r, .int .i64 (s : Int), .int .i64 i, .int .i64 sz, .int .i64 pt, .int .u64 (v : Int)]] w (DoRI P w 0 ⟨[], []⟩ 6) :=
  gpDoNo hA sm hg 2 r s i sz pt v 38 6 (by decide) hcf2 (fun hz e => by subst e; exact chYes2 hz hm r s i sz pt v (Or.inr (Or.inr ⟨Or.inl rfl, hr, by have := (List.getElem?_eq_some_iff.1 hs).1; omega⟩))) (fun hz hO hN hS hSZ => gpLoad_none hz hO hS hn hm 2 r i sz pt v s hs)
theorem gdLoadBad {P : Nat → Prop} {g : Gr} {na ra : Option Addr} {n cq m rq : Nat} {w : World} (hA : GAt P w na n cq ra m rq g) (sm : gsm g) (hg : gright g) (hml : g.roots.length = m) (hn : n ≤ 1000000) (hm : m ≤ 1000000) (r i sz pt : Int) (s k : Nat) (y : Nd) (v : Nat) (hr : 0 ≤ r ∧ r < (m : Int)) (hs : g.roots[s]? = some (k : Int)) (hy : g.nodes[k]? = some y) (hi : ¬ (0 ≤ i ∧ i < y.ptrs.length)) : Calls Try.prog 17 #[.agg #[.slice na n cq, .slice ra m rq], .agg #[.int .i64 2, .int .i64 r, .int .i64 (s : Int), .int .i64 i, .int .i64 sz, .int .i64 pt, .int .u64 (v : Int)]] w (DoRI P w 0 ⟨[], []⟩ 1) :=
  gpDoNo hA sm hg 2 r s i sz pt v 38 1 (by decide) hcf2 (fun hz e => by subst e; exact chYes2 hz hm r s i sz pt v (Or.inr (Or.inr ⟨Or.inl rfl, hr, by have := (List.getElem?_eq_some_iff.1 hs).1; omega⟩))) (fun hz hO hN hS hSZ => by
    obtain ⟨x, hx, e1, e2⟩ := node_of hN hy
    have hsm := sm.2.2 y (List.mem_of_getElem? hy)
    exact gpLoad_bad hz hO hS hn hm 2 r i sz pt v s k x hs hx (by rw [e1]; omega) (by rw [e1]; exact hi))
theorem gdGetNone {P : Nat → Prop} {g : Gr} {na ra : Option Addr} {n cq m rq : Nat} {w : World} (hA : GAt P w na n cq ra m rq g) (sm : gsm g) (hg : gright g) (hml : g.roots.length = m) (hn : n ≤ 1000000) (hm : m ≤ 1000000) (r i sz pt : Int) (s : Nat) (v : Nat) (hs : g.roots[s]? = some (-1)) : Calls Try.prog 17 #[.agg #[.slice na n cq, .slice ra m rq], .agg #[.int .i64 3, .int .i64 r, .int .i64 (s : Int), .int .i64 i, .int .i64 sz, .int .i64 pt, .int .u64 (v : Int)]] w (DoRI P w 0 ⟨[], []⟩ 6) :=
  gpDoNo hA sm hg 3 r s i sz pt v 39 6 (by decide) hcf3 (fun hz e => by subst e; exact chYes3 hz hm r s i sz pt v (Or.inr (Or.inl ⟨Or.inl rfl, by have := (List.getElem?_eq_some_iff.1 hs).1; omega⟩))) (fun hz hO hN hS hSZ => gpGet_none hz hO hS hn hm 3 r i sz pt v s hs)
theorem gdGetBad {P : Nat → Prop} {g : Gr} {na ra : Option Addr} {n cq m rq : Nat} {w : World} (hA : GAt P w na n cq ra m rq g) (sm : gsm g) (hg : gright g) (hml : g.roots.length = m) (hn : n ≤ 1000000) (hm : m ≤ 1000000) (r i sz pt : Int) (s k : Nat) (y : Nd) (v : Nat) (hs : g.roots[s]? = some (k : Int)) (hy : g.nodes[k]? = some y) (hi : ¬ (0 ≤ i ∧ i < y.data.length)) : Calls Try.prog 17 #[.agg #[.slice na n cq, .slice ra m rq], .agg #[.int .i64 3, .int .i64 r, .int .i64 (s : Int), .int .i64 i, .int .i64 sz, .int .i64 pt, .int .u64 (v : Int)]] w (DoRI P w 0 ⟨[], []⟩ 1) :=
  gpDoNo hA sm hg 3 r s i sz pt v 39 1 (by decide) hcf3 (fun hz e => by subst e; exact chYes3 hz hm r s i sz pt v (Or.inr (Or.inl ⟨Or.inl rfl, by have := (List.getElem?_eq_some_iff.1 hs).1; omega⟩))) (fun hz hO hN hS hSZ => by
    obtain ⟨x, hx, e1, e2⟩ := node_of hN hy
    have hsm := sm.2.2 y (List.mem_of_getElem? hy)
    exact gpGet_bad hz hO hS hn hm 3 r i sz pt v s k x hs hx (by rw [e2]; omega) (by rw [e2]; exact hi))
theorem gdStoreNone {P : Nat → Prop} {g : Gr} {na ra : Option Addr} {n cq m rq : Nat} {w : World} (hA : GAt P w na n cq ra m rq g) (sm : gsm g) (hg : gright g) (hml : g.roots.length = m) (hn : n ≤ 1000000) (hm : m ≤ 1000000) (r i sz pt : Int) (s : Nat) (v : Nat) (hr : 0 ≤ r ∧ r < (m : Int)) (hs : g.roots[s]? = some (-1)) : Calls Try.prog 17 #[.agg #[.slice na n cq, .slice ra m rq], .agg #[.int .i64 4, .int .i64 r, .int .i64 (s : Int), .int .i64 i, .int .i64 sz, .int .i64 pt, .int .u64 (v : Int)]] w (DoRI P w 0 ⟨[], []⟩ 6) :=
  gpDoNo hA sm hg 4 r s i sz pt v 40 6 (by decide) hcf4 (fun hz e => by subst e; exact chYes4 hz hm r s i sz pt v (Or.inr (Or.inr ⟨Or.inr (Or.inl rfl), hr, by have := (List.getElem?_eq_some_iff.1 hs).1; omega⟩))) (fun hz hO hN hS hSZ => gpStore_none hz hO hS hn hm 4 r i sz pt v s hs)
theorem gdStoreBad {P : Nat → Prop} {g : Gr} {na ra : Option Addr} {n cq m rq : Nat} {w : World} (hA : GAt P w na n cq ra m rq g) (sm : gsm g) (hg : gright g) (hml : g.roots.length = m) (hn : n ≤ 1000000) (hm : m ≤ 1000000) (r i sz pt : Int) (s k : Nat) (y : Nd) (v : Nat) (hr : 0 ≤ r ∧ r < (m : Int)) (hs : g.roots[s]? = some (k : Int)) (hy : g.nodes[k]? = some y) (hi : ¬ (0 ≤ i ∧ i < y.ptrs.length)) : Calls Try.prog 17 #[.agg #[.slice na n cq, .slice ra m rq], .agg #[.int .i64 4, .int .i64 r, .int .i64 (s : Int), .int .i64 i, .int .i64 sz, .int .i64 pt, .int .u64 (v : Int)]] w (DoRI P w 0 ⟨[], []⟩ 1) :=
  gpDoNo hA sm hg 4 r s i sz pt v 40 1 (by decide) hcf4 (fun hz e => by subst e; exact chYes4 hz hm r s i sz pt v (Or.inr (Or.inr ⟨Or.inr (Or.inl rfl), hr, by have := (List.getElem?_eq_some_iff.1 hs).1; omega⟩))) (fun hz hO hN hS hSZ => by
    obtain ⟨x, hx, e1, e2⟩ := node_of hN hy
    have hsm := sm.2.2 y (List.mem_of_getElem? hy)
    exact gpStore_bad hz hO hS hn hm 4 r i sz pt v s k x hs hx (by rw [e1]; omega) (by rw [e1]; exact hi))
theorem gdSetNone {P : Nat → Prop} {g : Gr} {na ra : Option Addr} {n cq m rq : Nat} {w : World} (hA : GAt P w na n cq ra m rq g) (sm : gsm g) (hg : gright g) (hml : g.roots.length = m) (hn : n ≤ 1000000) (hm : m ≤ 1000000) (r i sz pt : Int) (s : Nat) (v : Nat) (hs : g.roots[s]? = some (-1)) : Calls Try.prog 17 #[.agg #[.slice na n cq, .slice ra m rq], .agg #[.int .i64 5, .int .i64 r, .int .i64 (s : Int), .int .i64 i, .int .i64 sz, .int .i64 pt, .int .u64 (v : Int)]] w (DoRI P w 0 ⟨[], []⟩ 6) :=
  gpDoNo hA sm hg 5 r s i sz pt v 41 6 (by decide) hcf5 (fun hz e => by subst e; exact chYes5 hz hm r s i sz pt v (Or.inr (Or.inl ⟨Or.inr rfl, by have := (List.getElem?_eq_some_iff.1 hs).1; omega⟩))) (fun hz hO hN hS hSZ => gpSet_none hz hO hS hn hm 5 r i sz pt v s hs)
theorem gdSetBad {P : Nat → Prop} {g : Gr} {na ra : Option Addr} {n cq m rq : Nat} {w : World} (hA : GAt P w na n cq ra m rq g) (sm : gsm g) (hg : gright g) (hml : g.roots.length = m) (hn : n ≤ 1000000) (hm : m ≤ 1000000) (r i sz pt : Int) (s k : Nat) (y : Nd) (v : Nat) (hs : g.roots[s]? = some (k : Int)) (hy : g.nodes[k]? = some y) (hi : ¬ (0 ≤ i ∧ i < y.data.length)) : Calls Try.prog 17 #[.agg #[.slice na n cq, .slice ra m rq], .agg #[.int .i64 5, .int .i64 r, .int .i64 (s : Int), .int .i64 i, .int .i64 sz, .int .i64 pt, .int .u64 (v : Int)]] w (DoRI P w 0 ⟨[], []⟩ 1) :=
  gpDoNo hA sm hg 5 r s i sz pt v 41 1 (by decide) hcf5 (fun hz e => by subst e; exact chYes5 hz hm r s i sz pt v (Or.inr (Or.inl ⟨Or.inr rfl, by have := (List.getElem?_eq_some_iff.1 hs).1; omega⟩))) (fun hz hO hN hS hSZ => by
    obtain ⟨x, hx, e1, e2⟩ := node_of hN hy
    have hsm := sm.2.2 y (List.mem_of_getElem? hy)
    exact gpSet_bad hz hO hS hn hm 5 r i sz pt v s k x hs hx (by rw [e2]; omega) (by rw [e2]; exact hi))
theorem gdGet {P : Nat → Prop} {g : Gr} {na ra : Option Addr} {n cq m rq : Nat} {w : World} (hA : GAt P w na n cq ra m rq g) (sm : gsm g) (hg : gright g) (hml : g.roots.length = m) (hn : n ≤ 1000000) (hm : m ≤ 1000000) (r sz pt : Int) (s k I : Nat) (y : Nd) (u : Nat) (v : Nat) (hs : g.roots[s]? = some (k : Int)) (hy : g.nodes[k]? = some y) (hu : y.data[I]? = some u) : Calls Try.prog 17 #[.agg #[.slice na n cq, .slice ra m rq], .agg #[.int .i64 3, .int .i64 r, .int .i64 (s : Int), .int .i64 (I : Int), .int .i64 sz, .int .i64 pt, .int .u64 (v : Int)]] w (DoRI P w (u : Int) g 0) :=
  gpDoOk hA sm hg 3 r s I sz pt v 39 u g hcf3 (fun hz e => by subst e; exact chYes3 hz hm r s I sz pt v (Or.inr (Or.inl ⟨Or.inl rfl, by have := (List.getElem?_eq_some_iff.1 hs).1; omega⟩))) (fun hz hO hN hS hSZ => by
    obtain ⟨x, hx, e1, e2⟩ := node_of hN hy
    have hsm := sm.2.2 y (List.mem_of_getElem? hy)
    have hI := (List.getElem?_eq_some_iff.1 hu).1
    have := gpGet_ok hz hO hS hn hm 3 r sz pt v s I k x hs hx (by rw [e2]; omega) (by rw [e2]; exact hI) u (by rw [e2]; exact hu)
    rw [hN] at this; exact this)
theorem gdSet {P : Nat → Prop} {g : Gr} {na ra : Option Addr} {n cq m rq : Nat} {w : World} (hA : GAt P w na n cq ra m rq g) (sm : gsm g) (hg : gright g) (hml : g.roots.length = m) (hn : n ≤ 1000000) (hm : m ≤ 1000000) (r sz pt : Int) (s k I : Nat) (y : Nd) (v : Nat) (hv : v < 2 ^ 64) (hs : g.roots[s]? = some (k : Int)) (hy : g.nodes[k]? = some y) (hI : I < y.data.length) : Calls Try.prog 17 #[.agg #[.slice na n cq, .slice ra m rq], .agg #[.int .i64 5, .int .i64 r, .int .i64 (s : Int), .int .i64 (I : Int), .int .i64 sz, .int .i64 pt, .int .u64 (v : Int)]] w (DoRI P w 0 ⟨g.nodes.set k ⟨y.ptrs, y.data.set I v⟩, g.roots⟩ 0) :=
  gpDoOk hA sm hg 5 r s I sz pt v 41 0 _ hcf5 (fun hz e => by subst e; exact chYes5 hz hm r s I sz pt v (Or.inr (Or.inl ⟨Or.inr rfl, by have := (List.getElem?_eq_some_iff.1 hs).1; omega⟩))) (fun hz hO hN hS hSZ => by
    obtain ⟨x, hx, e1, e2⟩ := node_of hN hy
    have hsm := sm.2.2 y (List.mem_of_getElem? hy)
    have := gpSet_ok hz hO hS hn hm 5 r sz pt v hv s I k x hs hx (by rw [e2]; omega) (by rw [e2]; exact hI)
    rw [hN, e1, e2] at this; exact this)
theorem gdLoad {P : Nat → Prop} {g : Gr} {na ra : Option Addr} {n cq m rq : Nat} {w : World} (hA : GAt P w na n cq ra m rq g) (sm : gsm g) (hg : gright g) (hml : g.roots.length = m) (hn : n ≤ 1000000) (hm : m ≤ 1000000) (sz pt : Int) (r s k I : Nat) (y : Nd) (tv : Int) (v : Nat) (hr : r < m) (hs : g.roots[s]? = some (k : Int)) (hy : g.nodes[k]? = some y) (ht : y.ptrs[I]? = some tv) : Calls Try.prog 17 #[.agg #[.slice na n cq, .slice ra m rq], .agg #[.int .i64 2, .int .i64 (r : Int), .int .i64 (s : Int), .int .i64 (I : Int), .int .i64 sz, .int .i64 pt, .int .u64 (v : Int)]] w (DoRI P w 0 ⟨g.nodes, g.roots.set r tv⟩ 0) :=
  gpDoOk hA sm hg 2 r s I sz pt v 38 0 _ hcf2 (fun hz e => by subst e; exact chYes2 hz hm r s I sz pt v (Or.inr (Or.inr ⟨Or.inl rfl, by omega, by have := (List.getElem?_eq_some_iff.1 hs).1; omega⟩))) (fun hz hO hN hS hSZ => by
    obtain ⟨x, hx, e1, e2⟩ := node_of hN hy
    have hsm := sm.2.2 y (List.mem_of_getElem? hy)
    have hI := (List.getElem?_eq_some_iff.1 ht).1
    have := gpLoad_ok hz hO hS hn hm 2 sz pt v r hr s I k x hs hx (by rw [e1]; omega) (by rw [e1]; exact hI) tv (by rw [e1]; exact ht)
    rw [hN] at this; exact this)
theorem gdStore {P : Nat → Prop} {g : Gr} {na ra : Option Addr} {n cq m rq : Nat} {w : World} (hA : GAt P w na n cq ra m rq g) (sm : gsm g) (hg : gright g) (hml : g.roots.length = m) (hn : n ≤ 1000000) (hm : m ≤ 1000000) (sz pt : Int) (r s k I : Nat) (y : Nd) (tv : Int) (v : Nat) (hs : g.roots[s]? = some (k : Int)) (hy : g.nodes[k]? = some y) (hI : I < y.ptrs.length) (ht : g.roots[r]? = some tv) : Calls Try.prog 17 #[.agg #[.slice na n cq, .slice ra m rq], .agg #[.int .i64 4, .int .i64 (r : Int), .int .i64 (s : Int), .int .i64 (I : Int), .int .i64 sz, .int .i64 pt, .int .u64 (v : Int)]] w (DoRI P w 0 ⟨g.nodes.set k ⟨y.ptrs.set I tv, y.data⟩, g.roots⟩ 0) :=
  gpDoOk hA sm hg 4 r s I sz pt v 40 0 _ hcf4 (fun hz e => by subst e; exact chYes4 hz hm r s I sz pt v (Or.inr (Or.inr ⟨Or.inr (Or.inl rfl), by have := (List.getElem?_eq_some_iff.1 ht).1; omega, by have := (List.getElem?_eq_some_iff.1 hs).1; omega⟩))) (fun hz hO hN hS hSZ => by
    obtain ⟨x, hx, e1, e2⟩ := node_of hN hy
    have hsm := sm.2.2 y (List.mem_of_getElem? hy)
    have := gpStore_ok hz hO hS hn hm 4 sz pt v r s I k x hs hx (by rw [e1]; omega) (by rw [e1]; exact hI) tv ht
    rw [hN, e1, e2] at this; exact this)
theorem gpDo {P : Nat → Prop} {g : Gr} {na ra : Option Addr} {n cq m rq : Nat} {w : World} (hA : GAt P w na n cq ra m rq g) (sm : gsm g) (kd r s i sz pt : Int) (v : Nat) (hv : v < 2 ^ 64) (V : Nat) (X : Gr) (E : Int) (hd : gdo g ⟨kd, r, s, i, sz, pt, v⟩ = (V, X, E)) :
    Calls Try.prog 17 #[.agg #[.slice na n cq, .slice ra m rq], .agg #[.int .i64 kd, .int .i64 r, .int .i64 s, .int .i64 i, .int .i64 sz, .int .i64 pt, .int .u64 (v : Int)]] w (DoRI P w (V : Int) X E) := by
  have hnl : g.nodes.length = n := hA.parts.1
  have hml : g.roots.length = m := hA.parts.2.1
  have hn : n ≤ 1000000 := by have := sm.1; omega
  have hm : m ≤ 1000000 := by have := sm.2.1; omega
  by_cases hg : gright g
  · by_cases hnm : gnames g ⟨kd, r, s, i, sz, pt, v⟩
    · have hn' := hnm
      unfold gnames groot at hn'
      simp only at hn'
      rw [hml] at hn'
      rcases hn' with ⟨hk, hr⟩ | ⟨hk, hs⟩ | ⟨hk, hr, hs⟩
      · obtain ⟨R, rfl⟩ := Int.eq_ofNat_of_zero_le hr.1
        have hrl : R < m := by omega
        rcases hk with rfl | rfl
        · rw [gdo_new (a := ⟨1, R, s, i, sz, pt, v⟩) hg rfl (by unfold groot; dsimp only; rw [hml]; omega)] at hd
          dsimp only at hd
          by_cases hsh : hright sz pt
          · rw [if_pos (by unfold hright at hsh; omega)] at hd
            simp only [Prod.mk.injEq] at hd
            obtain ⟨rfl, rfl, rfl⟩ := hd
            unfold hright at hsh
            obtain ⟨SZ, rfl⟩ := Int.eq_ofNat_of_zero_le (show 0 ≤ sz by omega)
            obtain ⟨PT, rfl⟩ := Int.eq_ofNat_of_zero_le (show 0 ≤ pt by omega)
            rw [Int.toNat_natCast, hnl]
            exact gdNew hA sm hg hml hn hm s i R SZ PT v hrl (by omega) (by omega)
          · rw [if_neg (by unfold hright at hsh; omega)] at hd
            simp only [Prod.mk.injEq] at hd
            obtain ⟨rfl, rfl, rfl⟩ := hd
            exact gdNewNo hA sm hg hml hn hm R s i sz pt v hr hsh
        · rw [gdo_drop (a := ⟨7, R, s, i, sz, pt, v⟩) hg rfl (by unfold groot; dsimp only; rw [hml]; omega)] at hd
          simp only [Prod.mk.injEq] at hd
          obtain ⟨rfl, rfl, rfl⟩ := hd
          exact gdDrop hA sm hg hml hn hm s i sz pt R v hrl
      · obtain ⟨T, rfl⟩ := Int.eq_ofNat_of_zero_le hs.1
        have hsl : T < g.roots.length := by omega
        have hgs : groot g (T : Int) := by unfold groot; omega
        have hat : g.roots[T]? = some (gat g (T : Int)) := by unfold gat; rw [Int.toNat_natCast, List.getD_eq_getElem?_getD, List.getElem?_eq_getElem hsl]; rfl
        rw [gdo_slot (a := ⟨kd, r, T, i, sz, pt, v⟩) hg (by dsimp only; omega) hnm] at hd
        by_cases h0 : gat g (T : Int) < 0
        · have h1 : gat g (T : Int) = -1 := by have := (gat_in hg hgs).1; omega
          rw [h1] at hat
          rw [gslot_none (by exact h0)] at hd
          simp only [Prod.mk.injEq] at hd
          obtain ⟨rfl, rfl, rfl⟩ := hd
          rcases hk with rfl | rfl
          · exact gdGetNone hA sm hg hml hn hm r i sz pt T v hat
          · exact gdSetNone hA sm hg hml hn hm r i sz pt T v hat
        · obtain ⟨k, hkk⟩ := Int.eq_ofNat_of_zero_le (show 0 ≤ gat g (T : Int) by omega)
          obtain ⟨y, hy, hym, hyk⟩ := node_at (p := gat g (T : Int)) (by omega) (gat_in hg hgs).2
          have hgn : gnode g (T : Int) = y := hy
          rw [hkk] at hat hyk
          rw [Int.toNat_natCast] at hyk
          rcases hk with rfl | rfl
          · rw [gslot_get (by dsimp only; omega) rfl] at hd
            dsimp only at hd
            rw [hgn] at hd
            by_cases hi : 0 ≤ i ∧ i < y.data.length
            · rw [if_pos hi] at hd
              simp only [Prod.mk.injEq] at hd
              obtain ⟨rfl, rfl, rfl⟩ := hd
              obtain ⟨I, rfl⟩ := Int.eq_ofNat_of_zero_le hi.1
              rw [Int.toNat_natCast]
              exact gdGet hA sm hg hml hn hm r sz pt T k I y _ v hat hyk (by rw [List.getD_eq_getElem?_getD, List.getElem?_eq_getElem (by omega)]; rfl)
            · rw [if_neg hi] at hd
              simp only [Prod.mk.injEq] at hd
              obtain ⟨rfl, rfl, rfl⟩ := hd
              exact gdGetBad hA sm hg hml hn hm r i sz pt T k y v hat hyk hi
          · rw [gslot_set (by dsimp only; omega) rfl] at hd
            dsimp only at hd
            rw [hgn] at hd
            by_cases hi : 0 ≤ i ∧ i < y.data.length
            · rw [if_pos hi] at hd
              simp only [Prod.mk.injEq] at hd
              obtain ⟨rfl, rfl, rfl⟩ := hd
              obtain ⟨I, rfl⟩ := Int.eq_ofNat_of_zero_le hi.1
              rw [Int.toNat_natCast]
              unfold gturned
              rw [hkk, Int.toNat_natCast]
              exact gdSet hA sm hg hml hn hm r sz pt T k I y v hv hat hyk (by omega)
            · rw [if_neg hi] at hd
              simp only [Prod.mk.injEq] at hd
              obtain ⟨rfl, rfl, rfl⟩ := hd
              exact gdSetBad hA sm hg hml hn hm r i sz pt T k y v hat hyk hi
      · obtain ⟨R, rfl⟩ := Int.eq_ofNat_of_zero_le hr.1
        obtain ⟨T, rfl⟩ := Int.eq_ofNat_of_zero_le hs.1
        have hrl : R < m := by omega
        have hsl : T < g.roots.length := by omega
        have hgs : groot g (T : Int) := by unfold groot; omega
        have hgr : groot g (R : Int) := by unfold groot; omega
        have hat : g.roots[T]? = some (gat g (T : Int)) := by unfold gat; rw [Int.toNat_natCast, List.getD_eq_getElem?_getD, List.getElem?_eq_getElem hsl]; rfl
        have hatr : g.roots[R]? = some (gat g (R : Int)) := by unfold gat; rw [Int.toNat_natCast, List.getD_eq_getElem?_getD, List.getElem?_eq_getElem (by omega)]; rfl
        by_cases h6 : kd = 6
        · subst h6
          rw [gdo_assign (a := ⟨6, R, T, i, sz, pt, v⟩) hg rfl hgr hgs] at hd
          simp only [Prod.mk.injEq] at hd
          obtain ⟨rfl, rfl, rfl⟩ := hd
          exact gdAssign hA sm hg hml hn hm i sz pt R T _ v hrl hat
        · rw [gdo_slot (a := ⟨kd, R, T, i, sz, pt, v⟩) hg (by dsimp only; omega) hnm] at hd
          by_cases h0 : gat g (T : Int) < 0
          · have h1 : gat g (T : Int) = -1 := by have := (gat_in hg hgs).1; omega
            rw [h1] at hat
            rw [gslot_none (by exact h0)] at hd
            simp only [Prod.mk.injEq] at hd
            obtain ⟨rfl, rfl, rfl⟩ := hd
            rcases hk with rfl | rfl | rfl
            · exact gdLoadNone hA sm hg hml hn hm R i sz pt T v hr hat
            · exact gdStoreNone hA sm hg hml hn hm R i sz pt T v hr hat
            · exact absurd rfl h6
          · obtain ⟨k, hkk⟩ := Int.eq_ofNat_of_zero_le (show 0 ≤ gat g (T : Int) by omega)
            obtain ⟨y, hy, hym, hyk⟩ := node_at (p := gat g (T : Int)) (by omega) (gat_in hg hgs).2
            have hgn : gnode g (T : Int) = y := hy
            rw [hkk] at hat hyk
            rw [Int.toNat_natCast] at hyk
            rcases hk with rfl | rfl | rfl
            · rw [gslot_load (by dsimp only; omega) rfl] at hd
              dsimp only at hd
              rw [hgn] at hd
              by_cases hi : 0 ≤ i ∧ i < y.ptrs.length
              · rw [if_pos hi] at hd
                simp only [Prod.mk.injEq] at hd
                obtain ⟨rfl, rfl, rfl⟩ := hd
                obtain ⟨I, rfl⟩ := Int.eq_ofNat_of_zero_le hi.1
                rw [Int.toNat_natCast]
                exact gdLoad hA sm hg hml hn hm sz pt R T k I y _ v hrl hat hyk (by rw [List.getD_eq_getElem?_getD, List.getElem?_eq_getElem (by omega)]; rfl)
              · rw [if_neg hi] at hd
                simp only [Prod.mk.injEq] at hd
                obtain ⟨rfl, rfl, rfl⟩ := hd
                exact gdLoadBad hA sm hg hml hn hm R i sz pt T k y v hr hat hyk hi
            · rw [gslot_store (by dsimp only; omega) rfl] at hd
              dsimp only at hd
              rw [hgn] at hd
              by_cases hi : 0 ≤ i ∧ i < y.ptrs.length
              · rw [if_pos hi] at hd
                simp only [Prod.mk.injEq] at hd
                obtain ⟨rfl, rfl, rfl⟩ := hd
                obtain ⟨I, rfl⟩ := Int.eq_ofNat_of_zero_le hi.1
                rw [Int.toNat_natCast]
                unfold gturned
                rw [hkk, Int.toNat_natCast]
                exact gdStore hA sm hg hml hn hm sz pt R T k I y _ v hat hyk (by omega) hatr
              · rw [if_neg hi] at hd
                simp only [Prod.mk.injEq] at hd
                obtain ⟨rfl, rfl, rfl⟩ := hd
                exact gdStoreBad hA sm hg hml hn hm R i sz pt T k y v hr hat hyk hi
            · exact absurd rfl h6
    · rw [gdo_bad (fun h => hnm h.2)] at hd
      simp only [Prod.mk.injEq] at hd
      obtain ⟨rfl, rfl, rfl⟩ := hd
      exact gdRefuse hA sm hg hml hn hm kd r s i sz pt v (fun h => hnm (by unfold gnames groot; unfold namesM at h; rw [hml]; exact h))
  · rw [gdo_bad (fun h => hg h.1)] at hd
    simp only [Prod.mk.injEq] at hd
    obtain ⟨rfl, rfl, rfl⟩ := hd
    exact gpDoWrong hA sm hg kd r s i sz pt v
/-- What is asked of the program's functions holds. -/
theorem grC : GrC where
  right := fun hA sm R hR => gpRight hA sm R hR
  words := fun hA sm W hW => gpWords hA sm W hW
  act := fun hA sm kd r s i sz pt v va _ _ _ _ _ _ hv hva V VI X E hd hVI => by
    subst hva hVI
    exact gpDo hA sm kd r s i sz pt v hv V X E hd

end Go.Proofs.Ytjoacfjbdpmgpaa.V
