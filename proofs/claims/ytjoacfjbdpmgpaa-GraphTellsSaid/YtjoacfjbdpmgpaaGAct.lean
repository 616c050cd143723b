/-
  Act of the statements: an act of raw numbers; walked.
-/
import Derived.Test.YtjoacfjbdpmgpaaGSame
import Derived.Test.YtjoacfjbdpmgpaaPick
set_option linter.unusedVariables false
namespace Go.Proofs.Ytjoacfjbdpmgpaa.V
open Go.RowKit

def actof (n0 n1 n2 n3 n4 : Int) (v : Nat) : Ac := ⟨1 + pk n0 7, pk n1 5, pk n2 5, pk n3 4, pk n4 6, pk (n4.tdiv 6) (pk n4 6 + 1), v⟩
theorem tdiv6 (n : Int) (h : ib n) : ib (n.tdiv 6) := by
  by_cases h0 : 0 ≤ n
  · rw [Int.tdiv_eq_ediv_of_nonneg h0]; unfold ib at *; omega
  · have e : n.tdiv 6 = -((-n).tdiv 6) := by rw [Int.neg_tdiv, Int.neg_neg]
    rw [e, Int.tdiv_eq_ediv_of_nonneg (by omega)]; unfold ib at *; omega
/-- An act, as a value. -/
def acl (a : Ac) : List Value := [.int .i64 a.kind, .int .i64 a.r, .int .i64 a.s, .int .i64 a.i, .int .i64 a.size, .int .i64 a.ptrs, .int .u64 (a.v : Int)]
def Ac.bd (a : Ac) : Prop := ib a.kind ∧ ib a.r ∧ ib a.s ∧ ib a.i ∧ ib a.size ∧ ib a.ptrs ∧ a.v < 2 ^ 64
theorem actof_bd (n0 n1 n2 n3 n4 : Int) (v : Nat) (hv : v < 2 ^ 64) : (actof n0 n1 n2 n3 n4 v).bd ∧ (actof n0 n1 n2 n3 n4 v).size ≤ 5 := by
  have h0 := pk_bd n0 7 (by omega)
  have h1 := pk_bd n1 5 (by omega)
  have h2 := pk_bd n2 5 (by omega)
  have h3 := pk_bd n3 4 (by omega)
  have h4 := pk_bd n4 6 (by omega)
  have h5 := pk_bd (n4.tdiv 6) (pk n4 6 + 1) (by omega)
  unfold Ac.bd actof ib
  dsimp only
  omega
theorem load_act {w : World} {b : Nat} {a : Ac} (h : Blk w b (acl a) 31) : (loadVar 31 ⟨b, 0, none⟩).run Try.prog w = .ok (.agg #[.int .i64 a.kind, .int .i64 a.r, .int .i64 a.s, .int .i64 a.i, .int .i64 a.size, .int .i64 a.ptrs, .int .u64 (a.v : Int)]) w :=
  run_loadVar_mid _ _ _ _ (acl a) _ (fun j v hj => by rw [Nat.zero_add]; exact Blk.cell h hj) Try.underlying31 rfl (by kernel_rfl)

set_option maxRecDepth 100000 in
set_option maxHeartbeats 2000000 in
theorem gAct (n0 n1 n2 n3 n4 : Int) (v : Nat) (w : World) (hv : v < 2 ^ 64) (s0 : ib n0) (s1 : ib n1) (s2 : ib n2) (s3 : ib n3) (s4 : ib n4) (A : Ac) (hA : actof n0 n1 n2 n3 n4 v = A) :
    Calls Try.prog 15 #[.agg #[.int .i64 n0, .int .i64 n1, .int .i64 n2, .int .i64 n3, .int .i64 n4], .int .u64 (v : Int)] w fun e w' => e = .returned (.agg #[.int .i64 A.kind, .int .i64 A.r, .int .i64 A.s, .int .i64 A.i, .int .i64 A.size, .int .i64 A.ptrs, .int .u64 (A.v : Int)]) ∧ Below w.heap.size w w' := by
  obtain ⟨k0, hk0, b0⟩ := pkN n0 7 (by omega)
  obtain ⟨k1, hk1, b1⟩ := pkN n1 5 (by omega)
  obtain ⟨k2, hk2, b2⟩ := pkN n2 5 (by omega)
  obtain ⟨k3, hk3, b3⟩ := pkN n3 4 (by omega)
  obtain ⟨k4, hk4, b4⟩ := pkN n4 6 (by omega)
  obtain ⟨q, hq⟩ : ∃ q, n4.tdiv 6 = q := ⟨_, rfl⟩
  have hqb : ib q := by rw [← hq]; exact tdiv6 n4 s4
  obtain ⟨k5, hk5, b5⟩ := pkN q ((k4 : Int) + 1) (by omega)
  have HAE := Lib.hid (show A = ⟨1 + (k0 : Int), k1, k2, k3, k4, k5, v⟩ by
    rw [← hA]; unfold actof; rw [hk0, hk1, hk2, hk3, hk4, hq, hk5])
  unfold ib at s0 s1 s2 s3 s4 hqb
  have IHp := Lib.hid (fun (c : Int) (n : Int) (r : Int) w (h : (c = n0 ∧ n = 7 ∧ r = k0) ∨ (c = n1 ∧ n = 5 ∧ r = k1) ∨ (c = n2 ∧ n = 5 ∧ r = k2) ∨ (c = n3 ∧ n = 4 ∧ r = k3)) => show Calls Try.prog 16 #[.int .i64 c, .int .i64 n] w fun e w' => e = .returned (.int .i64 r) ∧ w = w' from by
    rcases h with ⟨rfl, rfl, rfl⟩ | ⟨rfl, rfl, rfl⟩ | ⟨rfl, rfl, rfl⟩ | ⟨rfl, rfl, rfl⟩
    · exact pick08_int _ 7 k0 w s0.1 s0.2 (by omega) (by omega) hk0
    · exact pick08_int _ 5 k1 w s1.1 s1.2 (by omega) (by omega) hk1
    · exact pick08_int _ 5 k2 w s2.1 s2.2 (by omega) (by omega) hk2
    · exact pick08_int _ 4 k3 w s3.1 s3.2 (by omega) (by omega) hk3)
  have HK4 := Lib.hid hk4
  have HK5 := Lib.hid hk5
  clear hA hk0 hk1 hk2 hk3 hk4 hk5
  have HZ : Hid (Blk ((w.alloc (.cells #[.int .i64 n0, .int .i64 n1, .int .i64 n2, .int .i64 n3, .int .i64 n4] 32)).alloc (.cells #[.int .i64 0, .int .i64 0, .int .i64 0, .int .i64 0, .int .i64 0, .int .i64 0, .int .u64 0] 31)) (w.heap.size + 1) [.int .i64 0, .int .i64 0, .int .i64 0, .int .i64 0, .int .i64 0, .int .i64 0, .int .u64 0] 31) := Lib.hid (by
    have := Blk.new (w.alloc (.cells #[.int .i64 n0, .int .i64 n1, .int .i64 n2, .int .i64 n3, .int .i64 n4] 32)) [.int .i64 0, .int .i64 0, .int .i64 0, .int .i64 0, .int .i64 0, .int .i64 0, .int .u64 0] 31
    rwa [World.size_alloc] at this)
  have HN : Hid (Blk ((w.alloc (.cells #[.int .i64 n0, .int .i64 n1, .int .i64 n2, .int .i64 n3, .int .i64 n4] 32)).alloc (.cells #[.int .i64 0, .int .i64 0, .int .i64 0, .int .i64 0, .int .i64 0, .int .i64 0, .int .u64 0] 31)) w.heap.size [.int .i64 n0, .int .i64 n1, .int .i64 n2, .int .i64 n3, .int .i64 n4] 32) := Lib.hid ((Blk.new w [.int .i64 n0, .int .i64 n1, .int .i64 n2, .int .i64 n3, .int .i64 n4] 32).below (ba0 _ _))
  have HB := Lib.hid (ba (ba0 w (.cells #[.int .i64 n0, .int .i64 n1, .int .i64 n2, .int .i64 n3, .int .i64 n4] 32)) (.cells #[.int .i64 0, .int .i64 0, .int .i64 0, .int .i64 0, .int .i64 0, .int .i64 0, .int .u64 0] 31))
  go_enter Try.func15, Try.ntmps15
  go_upto_region 1 with fail
  generalize (w.alloc (.cells #[.int .i64 n0, .int .i64 n1, .int .i64 n2, .int .i64 n3, .int .i64 n4] 32)).alloc (.cells #[.int .i64 0, .int .i64 0, .int .i64 0, .int .i64 0, .int .i64 0, .int .i64 0, .int .u64 0] 31) = V at HZ HN HB ⊢
  have c4 : V.cell? ⟨w.heap.size, 4, none⟩ = some (.int .i64 n4) := HN.out.cell rfl
  go_wp2_with fail
  refine (pick08_int n4 6 k4 _ s4.1 s4.2 (by omega) (by omega) HK4.out).mono ?_
  rintro e w1 ⟨rfl, rfl⟩
  go_upto_region 2 with fail
  have HV := Lib.hid (ba0 V (.cells #[.int .i64 (k4 : Int), .int .i64 0] 28))
  have HS := Lib.hid (Blk.new V [.int .i64 (k4 : Int), .int .i64 0] 28)
  generalize V.alloc (.cells #[.int .i64 (k4 : Int), .int .i64 0] 28) = W at HV HS ⊢
  have hZl := HZ.out.lt
  have HN2 := Lib.hid (HN.out.below HV.out)
  have HZ2 := Lib.hid (HZ.out.below HV.out)
  have HB2 := Lib.hid (bt HB.out HV.out)
  clear c4
  have c4 : W.cell? ⟨w.heap.size, 4, none⟩ = some (.int .i64 n4) := HN2.out.cell rfl
  have t0 : W.cell? ⟨V.heap.size, 0, none⟩ = some (.int .i64 (k4 : Int)) := HS.out.cell rfl
  have t1 : W.cell? ⟨V.heap.size, 1, none⟩ = some (.int .i64 0) := HS.out.cell rfl
  have tf := HS.out.frozen 1
  go_wp2_with fail
  refine (pick08_int q ((k4 : Int) + 1) k5 _ hqb.1 hqb.2 (by omega) (by omega) HK5.out).mono ?_
  rintro e w1 ⟨rfl, rfl⟩
  go_upto_region 3 with fail
  have HS3 := Lib.hid (show Blk (W.setCell ⟨V.heap.size, 1, none⟩ (.int .i64 (k5 : Int))) V.heap.size [.int .i64 (k4 : Int), .int .i64 (k5 : Int)] 28 from blk_set HS.out 1 _)
  have HN3 := Lib.hid (HN2.out.far (g := V.heap.size) (j := 1) (by omega) (.int .i64 (k5 : Int)))
  have HZ3 := Lib.hid (HZ2.out.far (g := V.heap.size) (j := 1) (by omega) (.int .i64 (k5 : Int)))
  have HB3 := Lib.hid (HB2.out.setCell (p := ⟨V.heap.size, 1, none⟩) (by show w.heap.size ≤ V.heap.size; omega) (.int .i64 (k5 : Int)))
  generalize W.setCell ⟨V.heap.size, 1, none⟩ (.int .i64 (k5 : Int)) = X at HS3 HN3 HZ3 HB3 ⊢
  clear c4 t0 t1 tf hq
  have q0 : ∀ z : GW X, z.w'.cell? ⟨w.heap.size, 0, none⟩ = some (.int .i64 n0) := fun z => (HN3.out.below z.h).cell rfl
  have q1 : ∀ z : GW X, z.w'.cell? ⟨w.heap.size, 1, none⟩ = some (.int .i64 n1) := fun z => (HN3.out.below z.h).cell rfl
  have q2 : ∀ z : GW X, z.w'.cell? ⟨w.heap.size, 2, none⟩ = some (.int .i64 n2) := fun z => (HN3.out.below z.h).cell rfl
  have q3 : ∀ z : GW X, z.w'.cell? ⟨w.heap.size, 3, none⟩ = some (.int .i64 n3) := fun z => (HN3.out.below z.h).cell rfl
  have HSX : Hid (∀ w', (∃ z : GW X, w' = z.w') → Blk w' V.heap.size [.int .i64 (k4 : Int), .int .i64 (k5 : Int)] 28) := Lib.hid (by rintro _ ⟨z, rfl⟩; exact HS3.out.below z.h)
  refine wp_region_mover [0, 1, 2, 3, 4, 5, 6, 7, 8, 9, 10, 11, 12, 13, 14, 15] 16 [] _ (fun w' => ∃ x : GW X, w' = x.w') (by kernel_rfl) (by kernel_rfl) rfl ⟨⟨_, (Below.refl _ X).drew⟩, rfl⟩ ?_
  simp only [opsAt, List.filterMap_cons, List.filterMap_nil, List.getElem?_toArray, List.getElem?_cons_succ, List.getElem?_cons_zero, List.getElem_toArray, List.getElem_cons_succ, List.getElem_cons_zero]
  show wpQuiet _ _ _ _ [_, _, _, _, _, _, _, _, _, _, _, _, _, _, _, _] _
  iterate 13 (go_big_quiet_step ((go_at_call 16; exact grow_same (IHp.out _ _ _ _ (by first | exact Or.inl ⟨rfl, rfl, rfl⟩ | exact Or.inr (Or.inl ⟨rfl, rfl, rfl⟩) | exact Or.inr (Or.inr (Or.inl ⟨rfl, rfl, rfl⟩)) | exact Or.inr (Or.inr (Or.inr ⟨rfl, rfl, rfl⟩)))))))
  refine wpQ_load_any (by rfl) 28 (.tmp 5) rfl V.heap.size rfl [.int .i64 (k4 : Int), .int .i64 (k5 : Int)] _ _ HSX.out Try.underlying28 rfl (by kernel_rfl) ?_
  simp [Act.put]
  show wpQuiet _ _ _ _ [_, _] _
  iterate 2 (go_big_quiet_step ((fail)))
  refine wpQuiet_nil ?_
  rintro ⟨w3, hz3⟩
  have HZ4 := Lib.hid (HZ3.out.below hz3)
  have HB4 := Lib.hid (bt HB3.out hz3)
  show wpList _ _ _ [_] _ w3
  clear hz3 q0 q1 q2 q3 HSX
  refine wp_store_but rfl 31 (.tmp 4) (.tmp 33) rfl (w.heap.size + 1) _ [.int .i64 (1 + (k0 : Int)), .int .i64 (k1 : Int), .int .i64 (k2 : Int), .int .i64 (k3 : Int), .int .i64 (k4 : Int), .int .i64 (k5 : Int), .int .u64 (v : Int)] rfl rfl _ HZ4.out rfl (by kernel_rfl) (by simp [Value.oneCell']) ?_
  intro w4 hz4 _ hb4
  have HB5 := Lib.hid (hb4 _ _ (by omega) HB4.out)
  have HZ5 := Lib.hid hz4
  clear hb4 hz4
  go_wp2_with fail
  dsimp only [onlyN]
  refine wpQuiet_nil ?_
  go_wp2_with fail
  refine bodyPost_ret (res_cell1 rfl _ _ _ (w.heap.size + 1) _ rfl (load_act (a := ⟨1 + (k0 : Int), k1, k2, k3, k4, k5, v⟩) HZ5.out)) rfl ?_
  exact ⟨by rw [HAE.out], HB5.out⟩
end Go.Proofs.Ytjoacfjbdpmgpaa.V
