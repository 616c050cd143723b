/-
  Layout, as the statements use it; how many addresses are some place's.
-/
import Derived.Test.YtifmlmbbmlnpmaaPlAwake
set_option linter.unusedVariables false
namespace Go.Proofs.Ytifmlmbbmlnpmaa.V
open Go.RowKit

def i64 (x : Int) : Prop := -9223372036854775808 ≤ x ∧ x ≤ 9223372036854775807
theorem layout7x (b : Nat) (n0 n1 n2 n3 n4 n5 : Int) (hb : b < 2 ^ 64) (s0 : i64 n0) (s1 : i64 n1) (s2 : i64 n2) (s3 : i64 n3) (s4 : i64 n4) (s5 : i64 n5) : ∃ l, lright l ∧ l.cap ≤ 40 ∧
    ∀ w, Calls Try.prog 10 #[.int .u64 (b : Int), .agg #[.int .i64 n0, .int .i64 n1, .int .i64 n2, .int .i64 n3, .int .i64 n4, .int .i64 n5]] w fun e w' => e = .returned (.agg #[.int .u64 (l.base : Int), .int .i64 l.cap, .int .i64 l.to, .int .i64 l.low, .int .i64 l.high, .int .i64 l.old, .int .i64 l.far]) ∧ Below w.heap.size w w' :=
  ⟨lay7 b n0 n1 n2 n3 n4 n5, (lay7_right b n0 n1 n2 n3 n4 n5).1, (lay7_right b n0 n1 n2 n3 n4 n5).2, fun w => layout7 b n0 n1 n2 n3 n4 n5 w hb s0.1 s0.2 s1.1 s1.2 s2.1 s2.2 s3.1 s3.2 s4.1 s4.2 s5.1 s5.2⟩

/-- Blocks made one behind the other. -/
theorem blk2 {w : World} {o1 o3 : Obj} {cs : List Value} {t : TypeId} : Blk (((w.alloc o1).alloc (.cells cs.toArray t)).alloc o3) (w.heap.size + 1) cs t := by
  have := (Blk.new (w.alloc o1) cs t).below (ba0 _ o3)
  rwa [World.size_alloc] at this
theorem blk3 {w : World} {o1 o2 : Obj} {cs : List Value} {t : TypeId} : Blk (((w.alloc o1).alloc o2).alloc (.cells cs.toArray t)) (w.heap.size + 1 + 1) cs t := by
  have := Blk.new ((w.alloc o1).alloc o2) cs t
  rwa [World.size_alloc, World.size_alloc] at this
/-- How many of the first k numbers stand in a row of n that begins at a. -/
def cnt1 (k a n : Int) : Int := max 0 (min (k - a) n)
theorem cnt1_in {k a n : Int} (h : a ≤ k ∧ k < a + n) : cnt1 (k + 1) a n = cnt1 k a n + 1 := by unfold cnt1; omega
theorem cnt1_out {k a n : Int} (h0 : 0 ≤ n) (h : ¬ (a ≤ k ∧ k < a + n)) : cnt1 (k + 1) a n = cnt1 k a n := by unfold cnt1; omega
theorem cnt1_zero {a n : Int} (h0 : 0 ≤ n) (ha : 0 ≤ a) : cnt1 0 a n = 0 := by unfold cnt1; omega
theorem cnt1_all {k a n : Int} (h0 : 0 ≤ n) (ha : a + n ≤ k) : cnt1 k a n = n := by unfold cnt1; omega
theorem cnt1_bd {k a n : Int} (h0 : 0 ≤ n) : 0 ≤ cnt1 k a n ∧ cnt1 k a n ≤ n := by unfold cnt1; omega
def lc1 (l : Lo) (k p : Int) : Int := cnt1 k ((lpart l p).1 - l.base) (lpart l p).2
/-- How many of the first k addresses are some place's. -/
def lcnt (l : Lo) (k : Int) : Int := lc1 l k 1 + lc1 l k 2 + lc1 l k 3 + lc1 l k 4
theorem lpart_in {l : Lo} (h : lright l) {p : Int} (hp : p = 1 ∨ p = 2 ∨ p = 3 ∨ p = 4) : (l.base : Int) ≤ (lpart l p).1 ∧ (lpart l p).1 + (lpart l p).2 ≤ l.base + 2 * l.cap ∧ 0 ≤ (lpart l p).2 ∧ (lpart l p).2 ≤ l.cap := by
  obtain ⟨h1, ⟨h2, h3⟩, h4, ⟨h5, h6⟩, ⟨h7, h8, h9, h10⟩, h11, h12⟩ := h
  unfold lpart lto lfrom
  rcases hp with rfl | rfl | rfl | rfl <;> simp <;> split <;> omega
theorem lcnt_zero {l : Lo} (h : lright l) : lcnt l 0 = 0 := by
  have e : ∀ p, (p = 1 ∨ p = 2 ∨ p = 3 ∨ p = 4) → lc1 l 0 p = 0 := fun p hp => by
    have := lpart_in h hp
    exact cnt1_zero (by omega) (by omega)
  unfold lcnt
  rw [e 1 (by omega), e 2 (by omega), e 3 (by omega), e 4 (by omega)]
  rfl
theorem lcnt_all {l : Lo} (h : lright l) : lcnt l (2 * l.cap) = l.low + l.high + l.old + l.far := by
  have e : ∀ p, (p = 1 ∨ p = 2 ∨ p = 3 ∨ p = 4) → lc1 l (2 * l.cap) p = (lpart l p).2 := fun p hp => by
    have := lpart_in h hp
    exact cnt1_all (by omega) (by omega)
  unfold lcnt
  rw [e 1 (by omega), e 2 (by omega), e 3 (by omega), e 4 (by omega)]
  rfl
theorem lcnt_bd {l : Lo} (h : lright l) (k : Int) : 0 ≤ lcnt l k ∧ lcnt l k ≤ 4 * l.cap := by
  have e : ∀ p, (p = 1 ∨ p = 2 ∨ p = 3 ∨ p = 4) → 0 ≤ lc1 l k p ∧ lc1 l k p ≤ l.cap := fun p hp => by
    have h1 := lpart_in h hp
    have h2 := cnt1_bd (k := k) (a := (lpart l p).1 - l.base) h1.2.2.1
    exact ⟨h2.1, by unfold lc1; omega⟩
  have e1 := e 1 (by omega)
  have e2 := e 2 (by omega)
  have e3 := e 3 (by omega)
  have e4 := e 4 (by omega)
  unfold lcnt
  omega
theorem lc1_in {l : Lo} {k p : Int} (hp : lin l ((l.base : Int) + k) p) : lc1 l (k + 1) p = lc1 l k p + 1 := by
  unfold lin at hp
  exact cnt1_in (by omega)
theorem lc1_out {l : Lo} (h : lright l) {k p : Int} (hp : p = 1 ∨ p = 2 ∨ p = 3 ∨ p = 4) (hn : ¬ lin l ((l.base : Int) + k) p) : lc1 l (k + 1) p = lc1 l k p := by
  unfold lin at hn
  exact cnt1_out (lpart_in h hp).2.2.1 (by omega)
theorem lcnt_in {l : Lo} (h : lright l) {k p : Int} (hp : lin l ((l.base : Int) + k) p) : lcnt l (k + 1) = lcnt l k + 1 := by
  have h1 := lin_le hp
  have h2 := lc1_in hp
  have ho : ∀ q, (q = 1 ∨ q = 2 ∨ q = 3 ∨ q = 4) → q ≠ p → lc1 l (k + 1) q = lc1 l k q := fun q hq hqp => lc1_out h hq fun hc => hqp (lin_one h hc hp)
  unfold lcnt
  rcases h1 with rfl | rfl | rfl | rfl
  · have a := ho 2 (by omega) (by omega); have b := ho 3 (by omega) (by omega); have c := ho 4 (by omega) (by omega); omega
  · have a := ho 1 (by omega) (by omega); have b := ho 3 (by omega) (by omega); have c := ho 4 (by omega) (by omega); omega
  · have a := ho 1 (by omega) (by omega); have b := ho 2 (by omega) (by omega); have c := ho 4 (by omega) (by omega); omega
  · have a := ho 1 (by omega) (by omega); have b := ho 2 (by omega) (by omega); have c := ho 3 (by omega) (by omega); omega
theorem lcnt_out {l : Lo} (h : lright l) {k : Int} (hn : ∀ p, ¬ lin l ((l.base : Int) + k) p) : lcnt l (k + 1) = lcnt l k := by
  unfold lcnt
  rw [lc1_out h (by omega) (hn 1), lc1_out h (by omega) (hn 2), lc1_out h (by omega) (hn 3), lc1_out h (by omega) (hn 4)]

theorem load_lo {w : World} {g : Nat} {l : Lo} (h : LoAt w g l) : (Instr.loadAt 24 (.pointer (some ⟨g, 0, none⟩))).run Try.prog w = .ok (.agg #[.int .u64 (l.base : Int), .int .i64 l.cap, .int .i64 l.to, .int .i64 l.low, .int .i64 l.high, .int .i64 l.old, .int .i64 l.far]) w := by
  refine run_loadAt_mid w g 0 24 (loc l) _ ?_ Try.underlying24 rfl (by kernel_rfl)
  intro j v hj
  rw [Nat.zero_add]
  exact Blk.cell h hj
/-- The load of a whole layout at a step of a region that draws its order. -/
theorem wpQ_load_lo {ops : Array Oper} {C : World → Prop} {Q : Act → Prop} {rest : List Oper} {o : Oper} {a : Act} (hw : Region.wanted o (yielded ops a.tmps) = true) (x : Operand) (ho : o.op = .load 24 x)
    (g : Nat) (hx : a.eval x = .pointer (some ⟨g, 0, none⟩)) (l : Lo) (hl : ∀ w, C w → LoAt w g l)
    (h : wpQuiet Try.prog ops C Q rest (a.put o.dst (.agg #[.int .u64 (l.base : Int), .int .i64 l.cap, .int .i64 l.to, .int .i64 l.low, .int .i64 l.high, .int .i64 l.old, .int .i64 l.far]))) : wpQuiet Try.prog ops C Q (o :: rest) a := by
  refine BigFrame.wpQuiet_want hw fun K hK => ⟨_, fun w hc => ?_, hK _ h⟩
  unfold Oper.quietAt execOp
  simp only [ho, hx, Sem.run_bind, load_lo (hl w hc), Result.andThen_ok, Sem.run_pure]
  exact ⟨rfl, rfl⟩

theorem blk_set_far {w : World} {g b : Nat} {cs ds : List Value} {t u : TypeId} (h : Blk w g cs t) (hne : b ≠ g) (j : Nat) (v : Value) (hb : Blk w b ds u) : Blk (w.setCell ⟨g, j, none⟩ v) b ds u := by
  unfold Blk at h hb ⊢
  rw [setCell_eq_setRow w g j cs.toArray t (0, 0) v h, setRow_other w g b _ hne]
  exact hb
/-- A whole place stored in a block of its own: what other blocks hold stays. -/
theorem wp_store_blk {ops : Array Oper} {rest : List Oper} {op : Oper} {a : Act} {w : World} {Q : Exit → Act → World → Prop} (hgd : op.guard = none) (x y : Operand) (ho : op.op = .store 27 x y)
    (g : Nat) (s p : Int) (c0 c1 : Value) (hx : a.eval x = .pointer (some ⟨g, 0, none⟩)) (hy : a.eval y = .agg #[.int .i64 s, .int .i64 p]) (hb : Blk w g [c0, c1] 27)
    (h : ∀ w2, Blk w2 g [.int .i64 s, .int .i64 p] 27 → (∀ b ds u, b ≠ g → Blk w b ds u → Blk w2 b ds u) → (∀ S v, S ≤ g → Below S v w → Below S v w2) → wpList Try.prog ops Q rest (a.put op.dst undef) w2) : wpList Try.prog ops Q (op :: rest) a w := by
  have ht : w.there g 0 2 := fun j hj => by
    rw [Nat.zero_add]
    refine ⟨?_, Blk.frozen hb j⟩
    match j, hj with
    | 0, _ => rw [Blk.cell hb rfl]; rfl
    | 1, _ => rw [Blk.cell hb rfl]; rfl
  refine wpList_store_mid hgd 27 x y ho g 0 #[.int .i64 s, .int .i64 p] hx hy ht (by kernel_rfl) (by simp [Value.oneCell']) ?_
  refine h _ ?_ ?_ ?_
  · exact blk_set (blk_set hb 0 _) 1 _
  · intro b ds u hne hd
    exact blk_set_far (blk_set hb 0 _) hne 1 _ (blk_set_far hb hne 0 _ hd)
  · intro S v hS hb
    exact (hb.setCell hS _).setCell hS _
end Go.Proofs.Ytifmlmbbmlnpmaa.V
