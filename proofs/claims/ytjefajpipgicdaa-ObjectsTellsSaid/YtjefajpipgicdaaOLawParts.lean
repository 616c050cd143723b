/-
  ObjectsParts, walked under what is asked of the program's functions.
-/
import Derived.Test.YtjefajpipgicdaaOLawSlots
import Derived.Test.YtjefajpipgicdaaOSlice
set_option linter.unusedVariables false
namespace Go.Proofs.Ytjefajpipgicdaa.V
open Go.RowKit

theorem itObs_ge (l : List It) : ∀ n, ∀ o ∈ itObs n l, (n : Int) ≤ o.pos := by
  induction l with
  | nil => intro n o ho; simp [itObs] at ho
  | cons i l ih =>
    intro n o ho
    simp only [itObs, List.mem_cons] at ho
    rcases ho with rfl | ho
    · simp
    · have := ih _ o ho; omega
theorem itObs_lt (l : List It) (h : ∀ i ∈ l, i.ok) : ∀ n, ∀ o ∈ itObs n l, o.pos < (n : Int) + (itWords l).length := by
  induction l with
  | nil => intro n o ho; simp [itObs] at ho
  | cons i l ih =>
    intro n o ho
    have hw := It.words_len i (h i (by simp))
    rw [itWords_cons, List.length_append, hw]
    simp only [itObs, List.mem_cons] at ho
    rcases ho with rfl | ho
    · simp; omega
    · have := ih (fun j hj => h j (by simp [hj])) _ o ho; omega
def shift (k : Nat) (o : Ob) : Ob := ⟨o.pos + k, o.size, o.ptrs, o.gone, o.tgt⟩
theorem itObs_shift (l : List It) (k : Nat) : ∀ n, itObs (n + k) l = (itObs n l).map (shift k) := by
  induction l with
  | nil => intro n; rfl
  | cons i l ih =>
    intro n
    simp only [itObs, List.map_cons, shift]
    rw [show n + k + 1 + i.s = n + 1 + i.s + k by omega, ih]
    simp
/-- A place among words of items: what is ahead, what is behind, and which object begins there. -/
theorem place_cut (l : List It) (h : ∀ i ∈ l, i.ok) (ho : ∀ i ∈ l, i.gone = false) (k : Nat) (hk : k ≤ (itWords l).length) :
    (∃ LA LB : List Ob, walkL ((itWords l).take k) [] false = (LA, 0) ∧ walkL ((itWords l).drop k) [] false = (LB, 0) ∧ LA ++ LB.map (shift k) = itObs 0 l ∧ (k = (itWords l).length → LA.length = l.length) ∧
      (k ≠ (itWords l).length → LA.length < l.length) ∧ (∀ (i : Nat) (o : Ob), (itObs 0 l)[i]? = some o → (o.pos = (k : Int) ↔ i = LA.length)) ∧ (∀ o ∈ LB, 0 ≤ o.pos ∧ o.pos ≤ (itWords l).length)) ∨
    (walkL ((itWords l).take k) [] false = ([], 2) ∧ k ≠ (itWords l).length ∧ (∀ (i : Nat) (o : Ob), (itObs 0 l)[i]? = some o → o.pos ≠ (k : Int))) := by
  rcases place l h k hk with ⟨a, b, rfl, rfl⟩ | ⟨a, i, b, m, rfl, rfl, h1, h2⟩
  · have ha : ∀ j ∈ a, j.ok := fun j hj => h j (by simp [hj])
    have hb : ∀ j ∈ b, j.ok := fun j hj => h j (by simp [hj])
    have hsum := itWords_len a ha
    have happ : itObs 0 (a ++ b) = itObs 0 a ++ itObs (itWords a).length b := by rw [itObs_app, ← hsum, Nat.zero_add]
    refine Or.inl ⟨itObs 0 a, itObs 0 b, ?_, ?_, ?_, ?_, ?_, ?_, ?_⟩
    · rw [itWords_app, List.take_left]
      exact walk_none a false ha (fun j hj => ho j (by simp [hj]))
    · rw [itWords_app, List.drop_left]
      exact walk_none b false hb (fun j hj => ho j (by simp [hj]))
    · rw [happ, ← itObs_shift b (itWords a).length 0, Nat.zero_add]
    · intro he
      rw [itObs_len, List.length_append]
      rw [itWords_app, List.length_append] at he
      cases b with
      | nil => simp
      | cons i b => rw [itWords_cons, List.length_append, It.words_len i (hb i (by simp))] at he; omega
    · intro he
      rw [itObs_len, List.length_append]
      cases b with
      | nil => simp at he
      | cons i b => simp
    · intro i o hi
      rw [happ] at hi
      rw [itObs_len]
      by_cases hia : i < a.length
      · rw [List.getElem?_append_left (by rw [itObs_len]; exact hia)] at hi
        have := itObs_lt a ha 0 o (List.mem_of_getElem? hi)
        constructor
        · intro hp; omega
        · intro hp; omega
      · rw [List.getElem?_append_right (by rw [itObs_len]; omega), itObs_len] at hi
        cases b with
        | nil => simp [itObs] at hi
        | cons j b =>
          by_cases hi0 : i - a.length = 0
          · rw [hi0] at hi
            simp only [itObs, List.getElem?_cons_zero, Option.some.injEq] at hi
            subst hi
            constructor
            · intro _; omega
            · intro _; rfl
          · obtain ⟨q, hq⟩ : ∃ q, i - a.length = q + 1 := ⟨i - a.length - 1, by omega⟩
            rw [hq] at hi
            simp only [itObs, List.getElem?_cons_succ] at hi
            have := itObs_ge b _ o (List.mem_of_getElem? hi)
            constructor
            · intro hp; omega
            · intro hp; omega
    · intro o hob
      have h3 := itObs_ge b 0 o hob
      have h4 := itObs_lt b hb 0 o hob
      rw [itWords_app, List.length_append]
      omega
  · have ha : ∀ j ∈ a, j.ok := fun j hj => h j (by simp [hj])
    have hb : ∀ j ∈ i :: b, j.ok := fun j hj => h j (by rw [List.mem_append]; exact Or.inr hj)
    have hw := It.words_len i (h i (by simp))
    have hsum := itWords_len a ha
    have happ : itObs 0 (a ++ i :: b) = itObs 0 a ++ itObs (itWords a).length (i :: b) := by rw [itObs_app, ← hsum, Nat.zero_add]
    refine Or.inr ⟨walk_cut _ a b i m h ho rfl h1 h2, ?_, ?_⟩
    · rw [itWords_app, itWords_cons, List.length_append, List.length_append, hw]; omega
    · intro j o hj hp
      rw [happ] at hj
      by_cases hja : j < a.length
      · rw [List.getElem?_append_left (by rw [itObs_len]; exact hja)] at hj
        have := itObs_lt a ha 0 o (List.mem_of_getElem? hj)
        omega
      · rw [List.getElem?_append_right (by rw [itObs_len]; omega), itObs_len] at hj
        by_cases hj0 : j - a.length = 0
        · rw [hj0] at hj
          simp only [itObs, List.getElem?_cons_zero, Option.some.injEq] at hj
          subst hj
          simp at hp
          omega
        · obtain ⟨q, hq⟩ : ∃ q, j - a.length = q + 1 := ⟨j - a.length - 1, by omega⟩
          rw [hq] at hj
          simp only [itObs, List.getElem?_cons_succ] at hj
          have := itObs_ge b _ o (List.mem_of_getElem? hj)
          omega

/-- A whole object read, and stored, at its place. -/
theorem wp_load_ob {ops : Array Oper} {rest : List Oper} {op : Oper} {a : Act} {w : World} {Q : Exit → Act → World → Prop} (hgd : op.guard = none) (x : Operand) (ho : op.op = .load 53 x)
    (b off : Nat) (hx : a.eval x = .pointer (some ⟨b, off, none⟩)) (o : Ob) (h0 : w.cell? ⟨b, off, none⟩ = some (.int .i64 o.pos)) (h1 : w.cell? ⟨b, off + 1, none⟩ = some (.int .i64 o.size)) (h2 : w.cell? ⟨b, off + 2, none⟩ = some (.int .i64 o.ptrs)) (h3 : w.cell? ⟨b, off + 3, none⟩ = some (.bool o.gone)) (h4 : w.cell? ⟨b, off + 4, none⟩ = some (.int .u64 (o.tgt : Int)))
    (h : wpList Try.prog ops Q rest (a.put op.dst (obv o)) w) : wpList Try.prog ops Q (op :: rest) a w := by
  refine wpList_load_mid hgd 53 x ho b off hx [.int .i64 o.pos, .int .i64 o.size, .int .i64 o.ptrs, .bool o.gone, .int .u64 (o.tgt : Int)] _ ?_ Try.underlying53 rfl (by kernel_rfl) h
  intro j v hj
  match j, hj with
  | 0, hj => simp at hj; subst hj; exact h0
  | 1, hj => simp at hj; subst hj; exact h1
  | 2, hj => simp at hj; subst hj; exact h2
  | 3, hj => simp at hj; subst hj; exact h3
  | 4, hj => simp at hj; subst hj; exact h4
theorem wp_store_ob {ops : Array Oper} {rest : List Oper} {op : Oper} {a : Act} {w : World} {Q : Exit → Act → World → Prop} (hgd : op.guard = none) (x y : Operand) (ho : op.op = .store 53 x y)
    (g : Nat) (o : Ob) (hx : a.eval x = .pointer (some ⟨g, 0, none⟩)) (hy : a.eval y = obv o)
    (hc : ∀ j, j < 5 → (w.cell? ⟨g, j, none⟩).isSome = true) (hf : ∀ j, w.frozen? ⟨g, j, none⟩ = false)
    (h : ∀ w2, w2.cell? ⟨g, 0, none⟩ = some (.int .i64 o.pos) → w2.cell? ⟨g, 1, none⟩ = some (.int .i64 o.size) → w2.cell? ⟨g, 2, none⟩ = some (.int .i64 o.ptrs) → w2.cell? ⟨g, 3, none⟩ = some (.bool o.gone) → w2.cell? ⟨g, 4, none⟩ = some (.int .u64 (o.tgt : Int)) → (∀ j, w2.frozen? ⟨g, j, none⟩ = false) → (∀ S v, S ≤ g → Below S v w → Below S v w2) → wpList Try.prog ops Q rest (a.put op.dst undef) w2) : wpList Try.prog ops Q (op :: rest) a w := by
  have ht : w.there g 0 5 := fun j hj => by rw [Nat.zero_add]; exact ⟨hc j hj, hf j⟩
  refine wpList_store_mid hgd 53 x y ho g 0 #[.int .i64 o.pos, .int .i64 o.size, .int .i64 o.ptrs, .bool o.gone, .int .u64 (o.tgt : Int)] hx hy ht (by kernel_rfl) (by simp [Value.oneCell']) ?_
  have hr := World.rangeAt_setCells_same w g 0 [.int .i64 o.pos, .int .i64 o.size, .int .i64 o.ptrs, .bool o.gone, .int .u64 (o.tgt : Int)] ht
  refine h _ (by simpa using hr 0 _ rfl) (by simpa using hr 1 _ rfl) (by simpa using hr 2 _ rfl) (by simpa using hr 3 _ rfl) (by simpa using hr 4 _ rfl) ?_ ?_
  · intro j
    simpa [World.setCells] using hf j
  · intro S v hS hb
    exact ((((hb.setCell hS _).setCell hS _).setCell hS _).setCell hS _).setCell hS _

theorem alloc_at (w : World) (g : Nat) (hg : g = w.heap.size) {arr : Array Value} {t : TypeId} {i : Nat} {u : Value} (h : arr[i]? = some u) : (w.alloc (.cells arr t)).cell? ⟨g, i, none⟩ = some u := by
  subst hg
  rw [World.cell?_alloc_new]
  exact h
theorem ob_new (w : World) : (∀ j, j < 5 → ((w.alloc (.cells #[.int .i64 0, .int .i64 0, .int .i64 0, .bool false, .int .u64 0] 53)).cell? ⟨w.heap.size, j, none⟩).isSome = true) ∧ ∀ j, (w.alloc (.cells #[.int .i64 0, .int .i64 0, .int .i64 0, .bool false, .int .u64 0] 53)).frozen? ⟨w.heap.size, j, none⟩ = false := by
  constructor
  · intro j hj
    match j, hj with
    | 0, _ => simp
    | 1, _ => simp
    | 2, _ => simp
    | 3, _ => simp
    | 4, _ => simp
  · intro j
    simp
/-- The same, in the walk's words: J is the index that loop 1 finds (or one that is none). -/
theorem place_cut' (l : List It) (h : ∀ i ∈ l, i.ok) (ho : ∀ i ∈ l, i.gone = false) (k m q : Nat) (hm : (itWords l).length = m) (hq : l.length = q) (hk : k ≤ m) :
    ∃ (J F : Nat) (LA : List Ob), walkL ((itWords l).take k) [] false = (LA, F) ∧ (∀ (i : Nat) (o : Ob), (itObs 0 l)[i]? = some o → (o.pos = (k : Int) ↔ i = J)) ∧
      ((F = 0 ∧ LA.length = J ∧ J ≤ q ∧ (k = m → J = q) ∧ (k ≠ m → J < q) ∧ ∃ LB : List Ob, LB.length = q - J ∧ walkL ((itWords l).drop k) [] false = (LB, 0) ∧ LA ++ LB.map (shift k) = itObs 0 l ∧ (∀ o ∈ LB, 0 ≤ o.pos ∧ o.pos ≤ (m : Int))) ∨
       (F = 2 ∧ LA = [] ∧ k ≠ m ∧ J = q + 1)) := by
  subst hm; subst hq
  rcases place_cut l h ho k hk with ⟨LA, LB, h1, h2, h3, h4, h5, h6, h7⟩ | ⟨h1, h2, h3⟩
  · have hlen : LA.length + LB.length = l.length := by
      have := congrArg List.length h3
      rw [List.length_append, List.length_map, itObs_len] at this
      exact this
    exact ⟨LA.length, 0, LA, h1, h6, Or.inl ⟨rfl, rfl, by omega, h4, h5, LB, by omega, h2, h3, h7⟩⟩
  · refine ⟨l.length + 1, 2, [], h1, fun i o hi => ?_, Or.inr ⟨rfl, rfl, h2, rfl⟩⟩
    have hlt : i < (itObs 0 l).length := (List.getElem?_eq_some_iff.1 hi).1
    rw [itObs_len] at hlt
    exact ⟨fun hp => absurd hp (h3 i o hi), fun hp => by omega⟩

set_option maxRecDepth 100000 in
set_option maxHeartbeats 1000000 in
theorem objectsParts_try (C : ObjC) (ao : Option Addr) (ca n : Nat) (l : List RawV) (c : Int) (w : World) (hn : l.length = n) (hok : ∀ r ∈ l, r.ok w) (hR : Rw rc 4 w ao l) (b0 : -9223372036854775808 ≤ c) (b1 : c ≤ 9223372036854775807) :
    Calls Try.prog 6 #[.slice ao n ca, .int .i64 c] w fun e w' => e = .returned (.bool true) ∧ Below w.heap.size w w' := by
  have IHw := Lib.hid (fun w' (hb : Below w.heap.size w w') => words_try ao ca n l false w' hn (fun r hr => (hok r hr).below (Nat.le_refl _) hb) (hR.below (Nat.le_refl _) hb))
  obtain ⟨its, hits⟩ : ∃ its, rawIts false (l.take 8) = its := ⟨_, rfl⟩
  have hio : ∀ i ∈ its, i.ok := hits ▸ rawIts_ok false _
  have hig : ∀ i ∈ its, i.gone = false := hits ▸ rawIts_none _
  have hil : its.length ≤ 8 := by rw [← hits, rawIts_len, List.length_take]; omega
  rw [hits] at IHw
  have hwl := itWords_lt its hio
  have hol := itObs_len its 0
  have hwk := walk_none its false hio hig
  obtain ⟨m, hm⟩ : ∃ m, (itWords its).length = m := ⟨_, rfl⟩
  obtain ⟨q, hq⟩ : ∃ q, its.length = q := ⟨_, rfl⟩
  have hvl : ∀ v ∈ itWords its, v < 2 ^ 64 := itWords_u64 l hok hits
  have hpc := fun k hk => place_cut' its hio hig k m q hm hq hk
  rw [hm] at hwl
  rw [hq] at hil hol hwl
  have HPC := Lib.hid hpc
  have HWK := Lib.hid hwk
  have HVL := Lib.hid hvl
  have HM := Lib.hid hm
  have HOL := Lib.hid hol
  clear hpc hwk hvl hm hol hits hio hig hok hR hq hn
  generalize itWords its = WD at *
  generalize itObs 0 its = OB at *
  have hm3 : m ≤ 2048 := by omega
  obtain ⟨k, hk, hk2⟩ := pk_nat c ((m : Int) + 1) (by omega)
  have HK := Lib.hid hk
  have hkm : k ≤ m := by omega
  obtain ⟨J, F, LA, hj1, hj2, hj3⟩ := HPC.out k hkm
  have HJ1 := Lib.hid hj1
  have HJ2 := Lib.hid hj2
  have HJ3 := Lib.hid hj3
  clear hk hk2 hj1 hj2 hj3 HPC
  go_enter Try.func6, Try.ntmps6
  go_wp2_with fail
  refine (awake06 C _).mono ?_
  rintro e w1 ⟨rfl, hb1⟩
  go_wp2_with fail
  refine (IHw.out _ hb1).mono ?_
  rintro e w2 ⟨v1, v2, rfl, ho1, _, hb2⟩
  obtain ⟨a1, c1, rfl, hu1, hl1, hm1, hn1⟩ := OwnU.out ho1 HM.out
  have HU1 := Lib.hid hu1
  have HN1 := Lib.hid hn1
  have HB2 := Lib.hid (bt hb1 hb2)
  clear ho1 hu1 hn1 hb1 hb2 IHw
  go_wp2_with fail
  refine (C.walk a1 c1 m WD OB 0 _ HM.out (by omega) HVL.out HU1.out hl1 hm1 HN1.out HWK.out).mono ?_
  rintro e w3 ⟨v3, rfl, ho3, hb3⟩
  obtain ⟨a3, c3, rfl, hr3, hl3, hm3', hn3⟩ := OwnR.out oc_len ho3 HOL.out
  have HU3 := Lib.hid (HU1.out.below (Nat.le_refl _) hb3)
  have HR3 := Lib.hid hr3
  have HB3 := Lib.hid (bt HB2.out hb3)
  clear ho3 hr3 hn3 hb3 HB2 HU1
  go_wp2_with fail
  refine (pick06_int c ((m : Int) + 1) k _ b0 b1 (by omega) (by omega) HK.out).mono ?_
  rintro e w' ⟨rfl, rfl⟩
  go_wp2_with fail
  refine (C.walk a1 c1 k (WD.take k) LA F _ (by rw [List.length_take, HM.out]; omega) (by omega) (fun v hv => HVL.out v (List.mem_of_mem_take hv)) (HU3.out.take k) (by omega) hm1 HN1.out HJ1.out).mono ?_
  rintro e w4 ⟨v4, rfl, ho4, hb4⟩
  obtain ⟨a4, c4, rfl, hr4, hl4, hm4, hn4⟩ := OwnR.out oc_len ho4 rfl
  have HU4 := Lib.hid (HU3.out.below (Nat.le_refl _) hb4)
  have HR4 := Lib.hid (HR3.out.below (Nat.le_refl _) hb4)
  have HA4 := Lib.hid hr4
  have HB4 := Lib.hid (bt HB3.out hb4)
  have HN4 := Lib.hid hn4
  clear ho4 hr4 hb4 HB3 HU3 HR3 hn4
  have hF : F ≤ 2 := by rcases HJ3.out with h | h <;> omega
  have hLAq : LA.length ≤ q := by
    rcases HJ3.out with h | h
    · omega
    · rw [h.2.1]; simp
  go_wp2_with fail
  go_loopw [13, 14] (fun v i wr => ∃ (t : Nat) (V : Int), t ≤ q ∧ i = .int .i64 t ∧ v = .int .i64 V ∧ V = (if J < t then (J : Int) else -1) ∧ Below w4.heap.size w4 wr) (fun _ i _ => q - (intOf i).toNat)
  case atStart => exact ⟨0, -1, by omega, rfl, rfl, by simp, Below.refl _ _⟩
  case round =>
    obtain ⟨t, V, ht, rfl, rfl, hV, hbel⟩ := hrel
    by_cases htq : t < q
    · obtain ⟨o, ho⟩ : ∃ o, OB[t]? = some o := ⟨_, List.getElem?_eq_getElem (by have := HOL.out; omega)⟩
      have hjo := HJ2.out t o ho
      obtain ⟨b, off, rfl, hbb, hc0, _⟩ := ob_cells HR4.out ho
      have hz := cell_step hbel hbb hc0
      have htq' : (t : Int) < (q : Int) := by omega
      clear ho hc0
      by_cases htj : t = J
      · have hd : o.pos = (k : Int) := by omega
        rw [hd] at hz
        clear hd
        have hd : ((k : Int) == (k : Int)) = true := by simp
        have hV2 : Hid ((t : Int) = (if J < t + 1 then (J : Int) else -1)) := Lib.hid (by rw [if_pos (by omega), htj])
        clear hV hjo htj
        go_wp2_with fail
        go_roundw
        case rel => exact ⟨t + 1, t, by omega, by go_num, rfl, hV2.out, hbel⟩
        case measure => simp [intOf]; omega
      · have hd : (o.pos == (k : Int)) = false := by simp; omega
        have hV2 : V = (if J < t + 1 then (J : Int) else -1) := by
          rw [hV]
          by_cases h : J < t
          · rw [if_pos h, if_pos (by omega)]
          · rw [if_neg h, if_neg (by omega)]
        clear hV hjo htj
        go_wp2_with fail
        go_roundw
        case rel => exact ⟨t + 1, V, by omega, by go_num, rfl, hV2, hbel⟩
        case measure => simp [intOf]; omega
    · obtain rfl : t = q := by omega
      have dtt : decide (t < t) = false := by simp
      have HR5 := Lib.hid (HR4.out.below (Nat.le_refl _) hbel)
      have HA5 := Lib.hid (HA4.out.below (Nat.le_refl _) hbel)
      have HU5 := Lib.hid (HU4.out.below (Nat.le_refl _) hbel)
      have HB5 := Lib.hid (bt HB4.out hbel)
      clear hbel HR4 HA4 HU4 HB4 HJ2
      rcases HJ3.out with ⟨rfl, hJ, hJq, hJ1, hJ2, LB, hLB, hwB, hcat, hbd⟩ | ⟨rfl, rfl, hkm2, rfl⟩
      · have HLB := Lib.hid hLB
        have HWB := Lib.hid hwB
        have HCAT := Lib.hid hcat
        have HBD := Lib.hid hbd
        have HJ := Lib.hid hJ
        clear HJ3 hLB hwB hcat hbd hJ
        obtain ⟨nb, hnb⟩ : ∃ nb, LB.length = nb := ⟨_, rfl⟩
        have hnbq : LA.length + nb ≤ 8 := by have := HLB.out; have := HJ.out; omega
        have hcs : (((k : Int) == (m : Int)) = true ∧ LA.length = t) ∨ (((k : Int) == (m : Int)) = false ∧ V = (LA.length : Int)) := by
          have hj := HJ.out
          by_cases hke : k = m
          · have := hJ1 hke
            exact Or.inl ⟨by simp; omega, by omega⟩
          · have := hJ2 hke
            rw [if_pos (by omega)] at hV
            exact Or.inr ⟨by simp; omega, by omega⟩
        have HNB := Lib.hid hnb
        have HUF := Lib.hid (HU5.out.dropIf (cap := c1) (kk := k) (by have := HM.out; omega))
        have hLAt : LA.length ≤ t := by have := HJ.out; omega
        clear hnb hJ1 hJ2 hV hJq HLB HJ htq
        rcases hcs with ⟨dk, rfl⟩ | ⟨dk, rfl⟩ <;> (go_wp2_with (refine wp_slice_us rfl (.tmp 78) (.tmp 79) rfl a1 m c1 k rfl rfl (by omega) hl1 WD HM.out HU5.out HN1.out ?_; intro X8 c8 hX8 hX9 hX10 hX11; have HX8 := Lib.hid hX8; have HX11 := Lib.hid hX11; clear hX8 hX11))
        all_goals
          refine (C.walk X8 c8 (m - k) (WD.drop k) LB 0 _ (by rw [List.length_drop, HM.out]) (by omega) (fun v hv => HVL.out v (List.mem_of_mem_drop hv)) HX8.out hX9 (by omega) HX11.out HWB.out).mono ?_
          rintro e w6 ⟨v6, rfl, ho6, hb6⟩
          obtain ⟨a6, c6, rfl, hr6, hl6, hm6, hn6⟩ := OwnR.out oc_len ho6 HNB.out
          have HR6 := Lib.hid (HR5.out.below (Nat.le_refl _) hb6)
          have HA6 := Lib.hid (HA5.out.below (Nat.le_refl _) hb6)
          have HL6 := Lib.hid hr6
          have HB6 := Lib.hid (bt HB5.out hb6)
          have HN6 := Lib.hid hn6
          clear ho6 hr6 hb6 hn6 hX9 hX10
          go_wp2_with fail
          clear HR5 HA5 HU5 HB5 HX8 HX11
          go_loopw [17, 18] (fun vo i wr => ∃ t : Nat, t ≤ nb ∧ i = .int .i64 t ∧ Hid (OwnR 53 oc 5 wr w6.heap.size vo ((LB.take t).map (shift k))) ∧ Below w6.heap.size w6 wr) (fun _ i _ => nb - (intOf i).toNat)
          case atStart => exact ⟨0, by omega, rfl, Lib.hid (OwnR.nil _ _ _), Below.refl _ _⟩
          case round =>
            obtain ⟨t, ht, rfl, HO, hbel⟩ := hrel
            by_cases htn : t < nb
            · obtain ⟨o, ho⟩ : ∃ o, LB[t]? = some o := ⟨_, List.getElem?_eq_getElem (by have := HNB.out; omega)⟩
              have hbo := HBD.out o (List.mem_of_getElem? ho)
              have HT : Hid ((LB.take (t + 1)).map (shift k) = (LB.take t).map (shift k) ++ [shift k o]) := Lib.hid (by rw [List.take_add_one, ho]; simp)
              obtain ⟨b, off, rfl, hbb, d0, d1, d2, d3, d4⟩ := ob_cells HL6.out ho
              have z0 := cell_step hbel hbb d0
              have z1 := cell_step hbel hbb d1
              have z2 := cell_step hbel hbb d2
              have z3 := cell_step hbel hbb d3
              have z4 := cell_step hbel hbb d4
              have HC0 := Lib.hid (ob_new wr)
              have HBE := Lib.hid hbel
              have htn' : (t : Int) < (nb : Int) := by omega
              clear ho d0 d1 d2 d3 d4 hbel
              go_wp2_with (first | (refine wp_load_ob rfl (.tmp 92) rfl b (off + t * 5) rfl o z0 z1 z2 z3 z4 ?_; unfold obv) | (refine wp_store_ob rfl (.tmp 19) (.tmp 93) rfl wr.heap.size o rfl rfl HC0.out.1 HC0.out.2 ?_; intro w7 q0 q1 q2 q3 q4 q5 q6; have hW := (q6 _ _ (Nat.le_refl _) (ba0 wr _)).setCell (p := ⟨wr.heap.size, 0, none⟩) (Nat.le_refl _) (.int .i64 (o.pos + (k : Int))); have HOW := Lib.hid ((HO.out.later hW).alloc (.cells #[.int .i64 (o.pos + (k : Int)), .int .i64 o.size, .int .i64 o.ptrs, .bool o.gone, .int .u64 (o.tgt : Int)] 53)); have HBW := Lib.hid (ba (bt HBE.out hW) (.cells #[.int .i64 (o.pos + (k : Int)), .int .i64 o.size, .int .i64 o.ptrs, .bool o.gone, .int .u64 (o.tgt : Int)] 53)); clear hW q6 z0 z1 z2 z3 z4) | (at_builtin; refine wp_append_row 53 26 _ 40 info_ob Try.underlying26 rfl (by decide) (by decide) oc_len oc_one _ rfl (.tmp 99) (.tmp 101) rfl w6.heap.size _ ((LB.take t).map (shift k)) rfl HOW.out w7.heap.size (shift k o) rfl ?_ ?_ ?_ ?_))
              · intro i u hi
                exact alloc_at _ _ (by simp) (by simpa [oc, shift] using hi)
              · rw [List.length_map, List.length_take]; omega
              · exact HBW.out.size
              · intro v8 w8 hown8 hgrow8
                have HB8 := Lib.hid (OwnR.below HOW.out HBW.out (Nat.le_refl _) hgrow8)
                have HO8 : Hid (OwnR 53 oc 5 w8 w6.heap.size v8 ((LB.take (t + 1)).map (shift k))) := Lib.hid (by rw [HT.out, List.map_take]; exact hown8)
                clear hown8 hgrow8 HOW HBW q0 q1 q2 q3 q4 q5
                go_wp2_with fail
                go_roundw
                case rel => exact ⟨t + 1, by omega, by go_num, HO8, HB8.out⟩
                case measure => simp [intOf]; omega
            · obtain rfl : t = nb := by omega
              have dtt : decide (t < t) = false := by simp
              rw [List.take_of_length_le (by have := HNB.out; omega)] at HO
              obtain ⟨a9, c9, rfl, hr9, hl9, hm9, hn9⟩ := OwnR.out oc_len (n := t) HO.out (by rw [List.length_map]; exact HNB.out)
              have HR9 := Lib.hid hr9
              have HN9 := Lib.hid hn9
              have HA9 := Lib.hid (HA6.out.below (Nat.le_refl _) hbel)
              have HS9 := Lib.hid (HR6.out.below (Nat.le_refl _) hbel)
              have HB9 := Lib.hid (bt HB6.out hbel)
              clear hr9 hn9 hbel HO HA6 HR6 HB6 HL6 htn
              go_wp2_with (at_builtin; refine wp_append_rows 53 26 _ 40 info_ob Try.underlying26 rfl (by decide) (by decide) oc_len oc_one _ rfl (.const (.slice none 0 0)) (.tmp 113) rfl rfl wr.heap.size _ [] LA rfl (OwnR.nil _ _ _) a4 LA.length c4 rfl rfl HA9.out HN4.out ?_ (Nat.le_refl _) ?_)
              · simp; omega
              · intro v10 w10 hown10 hgrow10
                have hb10 := OwnR.below (OwnR.nil (c := oc) (n := 5) 53 wr wr.heap.size) (Below.refl wr.heap.size wr) (Nat.le_refl _) hgrow10
                have HO10 := Lib.hid hown10
                have HBX := Lib.hid hb10
                have HR10 := Lib.hid (HR9.out.below (Nat.le_refl _) hb10)
                have HL10 := Lib.hid HNB.out
                have hsz := hb10.size
                clear hown10 hgrow10 hb10
                go_wp2_with (at_builtin; refine wp_append_rows 53 26 _ 40 info_ob Try.underlying26 rfl (by decide) (by decide) oc_len oc_one _ rfl (.tmp 114) (.tmp 115) rfl rfl wr.heap.size _ LA (LB.map (shift k)) rfl HO10.out a9 t c9 rfl (by rw [List.length_map]; exact HL10.out) HR10.out HN9.out ?_ hsz ?_)
                · omega
                · intro v11 w11 hown11 hgrow11
                  have hb11 := OwnR.below HO10.out HBX.out (Nat.le_refl _) hgrow11
                  have hown12 : OwnR 53 oc 5 w11 wr.heap.size v11 OB := by rw [← HCAT.out]; exact hown11
                  obtain ⟨a11, c11, rfl, hr11, hl11, hm11, hn11⟩ := OwnR.out oc_len hown12 rfl
                  have HR11 := Lib.hid hr11
                  have HS11 := Lib.hid (HS9.out.below (Nat.le_refl _) hb11)
                  have HB11 := Lib.hid (bt HB9.out hb11)
                  clear hown11 hown12 hgrow11 hb11 hr11 hn11
                  go_wp2_with fail
                  refine (sameObs _ _ _ _ OB.length _ OB OB _ rfl HOL.out (by have := HOL.out; omega) (by omega) HR11.out HS11.out).mono ?_
                  rintro e w12 ⟨rfl, hb12⟩
                  rw [show decide (OB = OB) = true from by simp]
                  go_wp2_with fail
                  go_ret
                  exact ⟨rfl, bt HB11.out hb12⟩
      · have dk : ((k : Int) == (m : Int)) = false := by simp; omega
        rw [if_neg (by omega)] at hV
        subst hV
        go_wp2_with fail
        go_ret
        exact ⟨rfl, HB5.out⟩
end Go.Proofs.Ytjefajpipgicdaa.V
