/-
  ObjectsOld, walked under what is asked of the program's functions.
-/
import Derived.Test.YtjefajpipgicdaaOLawParts
set_option linter.unusedVariables false
namespace Go.Proofs.Ytjefajpipgicdaa.V
open Go.RowKit

theorem itObs_at : ∀ (l : List It) (n t : Nat) (i : It), l[t]? = some i → (itObs n l)[t]? = some ⟨((n + ((l.take t).map (fun i => 1 + i.s)).sum : Nat) : Int), i.s, i.p, i.gone, i.tgt⟩
  | [], n, t, i, h => by simp at h
  | j :: l, n, 0, i, h => by simp at h; subst h; simp [itObs]
  | j :: l, n, t + 1, i, h => by
    rw [itObs, List.getElem?_cons_succ, itObs_at l (n + 1 + j.s) t i (by simpa using h), List.take_succ_cons, List.map_cons, List.sum_cons]
    simp
    omega
theorem pos_step (l : List It) (t : Nat) (i : It) (h : l[t]? = some i) : ((l.take (t + 1)).map (fun i => 1 + i.s)).sum = ((l.take t).map (fun i => 1 + i.s)).sum + 1 + i.s := by
  rw [List.take_add_one, h]
  simp
  omega
theorem pos_le (l : List It) (h : ∀ i ∈ l, i.ok) (t : Nat) : ((l.take t).map (fun i => 1 + i.s)).sum ≤ 256 * t := by
  induction t with
  | zero => simp
  | succ t ih =>
    cases hi : l[t]? with
    | none =>
      rw [List.getElem?_eq_none_iff] at hi
      rw [List.take_of_length_le (by omega)]
      rw [List.take_of_length_le (by omega)] at ih
      omega
    | some i =>
      rw [pos_step l t i hi]
      have := (h i (List.mem_of_getElem? hi)).1
      omega
theorem rawIts_at (old : Bool) (l : List RawV) (t : Nat) (r : RawV) (h : l[t]? = some r) (ht : t < 8) : (rawIts old (l.take 8))[t]? = some (rawIt old t r) := by
  simp [rawIts, List.getElem?_map, List.getElem?_zipIdx, ht, h]
theorem itWords_u64' {its : List It} (l : List RawV) (old : Bool) {w : World} (hok : ∀ r ∈ l, r.ok w) (h : rawIts old (l.take 8) = its) : ∀ v ∈ itWords its, v < 2 ^ 64 := by
  subst h
  intro v hv
  obtain ⟨i, hi, hv⟩ := List.mem_flatMap.1 hv
  obtain ⟨y, hy, rfl⟩ := List.mem_map.1 hi
  have hyl : y.1 ∈ l := List.mem_of_mem_take (List.fst_mem_of_mem_zipIdx hy)
  have hy2 : y.2 < 8 := by
    have := List.snd_lt_of_mem_zipIdx hy
    rw [List.length_take] at this
    omega
  have hr := hok _ hyl
  have hio := rawIt_ok old y.2 y.1
  have hh := hpack_lt (rawIt old y.2 y.1).s (rawIt old y.2 y.1).p hio.1 hio.2.1
  by_cases hg : (old && y.1.gone) = true
  · simp only [rawIt, hg, if_true, It.words, List.mem_cons, List.mem_replicate] at hv
    rcases hv with rfl | ⟨_, rfl⟩ <;> omega
  · simp only [rawIt, hg, if_false, It.words, List.mem_cons, rawSlots, List.mem_map, Bool.false_eq_true] at hv hh
    rcases hv with rfl | ⟨j, _, rfl⟩
    · omega
    · exact slotW_lt _ _ _ hr.2.2.1
theorem dropLast_take {α : Type} (l : List α) : l.dropLast = l.take (l.length - 1) := List.dropLast_eq_take

set_option maxRecDepth 100000 in
set_option maxHeartbeats 1000000 in
theorem objectsOld_try (C : ObjC) (ao : Option Addr) (ca n : Nat) (l : List RawV) (w : World) (hn : l.length = n) (hok : ∀ r ∈ l, r.ok w) (hR : Rw rc 4 w ao l) :
    Calls Try.prog 5 #[.slice ao n ca] w fun e w' => e = .returned (.bool true) ∧ Below w.heap.size w w' := by
  have IHw := Lib.hid (fun w' (hb : Below w.heap.size w w') => words_try ao ca n l true w' hn (fun r hr => (hok r hr).below (Nat.le_refl _) hb) (hR.below (Nat.le_refl _) hb))
  obtain ⟨its, hits⟩ : ∃ its, rawIts true (l.take 8) = its := ⟨_, rfl⟩
  have hio : ∀ i ∈ its, i.ok := hits ▸ rawIts_ok true _
  have hil : its.length = min 8 n := by rw [← hits, rawIts_len, List.length_take, hn]
  rw [hits] at IHw
  have hwl := itWords_lt its hio
  have hol := itObs_len its 0
  have hsl := itShapes_le its
  have hw1 := walk_items its true hio (Or.inl rfl)
  have hw2 := walk_more its ((0 : Int), (0 : Int)) hio
  have hw3 := walk_fewer its hio
  have hw4 := walk_gone its hio
  have hat : ∀ (t : Nat) (r : RawV), l[t]? = some r → t < 8 → its[t]? = some (rawIt true t r) := fun t r h1 h2 => hits ▸ rawIts_at true l t r h1 h2
  have hob := fun t i h => itObs_at its 0 t i h
  have hps := pos_step its
  have hpl := pos_le its hio
  have hvl : ∀ v ∈ itWords its, v < 2 ^ 64 := itWords_u64' l true hok hits
  obtain ⟨m, hm⟩ : ∃ m, (itWords its).length = m := ⟨_, rfl⟩
  obtain ⟨q, hq⟩ : ∃ q, its.length = q := ⟨_, rfl⟩
  obtain ⟨ns, hns⟩ : ∃ ns, (itShapes its).length = ns := ⟨_, rfl⟩
  rw [hm] at hwl
  rw [hns] at hsl
  rw [hq] at hil hol hwl hsl
  have HW1 := Lib.hid hw1
  have HW2 := Lib.hid hw2
  have HW3 := Lib.hid hw3
  have HW4 := Lib.hid hw4
  have HAT := Lib.hid hat
  have HOB := Lib.hid hob
  have HPS := Lib.hid hps
  have HPL := Lib.hid hpl
  have HVL := Lib.hid hvl
  have HM := Lib.hid hm
  have HNS := Lib.hid hns
  have HOL := Lib.hid hol
  have HN := Lib.hid hn
  have HOK := Lib.hid hok
  have HRR := Lib.hid hR
  have HIL := Lib.hid hil
  have hq8 : q ≤ 8 := by omega
  have hqn : q ≤ n := by omega
  have hmin : min (n : Int) 8 = (q : Int) := by omega
  clear hw1 hw2 hw3 hw4 hat hob hps hpl hvl hm hns hol hits hio hok hR hq hn hil
  generalize itWords its = WD at *
  generalize itObs 0 its = OB at *
  generalize itShapes its = SH at *
  have hm3 : m ≤ 2048 := by omega
  go_enter Try.func5, Try.ntmps5
  go_wp2_with fail
  refine (awake06 C _).mono ?_
  rintro e w1 ⟨rfl, hb1⟩
  go_wp2_with fail
  refine (IHw.out _ hb1).mono ?_
  rintro e w2 ⟨v1, v2, rfl, ho1, ho2, hb2⟩
  obtain ⟨a1, c1, rfl, hu1, hl1, hm1, hn1⟩ := OwnU.out ho1 HM.out
  obtain ⟨a2, c2, rfl, hs2, hl2, hm2, hn2⟩ := OwnR.out sc_len ho2 HNS.out
  have HU1 := Lib.hid hu1
  have HN1 := Lib.hid hn1
  have HS2 := Lib.hid hs2
  have HN2 := Lib.hid hn2
  have HB2 := Lib.hid (bt hb1 hb2)
  clear ho1 hu1 hn1 hb1 hb2 ho2 hs2 hn2 IHw
  go_wp2_with fail
  refine (C.old a1 a2 c1 c2 m ns WD SH OB 0 _ HM.out HNS.out (by omega) (by omega) HVL.out HU1.out HS2.out hl1 hm1 hl2 hm2 HN1.out HN2.out HW1.out).mono ?_
  rintro e w3 ⟨v3, rfl, ho3, hb3⟩
  obtain ⟨a3, c3, rfl, hr3, hl3, hm3', hn3⟩ := OwnR.out oc_len ho3 HOL.out
  have HU3 := Lib.hid (HU1.out.below (Nat.le_refl _) hb3)
  have HS3 := Lib.hid (HS2.out.below (Nat.le_refl _) hb3)
  have HR3 := Lib.hid hr3
  have HB3 := Lib.hid (bt HB2.out hb3)
  clear ho3 hr3 hn3 hb3 HB2 HU1 HS2
  go_wp2_with (at_builtin; refine wp_append_rows 28 25 _ 16 info_sh Try.underlying25 rfl (by decide) (by decide) sc_len sc_one _ rfl (.const (.slice none 0 0)) (.tmp 32) rfl rfl w3.heap.size _ [] SH rfl (OwnR.nil _ _ _) a2 ns c2 rfl HNS.out HS3.out HN2.out ?_ (Nat.le_refl _) ?_)
  · simp; omega
  · intro v4 w4 hown4 hgrow4
    have hb4 := OwnR.below (OwnR.nil (c := sc) (n := 2) 28 w3 w3.heap.size) (Below.refl w3.heap.size w3) (Nat.le_refl _) hgrow4
    have HO4 := Lib.hid (OwnR.alloc hown4 (.cells #[.int .i64 0, .int .i64 0] 28))
    have HB4 := Lib.hid (ba hb4 (.cells #[.int .i64 0, .int .i64 0] 28))
    clear hown4 hgrow4 hb4
    go_wp2_with (at_builtin; refine wp_append_row 28 25 _ 16 info_sh Try.underlying25 rfl (by decide) (by decide) sc_len sc_one _ rfl (.tmp 33) (.tmp 35) rfl w3.heap.size _ SH rfl HO4.out w4.heap.size ((0 : Int), (0 : Int)) rfl ?_ ?_ ?_ ?_)
    · intro i u hi
      exact alloc_at _ _ (by simp) (by simpa [sc] using hi)
    · have := HNS.out; omega
    · exact HB4.out.size
    · intro v5 w5 hown5 hgrow5
      have hb5 := OwnR.below HO4.out HB4.out (Nat.le_refl _) hgrow5
      obtain ⟨a5, c5, rfl, hs5, hl5, hm5, hn5⟩ := OwnR.out sc_len (n := ns + 1) hown5 (by rw [List.length_append, HNS.out]; rfl)
      have HS5 := Lib.hid hs5
      have HN5 := Lib.hid hn5
      have HU5 := Lib.hid (HU3.out.below (Nat.le_refl _) hb5)
      have HT5 := Lib.hid (HS3.out.below (Nat.le_refl _) hb5)
      have HR5 := Lib.hid (HR3.out.below (Nat.le_refl _) hb5)
      have HB5 := Lib.hid (bt HB3.out hb5)
      clear hown5 hgrow5 hb5 hs5 hn5 HO4 HB4 HU3 HS3 HR3 HB3
      go_wp2_with fail
      refine (C.old a1 a5 c1 c5 m (ns + 1) WD (SH ++ [((0 : Int), (0 : Int))]) [] 3 _ HM.out (by rw [List.length_append, HNS.out]; rfl) (by omega) (by omega) HVL.out HU5.out HS5.out hl1 hm1 hl5 hm5 HN1.out HN5.out HW2.out).mono ?_
      rintro e w6 ⟨v6, rfl, ho6, hb6⟩
      have HU6 := Lib.hid (HU5.out.below (Nat.le_refl _) hb6)
      have HT6 := Lib.hid (HT5.out.below (Nat.le_refl _) hb6)
      have HR6 := Lib.hid (HR5.out.below (Nat.le_refl _) hb6)
      have HB6 := Lib.hid (bt HB5.out hb6)
      clear ho6 hb6 HS5 HN5 HU5 HT5 HR5 HB5
      go_wp2_with fail
      go_loopw [10, 11] (fun v i wr => ∃ (t A : Nat), t ≤ q ∧ i = .int .i64 t ∧ v = .int .i64 A ∧ Hid (((its.take t).map (fun i => 1 + i.s)).sum = A) ∧ Below w6.heap.size w6 wr) (fun _ i _ => q - (intOf i).toNat)
      case atStart => exact ⟨0, 0, by omega, rfl, rfl, Lib.hid (by simp), Below.refl _ _⟩
      case round =>
        obtain ⟨t, A, ht, rfl, rfl, HA, hbel⟩ := hrel
        have hA : A ≤ 2048 := by have h1 := HPL.out t; have h2 := HA.out; omega
        by_cases htq : t < q
        · obtain ⟨r, hr⟩ : ∃ r, l[t]? = some r := ⟨_, List.getElem?_eq_getElem (by have := HN.out; omega)⟩
          obtain ⟨b, off, rfl, hbb, e0, e1, e2, e3⟩ := raw_cells HRR.out hr
          have hrok := HOK.out r (List.mem_of_getElem? hr)
          obtain ⟨s, hs⟩ : ∃ s, rawS r = s := ⟨_, rfl⟩
          obtain ⟨p, hp⟩ : ∃ p, rawP r = p := ⟨_, rfl⟩
          have hs7 := (rawS_lt r).1
          have hps := (rawP_le r).1
          rw [hs] at hs7 hps
          rw [hp] at hps
          have HHR := Lib.hid hr
          have HBL := Lib.hid (bt HB6.out hbel)
          have HBE := Lib.hid hbel
          have f0 := cell_step HBL.out hbb e0
          have f1 := cell_step HBL.out hbb e1
          have f2 := cell_step HBL.out hbb e2
          have f3 := cell_step HBL.out hbb e3
          have HRO := Lib.hid (hrok.below (Nat.le_refl _) HBL.out)
          have HSP := Lib.hid (And.intro hs hp)
          have HE3 := Lib.hid e3
          have htq' : (t : Int) < (q : Int) := by omega
          have htn' : (t : Int) < (n : Int) := by omega
          clear hr hrok hs hp e0 e1 e2 e3 hbel
          go_wp2_with fail
          refine (shapeOf r s p _ HRO.out HSP.out.1 HSP.out.2).mono ?_
          rintro e w7 ⟨rfl, hb7⟩
          have HB7 := Lib.hid (bt HBL.out hb7)
          have HC7 := Lib.hid (bt HBE.out hb7)
          have HAA := Lib.hid (ShAt.new w7 s p)
          have a0 := HAA.out.c0
          have a1' := HAA.out.c1
          clear f0 f1 f2 f3 hb7 HBL HBE
          cases hgo : r.gone with
          | true =>
            have hi : its[t]? = some ⟨s, p, true, (100 + t : Nat), List.replicate s 0⟩ := by rw [HAT.out t r HHR.out (by omega)]; simp [rawIt, hgo, HSP.out.1, HSP.out.2]
            have ho := HOB.out t _ hi
            rw [HA.out, Nat.zero_add] at ho
            have HP : Hid (((its.take (t + 1)).map (fun i => 1 + i.s)).sum = A + 1 + s) := Lib.hid (by rw [HPS.out t _ hi, HA.out])
            have he3 := HE3.out
            rw [hgo] at he3
            have g3 := cell_step (ba (ba HB7.out (.cells #[.int .i64 s, .int .i64 p] 28)) (.cells #[.int .i64 A, .int .i64 s, .int .i64 p, .bool false, .int .u64 0] 53)) hbb he3
            obtain ⟨X, hX⟩ : ∃ X : Ob, X = ⟨A, s, p, true, (100 + t : Nat)⟩ := ⟨_, rfl⟩
            rw [← hX] at ho
            obtain ⟨b3, o3, rfl, hbb3, dd⟩ := ob_cells HR6.out ho
            have HBW := Lib.hid (ba (ba HB7.out (.cells #[.int .i64 s, .int .i64 p] 28)) (.cells #[.int .i64 A, .int .i64 s, .int .i64 p, .bool true, .int .u64 (100 + (t : Int))] 53))
            have HCW := Lib.hid (ba (ba HC7.out (.cells #[.int .i64 s, .int .i64 p] 28)) (.cells #[.int .i64 A, .int .i64 s, .int .i64 p, .bool true, .int .u64 (100 + (t : Int))] 53))
            have s0 : ((w7.alloc (.cells #[.int .i64 s, .int .i64 p] 28)).alloc (.cells #[.int .i64 A, .int .i64 s, .int .i64 p, .bool true, .int .u64 (100 + (t : Int))] 53)).cell? ⟨w7.heap.size, 0, none⟩ = some (.int .i64 s) := cell_step (ba0 _ _) (by simp) a0
            have y0 : ((w7.alloc (.cells #[.int .i64 s, .int .i64 p] 28)).alloc (.cells #[.int .i64 A, .int .i64 s, .int .i64 p, .bool true, .int .u64 (100 + (t : Int))] 53)).cell? ⟨w7.heap.size + 1, 0, none⟩ = some (.int .i64 X.pos) := alloc_at _ _ (by simp) (by rw [hX]; rfl)
            have y1 : ((w7.alloc (.cells #[.int .i64 s, .int .i64 p] 28)).alloc (.cells #[.int .i64 A, .int .i64 s, .int .i64 p, .bool true, .int .u64 (100 + (t : Int))] 53)).cell? ⟨w7.heap.size + 1, 1, none⟩ = some (.int .i64 X.size) := alloc_at _ _ (by simp) (by rw [hX]; rfl)
            have y2 : ((w7.alloc (.cells #[.int .i64 s, .int .i64 p] 28)).alloc (.cells #[.int .i64 A, .int .i64 s, .int .i64 p, .bool true, .int .u64 (100 + (t : Int))] 53)).cell? ⟨w7.heap.size + 1, 2, none⟩ = some (.int .i64 X.ptrs) := alloc_at _ _ (by simp) (by rw [hX]; rfl)
            have y3 : ((w7.alloc (.cells #[.int .i64 s, .int .i64 p] 28)).alloc (.cells #[.int .i64 A, .int .i64 s, .int .i64 p, .bool true, .int .u64 (100 + (t : Int))] 53)).cell? ⟨w7.heap.size + 1, 3, none⟩ = some (.bool X.gone) := alloc_at _ _ (by simp) (by rw [hX]; rfl)
            have y4 : ((w7.alloc (.cells #[.int .i64 s, .int .i64 p] 28)).alloc (.cells #[.int .i64 A, .int .i64 s, .int .i64 p, .bool true, .int .u64 (100 + (t : Int))] 53)).cell? ⟨w7.heap.size + 1, 4, none⟩ = some (.int .u64 (X.tgt : Int)) := alloc_at _ _ (by simp) (by rw [hX]; simp)
            have HY := Lib.hid (And.intro s0 (And.intro y0 (And.intro y1 (And.intro y2 (And.intro y3 y4)))))
            have HD := Lib.hid dd
            clear hi ho he3 hX dd s0 y0 y1 y2 y3 y4 HAT
            go_wp2_with fail
            clear g3 a0 a1'
            generalize ((w7.alloc (.cells #[.int .i64 s, .int .i64 p] 28)).alloc (.cells #[.int .i64 A, .int .i64 s, .int .i64 p, .bool true, .int .u64 (100 + (t : Int))] 53)) = W at HBW HCW HY ⊢
            have yl : w7.heap.size + 1 < W.heap.size := World.block_lt_of_cell? W _ HY.out.2.1
            have yl' : w7.heap.size < W.heap.size := by omega
            have hl1 : Hid (∀ w', (∃ z : GW W, w' = z.w') → w'.cell? ⟨w7.heap.size + 1, 0, none⟩ = some (.int .i64 X.pos) ∧ w'.cell? ⟨w7.heap.size + 1, 0 + 1, none⟩ = some (.int .i64 X.size) ∧ w'.cell? ⟨w7.heap.size + 1, 0 + 2, none⟩ = some (.int .i64 X.ptrs) ∧ w'.cell? ⟨w7.heap.size + 1, 0 + 3, none⟩ = some (.bool X.gone) ∧ w'.cell? ⟨w7.heap.size + 1, 0 + 4, none⟩ = some (.int .u64 (X.tgt : Int))) := Lib.hid (by
              rintro w' ⟨z, rfl⟩
              exact ⟨cell_step z.h yl HY.out.2.1, cell_step z.h yl HY.out.2.2.1, cell_step z.h yl HY.out.2.2.2.1, cell_step z.h yl HY.out.2.2.2.2.1, cell_step z.h yl HY.out.2.2.2.2.2⟩)
            have hl2 : Hid (∀ w', (∃ z : GW W, w' = z.w') → w'.cell? ⟨b3, o3 + t * 5, none⟩ = some (.int .i64 X.pos) ∧ w'.cell? ⟨b3, o3 + t * 5 + 1, none⟩ = some (.int .i64 X.size) ∧ w'.cell? ⟨b3, o3 + t * 5 + 2, none⟩ = some (.int .i64 X.ptrs) ∧ w'.cell? ⟨b3, o3 + t * 5 + 3, none⟩ = some (.bool X.gone) ∧ w'.cell? ⟨b3, o3 + t * 5 + 4, none⟩ = some (.int .u64 (X.tgt : Int))) := Lib.hid (by
              rintro w' ⟨z, rfl⟩
              have hb := HCW.out.trans (z.h.mono HCW.out.size)
              exact ⟨cell_step hb hbb3 HD.out.1, cell_step hb hbb3 HD.out.2.1, cell_step hb hbb3 HD.out.2.2.1, cell_step hb hbb3 HD.out.2.2.2.1, cell_step hb hbb3 HD.out.2.2.2.2⟩)
            have hnn : ∀ w, (binOp .neq 53 (obv X) (obv X)).run Try.prog w = .ok (.bool false) w := fun w => by rw [neq_ob]; simp
            unfold obv at hnn
            refine wp_region_grow (by kernel_rfl) (by kernel_rfl) ?_
            repeat (first | go_big_quiet_step (fail) | (refine wpQ_load_ob rfl (.tmp 80) rfl b3 (o3 + t * 5) rfl X hl2.out ?_; simp [Act.put, obv]) | (refine wpQ_load_ob rfl (.tmp 13) rfl (w7.heap.size + 1) 0 rfl X hl1.out ?_; simp [Act.put, obv]))
            refine wpQuiet_nil ?_
            first | rintro _ ⟨w8, rfl⟩ | intro w8
            have k0 := cell_step w8.h yl' HY.out.1
            clear hl1 hl2 hnn HD
            go_wp2_with fail
            go_roundw
            case rel => exact ⟨t + 1, A + 1 + s, by omega, by go_num, by go_num, HP, bt HCW.out w8.h⟩
            case measure => simp [intOf]; omega
          | false =>
            have hi : its[t]? = some ⟨s, p, false, 0, rawSlots r⟩ := by rw [HAT.out t r HHR.out (by omega)]; simp [rawIt, hgo, HSP.out.1, HSP.out.2]
            have ho := HOB.out t _ hi
            rw [HA.out, Nat.zero_add] at ho
            have HP : Hid (((its.take (t + 1)).map (fun i => 1 + i.s)).sum = A + 1 + s) := Lib.hid (by rw [HPS.out t _ hi, HA.out])
            have he3 := HE3.out
            rw [hgo] at he3
            have g3 := cell_step (ba (ba HB7.out (.cells #[.int .i64 s, .int .i64 p] 28)) (.cells #[.int .i64 A, .int .i64 s, .int .i64 p, .bool false, .int .u64 0] 53)) hbb he3
            obtain ⟨X, hX⟩ : ∃ X : Ob, X = ⟨A, s, p, false, 0⟩ := ⟨_, rfl⟩
            rw [← hX] at ho
            obtain ⟨b3, o3, rfl, hbb3, dd⟩ := ob_cells HR6.out ho
            have HBW := Lib.hid (ba (ba HB7.out (.cells #[.int .i64 s, .int .i64 p] 28)) (.cells #[.int .i64 A, .int .i64 s, .int .i64 p, .bool false, .int .u64 0] 53))
            have HCW := Lib.hid (ba (ba HC7.out (.cells #[.int .i64 s, .int .i64 p] 28)) (.cells #[.int .i64 A, .int .i64 s, .int .i64 p, .bool false, .int .u64 0] 53))
            have s0 : ((w7.alloc (.cells #[.int .i64 s, .int .i64 p] 28)).alloc (.cells #[.int .i64 A, .int .i64 s, .int .i64 p, .bool false, .int .u64 0] 53)).cell? ⟨w7.heap.size, 0, none⟩ = some (.int .i64 s) := cell_step (ba0 _ _) (by simp) a0
            have y0 : ((w7.alloc (.cells #[.int .i64 s, .int .i64 p] 28)).alloc (.cells #[.int .i64 A, .int .i64 s, .int .i64 p, .bool false, .int .u64 0] 53)).cell? ⟨w7.heap.size + 1, 0, none⟩ = some (.int .i64 X.pos) := alloc_at _ _ (by simp) (by rw [hX]; rfl)
            have y1 : ((w7.alloc (.cells #[.int .i64 s, .int .i64 p] 28)).alloc (.cells #[.int .i64 A, .int .i64 s, .int .i64 p, .bool false, .int .u64 0] 53)).cell? ⟨w7.heap.size + 1, 1, none⟩ = some (.int .i64 X.size) := alloc_at _ _ (by simp) (by rw [hX]; rfl)
            have y2 : ((w7.alloc (.cells #[.int .i64 s, .int .i64 p] 28)).alloc (.cells #[.int .i64 A, .int .i64 s, .int .i64 p, .bool false, .int .u64 0] 53)).cell? ⟨w7.heap.size + 1, 2, none⟩ = some (.int .i64 X.ptrs) := alloc_at _ _ (by simp) (by rw [hX]; rfl)
            have y3 : ((w7.alloc (.cells #[.int .i64 s, .int .i64 p] 28)).alloc (.cells #[.int .i64 A, .int .i64 s, .int .i64 p, .bool false, .int .u64 0] 53)).cell? ⟨w7.heap.size + 1, 3, none⟩ = some (.bool X.gone) := alloc_at _ _ (by simp) (by rw [hX]; rfl)
            have y4 : ((w7.alloc (.cells #[.int .i64 s, .int .i64 p] 28)).alloc (.cells #[.int .i64 A, .int .i64 s, .int .i64 p, .bool false, .int .u64 0] 53)).cell? ⟨w7.heap.size + 1, 4, none⟩ = some (.int .u64 (X.tgt : Int)) := alloc_at _ _ (by simp) (by rw [hX]; simp)
            have HY := Lib.hid (And.intro s0 (And.intro y0 (And.intro y1 (And.intro y2 (And.intro y3 y4)))))
            have HD := Lib.hid dd
            clear hi ho he3 hX dd s0 y0 y1 y2 y3 y4 HAT
            go_wp2_with fail
            clear g3 a0 a1'
            generalize ((w7.alloc (.cells #[.int .i64 s, .int .i64 p] 28)).alloc (.cells #[.int .i64 A, .int .i64 s, .int .i64 p, .bool false, .int .u64 0] 53)) = W at HBW HCW HY ⊢
            have yl : w7.heap.size + 1 < W.heap.size := World.block_lt_of_cell? W _ HY.out.2.1
            have yl' : w7.heap.size < W.heap.size := by omega
            have hl1 : Hid (∀ w', (∃ z : GW W, w' = z.w') → w'.cell? ⟨w7.heap.size + 1, 0, none⟩ = some (.int .i64 X.pos) ∧ w'.cell? ⟨w7.heap.size + 1, 0 + 1, none⟩ = some (.int .i64 X.size) ∧ w'.cell? ⟨w7.heap.size + 1, 0 + 2, none⟩ = some (.int .i64 X.ptrs) ∧ w'.cell? ⟨w7.heap.size + 1, 0 + 3, none⟩ = some (.bool X.gone) ∧ w'.cell? ⟨w7.heap.size + 1, 0 + 4, none⟩ = some (.int .u64 (X.tgt : Int))) := Lib.hid (by
              rintro w' ⟨z, rfl⟩
              exact ⟨cell_step z.h yl HY.out.2.1, cell_step z.h yl HY.out.2.2.1, cell_step z.h yl HY.out.2.2.2.1, cell_step z.h yl HY.out.2.2.2.2.1, cell_step z.h yl HY.out.2.2.2.2.2⟩)
            have hl2 : Hid (∀ w', (∃ z : GW W, w' = z.w') → w'.cell? ⟨b3, o3 + t * 5, none⟩ = some (.int .i64 X.pos) ∧ w'.cell? ⟨b3, o3 + t * 5 + 1, none⟩ = some (.int .i64 X.size) ∧ w'.cell? ⟨b3, o3 + t * 5 + 2, none⟩ = some (.int .i64 X.ptrs) ∧ w'.cell? ⟨b3, o3 + t * 5 + 3, none⟩ = some (.bool X.gone) ∧ w'.cell? ⟨b3, o3 + t * 5 + 4, none⟩ = some (.int .u64 (X.tgt : Int))) := Lib.hid (by
              rintro w' ⟨z, rfl⟩
              have hb := HCW.out.trans (z.h.mono HCW.out.size)
              exact ⟨cell_step hb hbb3 HD.out.1, cell_step hb hbb3 HD.out.2.1, cell_step hb hbb3 HD.out.2.2.1, cell_step hb hbb3 HD.out.2.2.2.1, cell_step hb hbb3 HD.out.2.2.2.2⟩)
            have hnn : ∀ w, (binOp .neq 53 (obv X) (obv X)).run Try.prog w = .ok (.bool false) w := fun w => by rw [neq_ob]; simp
            unfold obv at hnn
            refine wp_region_grow (by kernel_rfl) (by kernel_rfl) ?_
            repeat (first | go_big_quiet_step (fail) | (refine wpQ_load_ob rfl (.tmp 80) rfl b3 (o3 + t * 5) rfl X hl2.out ?_; simp [Act.put, obv]) | (refine wpQ_load_ob rfl (.tmp 13) rfl (w7.heap.size + 1) 0 rfl X hl1.out ?_; simp [Act.put, obv]))
            refine wpQuiet_nil ?_
            first | rintro _ ⟨w8, rfl⟩ | intro w8
            have k0 := cell_step w8.h yl' HY.out.1
            clear hl1 hl2 hnn HD
            go_wp2_with fail
            go_roundw
            case rel => exact ⟨t + 1, A + 1 + s, by omega, by go_num, by go_num, HP, bt HCW.out w8.h⟩
            case measure => simp [intOf]; omega
        · obtain rfl : t = q := by omega
          have dtt : decide (t < t) = false := by simp
          have HU7 := Lib.hid (HU6.out.below (Nat.le_refl _) hbel)
          have HT7 := Lib.hid (HT6.out.below (Nat.le_refl _) hbel)
          have HB7 := Lib.hid (bt HB6.out hbel)
          clear hbel HU6 HT6 HB6 HR6 HA hA
          by_cases hns0 : ns = 0
          · have d0 : ((ns : Int) == 0) = true := by simp; omega
            clear hns0
            go_wp2_with fail
            go_ret
            exact ⟨rfl, HB7.out⟩
          · have d0 : ((ns : Int) == 0) = false := by simp; omega
            have hne : SH ≠ [] := by intro h; have := HNS.out; rw [h] at this; simp at this; omega
            have HE1 := Lib.hid (HW3.out hne)
            have HE2 := Lib.hid (HW4.out hne)
            obtain ⟨k, hk⟩ : ∃ k, ns = k + 1 := ⟨ns - 1, by omega⟩
            have HLD : Hid (SH.dropLast.length = k) := Lib.hid (by rw [List.length_dropLast, HNS.out]; omega)
            have HTD : Hid (Rw sc 2 wr a2 SH.dropLast) := Lib.hid (by rw [dropLast_take]; exact HT7.out.take _)
            have hs1 : (ns : Int) - 1 = (k : Int) := by omega
            have hk2 : k ≤ c2 := by omega
            clear hne HW3 HW4 hns0
            go_wp2_with fail
            refine (C.old a1 a2 c1 c2 m k WD SH.dropLast [] 3 _ HM.out HLD.out (by omega) (by omega) HVL.out HU7.out HTD.out hl1 hm1 hk2 hm2 HN1.out HN2.out HE1.out).mono ?_
            rintro e w8 ⟨v8, rfl, ho8, hb8⟩
            have HU8 := Lib.hid (HU7.out.below (Nat.le_refl _) hb8)
            have HB8 := Lib.hid (bt HB7.out hb8)
            clear ho8 hb8
            go_wp2_with fail
            refine (C.walk a1 c1 m WD [] 3 _ HM.out (by omega) HVL.out HU8.out hl1 hm1 HN1.out HE2.out).mono ?_
            rintro e w9 ⟨v9, rfl, ho9, hb9⟩
            have HB9 := Lib.hid (bt HB8.out hb9)
            clear ho9 hb9
            go_wp2_with fail
            go_ret
            exact ⟨rfl, HB9.out⟩
end Go.Proofs.Ytjefajpipgicdaa.V
