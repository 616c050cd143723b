/-
  A region that draws its order and in which ONE operation (number k) changes the world, or hands back what is not known ahead (a call, a literal in new memory): walked once. The operations that k waits for are quiet in a class of worlds; a constant that is moved may come at any time; what waits for k is quiet in the very world that k leaves.
-/
import Derived.Deep.Quiet
import Derived.Tactics
import Derived.BigQuiet
set_option linter.unusedVariables false
namespace Go.Proofs.Ytjoacfjbdpmgpaa.V
open Go

section
variable {P : Program} {ops : Array Oper} {md : Region.Mode} {C : World → Prop} {k : Nat} {Q' : Exit → Act → World → Prop}

/-- Only the normal way out. -/
def onlyN (K : Act → World → Prop) : Exit → Act → World → Prop
  | .normal, a, w => K a w
  | _, _, _ => False
theorem onlyN_out (K : Act → World → Prop) : ¬ LetsOut (onlyN K) := by rintro ⟨_, _, h⟩; exact h

theorem upon_weak {o : Oper} {a : Act} {K K' : Act → World → Prop} {N : Act → World → Prop} (h : ∀ a w, K a w → K' a w) : ∀ {r : Result Next}, o.upon P a K (onlyN N) r → o.upon P a K' Q' r
  | .ok n w', hh => by
    cases n <;> simp only [Oper.upon] at hh ⊢ <;>
      first
        | exact h _ _ hh
        | exact Calls.mono hh (fun e w'' he => by
            cases e with
            | returned v => exact h _ _ he
            | panicked c => exact he.elim
            | outgrown => exact absurd he (onlyN_out N))
        | exact Rows.mono hh (fun _ _ he => h _ _ he)
  | .halt x w', hh => by
    cases x <;> simp only [Oper.upon] at hh ⊢ <;> exact hh.elim

/-- What stands in an order's list is closed under what it waits for. -/
def Closed (md : Region.Mode) (ops : Array Oper) (listed : Array Bool) : Prop := ∀ j oj, ops[j]? = some oj → listed.getD j false = true → ∀ e ∈ oj.after, Region.binds md e = true → listed.getD e.on false = true
theorem Closed.none : Closed md ops (Array.replicate ops.size false) := fun j oj _ hl => by
  have : (Array.replicate ops.size false).getD j false = false := by simp [Array.getElem?_replicate]; split <;> rfl
  rw [this] at hl; cases hl
theorem Closed.set {listed : Array Bool} {j : Nat} (h : Closed md ops listed) (hj : j ∈ Region.ready md ops listed) : Closed md ops (listed.setIfInBounds j true) := by
  intro i oi hi hl e he hb
  by_cases hij : j = i
  · subst hij
    obtain ⟨_, o, ho, hall⟩ := mem_ready.1 hj
    obtain rfl : o = oi := Option.some.inj (ho.symm.trans hi)
    exact getD_set_true (hall e he hb)
  · rw [getD_set_ne false hij] at hl
    exact getD_set_true (h i oi hi hl e he hb)
def waitsB (md : Region.Mode) (ops : Array Oper) (j i : Nat) : Bool := match ops[j]? with | some o => o.after.any fun e => Region.binds md e && e.on == i | none => false
/-- Operation k waits for i, by way of others. -/
def needB (md : Region.Mode) (ops : Array Oper) (k : Nat) : Nat → Nat → Bool
  | 0, _ => false
  | f + 1, i => waitsB md ops k i || (List.range ops.size).any fun j => waitsB md ops j i && needB md ops k f j
theorem waits_listed {listed : Array Bool} {j i : Nat} (h : Closed md ops listed) (hw : waitsB md ops j i = true) (hj : listed.getD j false = true) : listed.getD i false = true := by
  unfold waitsB at hw
  cases ho : ops[j]? with
  | none => rw [ho] at hw; cases hw
  | some o =>
    rw [ho] at hw
    obtain ⟨q, hq, hb1, hb2⟩ := (by simpa using hw : ∃ (q : Nat), ∃ h : q < o.after.size, Region.binds md o.after[q] = true ∧ o.after[q].on = i)
    rw [← hb2]
    exact h j o ho hj o.after[q] (Array.getElem_mem hq) hb1
theorem waits_ready {listed : Array Bool} {j i : Nat} (hw : waitsB md ops j i = true) (hj : j ∈ Region.ready md ops listed) : listed.getD i false = true := by
  unfold waitsB at hw
  obtain ⟨_, o, ho, hall⟩ := mem_ready.1 hj
  rw [ho] at hw
  obtain ⟨q, hq, hb1, hb2⟩ := (by simpa using hw : ∃ (q : Nat), ∃ h : q < o.after.size, Region.binds md o.after[q] = true ∧ o.after[q].on = i)
  rw [← hb2]
  exact hall o.after[q] (Array.getElem_mem hq) hb1
theorem need_listed {listed : Array Bool} (h : Closed md ops listed) (hk : k ∈ Region.ready md ops listed) : ∀ (f i : Nat), needB md ops k f i = true → listed.getD i false = true
  | 0, _, hn => by cases hn
  | f + 1, i, hn => by
    simp only [needB, Bool.or_eq_true] at hn
    rcases hn with hn | hn
    · exact waits_ready hn hk
    · obtain ⟨j, _, hj⟩ := List.any_eq_true.1 hn
      simp only [Bool.and_eq_true] at hj
      exact waits_listed h hj.1 (need_listed h hk f j hj.2)

/-- Whatever order is picked, till k has come up; from there on in the very world that k leaves. -/
def wpAnyX (P : Program) (md : Region.Mode) (ops : Array Oper) (C : World → Prop) (k : Nat) (Q' : Exit → Act → World → Prop) : Nat → Array Bool → Act → Prop
  | 0, _, _ => False
  | f + 1, listed, a => Region.ready md ops listed ≠ [] ∧ ∀ i ∈ Region.ready md ops listed,
      (i = k → ∀ w, C w → wpOp P ops (onlyN fun _ _ => True) k (fun a' w' => wpAnyQ P md ops (fun w => w = w') (fun a'' => Q' .normal a'' w') f (listed.setIfInBounds k true) a') a w) ∧
      (i ≠ k → qOp P ops C i (wpAnyX P md ops C k Q' f (listed.setIfInBounds i true)) a)

theorem wpOp_weak {i : Nat} {a : Act} {w : World} {K K' : Act → World → Prop} {N : Act → World → Prop} (h : ∀ a w, K a w → K' a w) (hh : wpOp P ops (onlyN N) i K a w) : wpOp P ops Q' i K' a w := by
  unfold wpOp at *
  split
  · rename_i ho; simp only [ho] at hh; exact h _ _ hh
  · rename_i o ho
    simp only [ho] at hh
    split
    · rename_i hw
      simp only [hw, if_true] at hh
      rcases hh with hh | ⟨_, hl⟩
      · exact .inl (upon_weak h hh)
      · exact absurd hl (onlyN_out N)
    · rename_i hw; simp only [hw] at hh; exact h _ _ hh

theorem wpAny_of_X : ∀ (f : Nat) (listed : Array Bool) (a : Act) (w : World), C w → wpAnyX P md ops C k Q' f listed a → wpAny P md ops Q' f listed a w
  | 0, _, _, _, _, h => h.elim
  | f + 1, listed, a, w, hw, h => ⟨fun h0 => absurd h0 h.1, fun i hi => by
      by_cases hik : i = k
      · subst hik
        exact wpOp_weak (fun a' w' h' => wpAny_of_quiet (C := fun w => w = w') (fun a'' w'' hw'' hq => by subst hw''; exact hq) f _ a' w' rfl h') ((h.2 i hi).1 rfl w hw)
      · exact wpOp_of_qOp hw (fun a' w' hw' h' => wpAny_of_X f _ a' w' hw' h') ((h.2 i hi).2 hik)⟩

/-- One operation, apart from another whose value is known in whatever frame. -/
theorem wpOp_put {j : Nat} {oi oj : Oper} {v : Value} (hj : ops[j]? = some oj) (hap : oi.apart ops oj = true) (hsj : ∀ cs b, oj.op ≠ .select cs b) {N : Act → World → Prop} {K : Act → World → Prop} {a : Act} {w : World}
    (h : wpOp P ops (onlyN N) j K (a.put oi.dst v) w) : wpOp P ops (onlyN N) j (fun a' w' => K (a'.put oi.dst v) w') a w := by
  obtain ⟨h1, h2, h3⟩ := Oper.apart_spec hap
  unfold wpOp at *
  simp only [hj] at *
  rw [wanted_put oj a oi.dst v h1] at h
  split
  · rename_i hw
    simp only [hw, if_true] at h
    rcases h with h | ⟨_, hl⟩
    · left
      unfold Oper.wp at *
      rw [execOp_put oj hsj a oi.dst v h1] at h
      generalize (execOp a.eval oj).run P w = r at *
      cases r with
      | halt x w' => cases x <;> simp only [Oper.upon] at h ⊢ <;> exact h
      | ok n w' =>
        cases n <;> simp only [Oper.upon] at h ⊢
        case value u => rw [← Act.put_comm a v u h2]; exact h
        case skip => rw [← Act.put_comm a v undef h2]; exact h
        case defer d =>
          have e : ({ a with defers := d :: a.defers } : Act).put oi.dst v = { (a.put oi.dst v) with defers := d :: (a.put oi.dst v).defers } := by cases oi.dst <;> rfl
          rw [← Act.put_comm _ v undef h2, e]
          exact h
        case enter f args =>
          exact Calls.mono h (fun e w'' he => by
            cases e with
            | returned u => simp only at he ⊢; rw [← Act.put_comm a v u h2]; exact he
            | panicked c => exact he
            | outgrown => exact he)
        case row r args => exact Rows.mono h (fun u w'' he => by rw [← Act.put_comm a v u h2]; exact he)
    · exact absurd hl (onlyN_out N)
  · rename_i hw
    simp only [hw] at h
    rw [← Act.put_comm a v undef h2]
    exact h

theorem wpAnyX_first {i : Nat} {oi : Oper} {v : Value} (hi : ops[i]? = some oi) (hik : i ≠ k) (hsel : ∀ (j : Nat) (o : Oper) cs b, ops[j]? = some o → o.op ≠ .select cs b)
    (hkind : (∃ f, needB md ops k f i = true) ∨ ∀ (D : World → Prop) (a' : Act), YieldsIn P ops D oi v a') :
    ∀ (fuel : Nat) (listed : Array Bool) (a : Act), Closed md ops listed →
      (∀ j oj, ops[j]? = some oj → j ≠ i → listed.getD j true = false → (∀ e ∈ oj.after, Region.binds md e = true → e.on ≠ i) → oi.apart ops oj = true) →
      i ∈ Region.ready md ops listed → YieldsIn P ops C oi v a →
      wpAnyX P md ops C k Q' fuel (listed.setIfInBounds i true) (a.put oi.dst v) → wpAnyX P md ops C k Q' (fuel + 1) listed a := by
  intro fuel
  induction fuel with
  | zero => intro listed a _ _ _ _ H; exact H.elim
  | succ fuel ih =>
    intro listed a hcl hfree hr hy H
    refine ⟨fun h => (by rw [h] at hr; cases hr), fun j hj => ?_⟩
    by_cases hji : j = i
    · subst hji
      exact ⟨fun h => absurd h hik, fun _ => hy.qOp hi H⟩
    · have h1 := H.2 j (ready_mono hj hji)
      obtain ⟨hjun, oj, hoj, hall⟩ := mem_ready.1 hj
      have hnot : ∀ e ∈ oj.after, Region.binds md e = true → e.on ≠ i := fun e he hb heq => by
        have h1 := hall e he hb
        have h0 := (mem_ready.1 hr).1
        rw [heq] at h1
        rcases Nat.lt_or_ge i listed.size with h' | h'
        · simp [h'] at h0 h1; rw [h0] at h1; cases h1
        · simp [Array.getElem?_eq_none h'] at h1
      have hfree' : ∀ q oq, ops[q]? = some oq → q ≠ i → (listed.setIfInBounds j true).getD q true = false →
          (∀ e ∈ oq.after, Region.binds md e = true → e.on ≠ i) → oi.apart ops oq = true := fun q oq hq hqi hun hno => by
        refine hfree q oq hq hqi ?_ hno
        by_cases hjq : j = q
        · subst hjq; exact hjun
        · rw [getD_set_ne true hjq] at hun; exact hun
      refine ⟨fun hjk w hw => ?_, fun hjk => ?_⟩
      · subst hjk
        rcases hkind with ⟨f, hn⟩ | htot
        · have hl := need_listed hcl hj f i hn
          have h0 := (mem_ready.1 hr).1
          rcases Nat.lt_or_ge i listed.size with h' | h'
          · simp [h'] at h0 hl; rw [h0] at hl; cases hl
          · simp [Array.getElem?_eq_none h'] at hl
        · have h2 := wpOp_put hoj (hfree j oj hoj hji hjun hnot) (fun cs b => hsel j oj cs b hoj) (h1.1 rfl w hw)
          refine wpOp_mono (fun a' w' h3 => ?_) h2
          refine wpAnyQ_first hi hsel fuel (listed.setIfInBounds j true) a' hfree' (ready_mono hr (Ne.symm hji)) (htot _ _) ?_
          rw [Array.setIfInBounds_comm _ _ hji]
          exact h3
      · have h2 := qOp_put hoj (hfree j oj hoj hji hjun hnot) (fun cs b => hsel i oi cs b hi) (fun cs b => hsel j oj cs b hoj) hy (h1.2 hjk)
        refine qOp_mono (fun a' h3 => ih (listed.setIfInBounds j true) a' (hcl.set hj) hfree' (ready_mono hr (Ne.symm hji)) h3.1 ?_) h2
        rw [Array.setIfInBounds_comm _ _ hji]
        exact h3.2

/-- The order's list behind some operations. -/
def listedBy : List Nat → Array Bool → Array Bool
  | [], listed => listed
  | i :: r, listed => listedBy r (listed.setIfInBounds i true)
def isConst (ops : Array Oper) (i : Nat) : Bool := match ops[i]? with | some { op := .move (.const _), guard := none, .. } => true | _ => false
theorem isConst_total {i : Nat} {oi : Oper} (hi : ops[i]? = some oi) (h : isConst ops i = true) (v : Value) {a : Act} (hy : YieldsIn P ops C oi v a) {w0 : World} (hw0 : C w0) : ∀ (D : World → Prop) (a' : Act), YieldsIn P ops D oi v a' := by
  unfold isConst at h
  rw [hi] at h
  obtain ⟨dst, op, ty, pos, af, gd⟩ := oi
  split at h
  · rename_i dst1 c ty1 pos1 af1 heq
    simp only [Option.some.injEq, Oper.mk.injEq] at heq
    obtain ⟨_, rfl, _, _, _, rfl⟩ := heq
    have hv : v = c := by
      rcases hy with ⟨_, hq⟩ | ⟨hw, _⟩
      · have := hq w0 hw0
        simp [Oper.quietAt, Oper.quietUpon, execOp, Act.eval] at this
        exact this.symm
      · simp [Region.wanted] at hw
    subst hv
    intro D a'
    refine .inl ⟨by simp [Region.wanted], fun w _ => ?_⟩
    simp [Oper.quietAt, Oper.quietUpon, execOp, Act.eval]
  · cases h

def headB (md : Region.Mode) (ops : Array Oper) (k : Nat) : List Nat → Array Bool → Bool
  | [], _ => true
  | i :: r, listed => (Region.ready md ops listed).contains i && Region.free md ops listed i && decide (i ≠ k) && (needB md ops k ops.size i || isConst ops i) && headB md ops k r (listed.setIfInBounds i true)
def tailB (md : Region.Mode) (ops : Array Oper) : List Nat → Array Bool → Bool
  | [], listed => (Region.ready md ops listed).isEmpty
  | i :: r, listed => (Region.ready md ops listed).contains i && Region.free md ops listed i && tailB md ops r (listed.setIfInBounds i true)
def opsAt (ops : Array Oper) (l : List Nat) : List Oper := l.filterMap fun i => ops[i]?

theorem wpAnyX_lex {w0 : World} (hw0 : C w0) (hsel : Region.noSelect ops = true) (f : Nat) : ∀ (hd : List Nat) (listed : Array Bool) (a : Act), Closed md ops listed → headB md ops k hd listed = true →
    wpQuiet P ops C (fun a1 => Closed md ops (listedBy hd listed) → wpAnyX P md ops C k Q' f (listedBy hd listed) a1) (opsAt ops hd) a → wpAnyX P md ops C k Q' (hd.length + f) listed a
  | [], listed, a, hcl, _, h => by simpa [listedBy] using h hcl
  | i :: r, listed, a, hcl, hB, h => by
    simp only [headB, Bool.and_eq_true, decide_eq_true_eq, Bool.or_eq_true] at hB
    obtain ⟨⟨⟨⟨hr, hf⟩, hik⟩, hkind⟩, hB'⟩ := hB
    have hr' : i ∈ Region.ready md ops listed := by simpa using hr
    obtain ⟨_, oi, hi, _⟩ := mem_ready.1 hr'
    have hst : qOp P ops C i (wpQuiet P ops C (fun a1 => Closed md ops (listedBy r (listed.setIfInBounds i true)) → wpAnyX P md ops C k Q' f (listedBy r (listed.setIfInBounds i true)) a1) (opsAt ops r)) a := by
      unfold qOp
      simp only [opsAt, List.filterMap_cons, hi] at h
      simp only [hi]
      exact h
    obtain ⟨v, hy, hK⟩ := yieldsIn_of_qOp hi hst
    rw [show (i :: r).length + f = (r.length + f) + 1 by simp; omega]
    refine wpAnyX_first hi hik (Region.noSelect_spec hsel) ?_ (r.length + f) listed a hcl (Region.free_spec hi hf) hr' hy (wpAnyX_lex hw0 hsel f r _ _ (hcl.set hr') hB' hK)
    rcases hkind with h1 | h1
    · exact .inl ⟨_, h1⟩
    · exact .inr (isConst_total hi h1 v hy hw0)
theorem wpAnyQ_list {D : World → Prop} {Q : Act → Prop} (hsel : Region.noSelect ops = true) : ∀ (tl : List Nat) (listed : Array Bool) (a : Act), tailB md ops tl listed = true → wpQuiet P ops D Q (opsAt ops tl) a → wpAnyQ P md ops D Q tl.length listed a
  | [], listed, a, hB, h => ⟨by simpa [tailB] using hB, h⟩
  | i :: r, listed, a, hB, h => by
    simp only [tailB, Bool.and_eq_true] at hB
    obtain ⟨⟨hr, hf⟩, hB'⟩ := hB
    have hr' : i ∈ Region.ready md ops listed := by simpa using hr
    obtain ⟨_, oi, hi, _⟩ := mem_ready.1 hr'
    have hst : qOp P ops D i (wpQuiet P ops D Q (opsAt ops r)) a := by
      unfold qOp
      simp only [opsAt, List.filterMap_cons, hi] at h
      simp only [hi]
      exact h
    obtain ⟨v, hy, hK⟩ := yieldsIn_of_qOp hi hst
    exact wpAnyQ_first hi (Region.noSelect_spec hsel) r.length listed a (Region.free_spec hi hf) hr' hy (wpAnyQ_list hsel r _ _ hB' hK)

def moverB (md : Region.Mode) (ops : Array Oper) (hd : List Nat) (k : Nat) (tl : List Nat) : Bool :=
  Region.noSelect ops && decide (hd.length + (tl.length + 1) = ops.size) && headB md ops k hd (Array.replicate ops.size false) && decide (Region.ready md ops (listedBy hd (Array.replicate ops.size false)) = [k]) &&
    tailB md ops tl ((listedBy hd (Array.replicate ops.size false)).setIfInBounds k true)

/-- **THE LAW**: the operations of 'hd' in that order, in the class C; then k; then those of 'tl', in the world that k leaves. -/
theorem wp_region_mover {id : Nat} {a : Act} {w : World} {l : List Oper} (hd : List Nat) (k : Nat) (tl : List Nat) (ok : Oper) (C : World → Prop) (hm : P.follows .mixedOrders = true) (hB : moverB .any l.toArray hd k tl = true) (hok : l.toArray[k]? = some ok) (hC : C { w with drawn := w.drawn + 1 })
    (h : wpQuiet P l.toArray C (fun a1 => ∀ w1, C w1 → wpList P l.toArray (onlyN fun a2 w2 => wpQuiet P l.toArray (fun w => w = w2) (fun a3 => Q' .normal a3 w2) (opsAt l.toArray tl) a2) [ok] a1 w1) (opsAt l.toArray hd) a) : (Code.region id l.toArray true).wp P Q' a w := by
  simp only [moverB, Bool.and_eq_true, decide_eq_true_eq] at hB
  obtain ⟨⟨⟨⟨hsel, hlen⟩, hhd⟩, hrk⟩, htl⟩ := hB
  refine wp_region_any hm (wpAny_of_X (C := C) (k := k) (Q' := Q') _ _ a _ hC ?_)
  refine (fun (h : wpAnyX P .any l.toArray C k Q' (hd.length + (tl.length + 1)) (Array.replicate l.toArray.size false) a) => by rw [hlen] at h; exact h) ?_
  refine wpAnyX_lex hC hsel (tl.length + 1) hd _ a Closed.none hhd ?_
  have hmono : ∀ (l' : List Oper) (a : Act) (K K' : Act → Prop), (∀ a, K a → K' a) → wpQuiet P l.toArray C K l' a → wpQuiet P l.toArray C K' l' a := by
    intro l'
    induction l' with
    | nil => exact fun a K K' hk h => hk _ h
    | cons o r ih =>
      intro a K K' hk h
      simp only [wpQuiet] at h ⊢
      split
      · rename_i hw; rw [if_pos hw] at h; exact Oper.quiet_mono (fun a h => ih a K K' hk h) h
      · rename_i hw; rw [if_neg hw] at h; exact ih _ K K' hk h
  refine hmono _ _ _ _ (fun a1 h1 hcl => ?_) h
  refine ⟨by rw [hrk]; simp, fun i hi => ?_⟩
  rw [hrk] at hi
  obtain rfl : i = k := by simpa using hi
  refine ⟨fun _ w1 hw1 => ?_, fun h => absurd rfl h⟩
  have h2 := h1 w1 hw1
  unfold wpOp
  simp only [hok]
  unfold wpList at h2
  split
  · rename_i hw
    rw [if_pos hw] at h2
    rcases h2 with h2 | ⟨_, hl⟩
    · left
      refine upon_weak (fun a2 w2 h3 => ?_) h2
      exact wpAnyQ_list hsel tl _ a2 htl h3
    · exact absurd hl (onlyN_out _)
  · rename_i hw
    rw [if_neg hw] at h2
    exact wpAnyQ_list hsel tl _ _ htl h2
end
end Go.Proofs.Ytjoacfjbdpmgpaa.V
