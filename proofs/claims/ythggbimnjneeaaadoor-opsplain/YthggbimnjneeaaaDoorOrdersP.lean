/-
  A region that draws its order, by what holds of each set of operations that were carried out: one walk an operation, none an order.
-/
import Derived.Test.YthggbimnjneeaaaDoorOpsFams
import Derived.Orders
set_option linter.unusedVariables false
set_option maxRecDepth 100000
namespace Go.Proofs.YthggbimnjneeaaaDoor
open Go.RowKit

/-- It goes on, and nothing else. -/
def Nly (J : Act → World → Prop) : Exit → Act → World → Prop := fun e a w => e = .normal ∧ J a w
/-- What an operation waits for. -/
def waits (o : Oper) : List Nat := (o.after.toList.filter (Region.binds .any)).map (·.on)
/-- No operation waits for a later one. -/
def backB (l : List Oper) : Bool := (List.range l.length).all fun i => match l[i]? with | some o => (waits o).all fun j => decide (j < i) | none => true
def upd (d : Nat → Bool) (i : Nat) : Nat → Bool := fun j => j == i || d j

theorem wpOp_only {P : Program} {ops : Array Oper} {Q : Exit → Act → World → Prop} {J : Act → World → Prop} {i : Nat} {o : Oper} {a : Act} {w : World} (ho : ops[i]? = some o)
    (h : wpList P ops (Nly J) [o] a w) : wpOp P ops Q i J a w := by
  unfold wpOp
  simp only [ho]
  unfold wpList at h
  split
  · next hw =>
    rw [if_pos hw] at h
    rcases h with h | ⟨_, _, _, h, _⟩
    · left
      unfold Oper.wp at *
      generalize (execOp a.eval o).run P w = r at *
      cases r with
      | ok n w' =>
        cases n <;> simp only [Oper.upon] at h ⊢
        case value => exact h.2
        case skip => exact h.2
        case defer => exact h.2
        case enter f args =>
          refine Calls.mono h fun e w'' he => ?_
          cases e with
          | returned v => exact he.2
          | panicked c => exact absurd he.1 (by simp)
          | outgrown => obtain ⟨_, _, he, _⟩ := he; exact absurd he (by simp)
        case row => exact Rows.mono h fun v w'' he => he.2
      | halt x w' =>
        cases x <;> simp only [Oper.upon] at h ⊢
        case panic => exact absurd h.1 (by simp)
    · cases h
  · next hw =>
    rw [if_neg hw] at h
    exact h.2

theorem wpAny_inv {P : Program} {l : List Oper} {Q : Exit → Act → World → Prop} (hback : backB l = true) (J : (Nat → Bool) → Act → World → Prop)
    (hstep : ∀ (i : Nat) (o : Oper), l[i]? = some o → ∀ d a w, J d a w → d i = false → (waits o).all d = true → wpList P l.toArray (Nly (J (upd d i))) [o] a w)
    (hend : ∀ d a w, (∀ i, i < l.length → d i = true) → J d a w → Q .normal a w) :
    ∀ (fuel : Nat) (listed : Array Bool) (a : Act) (w : World), listed.size = l.length → (listed.toList.countP fun b => b == false) = fuel → J (fun j => listed.getD j false) a w →
      wpAny P .any l.toArray Q fuel listed a w := by
  have full : ∀ listed : Array Bool, listed.size = l.length → Region.ready .any l.toArray listed = [] → ∀ i, i < l.length → listed.getD i false = true := by
    intro listed hs hr i
    induction i using Nat.strongRecOn with
    | _ i ih =>
      intro hi
      cases hl : listed.getD i false with
      | true => rfl
      | false =>
        exfalso
        obtain ⟨o, ho⟩ : ∃ o, l[i]? = some o := ⟨_, List.getElem?_eq_getElem hi⟩
        have hb := List.all_eq_true.1 hback i (List.mem_range.2 hi)
        rw [ho] at hb
        have hm : i ∈ Region.ready .any l.toArray listed := by
          refine mem_ready.2 ⟨?_, o, by simpa using ho, fun e he hbi => ?_⟩
          · simp [show i < listed.size by omega] at hl ⊢; exact hl
          · have hj : e.on < i := by
              have := List.all_eq_true.1 hb e.on (List.mem_map.2 ⟨e, List.mem_filter.2 ⟨by simpa using he, hbi⟩, rfl⟩)
              simpa using this
            exact ih e.on hj (by omega)
        rw [hr] at hm; cases hm
  intro fuel
  induction fuel with
  | zero =>
    intro listed a w hs hc hJ
    have hr : Region.ready .any l.toArray listed = [] := by
      rw [List.eq_nil_iff_forall_not_mem]
      intro i hi
      obtain ⟨h1, o, ho, _⟩ := mem_ready.1 hi
      have hi' : i < listed.size := by rw [hs]; exact (Array.getElem?_eq_some_iff.1 ho).1
      have h2 := (List.countP_eq_zero.1 hc) listed[i] (by simp)
      simp [hi'] at h1 h2
      rw [h1] at h2; cases h2
    exact ⟨hr, hend _ _ _ (full listed hs hr) hJ⟩
  | succ fuel ih =>
    intro listed a w hs hc hJ
    refine ⟨fun hr => hend _ _ _ (full listed hs hr) hJ, fun i hi => ?_⟩
    obtain ⟨h1, o, ho, hpre⟩ := mem_ready.1 hi
    have hi' : i < listed.size := by rw [hs]; exact (Array.getElem?_eq_some_iff.1 ho).1
    have hf : listed[i] = false := by simpa [hi'] using h1
    refine wpOp_mono (fun a' w' hJ' => ih _ a' w' (by simpa using hs) ?_ ?_) (wpOp_only ho (hstep i o (by simpa using ho) _ a w hJ (by simp [hi', hf]) ?_))
    · rw [Array.setIfInBounds_def, dif_pos hi', Array.toList_set, List.countP_set (by simpa using hi')]
      have e2 : (listed.toList[i]'(by simpa using hi') == false) = true := by simpa using hf
      rw [if_pos e2, hc, if_neg (by decide)]; rfl
    · have e : upd (fun j => listed.getD j false) i = fun j => (listed.setIfInBounds i true).getD j false := by
        funext j
        unfold upd
        by_cases hji : j = i
        · subst hji; simp [hi']
        · rw [getD_set_ne false (Ne.symm hji)]; simp [hji]
      rw [← e]; exact hJ'
    · rw [List.all_eq_true]
      intro j hj
      obtain ⟨e, he, rfl⟩ := List.mem_map.1 hj
      obtain ⟨he1, he2⟩ := List.mem_filter.1 he
      exact hpre e (by simpa using he1) he2

theorem wp_region_inv {P : Program} {id : Nat} {l : List Oper} {Q : Exit → Act → World → Prop} {a : Act} {w : World} (hm : P.follows .mixedOrders = true) (hback : backB l = true)
    (J : (Nat → Bool) → Act → World → Prop) (h0 : J (fun _ => false) a w.drew)
    (hend : ∀ d a w, (∀ i, i < l.length → d i = true) → J d a w → Q .normal a w)
    (hstep : ∀ (i : Nat) (o : Oper), l[i]? = some o → ∀ d a w, J d a w → d i = false → (waits o).all d = true → wpList P l.toArray (Nly (J (upd d i))) [o] a w) :
    (Code.region id l.toArray true).wp P Q a w := by
  refine wp_region_any hm ?_
  refine wpAny_inv hback J hstep hend _ _ _ _ (by simp) ?_ ?_
  · simp [List.countP_replicate]
  · have e : (fun j => (Array.replicate l.toArray.size false).getD j false) = fun _ => false := by
      funext j; simp [Array.getElem?_replicate]
      split <;> rfl
    rw [e]; exact h0

/-- The frame, with other values in these slots. -/
def putL (a : Act) : List Tmp → List Value → Act
  | s :: ss, v :: vs => putL (a.put (some s) v) ss vs
  | _, _ => a

theorem put_self (a : Act) (s : Tmp) : a.put (some s) (a.tmps.getD s undef) = a := by
  unfold Act.put
  cases a with
  | mk tmps defers =>
    simp only
    congr 1
    by_cases h : s < tmps.size
    · rw [Array.setIfInBounds_def, dif_pos h]; simp [h]
    · rw [Array.setIfInBounds_def, dif_neg h]

theorem putL_self (a : Act) : ∀ ss : List Tmp, putL a ss (ss.map fun s => a.tmps.getD s undef) = a
  | [] => rfl
  | s :: ss => by
    simp only [List.map_cons, putL]
    rw [put_self]
    exact putL_self a ss

/-- A region that draws its order and fills these slots: J says what holds of the slots' values and the world, once the operations of d were carried out. -/
theorem wp_region_par {P : Program} {id : Nat} {l : List Oper} {Q : Exit → Act → World → Prop} {a : Act} {w : World} (slots : List Tmp) (J : (Nat → Bool) → List Value → World → Prop)
    (hm : P.follows .mixedOrders = true) (hback : backB l = true)
    (h0 : ∀ vs, J (fun _ => false) vs w.drew)
    (hend : ∀ d vs w, (∀ i, i < l.length → d i = true) → vs.length = slots.length → J d vs w → Q .normal (putL a slots vs) w)
    (hstep : ∀ (i : Nat) (o : Oper), l[i]? = some o → ∀ d vs w, vs.length = slots.length → J d vs w → d i = false → (waits o).all d = true →
      wpList P l.toArray (Nly fun a' w' => ∃ vs', vs'.length = slots.length ∧ a' = putL a slots vs' ∧ J (upd d i) vs' w') [o] (putL a slots vs) w) :
    (Code.region id l.toArray true).wp P Q a w := by
  refine wp_region_inv hm hback (fun d a' w' => ∃ vs, vs.length = slots.length ∧ a' = putL a slots vs ∧ J d vs w') ?_ ?_ ?_
  · exact ⟨_, by simp, (putL_self a slots).symm, h0 _⟩
  · rintro d _ w' hd ⟨vs, hl, rfl, hJ⟩
    exact hend d vs w' hd hl hJ
  · rintro i o ho d _ w' ⟨vs, hl, rfl, hJ⟩ hi hw
    exact hstep i o ho d vs w' hl hJ hi hw
end Go.Proofs.YthggbimnjneeaaaDoor
