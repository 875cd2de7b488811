/-
  A function's straight code, run out by the kernel: no walk, no simp over what it holds.
-/
import Derived.Test.YthggbimnjneeaaaDoorChecked
import Derived.WalkKit
import Derived.KernelRfl
set_option linter.unusedVariables false
namespace Go.Proofs.YthggbimnjneeaaaDoor
open Go.RowKit

def runOps (P : Program) : List Oper → Act → World → Option (Act × World)
  | [], a, w => some (a, w)
  | o :: l, a, w =>
    match o.guard with
    | none =>
      match (execOp a.eval o).run P w with
      | .ok (.value v) w' => runOps P l (a.put o.dst v) w'
      | _ => none
    | some _ => none
def runCode (P : Program) : Code → Act → World → Option (Bool × Act × World)
  | .region _ ops false, a, w => (runOps P ops.toList a w).map fun r => (false, r.1, r.2)
  | .seq x y, a, w =>
    match runCode P x a w with
    | some (false, a', w') => runCode P y a' w'
    | r => r
  | .ret, a, w => some (true, a, w)
  | _, _, _ => none

theorem runOps_wp {P : Program} {ops : Array Oper} {Q : Exit → Act → World → Prop} : ∀ (l : List Oper) (a : Act) (w : World) (a' : Act) (w' : World), runOps P l a w = some (a', w') → Q .normal a' w' → wpList P ops Q l a w
  | [], a, w, a', w', h, hq => by
    simp only [runOps, Option.some.injEq, Prod.mk.injEq] at h
    obtain ⟨rfl, rfl⟩ := h
    exact hq
  | o :: l, a, w, a', w', h, hq => by
    unfold runOps at h
    split at h
    · next hg =>
      split at h
      · next v w1 hr =>
        refine wpList_plain hg fun K hK => ?_
        unfold Oper.wp
        rw [hr]
        exact hK _ _ (runOps_wp l _ _ _ _ h hq)
      · cases h
    · cases h
theorem runCode_wp {P : Program} : ∀ (c : Code) (Q : Exit → Act → World → Prop) (a : Act) (w : World) (b : Bool) (a' : Act) (w' : World), runCode P c a w = some (b, a', w') → Q (if b then .ret else .normal) a' w' → c.wp P Q a w
  | .region id ops false, Q, a, w, b, a', w', h, hq => by
    unfold runCode at h
    cases hr : runOps P ops.toList a w with
    | none => rw [hr] at h; cases h
    | some r =>
      rw [hr] at h
      simp only [Option.map_some, Option.some.injEq, Prod.mk.injEq] at h
      obtain ⟨rfl, rfl, rfl⟩ := h
      exact wp_region_list (runOps_wp _ _ _ _ _ hr hq)
  | .seq x y, Q, a, w, b, a', w', h, hq => by
    unfold runCode at h
    refine wp_seq ?_
    cases hr : runCode P x a w with
    | none => rw [hr] at h; cases h
    | some r =>
      obtain ⟨b1, a1, w1⟩ := r
      rw [hr] at h
      cases b1 with
      | false =>
        simp only at h
        exact runCode_wp x _ a w false a1 w1 hr (runCode_wp y Q a1 w1 b a' w' h hq)
      | true =>
        simp only [Option.some.injEq, Prod.mk.injEq] at h
        obtain ⟨rfl, rfl, rfl⟩ := h
        exact runCode_wp x _ a w true _ _ hr hq
  | .ret, Q, a, w, b, a', w', h, hq => by
    simp only [runCode, Option.some.injEq, Prod.mk.injEq] at h
    obtain ⟨rfl, rfl, rfl⟩ := h
    exact wp_ret hq
  | .skip, _, _, _, _, _, _, h, _ => by cases h
  | .region _ _ true, _, _, _, _, _, _, h, _ => by cases h
  | .cond .., _, _, _, _, _, _, h, _ => by cases h
  | .block .., _, _, _, _, _, _, h, _ => by cases h
  | .loop .., _, _, _, _, _, _, h, _ => by cases h
  | .rangeFunc .., _, _, _, _, _, _, h, _ => by cases h
  | .exit .., _, _, _, _, _, _, h, _ => by cases h
  | .scope .., _, _, _, _, _, _, h, _ => by cases h
  | .label .., _, _, _, _, _, _, h, _ => by cases h
  | .goto .., _, _, _, _, _, _, h, _ => by cases h

/-- One result in a slot. -/
theorem calls_closed {P : Program} {f : FuncId} {fn : Func} {c : Code} {args : Array Value} {w w' : World} {v : Value} (t : Tmp) (hf : P.funcs[f]? = some fn) (hb : fn.body = some c) (hr : fn.results = #[.tmp t])
    (h : (runCode P c { tmps := args ++ Array.replicate (fn.ntmps - args.size) undef, defers := [] } w).map (fun r => (r.1, r.2.1.tmps.getD t undef, r.2.1.defers.length, r.2.2)) = some (true, v, 0, w')) :
    Calls P f args w fun e W => e = .returned v ∧ W = w' := by
  refine calls_of_wp hf hb ?_
  cases hx : runCode P c { tmps := args ++ Array.replicate (fn.ntmps - args.size) undef, defers := [] } w with
  | none => rw [hx] at h; cases h
  | some r =>
    obtain ⟨b, a', w1⟩ := r
    rw [hx] at h
    simp only [Option.map_some, Option.some.injEq, Prod.mk.injEq] at h
    obtain ⟨rfl, hv, hd, rfl⟩ := h
    refine runCode_wp c _ _ w true a' w1 hx ?_
    refine bodyPost_ret (v := v) ?_ (List.eq_nil_of_length_eq_zero hd) ⟨rfl, rfl⟩
    rw [results_tmp hr, hv]
end Go.Proofs.YthggbimnjneeaaaDoor
