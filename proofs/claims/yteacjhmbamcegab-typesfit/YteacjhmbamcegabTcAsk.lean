/-
  What is asked of types, of the landed code; the laws.
-/
import Derived.Test.YteacjhmbamcegabTcSmall
import Derived.Test.YteacjhmbamcegabTcHas
import Derived.Test.YteacjhmbamcegabTcGlob
import Derived.Test.YteacjhmbamcegabTcFunc
import Derived.Test.YteacjhmbamcegabTcSame
import Derived.Test.YteacjhmbamcegabTypAsk
set_option linter.unusedVariables false
namespace Go.Proofs.Yteacjhmbamcegab
open Go.RowKit Typ

theorem same_below {e : Ending} {v : Value} {w w' : World} (h : e = .returned v ∧ w' = w) : e = .returned v ∧ Below w.heap.size w w' := ⟨h.1, by rw [h.2]; exact Below.refl _ _⟩
theorem okIs : TIsOK := fun t w => (tIs_calls t w).mono fun e w' h => same_below h -- 10
theorem okIsRef : TIsRefOK := fun t w => (tIsRef_calls t w).mono fun e w' h => same_below h -- 23
theorem okHas : THasOK := fun t lo hi w => tHas_calls t lo hi w -- 11
theorem okFit : TFitOK := fun n x n' x' b b' w => tFit_calls n x n' x' b b' w -- 6
theorem okFitTable : TFitTableOK := fun t n x t' n' x' b b' w => tFitTable_calls t n x t' n' x' b b' w -- 7
theorem okSame : TSameOK := fun v1 v2 u1 u2 l1 l2 m1 m2 w H1 H2 G1 G2 => tSame_calls v1 v2 u1 u2 l1 l2 m1 m2 w H1 H2 G1 G2 -- 8
theorem okVal : TValOK := fun a len cap l p w H => (tVal_calls a len cap l p w H).mono fun e w' h => same_below h -- 30
theorem okFunc : TFuncOK := fun a len cap l p w H => tFunc_calls a len cap l p w H -- 14

theorem infoVal : (Try.prog.info? 38).map (·.size) = some 3 := by kernel_rfl
theorem resultV {w : World} {g : Nat} {a b c : Value} (h : SBlk w g 38 #[a, b, c]) {fn : Func} {p : Tmp} (hf : fn.results = #[.cell p 38]) (tmps : Array Value) (hp : tmps.getD p undef = .pointer (some ⟨g, 0, none⟩)) :
    (results fn tmps).run Try.prog w = .ok (.agg #[a, b, c]) w := by
  have hp' : tmps[p]?.getD undef = .pointer (some ⟨g, 0, none⟩) := by simpa using hp
  simp [results, hf, hp', asAddr, run_loadVar_row w g _ _ _ _ _ h Try.underlying38 rfl infoVal]

set_option maxHeartbeats 1000000 in
theorem okZero : TZeroOK := fun t w => by
  unfold valV
  have KZ : Hid (SBlk (w.alloc (.cells #[.int .u8 t, .int .u64 0, .int .u64 0] 38)) w.heap.size 38 #[.int .u8 t, .int .u64 0, .int .u64 0]) := hideT (sblk_new _ _ _)
  have BA : Hid (Below w.heap.size w (w.alloc (.cells #[.int .u8 t, .int .u64 0, .int .u64 0] 38))) := hideT ((Below.refl _ _).alloc (Nat.le_refl _) _)
  go_enter Try.func12, Try.ntmps12
  go_wp2_with fail
  refine bodyPost_ret (v := .agg #[.int .u8 t, .int .u64 0, .int .u64 0]) (resultV KZ.out (by rfl) _ rfl) rfl ?_
  exact ⟨rfl, BA.out⟩
end Go.Proofs.Yteacjhmbamcegab
