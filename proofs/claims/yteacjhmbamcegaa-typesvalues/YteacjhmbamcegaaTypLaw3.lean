/-
  The law TypesValues, over what is asked of types.
-/
import Derived.Test.YteacjhmbamcegaaTypFam
set_option linter.unusedVariables false
set_option linter.unusedSimpArgs false
namespace Go.Proofs.Yteacjhmbamcegaa
open Go.RowKit Typ

set_option maxRecDepth 100000 in
set_option maxHeartbeats 8000000 in
theorem typesValues_law (hF : TFuncOK) (hI : TIsOK) (hR : TIsRefOK) (hH : THasOK) (hZ : TZeroOK) (t t' lo hi : Int) (w : World) :
    Calls Try.prog 3 #[.int .u8 t, valV t' lo hi] w fun e w' => e = .returned (.bool true) ∧ Below w.heap.size w w' := by
  obtain ⟨wa, hwa⟩ : ∃ wa, w.alloc (.cells #[.int .u8 t', .int .u64 lo, .int .u64 hi] 25) = wa := ⟨_, rfl⟩
  have KA : Hid (SBlk wa w.heap.size 25 #[.int .u8 t', .int .u64 lo, .int .u64 hi]) := hideT (by rw [← hwa]; exact sblk_new _ _ _)
  have BA : Hid (Below w.heap.size w wa) := hideT (by rw [← hwa]; exact (Below.refl _ _).alloc (Nat.le_refl _) _)
  have HW := hideT hwa
  obtain ⟨I, F, _, hFF, hin⟩ := family wa
  have E0 := hideT (in_family hFF hin fun W _ => hI t W)
  have E1 := hideT (in_family hFF hin fun W _ => quiet_same (rIs_calls t W))
  have E2 := hideT (in_family hFF hin fun W _ => hR t W)
  have E3 := hideT (in_family hFF hin fun W _ => quiet_same (rIsRef_calls t W))
  have E4 := in_family hFF hin fun W _ => hH t' lo hi W
  have E5 := in_family hFF hin fun W _ => rHas_calls t' lo hi W
  have E6 := in_family hFF hin fun W _ => hZ t W
  have E7 := hideT (in_family hFF hin fun W _ => works9_calls hF hR W)
  have k0 : ∀ i, (F i).cell? ⟨w.heap.size, 0, none⟩ = some (.int .u8 t') := fun i => (KA.out.later (hFF i) KA.out.lt).cell rfl
  have k1 : ∀ i, (F i).cell? ⟨w.heap.size, 1, none⟩ = some (.int .u64 lo) := fun i => (KA.out.later (hFF i) KA.out.lt).cell rfl
  have k2 : ∀ i, (F i).cell? ⟨w.heap.size, 2, none⟩ = some (.int .u64 hi) := fun i => (KA.out.later (hFF i) KA.out.lt).cell rfl
  have HF := hideT hFF
  have IN := hideT hin
  unfold valV at E4 E5 E6 ⊢
  have E4 := hideT E4
  have E5 := hideT E5
  have E6 := hideT E6
  clear hFF hin hwa hF hI hR hH hZ
  generalize isT t = r1 at *
  generalize isR t = r2 at *
  generalize hasT t' lo hi = r3 at *
  go_enter Try.func3, Try.ntmps3
  go_wp2_with fail
  refine wp_region_class F (by kernel_rfl) (by kernel_rfl) ?_ ?_
  · refine IN.out _ ?_
    rw [HW.out]; exact (Below.refl _ _).drew
  repeat (refine wpQuiet_step (fun K hK => ?_); go_simp; first | (refine hK _ ?_; clear hK K) | (apply Exists.intro; refine ⟨fun _ => ?_, hK _ ?_⟩; (first | exact E0.out _ | exact E1.out _ | exact E2.out _ | exact E3.out _ | exact E4.out _ | exact E5.out _ | exact E6.out _ | exact E7.out _); clear hK K))
  refine wpQuiet_nil ?_
  rintro _ ⟨i, rfl⟩
  go_wp2_with fail
  go_ret
  exact ⟨rfl, BA.out.trans ((HF.out i).mono BA.out.size)⟩
end Go.Proofs.Yteacjhmbamcegaa
