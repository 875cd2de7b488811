/-
  works; whether two vectors are the same.
-/
import Derived.Test.YtdhanapmknlobabDoorLanSplat
set_option linter.unusedVariables false
set_option linter.unusedSimpArgs false
namespace Go.Proofs.YtdhanapmknlobabDoor
open Go.RowKit Lan

theorem works_get : getV (506097522914230528, 1084818905618843912) 16 1 = (770, 0) := by decide
theorem works_splat : splatV 32 1 = ((4294967297, 4294967297), 0) := by decide

set_option maxHeartbeats 1000000 in
theorem works_calls (W : World) (hT : WTabs W) :
    Calls Tryd.prog 8 #[] W fun e W' => e = .returned (.bool true) ∧ Below W.heap.size W W' := by
  have BB : Below W.heap.size W (W.alloc (.cells #[.int .u64 506097522914230528, .int .u64 1084818905618843912] 24)) := below_two _ _
  have CG := lget_calls (506097522914230528, 1084818905618843912) ⟨by decide, by decide⟩ 16 1 _ (hT.later BB)
  rw [works_get] at CG
  have CG := hide CG
  have CS := fun W' hT' => lsplat_calls 32 1 W' hT'
  rw [works_splat] at CS
  have CS := hide CS
  have HB := hide BB
  have HT := hide hT
  clear BB hT
  unfold pairV vecV at CG
  unfold vecE vecV at CS
  simp only [Int.cast_ofNat_Int] at CG CS
  go_enter Tryd.func8, Tryd.ntmps8
  go_wp2_with fail
  refine CG.out.mono ?_
  rintro e w1 ⟨rfl, hb⟩
  have B1 := hide (HB.out.trans (hb.mono HB.out.size))
  clear hb
  go_wp2_with fail
  refine (CS.out _ (HT.out.later B1.out)).mono ?_
  rintro e w2 ⟨rfl, hb⟩
  have B2 := hide (B1.out.trans (hb.mono B1.out.size))
  clear hb
  go_wp2
  go_ret
  exact ⟨rfl, B2.out.alloc B2.out.size _⟩
end Go.Proofs.YtdhanapmknlobabDoor
