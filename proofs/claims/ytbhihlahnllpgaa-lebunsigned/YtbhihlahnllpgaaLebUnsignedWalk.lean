/-
  The walk of the law 'LebUnsigned'.
-/
import Derived.Test.YtbhihlahnllpgaaRefReads
import Derived.Test.YtbhihlahnllpgaaLebWorks
namespace Go.Proofs.Ytbhihlahnllpgaa
open Go.RowKit
set_option linter.unusedVariables false

set_option maxHeartbeats 400000 in
theorem unsigned_calls (a : Option Addr) (len cap : Nat) (l : List Int) (p wd : Int) (w : World) (H : Row w a len cap l) :
    Calls Try.prog 3 #[.slice a len cap, .int .i64 p, .int .i64 wd] w fun e w' => e = .returned (.bool true) ∧ Below w.heap.size w w' := by
  have C1 := hide (U_calls a len cap l p wd w H)
  have C2 := hide (fun k => refU_calls a len cap l p wd (w.drewN k) (H.drewN k))
  clear H
  generalize Leb.readU l p wd = r at *
  obtain ⟨n, nx, x⟩ := r
  go_enter Try.func3, Try.ntmps3
  go_wp2_with fail
  refine C1.out.mono ?_
  rintro e w1 ⟨rfl, k1, rfl⟩
  unfold triU
  go_wp2_with fail
  refine (C2.out k1).mono ?_
  rintro e w1 ⟨rfl, hb1⟩
  unfold triU
  have HB1 := hide hb1
  clear hb1
  go_wp2_with (go_at_call 11; refine (works_calls _).mono ?_; rintro e w3 ⟨rfl, hb⟩)
  go_ret
  exact ⟨rfl, (below_drewN (Below.refl _ _) _).trans (HB1.out.trans (hb.mono HB1.out.size))⟩
end Go.Proofs.Ytbhihlahnllpgaa
