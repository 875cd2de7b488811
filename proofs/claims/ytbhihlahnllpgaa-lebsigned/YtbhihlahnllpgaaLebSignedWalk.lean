/-
  The walk of the law 'LebSigned'.
-/
import Derived.Test.YtbhihlahnllpgaaRefReadS
import Derived.Test.YtbhihlahnllpgaaLebWorks
namespace Go.Proofs.Ytbhihlahnllpgaa
open Go.RowKit
set_option linter.unusedVariables false

set_option maxHeartbeats 400000 in
theorem signed_calls (a : Option Addr) (len cap : Nat) (l : List Int) (p wd : Int) (w : World) (H : Row w a len cap l) :
    Calls Try.prog 4 #[.slice a len cap, .int .i64 p, .int .i64 wd] w fun e w' => e = .returned (.bool true) ∧ Below w.heap.size w w' := by
  have C1 := hide (S_calls a len cap l p wd w H)
  have C2 := hide (fun k => refS_calls a len cap l p wd (w.drewN k) (H.drewN k))
  clear H
  generalize Leb.readS l p wd = r at *
  obtain ⟨n, nx, x⟩ := r
  go_enter Try.func4, Try.ntmps4
  go_wp2_with fail
  refine C1.out.mono ?_
  rintro e w1 ⟨rfl, k1, rfl⟩
  unfold triS
  go_wp2_with fail
  refine (C2.out k1).mono ?_
  rintro e w1 ⟨rfl, hb1⟩
  unfold triS
  have HB1 := hide hb1
  clear hb1
  go_wp2_with (go_at_call 11; refine (works_calls _).mono ?_; rintro e w3 ⟨rfl, hb⟩)
  go_ret
  exact ⟨rfl, (below_drewN (Below.refl _ _) _).trans (HB1.out.trans (hb.mono HB1.out.size))⟩
end Go.Proofs.Ytbhihlahnllpgaa
