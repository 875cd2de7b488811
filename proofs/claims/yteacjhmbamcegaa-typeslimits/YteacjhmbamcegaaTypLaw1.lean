/-
  The laws TypesFuncs, TypesOthers, over what is asked of types.
-/
import Derived.Test.YteacjhmbamcegaaTypAsk
set_option linter.unusedVariables false
set_option linter.unusedSimpArgs false
namespace Go.Proofs.Yteacjhmbamcegaa
open Go.RowKit Typ

theorem beq_self (l : List Int) : (l == l) = true := by simp
theorem SBlk.past {w : World} {g : Nat} {t : TypeId} {cs : Array Value} (h : SBlk w g t cs) (o : Obj) : SBlk (w.alloc o) g t cs := (heap_alloc_old w o h.lt).trans h

set_option maxHeartbeats 4000000 in
theorem typesFuncs_law (hF : TFuncOK) (hV : TValOK) (hR : TIsRefOK) (a : Option Addr) (len cap : Nat) (l : List Int) (p : Int) (w : World) (H : Row w a len cap l) :
    Calls Try.prog 5 #[.slice a len cap, .int .i64 p] w fun e w' => e = .returned (.bool true) ∧ Below w.heap.size w w' := by
  have HH := hideT H
  have C1 := hideT (hF a len cap l p w H)
  have C2 := hideT (fun V hV => rFunc_calls a len cap l p V (H.later (w' := V) hV))
  have C3 := hideT (fun V hb => hV a len cap l p V (H.later (w' := V) hb))
  have C4 := hideT (fun V hV => rVal_calls a len cap l p V (H.later (w' := V) hV))
  have CW := hideT (fun V => works9_calls hF hR V)
  clear H hF hV hR
  generalize funcAt l p = R at *
  obtain ⟨⟨l1, l2⟩, nx, er⟩ := R
  unfold triV at C3 C4
  generalize valAt l p = Q at *
  obtain ⟨t, nt, et⟩ := Q
  simp only at C3 C4
  unfold FuncPost at C1 C2
  simp only at C1 C2
  go_enter Try.func5, Try.ntmps5
  go_wp2_with fail
  refine C1.out.mono ?_
  rintro e w1 ⟨v1, v2, rfl, ho1, ho2, hb1⟩
  obtain ⟨a1, c1, hv1⟩ := ho1.shape
  obtain ⟨a2, c2, hv2⟩ := ho2.shape
  subst hv1
  subst hv2
  obtain ⟨u1, hu1⟩ : ∃ u1, w1.alloc (.cells #[.slice a1 l1.length c1, .slice a2 l2.length c2] 38) = u1 := ⟨_, rfl⟩
  have BX : Below w1.heap.size w1 u1 := by rw [← hu1]; exact (Below.refl _ _).alloc (Nat.le_refl _) _
  have B1 : Hid (Below w.heap.size w u1) := hideT (hb1.trans (BX.mono hb1.size))
  have K1 : Hid (SBlk u1 w1.heap.size 38 #[.slice a1 l1.length c1, .slice a2 l2.length c2]) := hideT (by rw [← hu1]; exact sblk_new _ _ _)
  have R1 := hideT (ho1.row.later BX)
  have R2 := hideT (ho2.row.later BX)
  have D2 := hideT (C2.out u1 B1.out)
  have H1 := hideT hu1
  clear hb1 ho1 ho2 BX hu1 C1 C2
  go_wp2_with fail
  rw [H1.out]
  refine D2.out.mono ?_
  rintro e w2 ⟨v3, v4, rfl, ho3, ho4, hb2⟩
  obtain ⟨a3, c3, hv3⟩ := ho3.shape
  obtain ⟨a4, c4, hv4⟩ := ho4.shape
  subst hv3
  subst hv4
  obtain ⟨u2, hu2⟩ : ∃ u2, w2.alloc (.cells #[.slice a3 l1.length c3, .slice a4 l2.length c4] 38) = u2 := ⟨_, rfl⟩
  have BX : Below w2.heap.size w2 u2 := by rw [← hu2]; exact (Below.refl _ _).alloc (Nat.le_refl _) _
  have BY : Below u1.heap.size u1 u2 := hb2.trans (BX.mono hb2.size)
  have B2 : Hid (Below w.heap.size w u2) := hideT (B1.out.trans (BY.mono B1.out.size))
  have K2 : Hid (SBlk u2 w1.heap.size 38 #[.slice a1 l1.length c1, .slice a2 l2.length c2]) := hideT (K1.out.later BY K1.out.lt)
  have K3 : Hid (SBlk u2 w2.heap.size 38 #[.slice a3 l1.length c3, .slice a4 l2.length c4]) := hideT (by rw [← hu2]; exact sblk_new _ _ _)
  have S1 := hideT (R1.out.later BY)
  have S2 := hideT (R2.out.later BY)
  have S3 := hideT (ho3.row.later BX)
  have S4 := hideT (ho4.row.later BX)
  have D3 := hideT (C3.out u2 B2.out)
  have H2 := hideT hu2
  clear hb2 ho3 ho4 BX BY hu2 C3 R1 R2 K1 D2 H1 B1
  go_wp2_with fail
  rw [H2.out]
  refine D3.out.mono ?_
  rintro e w3 ⟨rfl, hb3⟩
  have B3 : Hid (Below w.heap.size w w3) := hideT (B2.out.trans (hb3.mono B2.out.size))
  have D4 := hideT (C4.out w3 B3.out)
  have k10 := (K2.out.later hb3 K2.out.lt).cell (k := 0) rfl
  have k11 := (K2.out.later hb3 K2.out.lt).cell (k := 1) rfl
  have k20 := (K3.out.later hb3 K3.out.lt).cell (k := 0) rfl
  have k21 := (K3.out.later hb3 K3.out.lt).cell (k := 1) rfl
  have D5 := f0Func_calls (.slice a1 l1.length c1) (.slice a2 l2.length c2) (.slice a3 l1.length c3) (.slice a4 l2.length c4) l1 l2 l1 l2 w3 (S1.out.later hb3) (S2.out.later hb3) (S3.out.later hb3) (S4.out.later hb3)
  rw [beq_self, beq_self] at D5
  unfold funcV at D5
  have D5 := hideT D5
  clear hb3 C4 S1 S2 S3 S4 K2 K3 D3 H2 B2
  go_wp2_with ((with_reducible refine D4.out.mono ?_); rintro e w4 ⟨rfl, hw4⟩; replace hw4 := hw4.symm; subst hw4)
  refine D5.out.mono ?_
  rintro e w5 ⟨rfl, hb5⟩
  have B5 := hideT (B3.out.trans (hb5.mono B3.out.size))
  clear hb5 k10 k11 k20 k21
  go_wp2_with fail
  refine (CW.out _).mono ?_
  rintro e w6 ⟨rfl, hb6⟩
  have B6 := hideT (B5.out.trans (hb6.mono B5.out.size))
  clear hb6
  go_wp2
  go_ret
  exact ⟨rfl, B6.out⟩
end Go.Proofs.Yteacjhmbamcegaa
