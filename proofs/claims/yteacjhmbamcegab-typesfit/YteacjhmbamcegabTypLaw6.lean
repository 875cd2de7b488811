/-
  The law TypesFit, over what is asked of types.
-/
import Derived.Test.YteacjhmbamcegabTypFam
set_option linter.unusedVariables false
set_option linter.unusedSimpArgs false
namespace Go.Proofs.Yteacjhmbamcegab
open Go.RowKit Typ

theorem rowT_nil (w : World) : RowT w (.slice none 0 0) [] := ⟨none, 0, rfl, Nat.le_refl _, by decide, fun h => by simp at h⟩
theorem tab_on {t1 n1 x1 t2 n2 x2 t3 n3 x3 : Int} {b1 b2 b3 : Bool} (h : (t1 == t2 && fitL n1 x1 b1 n2 x2 b2) = true) (k : (t2 == t3 && fitL n2 x2 b2 n3 x3 b3) = true) : (t1 == t3 && fitL n1 x1 b1 n3 x3 b3) = true := by
  simp only [Bool.and_eq_true, beq_iff_eq] at h k ⊢
  exact ⟨h.1.trans k.1, fit_on h.2 k.2⟩

set_option maxHeartbeats 16000000 in
theorem typesFit_law (hF : TFuncOK) (hR : TIsRefOK) (hL : TFitOK) (hLT : TFitTableOK) (hS : TSameOK)
    (t1 n1 x1 t2 n2 x2 t3 n3 x3 : Int) (b1 b2 b3 : Bool) (w : World) :
    Calls Try.prog 3 #[tabV t1 n1 x1 b1, tabV t2 n2 x2 b2, tabV t3 n3 x3 b3] w fun e w' => e = .returned (.bool true) ∧ Below w.heap.size w w' := by
  obtain ⟨wa, hwa⟩ : ∃ wa, ((w.alloc (.cells #[.int .u8 t1, .int .u32 n1, .int .u32 x1, .bool b1] 27)).alloc (.cells #[.int .u8 t2, .int .u32 n2, .int .u32 x2, .bool b2] 27)).alloc (.cells #[.int .u8 t3, .int .u32 n3, .int .u32 x3, .bool b3] 27) = wa := ⟨_, rfl⟩
  have BA : Hid (Below w.heap.size w wa) := hideT (by rw [← hwa]; exact (((Below.refl _ _).alloc (Nat.le_refl _) _).alloc (by simp) _).alloc (by simp; omega) _)
  have K1 : Hid (SBlk wa w.heap.size 27 #[.int .u8 t1, .int .u32 n1, .int .u32 x1, .bool b1]) := hideT (by rw [← hwa]; exact ((sblk_new _ _ _).past _).past _)
  have K2 : Hid (SBlk wa (w.heap.size + 1) 27 #[.int .u8 t2, .int .u32 n2, .int .u32 x2, .bool b2]) := hideT (by
    rw [← hwa]
    have := (sblk_new (w.alloc (.cells #[.int .u8 t1, .int .u32 n1, .int .u32 x1, .bool b1] 27)) 27 #[.int .u8 t2, .int .u32 n2, .int .u32 x2, .bool b2]).past (.cells #[.int .u8 t3, .int .u32 n3, .int .u32 x3, .bool b3] 27)
    simpa using this)
  have K3 : Hid (SBlk wa (w.heap.size + 1 + 1) 27 #[.int .u8 t3, .int .u32 n3, .int .u32 x3, .bool b3]) := hideT (by
    rw [← hwa]
    have := sblk_new ((w.alloc (.cells #[.int .u8 t1, .int .u32 n1, .int .u32 x1, .bool b1] 27)).alloc (.cells #[.int .u8 t2, .int .u32 n2, .int .u32 x2, .bool b2] 27)) 27 #[.int .u8 t3, .int .u32 n3, .int .u32 x3, .bool b3]
    simpa using this)
  obtain ⟨I, F, _, hFF, hin⟩ := family wa
  obtain ⟨i0, hi0⟩ := hin wa (Below.refl _ _)
  have E0 := in_family hFF hin fun W _ => hL n1 x1 n1 x1 b1 b1 W
  have E1 := in_family hFF hin fun W _ => hLT t1 n1 x1 t1 n1 x1 b1 b1 W
  have E2 := in_family hFF hin fun W _ => hS (.slice none 0 0) (.slice none 0 0) (.slice none 0 0) (.slice none 0 0) [] [] [] [] W (rowT_nil W) (rowT_nil W) (rowT_nil W) (rowT_nil W)
  have E3 := in_family hFF hin fun W _ => hL n1 x1 n2 x2 b1 b2 W
  have E4 := in_family hFF hin fun W _ => hL n2 x2 n3 x3 b2 b3 W
  have E5 := in_family hFF hin fun W _ => hL n1 x1 n3 x3 b1 b3 W
  have E6 := in_family hFF hin fun W _ => hLT t1 n1 x1 t2 n2 x2 b1 b2 W
  have E7 := in_family hFF hin fun W _ => hLT t2 n2 x2 t3 n3 x3 b2 b3 W
  have E8 := in_family hFF hin fun W _ => hLT t1 n1 x1 t3 n3 x3 b1 b3 W
  have EW := hideT (in_family hFF hin fun W _ => works9_calls hF hR W)
  rw [fit_self] at E0
  rw [show (t1 == t1 && fitL n1 x1 b1 n1 x1 b1) = true from by rw [fit_self]; simp] at E1
  rw [show (([] : List Int) == [] && ([] : List Int) == []) = true from rfl] at E2
  have hf : fitL n1 x1 b1 n2 x2 b2 = true → fitL n2 x2 b2 n3 x3 b3 = true → fitL n1 x1 b1 n3 x3 b3 = true := fun h k => fit_on h k
  have hp : (t1 == t2 && fitL n1 x1 b1 n2 x2 b2) = true → (t2 == t3 && fitL n2 x2 b2 n3 x3 b3) = true → (t1 == t3 && fitL n1 x1 b1 n3 x3 b3) = true := fun h k => tab_on h k
  unfold tabV at E1 E6 E7 E8 ⊢
  unfold limV at E0 E3 E4 E5
  unfold funcV at E2
  have a0 : ∀ i, (F i).cell? ⟨w.heap.size, 0, none⟩ = some (.int .u8 t1) := fun i => (K1.out.later (hFF i) K1.out.lt).cell rfl
  have a1 : ∀ i, (F i).cell? ⟨w.heap.size, 1, none⟩ = some (.int .u32 n1) := fun i => (K1.out.later (hFF i) K1.out.lt).cell rfl
  have a2 : ∀ i, (F i).cell? ⟨w.heap.size, 2, none⟩ = some (.int .u32 x1) := fun i => (K1.out.later (hFF i) K1.out.lt).cell rfl
  have a3 : ∀ i, (F i).cell? ⟨w.heap.size, 3, none⟩ = some (.bool b1) := fun i => (K1.out.later (hFF i) K1.out.lt).cell rfl
  have c0 : ∀ i, (F i).cell? ⟨w.heap.size + 1, 0, none⟩ = some (.int .u8 t2) := fun i => (K2.out.later (hFF i) K2.out.lt).cell rfl
  have c1 : ∀ i, (F i).cell? ⟨w.heap.size + 1, 1, none⟩ = some (.int .u32 n2) := fun i => (K2.out.later (hFF i) K2.out.lt).cell rfl
  have c2 : ∀ i, (F i).cell? ⟨w.heap.size + 1, 2, none⟩ = some (.int .u32 x2) := fun i => (K2.out.later (hFF i) K2.out.lt).cell rfl
  have c3 : ∀ i, (F i).cell? ⟨w.heap.size + 1, 3, none⟩ = some (.bool b2) := fun i => (K2.out.later (hFF i) K2.out.lt).cell rfl
  have d0 : ∀ i, (F i).cell? ⟨w.heap.size + 1 + 1, 0, none⟩ = some (.int .u8 t3) := fun i => (K3.out.later (hFF i) K3.out.lt).cell rfl
  have d1 : ∀ i, (F i).cell? ⟨w.heap.size + 1 + 1, 1, none⟩ = some (.int .u32 n3) := fun i => (K3.out.later (hFF i) K3.out.lt).cell rfl
  have d2 : ∀ i, (F i).cell? ⟨w.heap.size + 1 + 1, 2, none⟩ = some (.int .u32 x3) := fun i => (K3.out.later (hFF i) K3.out.lt).cell rfl
  have d3 : ∀ i, (F i).cell? ⟨w.heap.size + 1 + 1, 3, none⟩ = some (.bool b3) := fun i => (K3.out.later (hFF i) K3.out.lt).cell rfl
  have HF := hideT hFF
  have HW := hideT (hwa.trans hi0)
  clear hFF hin hwa hi0 hF hR hL hLT hS
  generalize (t1 == t2 && fitL n1 x1 b1 n2 x2 b2) = p1 at *
  generalize (t2 == t3 && fitL n2 x2 b2 n3 x3 b3) = p2 at *
  generalize (t1 == t3 && fitL n1 x1 b1 n3 x3 b3) = p3 at *
  generalize fitL n1 x1 b1 n2 x2 b2 = r1 at *
  generalize fitL n2 x2 b2 n3 x3 b3 = r2 at *
  generalize fitL n1 x1 b1 n3 x3 b3 = r3 at *
  have e : (r1 = false ∨ r1 = true ∧ r2 = false ∨ r1 = true ∧ r2 = true ∧ r3 = true) ∧ (p1 = false ∨ p1 = true ∧ p2 = false ∨ p1 = true ∧ p2 = true ∧ p3 = true) := by
    cases r1 <;> cases r2 <;> cases r3 <;> cases p1 <;> cases p2 <;> cases p3 <;> simp at hf hp ⊢
  clear hf hp
  have E0 := hideT E0
  have E1 := hideT E1
  have E2 := hideT E2
  have E3 := hideT E3
  have E4 := hideT E4
  have E5 := hideT E5
  have E6 := hideT E6
  have E7 := hideT E7
  have E8 := hideT E8
  obtain ⟨e | ⟨e, e'⟩ | ⟨e, e', e''⟩, k | ⟨k, k'⟩ | ⟨k, k', k''⟩⟩ := e
  all_goals
    subst_vars
    go_enter Try.func3, Try.ntmps3
    go_wp2_with fail
    rw [HW.out]
    go_wp2_with (first | ((with_reducible refine (E0.out _).mono ?_); rintro e _ ⟨rfl, i, rfl⟩) | ((with_reducible refine (E1.out _).mono ?_); rintro e _ ⟨rfl, i, rfl⟩) | ((with_reducible refine (E2.out _).mono ?_); rintro e _ ⟨rfl, i, rfl⟩) | ((with_reducible refine (E3.out _).mono ?_); rintro e _ ⟨rfl, i, rfl⟩) | ((with_reducible refine (E4.out _).mono ?_); rintro e _ ⟨rfl, i, rfl⟩) | ((with_reducible refine (E5.out _).mono ?_); rintro e _ ⟨rfl, i, rfl⟩) | ((with_reducible refine (E6.out _).mono ?_); rintro e _ ⟨rfl, i, rfl⟩) | ((with_reducible refine (E7.out _).mono ?_); rintro e _ ⟨rfl, i, rfl⟩) | ((with_reducible refine (E8.out _).mono ?_); rintro e _ ⟨rfl, i, rfl⟩) | ((with_reducible refine (EW.out _).mono ?_); rintro e _ ⟨rfl, i, rfl⟩))
    go_ret
    exact ⟨rfl, BA.out.trans ((HF.out _).mono BA.out.size)⟩
end Go.Proofs.Yteacjhmbamcegab
