/-
  The law TypesLimits, over what is asked of types.
-/
import Derived.Test.YteacjhmbamcegaaTypFam
set_option linter.unusedVariables false
set_option linter.unusedSimpArgs false
namespace Go.Proofs.Yteacjhmbamcegaa
open Go.RowKit Typ

set_option maxRecDepth 100000 in
set_option maxHeartbeats 16000000 in
theorem typesLimits_law (hF : TFuncOK) (hR : TIsRefOK) (hM : TMayOK) (hMT : TMayTableOK) (hL : TFitOK) (hLT : TFitTableOK) (hS : TSameOK)
    (t n x t' n' x' : Int) (b b' : Bool) (bd : Int) (w0 : U32 n) (w1 : U32 x) (wb : 0 ≤ bd) (v1 v2 u1 u2 : Value) (l1 l2 m1 m2 : List Int) (w : World) (R1 : RowT w v1 l1) (R2 : RowT w v2 l2) (G1 : RowT w u1 m1) (G2 : RowT w u2 m2) :
    Calls Try.prog 4 #[tabV t n x b, tabV t' n' x' b', .int .u64 bd, funcV v1 v2, funcV u1 u2] w fun e w' => e = .returned (.bool true) ∧ Below w.heap.size w w' := by
  obtain ⟨wa, hwa⟩ : ∃ wa, (((w.alloc (.cells #[.int .u8 t, .int .u32 n, .int .u32 x, .bool b] 35)).alloc (.cells #[.int .u8 t', .int .u32 n', .int .u32 x', .bool b'] 35)).alloc (.cells #[v1, v2] 38)).alloc (.cells #[u1, u2] 38) = wa := ⟨_, rfl⟩
  have BA : Hid (Below w.heap.size w wa) := hideT (by rw [← hwa]; exact ((((Below.refl _ _).alloc (Nat.le_refl _) _).alloc (by simp) _).alloc (by simp; omega) _).alloc (by simp; omega) _)
  have K1 : Hid (SBlk wa w.heap.size 35 #[.int .u8 t, .int .u32 n, .int .u32 x, .bool b]) := hideT (by rw [← hwa]; exact (((sblk_new _ _ _).past _).past _).past _)
  have K2 : Hid (SBlk wa (w.heap.size + 1) 35 #[.int .u8 t', .int .u32 n', .int .u32 x', .bool b']) := hideT (by
    rw [← hwa]
    have := ((sblk_new (w.alloc (.cells #[.int .u8 t, .int .u32 n, .int .u32 x, .bool b] 35)) 35 #[.int .u8 t', .int .u32 n', .int .u32 x', .bool b']).past (.cells #[v1, v2] 38)).past (.cells #[u1, u2] 38)
    simpa using this)
  have K3 : Hid (SBlk wa (w.heap.size + 1 + 1) 38 #[v1, v2]) := hideT (by
    rw [← hwa]
    have := (sblk_new ((w.alloc (.cells #[.int .u8 t, .int .u32 n, .int .u32 x, .bool b] 35)).alloc (.cells #[.int .u8 t', .int .u32 n', .int .u32 x', .bool b'] 35)) 38 #[v1, v2]).past (.cells #[u1, u2] 38)
    simpa using this)
  have K4 : Hid (SBlk wa (w.heap.size + 1 + 1 + 1) 38 #[u1, u2]) := hideT (by
    rw [← hwa]
    have := sblk_new (((w.alloc (.cells #[.int .u8 t, .int .u32 n, .int .u32 x, .bool b] 35)).alloc (.cells #[.int .u8 t', .int .u32 n', .int .u32 x', .bool b'] 35)).alloc (.cells #[v1, v2] 38)) 38 #[u1, u2]
    simpa using this)
  have HW := hideT hwa
  obtain ⟨I, F, _, hFF, hin⟩ := family wa
  have lat : ∀ {v : Value} {l : List Int}, RowT w v l → ∀ W, Below wa.heap.size wa W → RowT W v l := fun h W hW => h.later (BA.out.trans (hW.mono BA.out.size))
  have E0 := in_family hFF hin fun W _ => hM n x b bd W w0 w1 wb
  have E1 := in_family hFF hin fun W _ => rMay_calls n x b bd w0.1 w0.2 w1.1 w1.2 W
  have E2 := in_family hFF hin fun W _ => hMT t n x b W w0 w1
  have E3 := in_family hFF hin fun W _ => rMayTable_calls t n x b w0.1 w0.2 w1.1 w1.2 W
  have E4 := in_family hFF hin fun W _ => hL n x n' x' b b' W
  have E5 := in_family hFF hin fun W _ => rFit_calls n x n' x' b b' W
  have E6 := in_family hFF hin fun W _ => hLT t n x t' n' x' b b' W
  have E7 := in_family hFF hin fun W _ => rFitTable_calls t n x t' n' x' b b' W
  have E8 := in_family hFF hin fun W hW => hS v1 v2 u1 u2 l1 l2 m1 m2 W (lat R1 W hW) (lat R2 W hW) (lat G1 W hW) (lat G2 W hW)
  have E9 := in_family hFF hin fun W hW => f0Func_calls v1 v2 u1 u2 l1 l2 m1 m2 W (lat R1 W hW) (lat R2 W hW) (lat G1 W hW) (lat G2 W hW)
  have EW := hideT (in_family hFF hin fun W _ => works9_calls hF hR W)
  unfold tabV at E2 E3 E6 E7 ⊢
  unfold limV at E0 E1 E4 E5
  unfold funcV at E8 E9 ⊢
  have E0 := hideT E0
  have E1 := hideT E1
  have E2 := hideT E2
  have E3 := hideT E3
  have E4 := hideT E4
  have E5 := hideT E5
  have E6 := hideT E6
  have E7 := hideT E7
  have E8 := hideT E8
  have E9 := hideT E9
  have a0 : ∀ i, (F i).cell? ⟨w.heap.size, 0, none⟩ = some (.int .u8 t) := fun i => (K1.out.later (hFF i) K1.out.lt).cell rfl
  have a1 : ∀ i, (F i).cell? ⟨w.heap.size, 1, none⟩ = some (.int .u32 n) := fun i => (K1.out.later (hFF i) K1.out.lt).cell rfl
  have a2 : ∀ i, (F i).cell? ⟨w.heap.size, 2, none⟩ = some (.int .u32 x) := fun i => (K1.out.later (hFF i) K1.out.lt).cell rfl
  have a3 : ∀ i, (F i).cell? ⟨w.heap.size, 3, none⟩ = some (.bool b) := fun i => (K1.out.later (hFF i) K1.out.lt).cell rfl
  have b0 : ∀ i, (F i).cell? ⟨w.heap.size + 1, 0, none⟩ = some (.int .u8 t') := fun i => (K2.out.later (hFF i) K2.out.lt).cell rfl
  have b1 : ∀ i, (F i).cell? ⟨w.heap.size + 1, 1, none⟩ = some (.int .u32 n') := fun i => (K2.out.later (hFF i) K2.out.lt).cell rfl
  have b2 : ∀ i, (F i).cell? ⟨w.heap.size + 1, 2, none⟩ = some (.int .u32 x') := fun i => (K2.out.later (hFF i) K2.out.lt).cell rfl
  have b3 : ∀ i, (F i).cell? ⟨w.heap.size + 1, 3, none⟩ = some (.bool b') := fun i => (K2.out.later (hFF i) K2.out.lt).cell rfl
  have c0 : ∀ i, (F i).cell? ⟨w.heap.size + 1 + 1, 0, none⟩ = some v1 := fun i => (K3.out.later (hFF i) K3.out.lt).cell rfl
  have c1 : ∀ i, (F i).cell? ⟨w.heap.size + 1 + 1, 1, none⟩ = some v2 := fun i => (K3.out.later (hFF i) K3.out.lt).cell rfl
  have d0 : ∀ i, (F i).cell? ⟨w.heap.size + 1 + 1 + 1, 0, none⟩ = some u1 := fun i => (K4.out.later (hFF i) K4.out.lt).cell rfl
  have d1 : ∀ i, (F i).cell? ⟨w.heap.size + 1 + 1 + 1, 1, none⟩ = some u2 := fun i => (K4.out.later (hFF i) K4.out.lt).cell rfl
  have HF := hideT hFF
  have IN := hideT hin
  obtain ⟨q1, z1, rfl, _⟩ := R1
  obtain ⟨q2, z2, rfl, _⟩ := R2
  obtain ⟨q3, z3, rfl, _⟩ := G1
  obtain ⟨q4, z4, rfl, _⟩ := G2
  clear hFF hin hwa hF hR hM hMT hL hLT hS lat w0 w1 wb
  generalize mayL n x b bd = r1 at *
  generalize (isR t && mayL n x b 4294967295) = r2 at *
  generalize (t == t' && fitL n x b n' x' b') = r3 at *
  generalize fitL n x b n' x' b' = r4 at *
  generalize (l1 == m1 && l2 == m2) = r5 at *
  generalize l1.length = y1 at *
  generalize l2.length = y2 at *
  generalize m1.length = y3 at *
  generalize m2.length = y4 at *
  go_enter Try.func4, Try.ntmps4
  go_wp2_with fail
  refine wp_region_class F (by kernel_rfl) (by kernel_rfl) ?_ ?_
  · refine IN.out _ ?_
    rw [HW.out]; exact (Below.refl _ _).drew
  repeat (refine wpQuiet_step (fun K hK => ?_); go_simp; first | (refine hK _ ?_; clear hK K) | (apply Exists.intro; refine ⟨fun _ => ?_, hK _ ?_⟩; (first | exact E0.out _ | exact E1.out _ | exact E2.out _ | exact E3.out _ | exact E4.out _ | exact E5.out _ | exact E6.out _ | exact E7.out _ | exact E8.out _ | exact E9.out _ | exact EW.out _); clear hK K))
  refine wpQuiet_nil ?_
  rintro _ ⟨i, rfl⟩
  go_wp2_with fail
  go_ret
  exact ⟨rfl, BA.out.trans ((HF.out i).mono BA.out.size)⟩
end Go.Proofs.Yteacjhmbamcegaa
