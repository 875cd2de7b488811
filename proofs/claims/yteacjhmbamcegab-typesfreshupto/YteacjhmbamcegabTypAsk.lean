/-
  What is asked of types; works.
-/
import Derived.Test.YteacjhmbamcegabTypSame
import Derived.Test.YteacjhmbamcegabTypTab
import Derived.Test.YteacjhmbamcegabTypHas
set_option linter.unusedVariables false
set_option linter.unusedSimpArgs false
namespace Go.Proofs.Yteacjhmbamcegab
open Go.RowKit Typ

def TFuncOK : Prop := ∀ (a : Option Addr) (len cap : Nat) (l : List Int) (p : Int) (w : World), Row w a len cap l → Calls Try.prog 14 #[.slice a len cap, .int .i64 p] w fun e w' => FuncPost (funcAt l p) w e w'
def TValOK : Prop := ∀ (a : Option Addr) (len cap : Nat) (l : List Int) (p : Int) (w : World), Row w a len cap l → Calls Try.prog 30 #[.slice a len cap, .int .i64 p] w fun e w' => e = .returned (triV (valAt l p)) ∧ Below w.heap.size w w'
def TIsOK : Prop := ∀ (t : Int) (w : World), Calls Try.prog 10 #[.int .u8 t] w fun e w' => e = .returned (.bool (isT t)) ∧ Below w.heap.size w w'
def TIsRefOK : Prop := ∀ (t : Int) (w : World), Calls Try.prog 23 #[.int .u8 t] w fun e w' => e = .returned (.bool (isR t)) ∧ Below w.heap.size w w'
def THasOK : Prop := ∀ (t lo hi : Int) (w : World), Calls Try.prog 11 #[valV t lo hi] w fun e w' => e = .returned (.bool (hasT t lo hi)) ∧ Below w.heap.size w w'
def TZeroOK : Prop := ∀ (t : Int) (w : World), Calls Try.prog 12 #[.int .u8 t] w fun e w' => e = .returned (valV t 0 0) ∧ Below w.heap.size w w'
def U32 (n : Int) : Prop := 0 ≤ n ∧ n ≤ 4294967295
def TFitOK : Prop := ∀ (n x n' x' : Int) (b b' : Bool) (w : World), Calls Try.prog 6 #[limV n x b, limV n' x' b'] w fun e w' => e = .returned (.bool (fitL n x b n' x' b')) ∧ Below w.heap.size w w'
def TFitTableOK : Prop := ∀ (t n x t' n' x' : Int) (b b' : Bool) (w : World), Calls Try.prog 7 #[tabV t n x b, tabV t' n' x' b'] w fun e w' => e = .returned (.bool (t == t' && fitL n x b n' x' b')) ∧ Below w.heap.size w w'
def TSameOK : Prop := ∀ (v1 v2 u1 u2 : Value) (l1 l2 m1 m2 : List Int) (w : World), RowT w v1 l1 → RowT w v2 l2 → RowT w u1 m1 → RowT w u2 m2 →
  Calls Try.prog 8 #[funcV v1 v2, funcV u1 u2] w fun e w' => e = .returned (.bool (l1 == m1 && l2 == m2)) ∧ Below w.heap.size w w'

theorem row_six (w : World) (x0 x1 x2 x3 x4 x5 : Int) (h : ∀ x ∈ [x0, x1, x2, x3, x4, x5], 0 ≤ x ∧ x ≤ 255) :
    Row (w.alloc (.cells #[.int .u8 x0, .int .u8 x1, .int .u8 x2, .int .u8 x3, .int .u8 x4, .int .u8 x5] 5)) (some ⟨w.heap.size, 0, none⟩) 6 6 [x0, x1, x2, x3, x4, x5] := by
  refine ⟨rfl, Nat.le_refl _, (by decide), ?_, (fun h => by cases h), fun _ => ⟨w.heap.size, 0, rfl, ?_⟩⟩
  · intro i
    match i with
    | 0 => exact h _ (by simp)
    | 1 => exact h _ (by simp)
    | 2 => exact h _ (by simp)
    | 3 => exact h _ (by simp)
    | 4 => exact h _ (by simp)
    | 5 => exact h _ (by simp)
    | i + 6 => simp
  · intro i hi
    match i, hi with
    | 0, _ => simp [go_sem]
    | 1, _ => simp [go_sem]
    | 2, _ => simp [go_sem]
    | 3, _ => simp [go_sem]
    | 4, _ => simp [go_sem]
    | 5, _ => simp [go_sem]
theorem func_doc : funcAt [96, 1, 127, 2, 126, 123] 0 = (([127], [126, 123]), 6, 0) := by decide
theorem rowT_one (w : World) (x : Int) : RowT (w.alloc (.cells #[.int .u8 x] 22)) (.slice (some ⟨w.heap.size, 0, none⟩) 1 1) [x] := by
  refine ⟨_, 1, rfl, Nat.le_refl _, by decide, fun _ => ⟨w.heap.size, 0, rfl, fun i hi => ?_⟩⟩
  match i, hi with
  | 0, _ => simp [go_sem]
theorem rowT_two (w : World) (x y : Int) : RowT (w.alloc (.cells #[.int .u8 x, .int .u8 y] 22)) (.slice (some ⟨w.heap.size, 0, none⟩) 2 2) [x, y] := by
  refine ⟨_, 2, rfl, Nat.le_refl _, by decide, fun _ => ⟨w.heap.size, 0, rfl, fun i hi => ?_⟩⟩
  match i, hi with
  | 0, _ => simp [go_sem]
  | 1, _ => simp [go_sem]

set_option maxHeartbeats 2000000 in
theorem works9_calls (hF : TFuncOK) (hR : TIsRefOK) (w : World) : Calls Try.prog 9 #[] w fun e w' => e = .returned (.bool true) ∧ Below w.heap.size w w' := by
  obtain ⟨wa, hwa⟩ : ∃ wa, w.alloc (.cells #[.int .u8 96, .int .u8 1, .int .u8 127, .int .u8 2, .int .u8 126, .int .u8 123] 5) = wa := ⟨_, rfl⟩
  have BA : Hid (Below w.heap.size w wa) := hideT (by rw [← hwa]; exact (Below.refl _ _).alloc (Nat.le_refl _) _)
  have C1 := hF (some ⟨w.heap.size, 0, none⟩) 6 6 [96, 1, 127, 2, 126, 123] 0 wa (by rw [← hwa]; exact row_six w 96 1 127 2 126 123 (by decide))
  rw [func_doc] at C1
  have C1 := hideT C1
  have D1 := hideT (hR 112)
  have D2 := hideT (hR 127)
  rw [show isR 112 = true from rfl] at D1
  rw [show isR 127 = false from rfl] at D2
  have HWA := hideT hwa
  clear hwa hF hR
  go_enter Try.func9, Try.ntmps9
  go_wp2_with fail
  rw [HWA.out]
  refine C1.out.mono ?_
  rintro e w1 ⟨v1, v2, rfl, ho1, ho2, hb1⟩
  obtain ⟨a1, c1, hv1⟩ := ho1.shape
  obtain ⟨a2, c2, hv2⟩ := ho2.shape
  subst hv1
  subst hv2
  have B1 : Hid (Below w.heap.size w w1) := hideT (BA.out.trans (hb1.mono BA.out.size))
  obtain ⟨w2, h2⟩ : ∃ w2, ((w1.alloc (.cells #[.slice a1 1 c1, .slice a2 2 c2] 33)).alloc (.cells #[.int .u8 127] 22)).alloc (.cells #[.int .u8 126, .int .u8 123] 22) = w2 := ⟨_, rfl⟩
  have BX : Below w1.heap.size w1 w2 := by rw [← h2]; exact (((Below.refl _ _).alloc (Nat.le_refl _) _).alloc (by simp) _).alloc (by simp; omega) _
  have B2 : Hid (Below w.heap.size w w2) := hideT (B1.out.trans (BX.mono B1.out.size))
  have R3 : RowT w2 (.slice (some ⟨w1.heap.size + 1, 0, none⟩) 1 1) [127] := by
    rw [← h2]
    have := (rowT_one (w1.alloc (.cells #[.slice a1 1 c1, .slice a2 2 c2] 33)) 127).later ((Below.refl _ _).alloc (Nat.le_refl _) (.cells #[.int .u8 126, .int .u8 123] 22))
    simpa using this
  have R4 : RowT w2 (.slice (some ⟨w1.heap.size + 1 + 1, 0, none⟩) 2 2) [126, 123] := by
    rw [← h2]
    have := rowT_two ((w1.alloc (.cells #[.slice a1 1 c1, .slice a2 2 c2] 33)).alloc (.cells #[.int .u8 127] 22)) 126 123
    simpa using this
  have C2 := f0Func_calls (.slice a1 1 c1) (.slice a2 2 c2) _ _ [127] [126, 123] [127] [126, 123] w2 (ho1.row.later BX) (ho2.row.later BX) R3 R4
  rw [show ((([127] : List Int) == [127]) && (([126, 123] : List Int) == [126, 123])) = true from rfl] at C2
  unfold funcV at C2
  have C2 := hideT C2
  have H2 := hideT h2
  clear h2 hb1 ho1 ho2 BX R3 R4 C1
  go_wp2_with fail
  rw [H2.out]
  refine C2.out.mono ?_
  rintro e w3 ⟨rfl, hb3⟩
  have B3 := hideT (B2.out.trans (hb3.mono B2.out.size))
  clear hb3
  go_wp2_with fail
  refine (D1.out _).mono ?_
  rintro e w4 ⟨rfl, hb4⟩
  have B4 := hideT (B3.out.trans (hb4.mono B3.out.size))
  clear hb4
  go_wp2_with fail
  refine (D2.out _).mono ?_
  rintro e w5 ⟨rfl, hb5⟩
  have B5 := hideT (B4.out.trans (hb5.mono B4.out.size))
  clear hb5
  go_wp2
  go_ret
  exact ⟨rfl, B5.out⟩
end Go.Proofs.Yteacjhmbamcegab
