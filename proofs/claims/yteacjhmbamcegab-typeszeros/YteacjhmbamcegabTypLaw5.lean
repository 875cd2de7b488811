/-
  The law TypesZeros, over what is asked of types.
-/
import Derived.Test.YteacjhmbamcegabTypFam
set_option linter.unusedVariables false
set_option linter.unusedSimpArgs false
namespace Go.Proofs.Yteacjhmbamcegab
open Go.RowKit Typ

theorem has_zero (t : Int) : hasT t 0 0 = isT t := by
  cases h : isT t with
  | true => rcases isT_cases h with rfl | rfl | rfl | rfl | rfl | rfl | rfl <;> rfl
  | false =>
    obtain ⟨g1, g2, g3, g4, g5, g6, g7⟩ := isT_not h
    simp [hasT, g1, g2, g3, g4, g5, g6, g7]
theorem has_is {t lo hi : Int} (h : hasT t lo hi = true) : isT t = true := by
  cases k : isT t with
  | true => rfl
  | false =>
    obtain ⟨g1, g2, g3, g4, g5, g6, g7⟩ := isT_not k
    simp [hasT, g1, g2, g3, g4, g5, g6, g7] at h
theorem has_hi {t lo hi : Int} (h : hasT t lo hi = true) : t = 123 ∨ hi = 0 := by
  rcases isT_cases (has_is h) with rfl | rfl | rfl | rfl | rfl | rfl | rfl <;> simp [hasT] at h ⊢ <;> omega

set_option maxHeartbeats 16000000 in
theorem typesZeros_law (hF : TFuncOK) (hR : TIsRefOK) (hI : TIsOK) (hH : THasOK) (hZ : TZeroOK) (t lo hi : Int) (w : World) :
    Calls Try.prog 4 #[.int .u8 t, .int .u64 lo, .int .u64 hi] w fun e w' => e = .returned (.bool true) ∧ Below w.heap.size w w' := by
  obtain ⟨wa, hwa⟩ : ∃ wa, w.alloc (.cells #[.int .u8 t, .int .u64 lo, .int .u64 hi] 38) = wa := ⟨_, rfl⟩
  have BA : Hid (Below w.heap.size w wa) := hideT (by rw [← hwa]; exact (Below.refl _ _).alloc (Nat.le_refl _) _)
  have K1 : Hid (SBlk wa w.heap.size 38 #[.int .u8 t, .int .u64 lo, .int .u64 hi]) := hideT (by rw [← hwa]; exact sblk_new _ _ _)
  obtain ⟨I, F, _, hFF, hin⟩ := family wa
  obtain ⟨i0, hi0⟩ := hin wa (Below.refl _ _)
  have E0 := in_family hFF hin fun W _ => hI t W
  have E1 := in_family hFF hin fun W _ => hZ t W
  have E2 := in_family hFF hin fun W _ => hH t 0 0 W
  have E3 := in_family hFF hin fun W _ => hH t lo hi W
  have EW := hideT (in_family hFF hin fun W _ => works9_calls hF hR W)
  rw [has_zero] at E2
  unfold valV at E1 E2 E3
  have a0 : ∀ i, (F i).cell? ⟨w.heap.size, 0, none⟩ = some (.int .u8 t) := fun i => (K1.out.later (hFF i) K1.out.lt).cell rfl
  have a1 : ∀ i, (F i).cell? ⟨w.heap.size, 1, none⟩ = some (.int .u64 lo) := fun i => (K1.out.later (hFF i) K1.out.lt).cell rfl
  have a2 : ∀ i, (F i).cell? ⟨w.heap.size, 2, none⟩ = some (.int .u64 hi) := fun i => (K1.out.later (hFF i) K1.out.lt).cell rfl
  have HF := hideT hFF
  have HW := hideT (hwa.trans hi0)
  have hh := fun h => has_hi (t := t) (lo := lo) (hi := hi) h
  have hs := fun h => has_is (t := t) (lo := lo) (hi := hi) h
  clear hFF hin hwa hi0 hF hR hI hH hZ
  generalize hasT t lo hi = r at *
  cases h : isT t with
  | true =>
    rw [h] at E0 E2
    rcases isT_cases h with rfl | rfl | rfl | rfl | rfl | rfl | rfl
    all_goals
      have E0 := hideT E0
      have E1 := hideT E1
      have E2 := hideT E2
      have E3 := hideT E3
      clear h hs
      cases r with
      | true =>
        have c : hi = 0 ∨ (hi == 0) = false := by by_cases c : hi = 0 <;> simp [c]
        rcases c with rfl | c
        · clear hh
          go_enter Try.func4, Try.ntmps4
          go_wp2_with fail
          rw [HW.out]
          go_wp2_with (first | ((with_reducible refine (E0.out _).mono ?_); rintro e _ ⟨rfl, i, rfl⟩) | ((with_reducible refine (E1.out _).mono ?_); rintro e _ ⟨rfl, i, rfl⟩) | ((with_reducible refine (E2.out _).mono ?_); rintro e _ ⟨rfl, i, rfl⟩) | ((with_reducible refine (E3.out _).mono ?_); rintro e _ ⟨rfl, i, rfl⟩) | ((with_reducible refine (EW.out _).mono ?_); rintro e _ ⟨rfl, i, rfl⟩))
          go_ret
          exact ⟨rfl, BA.out.trans ((HF.out _).mono BA.out.size)⟩
        · first
          | (exact absurd (hh rfl) (by intro d; rcases d with d | d; exact absurd d (by decide); rw [d] at c; exact absurd c (by decide)))
          | skip
          all_goals
            clear hh
            go_enter Try.func4, Try.ntmps4
            go_wp2_with fail
            rw [HW.out]
            go_wp2_with (first | ((with_reducible refine (E0.out _).mono ?_); rintro e _ ⟨rfl, i, rfl⟩) | ((with_reducible refine (E1.out _).mono ?_); rintro e _ ⟨rfl, i, rfl⟩) | ((with_reducible refine (E2.out _).mono ?_); rintro e _ ⟨rfl, i, rfl⟩) | ((with_reducible refine (E3.out _).mono ?_); rintro e _ ⟨rfl, i, rfl⟩) | ((with_reducible refine (EW.out _).mono ?_); rintro e _ ⟨rfl, i, rfl⟩))
            go_ret
            exact ⟨rfl, BA.out.trans ((HF.out _).mono BA.out.size)⟩
      | false =>
        clear hh
        go_enter Try.func4, Try.ntmps4
        go_wp2_with fail
        rw [HW.out]
        go_wp2_with (first | ((with_reducible refine (E0.out _).mono ?_); rintro e _ ⟨rfl, i, rfl⟩) | ((with_reducible refine (E1.out _).mono ?_); rintro e _ ⟨rfl, i, rfl⟩) | ((with_reducible refine (E2.out _).mono ?_); rintro e _ ⟨rfl, i, rfl⟩) | ((with_reducible refine (E3.out _).mono ?_); rintro e _ ⟨rfl, i, rfl⟩) | ((with_reducible refine (EW.out _).mono ?_); rintro e _ ⟨rfl, i, rfl⟩))
        go_ret
        exact ⟨rfl, BA.out.trans ((HF.out _).mono BA.out.size)⟩
  | false =>
    obtain ⟨g1, g2, g3, g4, g5, g6, g7⟩ := isT_not h
    have e1 : (t == 127) = false := by simp [g1]
    have e2 : (t == 126) = false := by simp [g2]
    have e3 : (t == 125) = false := by simp [g3]
    have e4 : (t == 124) = false := by simp [g4]
    have e5 : (t == 123) = false := by simp [g5]
    have e6 : (t == 112) = false := by simp [g6]
    have e7 : (t == 111) = false := by simp [g7]
    cases r with
    | true => rw [hs rfl] at h; cases h
    | false =>
      rw [h] at E0 E2
      have E0 := hideT E0
      have E1 := hideT E1
      have E2 := hideT E2
      have E3 := hideT E3
      clear hh hs h g1 g2 g3 g4 g5 g6 g7
      go_enter Try.func4, Try.ntmps4
      go_wp2_with fail
      rw [HW.out]
      go_wp2_with (first | ((with_reducible refine (E0.out _).mono ?_); rintro e _ ⟨rfl, i, rfl⟩) | ((with_reducible refine (E1.out _).mono ?_); rintro e _ ⟨rfl, i, rfl⟩) | ((with_reducible refine (E2.out _).mono ?_); rintro e _ ⟨rfl, i, rfl⟩) | ((with_reducible refine (E3.out _).mono ?_); rintro e _ ⟨rfl, i, rfl⟩) | ((with_reducible refine (EW.out _).mono ?_); rintro e _ ⟨rfl, i, rfl⟩))
      go_ret
      exact ⟨rfl, BA.out.trans ((HF.out _).mono BA.out.size)⟩
end Go.Proofs.Yteacjhmbamcegab
