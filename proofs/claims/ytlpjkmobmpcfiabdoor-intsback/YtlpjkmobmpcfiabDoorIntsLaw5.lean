/-
  IntsBack.
-/
import Derived.Test.YtlpjkmobmpcfiabDoorIntsLaw2
set_option linter.unusedVariables false
set_option linter.unusedSimpArgs false
namespace Go.Proofs.YtlpjkmobmpcfiabDoor
open Go.RowKit Ints

theorem ext_from {W0 : World} (hT : Tabs W0) {f t : Nat} (hf : IsW f) (ht : IsW t) (a : Int) (ha : Of f a) (c : f ≤ t) (s : Bool) (v : Int) (hv : extV f t s a = v) (W : World) (hB : Below W0.heap.size W0 W) :
    Calls Tryd.prog 13 #[.int .i64 (f : Int), .int .i64 (t : Int), .bool s, .int .u64 a] W fun r W' => r = .returned (.tuple #[.int .u64 v, .int .i64 0]) ∧ Below W0.heap.size W0 W' := by
  subst hv
  have h : Calls Tryd.prog 13 #[.int .i64 (f : Int), .int .i64 (t : Int), .bool s, .int .u64 a] W fun r W' => r = .returned (pairV (extV f t s a, 0)) ∧ Below W.heap.size W W' := by
    cases s
    · exact ext_false hf ht a ha c W (hT.later hB)
    · exact ext_true hf ht a ha c W (hT.later hB)
  exact h.mono fun e W' ⟨he, hk⟩ => ⟨he, below_from hB hk⟩

theorem nar_from {W0 : World} (hT : Tabs W0) {f t : Nat} (hf : IsW f) (ht : IsW t) (a : Int) (ha : Of f a) (c : t < f) (s : Bool) (v : Int) (hv : narV f t s a = v) (W : World) (hB : Below W0.heap.size W0 W) :
    Calls Tryd.prog 14 #[.int .i64 (f : Int), .int .i64 (t : Int), .bool s, .int .u64 a] W fun r W' => r = .returned (.tuple #[.int .u64 v, .int .i64 0]) ∧ Below W0.heap.size W0 W' := by
  subst hv
  have h : Calls Tryd.prog 14 #[.int .i64 (f : Int), .int .i64 (t : Int), .bool s, .int .u64 a] W fun r W' => r = .returned (pairV (narV f t s a, 0)) ∧ Below W.heap.size W W' := by
    cases s
    · exact nar_false hf ht a ha c W (hT.later hB)
    · exact nar_true hf ht a ha c W (hT.later hB)
  exact h.mono fun e W' ⟨he, hk⟩ => ⟨he, below_from hB hk⟩

theorem back_8 (s : Bool) (a : Int) (ha : Of 8 a) : Of 16 (extV 8 16 s a) ∧ extV 16 32 s (extV 8 16 s a) = extV 8 32 s a ∧ narV 16 8 s (extV 8 16 s a) = a := by
  obtain ⟨h0, h1⟩ := ha
  unfold Of
  cases s
  · simp only [extV, narV, wo, cutI, lo, hi, mo, Bool.false_eq_true, ↓reduceIte, Nat.reduceSub, Int.reducePow] at h1 ⊢
    refine ⟨⟨by omega, by omega⟩, trivial, ?_⟩
    rw [if_pos (by omega)]
    omega
  · simp only [extV, narV, wo, cutI, lo, hi, mo, Bool.false_eq_true, ↓reduceIte, Nat.reduceSub, Int.reducePow] at h1 ⊢
    by_cases c : a < 128
    · simp only [c, ↓reduceIte]
      refine ⟨⟨by omega, by omega⟩, ?_, ?_⟩
      · rw [if_pos (by omega)]; omega
      · rw [if_pos (by omega)]; omega
    · simp only [c, ↓reduceIte]
      refine ⟨⟨by omega, by omega⟩, ?_, ?_⟩
      · rw [if_neg (by omega)]; omega
      · rw [if_neg (by omega)]; omega

theorem back_16 (s : Bool) (a : Int) (ha : Of 16 a) : Of 32 (extV 16 32 s a) ∧ extV 32 64 s (extV 16 32 s a) = extV 16 64 s a ∧ narV 32 16 s (extV 16 32 s a) = a := by
  obtain ⟨h0, h1⟩ := ha
  unfold Of
  cases s
  · simp only [extV, narV, wo, cutI, lo, hi, mo, Bool.false_eq_true, ↓reduceIte, Nat.reduceSub, Int.reducePow] at h1 ⊢
    refine ⟨⟨by omega, by omega⟩, trivial, ?_⟩
    rw [if_pos (by omega)]
    omega
  · simp only [extV, narV, wo, cutI, lo, hi, mo, Bool.false_eq_true, ↓reduceIte, Nat.reduceSub, Int.reducePow] at h1 ⊢
    by_cases c : a < 32768
    · simp only [c, ↓reduceIte]
      refine ⟨⟨by omega, by omega⟩, ?_, ?_⟩
      · rw [if_pos (by omega)]; omega
      · rw [if_pos (by omega)]; omega
    · simp only [c, ↓reduceIte]
      refine ⟨⟨by omega, by omega⟩, ?_, ?_⟩
      · rw [if_neg (by omega)]; omega
      · rw [if_neg (by omega)]; omega

theorem isW8 : IsW 8 := by simp [IsW]
theorem isW16 : IsW 16 := by simp [IsW]
theorem isW32 : IsW 32 := by simp [IsW]
theorem isW64 : IsW 64 := by simp [IsW]

set_option maxRecDepth 100000 in
set_option maxHeartbeats 4000000 in
theorem IntsBack_calls (n : Int) (s : Bool) (a : Int) (h0 : 0 ≤ n) (ha : (Lit.int .u64 a).wf = true) (W : World) (hT : Tabs W) :
    Calls Tryd.prog 6 #[.int .u8 n, .bool s, .int .u64 a] W fun e W' => e = .returned (.bool true) ∧ Below W.heap.size W W' := by
  have E : n.tmod 2 = n % 2 := Int.tmod_eq_emod_of_nonneg h0
  rcases (show n % 2 = 0 ∨ n % 2 = 1 by omega) with h | h
  · rw [h] at E
    have O := lof_calls isW8 a (wf64_lo ha) (wf64_hi ha)
    have oa := cut_of 8 a
    generalize cutI 8 a = A at *
    obtain ⟨ox, hy, hb⟩ := back_8 s A oa
    have C1 := ext_from hT isW8 isW16 A oa (by decide) s _ rfl
    have C2 := ext_from hT isW16 isW32 _ ox (by decide) s _ hy
    have C3 := ext_from hT isW8 isW32 A oa (by decide) s _ rfl
    have C4 := nar_from hT isW16 isW8 _ ox (by decide) s _ hb
    simp only [show ((8 : Nat) : Int) = 8 from rfl, show ((16 : Nat) : Int) = 16 from rfl, show ((32 : Nat) : Int) = 32 from rfl, show ((64 : Nat) : Int) = 64 from rfl] at O C1 C2 C3 C4
    clear hy hb ox oa ha h0 h
    generalize extV 8 16 s A = x at *
    generalize extV 8 32 s A = y at *
    have O := hide O
    have C1 := hide C1
    have C2 := hide C2
    have C3 := hide C3
    have C4 := hide C4
    have K := hide (works_calls hT)
    have HB := hide (Below.refl W.heap.size W)
    clear hT
    go_enter Tryd.func6, Tryd.ntmps6
    go_wp2_with (first | (with_reducible refine (O.out _).mono ?_; rintro e w1 ⟨rfl, rfl⟩) | (with_reducible refine (C1.out _ HB.out).mono ?_; rintro e w1 ⟨rfl, hb⟩; have HB := hide hb; clear hb) | (with_reducible refine (C2.out _ HB.out).mono ?_; rintro e w1 ⟨rfl, hb⟩; have HB := hide hb; clear hb) | (with_reducible refine (C3.out _ HB.out).mono ?_; rintro e w1 ⟨rfl, hb⟩; have HB := hide hb; clear hb) | (with_reducible refine (C4.out _ HB.out).mono ?_; rintro e w1 ⟨rfl, hb⟩; have HB := hide hb; clear hb) | (with_reducible refine (K.out _ HB.out).mono ?_; rintro e w1 ⟨rfl, hb⟩; have HB := hide hb; clear hb))
    go_ret
    exact ⟨rfl, HB.out⟩
  · rw [h] at E
    have O := lof_calls isW16 a (wf64_lo ha) (wf64_hi ha)
    have oa := cut_of 16 a
    generalize cutI 16 a = A at *
    obtain ⟨ox, hy, hb⟩ := back_16 s A oa
    have C1 := ext_from hT isW16 isW32 A oa (by decide) s _ rfl
    have C2 := ext_from hT isW32 isW64 _ ox (by decide) s _ hy
    have C3 := ext_from hT isW16 isW64 A oa (by decide) s _ rfl
    have C4 := nar_from hT isW32 isW16 _ ox (by decide) s _ hb
    simp only [show ((8 : Nat) : Int) = 8 from rfl, show ((16 : Nat) : Int) = 16 from rfl, show ((32 : Nat) : Int) = 32 from rfl, show ((64 : Nat) : Int) = 64 from rfl] at O C1 C2 C3 C4
    clear hy hb ox oa ha h0 h
    generalize extV 16 32 s A = x at *
    generalize extV 16 64 s A = y at *
    have O := hide O
    have C1 := hide C1
    have C2 := hide C2
    have C3 := hide C3
    have C4 := hide C4
    have K := hide (works_calls hT)
    have HB := hide (Below.refl W.heap.size W)
    clear hT
    go_enter Tryd.func6, Tryd.ntmps6
    go_wp2_with (first | (with_reducible refine (O.out _).mono ?_; rintro e w1 ⟨rfl, rfl⟩) | (with_reducible refine (C1.out _ HB.out).mono ?_; rintro e w1 ⟨rfl, hb⟩; have HB := hide hb; clear hb) | (with_reducible refine (C2.out _ HB.out).mono ?_; rintro e w1 ⟨rfl, hb⟩; have HB := hide hb; clear hb) | (with_reducible refine (C3.out _ HB.out).mono ?_; rintro e w1 ⟨rfl, hb⟩; have HB := hide hb; clear hb) | (with_reducible refine (C4.out _ HB.out).mono ?_; rintro e w1 ⟨rfl, hb⟩; have HB := hide hb; clear hb) | (with_reducible refine (K.out _ HB.out).mono ?_; rintro e w1 ⟨rfl, hb⟩; have HB := hide hb; clear hb))
    go_ret
    exact ⟨rfl, HB.out⟩
end Go.Proofs.YtlpjkmobmpcfiabDoor
