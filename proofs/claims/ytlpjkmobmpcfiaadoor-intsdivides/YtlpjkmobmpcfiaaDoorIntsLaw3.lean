/-
  IntsRing and IntsDivides (genlaws.py wrote it).
-/
import Derived.Test.YtlpjkmobmpcfiaaDoorIntsLaw2
set_option linter.unusedVariables false
set_option linter.unusedSimpArgs false
namespace Go.Proofs.YtlpjkmobmpcfiaaDoor
open Go.RowKit Ints

set_option maxRecDepth 100000 in
set_option maxHeartbeats 4000000 in
theorem IntsRing_calls (n a b c : Int) (h0 : 0 ≤ n) (ha : (Lit.int .u64 a).wf = true) (hb : (Lit.int .u64 b).wf = true) (hc : (Lit.int .u64 c).wf = true) (W : World) (hT : Tabs W) :
    Calls Tryd.prog 7 #[.int .u8 n, .int .u64 a, .int .u64 b, .int .u64 c] W fun e W' => e = .returned (.bool true) ∧ Below W.heap.size W W' := by
  have hw := wd_isW n
  have CW := hide (lwidth_calls n h0)
  generalize wd n = w at *
  have Oa := hide (lof_calls hw a (wf64_lo ha) (wf64_hi ha))
  have oa := cut_of w a
  generalize cutI w a = A at *
  have Ob := hide (lof_calls hw b (wf64_lo hb) (wf64_hi hb))
  have ob := cut_of w b
  generalize cutI w b = B at *
  have Oc := hide (lof_calls hw c (wf64_lo hc) (wf64_hi hc))
  have oc := cut_of w c
  generalize cutI w c = C at *
  have os := cut_of w (A + B)
  have op := cut_of w (A * B)
  have ou := cut_of w (B + C)
  have ov := cut_of w (B * C)
  have ox := cut_of w (C * A)
  have oy := cut_of w (C * B)
  have C1 := hide (ltwo_calls hT hw 1 A B (by decide) oa ob (cutI w (A + B)) 0 (rfl))
  have C2 := hide (ltwo_calls hT hw 3 A B (by decide) oa ob (cutI w (A * B)) 0 (rfl))
  have C3 := hide (ltwo_calls hT hw 1 B A (by decide) ob oa (cutI w (A + B)) 0 (by rw [Int.add_comm A B]; rfl))
  have C4 := hide (ltwo_calls hT hw 3 B A (by decide) ob oa (cutI w (A * B)) 0 (by rw [Int.mul_comm A B]; rfl))
  have C5 := hide (ltwo_calls hT hw 2 (cutI w (A + B)) B (by decide) os ob A 0 (congrArg (·, (0 : Int)) (show cutI w (cutI w (A + B) - B) = A by rw [cut_sub_l, show A + B - B = A by omega, cut_self oa])))
  have C6 := hide (ltwo_calls hT hw 1 (cutI w (A + B)) C (by decide) os oc (cutI w (A + B + C)) 0 (congrArg (·, (0 : Int)) (cut_add_l ..)))
  have C7 := hide (ltwo_calls hT hw 1 B C (by decide) ob oc (cutI w (B + C)) 0 (rfl))
  have C8 := hide (ltwo_calls hT hw 1 A (cutI w (B + C)) (by decide) oa ou (cutI w (A + B + C)) 0 (congrArg (·, (0 : Int)) (show cutI w (A + cutI w (B + C)) = cutI w (A + B + C) by rw [cut_add_r, Int.add_assoc])))
  have C9 := hide (ltwo_calls hT hw 3 (cutI w (A * B)) C (by decide) op oc (cutI w (A * B * C)) 0 (congrArg (·, (0 : Int)) (cut_mul_l ..)))
  have C10 := hide (ltwo_calls hT hw 3 B C (by decide) ob oc (cutI w (B * C)) 0 (rfl))
  have C11 := hide (ltwo_calls hT hw 3 A (cutI w (B * C)) (by decide) oa ov (cutI w (A * B * C)) 0 (congrArg (·, (0 : Int)) (show cutI w (A * cutI w (B * C)) = cutI w (A * B * C) by rw [cut_mul_r, Int.mul_assoc])))
  have C12 := hide (ltwo_calls hT hw 3 C (cutI w (A + B)) (by decide) oc os (cutI w (C * A + C * B)) 0 (congrArg (·, (0 : Int)) (show cutI w (C * cutI w (A + B)) = cutI w (C * A + C * B) by rw [cut_mul_r, Int.mul_add])))
  have C13 := hide (ltwo_calls hT hw 3 C A (by decide) oc oa (cutI w (C * A)) 0 (rfl))
  have C14 := hide (ltwo_calls hT hw 3 C B (by decide) oc ob (cutI w (C * B)) 0 (rfl))
  have C15 := hide (ltwo_calls hT hw 1 (cutI w (C * A)) (cutI w (C * B)) (by decide) ox oy (cutI w (C * A + C * B)) 0 (congrArg (·, (0 : Int)) (show cutI w (cutI w (C * A) + cutI w (C * B)) = cutI w (C * A + C * B) by rw [cut_add_l, cut_add_r])))
  clear os op ou ov ox oy oa ob oc ha hb hc h0
  generalize cutI w (A + B + C) = t at *
  generalize cutI w (A * B * C) = q at *
  generalize cutI w (C * A + C * B) = r at *
  generalize cutI w (A + B) = s at *
  generalize cutI w (A * B) = p at *
  generalize cutI w (B + C) = u at *
  generalize cutI w (B * C) = v at *
  generalize cutI w (C * A) = x at *
  generalize cutI w (C * B) = y at *
  have K := hide (works_calls hT)
  have HB := hide (Below.refl W.heap.size W)
  clear hT
  go_enter Tryd.func7, Tryd.ntmps7
  go_wp2_with (first | (with_reducible refine (CW.out _).mono ?_; rintro e w1 ⟨rfl, rfl⟩) | (with_reducible refine (Oa.out _).mono ?_; rintro e w1 ⟨rfl, rfl⟩) | (with_reducible refine (Ob.out _).mono ?_; rintro e w1 ⟨rfl, rfl⟩) | (with_reducible refine (Oc.out _).mono ?_; rintro e w1 ⟨rfl, rfl⟩) | (with_reducible refine (C1.out _ HB.out).mono ?_; rintro e w1 ⟨rfl, hb⟩; have HB := hide hb; clear hb) | (with_reducible refine (C2.out _ HB.out).mono ?_; rintro e w1 ⟨rfl, hb⟩; have HB := hide hb; clear hb) | (with_reducible refine (C3.out _ HB.out).mono ?_; rintro e w1 ⟨rfl, hb⟩; have HB := hide hb; clear hb) | (with_reducible refine (C4.out _ HB.out).mono ?_; rintro e w1 ⟨rfl, hb⟩; have HB := hide hb; clear hb) | (with_reducible refine (C5.out _ HB.out).mono ?_; rintro e w1 ⟨rfl, hb⟩; have HB := hide hb; clear hb) | (with_reducible refine (C6.out _ HB.out).mono ?_; rintro e w1 ⟨rfl, hb⟩; have HB := hide hb; clear hb) | (with_reducible refine (C7.out _ HB.out).mono ?_; rintro e w1 ⟨rfl, hb⟩; have HB := hide hb; clear hb) | (with_reducible refine (C8.out _ HB.out).mono ?_; rintro e w1 ⟨rfl, hb⟩; have HB := hide hb; clear hb) | (with_reducible refine (C9.out _ HB.out).mono ?_; rintro e w1 ⟨rfl, hb⟩; have HB := hide hb; clear hb) | (with_reducible refine (C10.out _ HB.out).mono ?_; rintro e w1 ⟨rfl, hb⟩; have HB := hide hb; clear hb) | (with_reducible refine (C11.out _ HB.out).mono ?_; rintro e w1 ⟨rfl, hb⟩; have HB := hide hb; clear hb) | (with_reducible refine (C12.out _ HB.out).mono ?_; rintro e w1 ⟨rfl, hb⟩; have HB := hide hb; clear hb) | (with_reducible refine (C13.out _ HB.out).mono ?_; rintro e w1 ⟨rfl, hb⟩; have HB := hide hb; clear hb) | (with_reducible refine (C14.out _ HB.out).mono ?_; rintro e w1 ⟨rfl, hb⟩; have HB := hide hb; clear hb) | (with_reducible refine (C15.out _ HB.out).mono ?_; rintro e w1 ⟨rfl, hb⟩; have HB := hide hb; clear hb) | (with_reducible refine (K.out _ HB.out).mono ?_; rintro e w1 ⟨rfl, hb⟩; have HB := hide hb; clear hb))
  go_ret
  exact ⟨rfl, HB.out⟩

theorem divU_back {w : Nat} {a b : Int} (ha : Of w a) : cutI w (cutI w (a / b * b) + a % b) = a := by
  rw [cut_add_l, Int.ediv_mul_add_emod, cut_self ha]

theorem divS_back {w : Nat} (hw : IsW w) {a b : Int} (ha : Of w a) (hb : Of w b) : cutI w (cutI w (divS w a b * b) + remS w a b) = a := by
  have e : cutI w (cutI w (divS w a b * b) + remS w a b) = cutI w ((wo w a).tdiv (wo w b) * wo w b + (wo w a).tmod (wo w b)) := by
    unfold divS remS
    rw [cut_add_l, cut_add_r]
    have h1 : cutI w (cutI w ((wo w a).tdiv (wo w b)) * b) = cutI w ((wo w a).tdiv (wo w b) * wo w b) := by
      rw [cut_mul_l, ← cut_mul_r w _ (wo w b), cut_wo hw hb]
    rw [← cut_add_l, h1, cut_add_l]
  rw [e, Int.mul_comm, Int.mul_tdiv_add_tmod, cut_wo hw ha]

theorem traps_mo {w : Nat} (hw : IsW w) {a b : Int} (ha : Of w a) (hb : Of w b) (h : traps w a b = true) : b = mo w ∧ a = 2 ^ (w - 1) ∧ remS w a b = 0 := by
  unfold traps at h
  simp only [Bool.and_eq_true, decide_eq_true_eq] at h
  obtain ⟨cx, cy⟩ := h
  refine ⟨?_, ?_, rem_neg1 cy⟩
  · obtain ⟨h0, h1⟩ := hb
    rcases hw with rfl | rfl | rfl | rfl <;> simp only [wo, mo, Nat.reduceSub, Int.reducePow] at h1 cy ⊢ <;> omega
  · obtain ⟨h0, h1⟩ := ha
    rcases hw with rfl | rfl | rfl | rfl <;> simp only [wo, lo, Nat.reduceSub, Int.reducePow] at h1 cx ⊢ <;> omega

theorem mod_of {w : Nat} {a b : Int} (hb : Of w b) (c : ¬ b = 0) : Of w (a % b) ∧ a % b < b := by
  have h1 := Int.emod_nonneg a c
  have h2 := Int.emod_lt_of_pos a (show 0 < b by have := hb.1; omega)
  exact ⟨⟨h1, Int.lt_trans h2 hb.2⟩, h2⟩
theorem div_of' {w : Nat} {a b : Int} (ha : Of w a) (hb : Of w b) : Of w (a / b) :=
  ⟨Int.ediv_nonneg ha.1 hb.1, Int.lt_of_le_of_lt (Int.ediv_le_self _ ha.1) ha.2⟩

set_option maxRecDepth 100000 in
set_option maxHeartbeats 4000000 in
theorem IntsDivides_calls (n a b : Int) (h0 : 0 ≤ n) (ha : (Lit.int .u64 a).wf = true) (hb : (Lit.int .u64 b).wf = true) (W : World) (hT : Tabs W) :
    Calls Tryd.prog 8 #[.int .u8 n, .int .u64 a, .int .u64 b] W fun e W' => e = .returned (.bool true) ∧ Below W.heap.size W W' := by
  have hw := wd_isW n
  have CW := hide (lwidth_calls n h0)
  generalize wd n = w at *
  have Oa := hide (lof_calls hw a (wf64_lo ha) (wf64_hi ha))
  have oa := cut_of w a
  generalize cutI w a = A at *
  have Ob := hide (lof_calls hw b (wf64_lo hb) (wf64_hi hb))
  have ob := cut_of w b
  generalize cutI w b = B at *
  have OM := lof_calls hw 18446744073709551615 (by decide) (by decide)
  rw [ones_of hw] at OM
  have OM := hide OM
  by_cases c : B = 0
  · subst c
    have D4 := hide (Two_from hT hw 4 A 0 (by decide) oa ob 0 6 (by simp [two]))
    have D5 := hide (Two_from hT hw 5 A 0 (by decide) oa ob 0 6 (by simp [two]))
    have D6 := hide (Two_from hT hw 6 A 0 (by decide) oa ob 0 6 (by simp [two]))
    have D7 := hide (Two_from hT hw 7 A 0 (by decide) oa ob 0 6 (by simp [two]))
    clear oa ob ha hb h0
    have K := hide (works_calls hT)
    have HB := hide (Below.refl W.heap.size W)
    clear hT
    go_enter Tryd.func8, Tryd.ntmps8
    go_wp2_with (first | (with_reducible refine (CW.out _).mono ?_; rintro e w1 ⟨rfl, rfl⟩) | (with_reducible refine (Oa.out _).mono ?_; rintro e w1 ⟨rfl, rfl⟩) | (with_reducible refine (Ob.out _).mono ?_; rintro e w1 ⟨rfl, rfl⟩) | (with_reducible refine (D4.out _ HB.out).mono ?_; rintro e w1 ⟨rfl, hb⟩; have HB := hide hb; clear hb) | (with_reducible refine (D5.out _ HB.out).mono ?_; rintro e w1 ⟨rfl, hb⟩; have HB := hide hb; clear hb) | (with_reducible refine (D6.out _ HB.out).mono ?_; rintro e w1 ⟨rfl, hb⟩; have HB := hide hb; clear hb) | (with_reducible refine (D7.out _ HB.out).mono ?_; rintro e w1 ⟨rfl, hb⟩; have HB := hide hb; clear hb) | (with_reducible refine (K.out _ HB.out).mono ?_; rintro e w1 ⟨rfl, hb⟩; have HB := hide hb; clear hb))
    go_ret
    exact ⟨rfl, HB.out⟩
  · have mo5 := mod_of (a := A) ob c
    have di4 := div_of' oa ob
    have lt5 := mo5.2
    have oq := cut_of w (A / B * B)
    have D4 := hide (Two_from hT hw 4 A B (by decide) oa ob (A / B) 0 (by simp [two, c]))
    have D5 := hide (Two_from hT hw 5 A B (by decide) oa ob (A % B) 0 (by simp [two, c]))
    have M1 := hide (ltwo_calls hT hw 3 (A / B) B (by decide) di4 ob (cutI w (A / B * B)) 0 (rfl))
    have P1 := hide (ltwo_calls hT hw 1 (cutI w (A / B * B)) (A % B) (by decide) oq mo5.1 A 0 (congrArg (·, (0 : Int)) (divU_back oa)))
    have D7 := hide (Two_from hT hw 7 A B (by decide) oa ob (remS w A B) 0 (by simp [two, c]))
    cases c2 : traps w A B with
    | true =>
      obtain ⟨t1, t2, t3⟩ := traps_mo hw oa ob c2
      have D6 := hide (Two_from hT hw 6 A B (by decide) oa ob 0 6 (by simp [two, c2]))
      rw [t3] at D7
      rw [← t1] at OM
      have E4 : IntKind.u64.wrap ((2 : Int) ^ (w - 1)) = A := by
        have := oa.lt64 hw
        have := oa.1
        rw [← t2, IntKind.wrap_u64]; omega
      have hle := hw.le
      have hpos := hw.pos
      clear oa ob ha hb h0 mo5 di4 oq c2 t3
      generalize cutI w (A / B * B) = m1 at *
      generalize A / B = q4 at *
      generalize A % B = r5 at *
      have E1 : decide (B ≤ r5) = false := by simp; omega
      clear t1 t2
      have K := hide (works_calls hT)
      have HB := hide (Below.refl W.heap.size W)
      clear hT
      go_enter Tryd.func8, Tryd.ntmps8
      go_wp2_with (first | (with_reducible refine (CW.out _).mono ?_; rintro e w1 ⟨rfl, rfl⟩) | (with_reducible refine (Oa.out _).mono ?_; rintro e w1 ⟨rfl, rfl⟩) | (with_reducible refine (Ob.out _).mono ?_; rintro e w1 ⟨rfl, rfl⟩) | (with_reducible refine (OM.out _).mono ?_; rintro e w1 ⟨rfl, rfl⟩) | (with_reducible refine (D4.out _ HB.out).mono ?_; rintro e w1 ⟨rfl, hb⟩; have HB := hide hb; clear hb) | (with_reducible refine (D5.out _ HB.out).mono ?_; rintro e w1 ⟨rfl, hb⟩; have HB := hide hb; clear hb) | (with_reducible refine (M1.out _ HB.out).mono ?_; rintro e w1 ⟨rfl, hb⟩; have HB := hide hb; clear hb) | (with_reducible refine (P1.out _ HB.out).mono ?_; rintro e w1 ⟨rfl, hb⟩; have HB := hide hb; clear hb) | (with_reducible refine (D6.out _ HB.out).mono ?_; rintro e w1 ⟨rfl, hb⟩; have HB := hide hb; clear hb) | (with_reducible refine (D7.out _ HB.out).mono ?_; rintro e w1 ⟨rfl, hb⟩; have HB := hide hb; clear hb) | (with_reducible refine (K.out _ HB.out).mono ?_; rintro e w1 ⟨rfl, hb⟩; have HB := hide hb; clear hb))
      go_ret
      exact ⟨rfl, HB.out⟩
    | false =>
      have os := cut_of w ((wo w A).tdiv (wo w B))
      have om := cut_of w (divS w A B * B)
      have orr := cut_of w ((wo w A).tmod (wo w B))
      have D6 := hide (Two_from hT hw 6 A B (by decide) oa ob (divS w A B) 0 (by simp [two, c, c2]))
      have M2 := hide (ltwo_calls hT hw 3 (divS w A B) B (by decide) os ob (cutI w (divS w A B * B)) 0 (rfl))
      have P2 := hide (ltwo_calls hT hw 1 (cutI w (divS w A B * B)) (remS w A B) (by decide) om orr A 0 (congrArg (·, (0 : Int)) (divS_back hw oa ob)))
      clear oa ob ha hb h0 mo5 di4 oq c2 os om orr
      generalize cutI w (A / B * B) = m1 at *
      generalize A / B = q4 at *
      generalize A % B = r5 at *
      generalize cutI w (divS w A B * B) = m2 at *
      generalize divS w A B = q6 at *
      generalize remS w A B = r7 at *
      have E1 : decide (B ≤ r5) = false := by simp; omega
      have K := hide (works_calls hT)
      have HB := hide (Below.refl W.heap.size W)
      clear hT
      go_enter Tryd.func8, Tryd.ntmps8
      go_wp2_with (first | (with_reducible refine (CW.out _).mono ?_; rintro e w1 ⟨rfl, rfl⟩) | (with_reducible refine (Oa.out _).mono ?_; rintro e w1 ⟨rfl, rfl⟩) | (with_reducible refine (Ob.out _).mono ?_; rintro e w1 ⟨rfl, rfl⟩) | (with_reducible refine (OM.out _).mono ?_; rintro e w1 ⟨rfl, rfl⟩) | (with_reducible refine (D4.out _ HB.out).mono ?_; rintro e w1 ⟨rfl, hb⟩; have HB := hide hb; clear hb) | (with_reducible refine (D5.out _ HB.out).mono ?_; rintro e w1 ⟨rfl, hb⟩; have HB := hide hb; clear hb) | (with_reducible refine (M1.out _ HB.out).mono ?_; rintro e w1 ⟨rfl, hb⟩; have HB := hide hb; clear hb) | (with_reducible refine (P1.out _ HB.out).mono ?_; rintro e w1 ⟨rfl, hb⟩; have HB := hide hb; clear hb) | (with_reducible refine (D6.out _ HB.out).mono ?_; rintro e w1 ⟨rfl, hb⟩; have HB := hide hb; clear hb) | (with_reducible refine (D7.out _ HB.out).mono ?_; rintro e w1 ⟨rfl, hb⟩; have HB := hide hb; clear hb) | (with_reducible refine (M2.out _ HB.out).mono ?_; rintro e w1 ⟨rfl, hb⟩; have HB := hide hb; clear hb) | (with_reducible refine (P2.out _ HB.out).mono ?_; rintro e w1 ⟨rfl, hb⟩; have HB := hide hb; clear hb) | (with_reducible refine (K.out _ HB.out).mono ?_; rintro e w1 ⟨rfl, hb⟩; have HB := hide hb; clear hb))
      go_ret
      exact ⟨rfl, HB.out⟩
end Go.Proofs.YtlpjkmobmpcfiaaDoor
