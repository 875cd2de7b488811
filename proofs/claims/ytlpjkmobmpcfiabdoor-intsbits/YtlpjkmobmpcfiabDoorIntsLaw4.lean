/-
  IntsTurns, IntsBits, IntsHeld (genlaws.py wrote it).
-/
import Derived.Test.YtlpjkmobmpcfiabDoorIntsLaw2
set_option linter.unusedVariables false
set_option linter.unusedSimpArgs false
namespace Go.Proofs.YtlpjkmobmpcfiabDoor
open Go.RowKit Ints

theorem sh_of {w : Nat} (hw : IsW w) (b : Int) : Of w (sh w b : Int) := by
  have h := sh_lt hw b
  have h2 : w < 2 ^ w := Nat.lt_two_pow_self
  refine ⟨by omega, ?_⟩
  have : ((sh w b : Nat) : Int) < ((2 ^ w : Nat) : Int) := by omega
  simpa using this
theorem pow_of {w : Nat} {k : Nat} (h : k < w) : Of w ((2 : Int) ^ k) := by
  have h1 : (2 : Nat) ^ k < 2 ^ w := Nat.pow_lt_pow_right (by decide) h
  have h2 : (((2 : Nat) ^ k : Nat) : Int) < ((2 ^ w : Nat) : Int) := by exact_mod_cast h1
  refine ⟨Int.pow_nonneg (by decide), ?_⟩
  simpa using h2
theorem sh_sh {w : Nat} (hw : IsW w) (b : Int) : sh w (sh w b : Int) = sh w b := by
  unfold sh
  rw [Int.toNat_natCast, Nat.mod_mod]
theorem rotl_of {w : Nat} (hw : IsW w) {a : Int} (ha : Of w a) (b : Int) : Of w (rotlI w a b) := by
  obtain ⟨x, rfl⟩ := Int.eq_ofNat_of_zero_le ha.1
  have hx : x < 2 ^ w := by exact_mod_cast ha.2
  have hlt := rotl_lt w x (sh w b) hx (by have := sh_lt hw b; omega)
  unfold rotlI
  simp only [Int.toNat_natCast]
  have : ((rotl w x (sh w b) : Nat) : Int) < ((2 ^ w : Nat) : Int) := by exact_mod_cast hlt
  exact ⟨by omega, by simpa using this⟩
theorem turn_back {w : Nat} (hw : IsW w) {a : Int} (ha : Of w a) (b : Int) : rotrI w (rotlI w a b) b = a := by
  obtain ⟨x, rfl⟩ := Int.eq_ofNat_of_zero_le ha.1
  have hx : x < 2 ^ w := by exact_mod_cast ha.2
  have hl := sh_lt hw b
  unfold rotrI rotlI
  simp only [Int.toNat_natCast]
  have e : ∀ y, rotl w y (w - sh w b) = rotr w y (sh w b) := fun y => by
    unfold rotl rotr
    rw [show w - (w - sh w b) = sh w b by omega, Nat.add_comm]
  rw [e, rotr_rotl w x _ hx (by omega)]

set_option maxRecDepth 100000 in
set_option maxHeartbeats 4000000 in
theorem IntsTurns_calls (n a b : Int) (h0 : 0 ≤ n) (ha : (Lit.int .u64 a).wf = true) (hb : (Lit.int .u64 b).wf = true) (W : World) (hT : Tabs W) :
    Calls Tryd.prog 3 #[.int .u8 n, .int .u64 a, .int .u64 b] W fun e W' => e = .returned (.bool true) ∧ Below W.heap.size W W' := by
  have hw := wd_isW n
  have CW := hide (lwidth_calls n h0)
  generalize wd n = w at *
  have Oa := hide (lof_calls hw a (wf64_lo ha) (wf64_hi ha))
  have oa := cut_of w a
  generalize cutI w a = A at *
  have Ob := hide (lof_calls hw b (wf64_lo hb) (wf64_hi hb))
  have ob := cut_of w b
  generalize cutI w b = B at *
  have ok := sh_of hw B
  have ou := rotl_of hw oa B
  have op := pow_of (sh_lt hw B)
  have E := sh_eq hw ob.1
  have hlt := sh_lt hw B
  have hle := hw.le
  have hpos := hw.pos
  have E0 : ¬ IntKind.u64.wrap (w : Int) = 0 := by rw [IntKind.wrap_u64]; omega
  have E1 : IntKind.u64.wrap (w : Int) = (w : Int) := by rw [IntKind.wrap_u64]; omega
  rw [E1] at E E0
  have E2 : IntKind.u64.wrap ((2 : Int) ^ sh w B) = 2 ^ sh w B := by
    have h1 := (pow_of hlt).lt64 hw
    have h2 := (pow_of hlt).1
    rw [IntKind.wrap_u64]; omega
  have C1 := hide (ltwo_calls hT hw 14 A B (by decide) oa ob (rotlI w A B) 0 (rfl))
  have C2 := hide (ltwo_calls hT hw 15 (rotlI w A B) B (by decide) ou ob A 0 (congrArg (·, (0 : Int)) (turn_back hw oa B)))
  have C3 := hide (ltwo_calls hT hw 14 A (sh w B : Int) (by decide) oa ok (rotlI w A B) 0 (congrArg (·, (0 : Int)) (show rotlI w A (sh w B : Int) = rotlI w A B by unfold rotlI; rw [sh_sh hw])))
  have C4 := hide (ltwo_calls hT hw 3 A ((2 : Int) ^ sh w B) (by decide) oa op (shlI w A B) 0 (rfl))
  have C5 := hide (ltwo_calls hT hw 11 A B (by decide) oa ob (shlI w A B) 0 (rfl))
  clear oa ob ha hb h0 ok ou op
  generalize rotlI w A B = u at *
  generalize shlI w A B = v at *
  generalize sh w B = k at *
  have hk64 : (k : Int) ≤ 64 := by omega
  clear hlt hpos
  have K := hide (works_calls hT)
  have HB := hide (Below.refl W.heap.size W)
  clear hT
  go_enter Tryd.func3, Tryd.ntmps3
  go_wp2_with (first | (with_reducible refine (CW.out _).mono ?_; rintro e w1 ⟨rfl, rfl⟩) | (with_reducible refine (Oa.out _).mono ?_; rintro e w1 ⟨rfl, rfl⟩) | (with_reducible refine (Ob.out _).mono ?_; rintro e w1 ⟨rfl, rfl⟩) | (with_reducible refine (C1.out _ HB.out).mono ?_; rintro e w1 ⟨rfl, hb⟩; have HB := hide hb; clear hb) | (with_reducible refine (C2.out _ HB.out).mono ?_; rintro e w1 ⟨rfl, hb⟩; have HB := hide hb; clear hb) | (with_reducible refine (C3.out _ HB.out).mono ?_; rintro e w1 ⟨rfl, hb⟩; have HB := hide hb; clear hb) | (with_reducible refine (C4.out _ HB.out).mono ?_; rintro e w1 ⟨rfl, hb⟩; have HB := hide hb; clear hb) | (with_reducible refine (C5.out _ HB.out).mono ?_; rintro e w1 ⟨rfl, hb⟩; have HB := hide hb; clear hb) | (with_reducible refine (K.out _ HB.out).mono ?_; rintro e w1 ⟨rfl, hb⟩; have HB := hide hb; clear hb))
  go_ret
  exact ⟨rfl, HB.out⟩

theorem and_of {w : Nat} {a b : Int} (ha : Of w a) (hb : Of w b) : Of w (andI a b) := by
  obtain ⟨x, rfl⟩ := Int.eq_ofNat_of_zero_le ha.1
  obtain ⟨y, rfl⟩ := Int.eq_ofNat_of_zero_le hb.1
  have hy : y < 2 ^ w := by exact_mod_cast hb.2
  have hlt : x &&& y < 2 ^ w := Nat.and_lt_two_pow _ hy
  have : (((x &&& y : Nat)) : Int) < ((2 ^ w : Nat) : Int) := by exact_mod_cast hlt
  unfold andI
  simp only [Int.toNat_natCast]
  exact ⟨by omega, by simpa using this⟩
theorem xor_of {w : Nat} {a b : Int} (ha : Of w a) (hb : Of w b) : Of w (xorI a b) := by
  obtain ⟨x, rfl⟩ := Int.eq_ofNat_of_zero_le ha.1
  obtain ⟨y, rfl⟩ := Int.eq_ofNat_of_zero_le hb.1
  have hx : x < 2 ^ w := by exact_mod_cast ha.2
  have hy : y < 2 ^ w := by exact_mod_cast hb.2
  have hlt : x ^^^ y < 2 ^ w := Nat.xor_lt_two_pow hx hy
  have : (((x ^^^ y : Nat)) : Int) < ((2 ^ w : Nat) : Int) := by exact_mod_cast hlt
  unfold xorI
  simp only [Int.toNat_natCast]
  exact ⟨by omega, by simpa using this⟩
theorem or_of {w : Nat} {a b : Int} (ha : Of w a) (hb : Of w b) : Of w (orI a b) := by
  obtain ⟨x, rfl⟩ := Int.eq_ofNat_of_zero_le ha.1
  obtain ⟨y, rfl⟩ := Int.eq_ofNat_of_zero_le hb.1
  have hx : x < 2 ^ w := by exact_mod_cast ha.2
  have hy : y < 2 ^ w := by exact_mod_cast hb.2
  have hlt : x ||| y < 2 ^ w := Nat.or_lt_two_pow hx hy
  have : (((x ||| y : Nat)) : Int) < ((2 ^ w : Nat) : Int) := by exact_mod_cast hlt
  unfold orI
  simp only [Int.toNat_natCast]
  exact ⟨by omega, by simpa using this⟩
theorem sum_bits {a b : Int} (ha : 0 ≤ a) (hb : 0 ≤ b) : a + b = xorI a b + 2 * andI a b ∧ orI a b = xorI a b + andI a b := by
  obtain ⟨x, rfl⟩ := Int.eq_ofNat_of_zero_le ha
  obtain ⟨y, rfl⟩ := Int.eq_ofNat_of_zero_le hb
  have h1 := add_eq_bits x y
  have h2 := or_eq_bits x y
  unfold xorI andI orI
  simp only [Int.toNat_natCast]
  omega
theorem not_of {w : Nat} {a : Int} (ha : Of w a) : Of w (mo w - a) := by
  have h1 := ha.1; have h2 := ha.2
  unfold mo
  exact ⟨by omega, by omega⟩

/-- Counts of bits fit together. -/
theorem counts {w : Nat} (hw : IsW w) {a : Int} (ha : Of w a) :
    pcI a + pcI (mo w - a) = (w : Int) ∧ (Lib.bitLen a.toNat = 0 ↔ a = 0) ∧ (min (tzI a) (w : Int) = (w : Int) ↔ a = 0) ∧ (a ≠ 0 → tzI a + pcI a ≤ (Lib.bitLen a.toNat : Int)) := by
  have h64 := ha.lt64 hw
  have hle := hw.le
  have hpos := hw.pos
  obtain ⟨x, rfl⟩ := Int.eq_ofNat_of_zero_le ha.1
  have hx : x < 2 ^ w := by exact_mod_cast ha.2
  have hx64 : x < 2 ^ 64 := by omega
  have hp := Nat.two_pow_pos w
  have em : mo w - (x : Int) = ((2 ^ w - 1 - x : Nat) : Int) := by
    unfold mo
    have : ((2 ^ w : Nat) : Int) = 2 ^ w := by simp
    omega
  unfold pcI tzI
  rw [em]
  simp only [Int.toNat_natCast]
  refine ⟨?_, ?_, ?_, ?_⟩
  · rw [ones_eq w x hle hx, ones_eq w (2 ^ w - 1 - x) hle (by omega)]
    have := pop_not w x hx
    omega
  · constructor
    · intro h
      by_cases hz : x = 0
      · simp [hz]
      · have := len_pos x hx64 hz; omega
    · intro h
      have : x = 0 := by omega
      subst this; exact len_zero
  · by_cases hz : x = 0
    · subst hz
      have : Lib.ctz 64 0 = 64 := rfl
      rw [this]
      omega
    · have h1 := (Lib.lowest_bit 64 x hz hx64).2
      have h2 := ctz_pop x hx64 hz
      have h3 := Lib.bitLen_le x w hle hx
      have h4 : 1 ≤ Lib.onesCount x := by
        obtain ⟨m, e, _⟩ := Lib.ctzFrom_spec 64 x (by omega) hx64
        rcases Nat.eq_zero_or_pos (Lib.onesCount x) with h | h
        · exfalso
          have hb : ∀ k, k ≤ 64 → Lib.popAux k x = 0 → x % 2 ^ k = 0 := by
            intro k
            induction k with
            | zero => intro _ _; exact Nat.mod_one x
            | succ k ih =>
              intro hk hp
              rw [pop_succ] at hp
              rw [mod_succ, ih (by omega) (by omega), show bit x k = 0 by omega]
              rfl
          have := hb 64 (Nat.le_refl _) h
          rw [Nat.mod_eq_of_lt hx64] at this
          exact hz this
        · exact h
      constructor
      · intro h; omega
      · intro h; omega
  · intro hz
    have := ctz_pop x hx64 (by omega)
    omega

set_option maxRecDepth 100000 in
set_option maxHeartbeats 4000000 in
theorem IntsBits_calls (n a b : Int) (h0 : 0 ≤ n) (ha : (Lit.int .u64 a).wf = true) (hb : (Lit.int .u64 b).wf = true) (W : World) (hT : Tabs W) :
    Calls Tryd.prog 4 #[.int .u8 n, .int .u64 a, .int .u64 b] W fun e W' => e = .returned (.bool true) ∧ Below W.heap.size W W' := by
  have hw := wd_isW n
  have CW := hide (lwidth_calls n h0)
  generalize wd n = w at *
  have Oa := hide (lof_calls hw a (wf64_lo ha) (wf64_hi ha))
  have oa := cut_of w a
  generalize cutI w a = A at *
  have Ob := hide (lof_calls hw b (wf64_lo hb) (wf64_hi hb))
  have ob := cut_of w b
  generalize cutI w b = B at *
  have on := not_of oa
  have o1 : Of w 1 := pow_of hw.pos
  have oba := and_of oa ob
  have obx := xor_of oa ob
  have oor := or_of oa ob
  have osum := cut_of w (A + B)
  obtain ⟨s1, s2⟩ := sum_bits oa.1 ob.1
  obtain ⟨k1, k2, k3, k4⟩ := counts hw oa
  have lz := len_of hw oa
  have tz := tz_le hw oa
  have pa := pc_le hw oa
  have pn := pc_le hw on
  have hle := hw.le
  have U1 := hide (One_from hT hw 31 A (by decide) oa (mo w - A) 0 rfl)
  have U2 := hide (One_from hT hw 30 A (by decide) oa (cutI w (-A)) 0 rfl)
  have U3 := hide (One_from hT hw 26 A (by decide) oa ((w : Int) - (Lib.bitLen A.toNat : Int)) 0 rfl)
  have U4 := hide (One_from hT hw 27 A (by decide) oa (min (tzI A) w) 0 rfl)
  have U5 := hide (One_from hT hw 28 A (by decide) oa (pcI A) 0 rfl)
  have U6 := hide (One_from hT hw 28 (mo w - A) (by decide) on (pcI (mo w - A)) 0 rfl)
  have C1 := hide (ltwo_calls hT hw 1 (mo w - A) 1 (by decide) on o1 (cutI w (-A)) 0 (congrArg (·, (0 : Int)) (show cutI w (mo w - A + 1) = cutI w (-A) by unfold cutI mo; rw [show (2 : Int) ^ w - 1 - A + 1 = -A + 2 ^ w by omega, Int.add_emod_right])))
  have C2 := hide (ltwo_calls hT hw 8 A B (by decide) oa ob (andI A B) 0 (rfl))
  have C3 := hide (ltwo_calls hT hw 10 A B (by decide) oa ob (xorI A B) 0 (rfl))
  have C4 := hide (ltwo_calls hT hw 1 (andI A B) (andI A B) (by decide) oba oba (cutI w (andI A B + andI A B)) 0 (rfl))
  have C5 := hide (ltwo_calls hT hw 1 A B (by decide) oa ob (cutI w (A + B)) 0 (rfl))
  have C6 := hide (ltwo_calls hT hw 2 (cutI w (A + B)) (xorI A B) (by decide) osum obx (cutI w (andI A B + andI A B)) 0 (congrArg (·, (0 : Int)) (show cutI w (cutI w (A + B) - xorI A B) = cutI w (andI A B + andI A B) by rw [cut_sub_l, show A + B - xorI A B = andI A B + andI A B by omega])))
  have C7 := hide (ltwo_calls hT hw 9 A B (by decide) oa ob (orI A B) 0 (rfl))
  have C8 := hide (ltwo_calls hT hw 1 (andI A B) (xorI A B) (by decide) oba obx (orI A B) 0 (congrArg (·, (0 : Int)) (show cutI w (andI A B + xorI A B) = orI A B by rw [show andI A B + xorI A B = orI A B by omega, cut_self oor])))
  have ha0 := oa.1
  clear oa ob ha hb h0 on o1 oba obx oor osum s1 s2
  generalize cutI w (andI A B + andI A B) = d at *
  generalize cutI w (A + B) = s at *
  generalize andI A B = both at *
  generalize xorI A B = one' at *
  generalize orI A B = o' at *
  generalize cutI w (-A) = neg at *
  generalize pcI A = p at *
  generalize pcI (mo w - A) = q at *
  generalize mo w - A = nt at *
  generalize ht : min (tzI A) (w : Int) = t at *
  have ht1 : t ≤ tzI A ∧ 0 ≤ t ∧ t ≤ w := by omega
  clear ht
  generalize tzI A = tz' at *
  generalize hz : (w : Int) - (Lib.bitLen A.toNat : Int) = z at *
  have hz1 : 0 ≤ z ∧ z ≤ w ∧ (A ≠ 0 → z + t + p ≤ w) ∧ (z = w ↔ A = 0) := by omega
  clear hz lz k2 k4
  have E1 : IntKind.u64.wrap (p + q) = (w : Int) := by rw [IntKind.wrap_u64]; omega
  have E2 : IntKind.u64.wrap (w : Int) = (w : Int) := by rw [IntKind.wrap_u64]; omega
  have E3 : IntKind.u64.wrap (z + t) = z + t := by rw [IntKind.wrap_u64]; omega
  have E4 : IntKind.u64.wrap (z + t + p) = z + t + p := by rw [IntKind.wrap_u64]; omega
  by_cases c : A = 0
  · subst c
    have n2 : (z == (w : Int)) = true := by simp; omega
    have n3 : (t == (w : Int)) = true := by simp; omega
    clear hz1 ht1 k3 k1 tz pa pn ha0
    have K := hide (works_calls hT)
    have HB := hide (Below.refl W.heap.size W)
    clear hT
    go_enter Tryd.func4, Tryd.ntmps4
    go_wp2_with (first | (with_reducible refine (CW.out _).mono ?_; rintro e w1 ⟨rfl, rfl⟩) | (with_reducible refine (Oa.out _).mono ?_; rintro e w1 ⟨rfl, rfl⟩) | (with_reducible refine (Ob.out _).mono ?_; rintro e w1 ⟨rfl, rfl⟩) | (with_reducible refine (U1.out _ HB.out).mono ?_; rintro e w1 ⟨rfl, hb⟩; have HB := hide hb; clear hb) | (with_reducible refine (U2.out _ HB.out).mono ?_; rintro e w1 ⟨rfl, hb⟩; have HB := hide hb; clear hb) | (with_reducible refine (U3.out _ HB.out).mono ?_; rintro e w1 ⟨rfl, hb⟩; have HB := hide hb; clear hb) | (with_reducible refine (U4.out _ HB.out).mono ?_; rintro e w1 ⟨rfl, hb⟩; have HB := hide hb; clear hb) | (with_reducible refine (U5.out _ HB.out).mono ?_; rintro e w1 ⟨rfl, hb⟩; have HB := hide hb; clear hb) | (with_reducible refine (U6.out _ HB.out).mono ?_; rintro e w1 ⟨rfl, hb⟩; have HB := hide hb; clear hb) | (with_reducible refine (C1.out _ HB.out).mono ?_; rintro e w1 ⟨rfl, hb⟩; have HB := hide hb; clear hb) | (with_reducible refine (C2.out _ HB.out).mono ?_; rintro e w1 ⟨rfl, hb⟩; have HB := hide hb; clear hb) | (with_reducible refine (C3.out _ HB.out).mono ?_; rintro e w1 ⟨rfl, hb⟩; have HB := hide hb; clear hb) | (with_reducible refine (C4.out _ HB.out).mono ?_; rintro e w1 ⟨rfl, hb⟩; have HB := hide hb; clear hb) | (with_reducible refine (C5.out _ HB.out).mono ?_; rintro e w1 ⟨rfl, hb⟩; have HB := hide hb; clear hb) | (with_reducible refine (C6.out _ HB.out).mono ?_; rintro e w1 ⟨rfl, hb⟩; have HB := hide hb; clear hb) | (with_reducible refine (C7.out _ HB.out).mono ?_; rintro e w1 ⟨rfl, hb⟩; have HB := hide hb; clear hb) | (with_reducible refine (C8.out _ HB.out).mono ?_; rintro e w1 ⟨rfl, hb⟩; have HB := hide hb; clear hb) | (with_reducible refine (K.out _ HB.out).mono ?_; rintro e w1 ⟨rfl, hb⟩; have HB := hide hb; clear hb))
    go_ret
    exact ⟨rfl, HB.out⟩
  · have n1 : (A == 0) = false := by simp [c]
    have n5 : (A != 0) = true := by simp [c]
    have n2 : (z == (w : Int)) = false := by simp; omega
    have n3 : (t == (w : Int)) = false := by simp; omega
    have n4 : decide ((w : Int) < z + t + p) = false := by simp; omega
    clear hz1 ht1 k3 k1 tz pa pn c ha0
    have K := hide (works_calls hT)
    have HB := hide (Below.refl W.heap.size W)
    clear hT
    go_enter Tryd.func4, Tryd.ntmps4
    go_wp2_with (first | (with_reducible refine (CW.out _).mono ?_; rintro e w1 ⟨rfl, rfl⟩) | (with_reducible refine (Oa.out _).mono ?_; rintro e w1 ⟨rfl, rfl⟩) | (with_reducible refine (Ob.out _).mono ?_; rintro e w1 ⟨rfl, rfl⟩) | (with_reducible refine (U1.out _ HB.out).mono ?_; rintro e w1 ⟨rfl, hb⟩; have HB := hide hb; clear hb) | (with_reducible refine (U2.out _ HB.out).mono ?_; rintro e w1 ⟨rfl, hb⟩; have HB := hide hb; clear hb) | (with_reducible refine (U3.out _ HB.out).mono ?_; rintro e w1 ⟨rfl, hb⟩; have HB := hide hb; clear hb) | (with_reducible refine (U4.out _ HB.out).mono ?_; rintro e w1 ⟨rfl, hb⟩; have HB := hide hb; clear hb) | (with_reducible refine (U5.out _ HB.out).mono ?_; rintro e w1 ⟨rfl, hb⟩; have HB := hide hb; clear hb) | (with_reducible refine (U6.out _ HB.out).mono ?_; rintro e w1 ⟨rfl, hb⟩; have HB := hide hb; clear hb) | (with_reducible refine (C1.out _ HB.out).mono ?_; rintro e w1 ⟨rfl, hb⟩; have HB := hide hb; clear hb) | (with_reducible refine (C2.out _ HB.out).mono ?_; rintro e w1 ⟨rfl, hb⟩; have HB := hide hb; clear hb) | (with_reducible refine (C3.out _ HB.out).mono ?_; rintro e w1 ⟨rfl, hb⟩; have HB := hide hb; clear hb) | (with_reducible refine (C4.out _ HB.out).mono ?_; rintro e w1 ⟨rfl, hb⟩; have HB := hide hb; clear hb) | (with_reducible refine (C5.out _ HB.out).mono ?_; rintro e w1 ⟨rfl, hb⟩; have HB := hide hb; clear hb) | (with_reducible refine (C6.out _ HB.out).mono ?_; rintro e w1 ⟨rfl, hb⟩; have HB := hide hb; clear hb) | (with_reducible refine (C7.out _ HB.out).mono ?_; rintro e w1 ⟨rfl, hb⟩; have HB := hide hb; clear hb) | (with_reducible refine (C8.out _ HB.out).mono ?_; rintro e w1 ⟨rfl, hb⟩; have HB := hide hb; clear hb) | (with_reducible refine (K.out _ HB.out).mono ?_; rintro e w1 ⟨rfl, hb⟩; have HB := hide hb; clear hb))
    go_ret
    exact ⟨rfl, HB.out⟩

theorem wo_inj {w : Nat} (hw : IsW w) {a b : Int} (ha : Of w a) (hb : Of w b) (h : wo w a = wo w b) : a = b := by
  rw [← cut_wo hw ha, ← cut_wo hw hb, h]

set_option maxRecDepth 100000 in
set_option maxHeartbeats 4000000 in
theorem IntsHeld_calls (n a b : Int) (h0 : 0 ≤ n) (ha : (Lit.int .u64 a).wf = true) (hb : (Lit.int .u64 b).wf = true) (W : World) (hT : Tabs W) :
    Calls Tryd.prog 5 #[.int .u8 n, .int .u64 a, .int .u64 b] W fun e W' => e = .returned (.bool true) ∧ Below W.heap.size W W' := by
  have hw := wd_isW n
  have CW := hide (lwidth_calls n h0)
  generalize wd n = w at *
  have Oa := hide (lof_calls hw a (wf64_lo ha) (wf64_hi ha))
  have oa := cut_of w a
  generalize cutI w a = A at *
  have Ob := hide (lof_calls hw b (wf64_lo hb) (wf64_hi hb))
  have ob := cut_of w b
  generalize cutI w b = B at *
  have OM := lof_calls hw 18446744073709551615 (by decide) (by decide)
  rw [ones_of hw] at OM
  have OM := hide OM
  have m1 := mo_ge oa
  have m2 := mo_ge ob
  have z1 := oa.1
  have z2 := ob.1
  have inj := wo_inj hw oa ob
  have fun_ : A = B → wo w A = wo w B := fun h => by rw [h]
  have ca := cut_wo hw oa
  have cb := cut_wo hw ob
  have sx : cutI w (A + B) = A + B ∨ cutI w (A + B) = A + B - mo w - 1 ∧ mo w < A + B := by
    clear inj ca cb
    obtain ⟨_, q1⟩ := oa
    obtain ⟨_, q2⟩ := ob
    rcases hw with rfl | rfl | rfl | rfl <;> simp only [cutI, mo, Int.reducePow] at q1 q2 m1 m2 ⊢ <;> omega
  have sr := cut_of w (A + B)
  have sr1 := sr.1
  have sr2 := mo_ge sr
  have C1 := hide (ltwo_calls hT hw 1 A B (by decide) oa ob (cutI w (A + B)) 0 (rfl))
  have C2 := hide (ltwo_calls hT hw 16 A B (by decide) oa ob (min (A + B) (mo w)) 0 (rfl))
  have C3 := hide (ltwo_calls hT hw 24 A B (by decide) oa ob ((A + B + 1) / 2) 0 (rfl))
  have C4 := hide (ltwo_calls hT hw 20 A B (by decide) oa ob (min A B) 0 (rfl))
  have C5 := hide (ltwo_calls hT hw 21 A B (by decide) oa ob (max A B) 0 (rfl))
  have C6 := hide (ltwo_calls hT hw 22 A B (by decide) oa ob (cutI w (min (wo w A) (wo w B))) 0 (rfl))
  have T1 := hide (Than_from hT hw 35 A B (by decide) oa ob (decide (wo w A < wo w B)) 0 rfl)
  have T2 := hide (Than_from hT hw 32 A B (by decide) oa ob (A == B) 0 rfl)
  have T3 := hide (Than_from hT hw 37 A B (by decide) oa ob (decide (wo w B < wo w A)) 0 rfl)
  have T4 := hide (Than_from hT hw 41 A B (by decide) oa ob (decide (wo w B ≤ wo w A)) 0 rfl)
  clear oa ob ha hb h0 sr
  generalize wo w A = x at *
  generalize wo w B = y at *
  generalize cutI w (A + B) = s at *
  generalize hh : min (A + B) (mo w) = h at *
  generalize hm : (A + B + 1) / 2 = m at *
  generalize hl : min A B = low at *
  generalize hg : max A B = high at *
  have q1 : decide (m < low) = false := by simp; omega
  have q2 : decide (high < m) = false := by simp; omega
  have q3 : decide (high < low) = false := by simp; omega
  have q4 : decide (A ≤ s) = !decide (s < A) := by
    by_cases c : s < A
    · have : ¬ A ≤ s := by omega
      simp [c, this]
    · have : A ≤ s := by omega
      simp [c, this]
  have q5 : s < A → h = mo w := by omega
  have q6 : ¬ s < A → h = s := by omega
  clear hh hm hl hg sx sr1 sr2 m1 m2 z1 z2
  generalize mo w = M at *
  rcases Int.lt_trichotomy x y with t | t | t
  · have e : min x y = x := by omega
    rw [e, ca] at C6
    have t1 : decide (x < y) = true := by simp; omega
    have t2 : (A == B) = false := by simp; exact fun h => by have := fun_ h; omega
    have t3 : decide (y < x) = false := by simp; omega
    have t4 : decide (y ≤ x) = false := by simp; omega
    rw [t1] at T1
    rw [t2] at T2
    rw [t3] at T3
    rw [t4] at T4
    clear t e fun_ inj ca cb t1 t3 t4
    by_cases c : s < A
    · have q7 := q5 c
      have q8 : decide (A ≤ s) = false := by simp; omega
      have q9 : decide (s < A) = true := by simp [c]
      subst q7
      clear q5 q6 q4 c
      have K := hide (works_calls hT)
      have HB := hide (Below.refl W.heap.size W)
      clear hT
      go_enter Tryd.func5, Tryd.ntmps5
      go_wp2_with (first | (with_reducible refine (CW.out _).mono ?_; rintro e w1 ⟨rfl, rfl⟩) | (with_reducible refine (Oa.out _).mono ?_; rintro e w1 ⟨rfl, rfl⟩) | (with_reducible refine (Ob.out _).mono ?_; rintro e w1 ⟨rfl, rfl⟩) | (with_reducible refine (OM.out _).mono ?_; rintro e w1 ⟨rfl, rfl⟩) | (with_reducible refine (C1.out _ HB.out).mono ?_; rintro e w1 ⟨rfl, hb⟩; have HB := hide hb; clear hb) | (with_reducible refine (C2.out _ HB.out).mono ?_; rintro e w1 ⟨rfl, hb⟩; have HB := hide hb; clear hb) | (with_reducible refine (C3.out _ HB.out).mono ?_; rintro e w1 ⟨rfl, hb⟩; have HB := hide hb; clear hb) | (with_reducible refine (C4.out _ HB.out).mono ?_; rintro e w1 ⟨rfl, hb⟩; have HB := hide hb; clear hb) | (with_reducible refine (C5.out _ HB.out).mono ?_; rintro e w1 ⟨rfl, hb⟩; have HB := hide hb; clear hb) | (with_reducible refine (C6.out _ HB.out).mono ?_; rintro e w1 ⟨rfl, hb⟩; have HB := hide hb; clear hb) | (with_reducible refine (T1.out _ HB.out).mono ?_; rintro e w1 ⟨rfl, hb⟩; have HB := hide hb; clear hb) | (with_reducible refine (T2.out _ HB.out).mono ?_; rintro e w1 ⟨rfl, hb⟩; have HB := hide hb; clear hb) | (with_reducible refine (T3.out _ HB.out).mono ?_; rintro e w1 ⟨rfl, hb⟩; have HB := hide hb; clear hb) | (with_reducible refine (T4.out _ HB.out).mono ?_; rintro e w1 ⟨rfl, hb⟩; have HB := hide hb; clear hb) | (with_reducible refine (K.out _ HB.out).mono ?_; rintro e w1 ⟨rfl, hb⟩; have HB := hide hb; clear hb))
      go_ret
      exact ⟨rfl, HB.out⟩
    · have q7 := q6 c
      have q8 : decide (A ≤ s) = true := by simp; omega
      have q9 : decide (s < A) = false := by simp [c]
      subst q7
      clear q5 q6 q4 c
      have K := hide (works_calls hT)
      have HB := hide (Below.refl W.heap.size W)
      clear hT
      go_enter Tryd.func5, Tryd.ntmps5
      go_wp2_with (first | (with_reducible refine (CW.out _).mono ?_; rintro e w1 ⟨rfl, rfl⟩) | (with_reducible refine (Oa.out _).mono ?_; rintro e w1 ⟨rfl, rfl⟩) | (with_reducible refine (Ob.out _).mono ?_; rintro e w1 ⟨rfl, rfl⟩) | (with_reducible refine (OM.out _).mono ?_; rintro e w1 ⟨rfl, rfl⟩) | (with_reducible refine (C1.out _ HB.out).mono ?_; rintro e w1 ⟨rfl, hb⟩; have HB := hide hb; clear hb) | (with_reducible refine (C2.out _ HB.out).mono ?_; rintro e w1 ⟨rfl, hb⟩; have HB := hide hb; clear hb) | (with_reducible refine (C3.out _ HB.out).mono ?_; rintro e w1 ⟨rfl, hb⟩; have HB := hide hb; clear hb) | (with_reducible refine (C4.out _ HB.out).mono ?_; rintro e w1 ⟨rfl, hb⟩; have HB := hide hb; clear hb) | (with_reducible refine (C5.out _ HB.out).mono ?_; rintro e w1 ⟨rfl, hb⟩; have HB := hide hb; clear hb) | (with_reducible refine (C6.out _ HB.out).mono ?_; rintro e w1 ⟨rfl, hb⟩; have HB := hide hb; clear hb) | (with_reducible refine (T1.out _ HB.out).mono ?_; rintro e w1 ⟨rfl, hb⟩; have HB := hide hb; clear hb) | (with_reducible refine (T2.out _ HB.out).mono ?_; rintro e w1 ⟨rfl, hb⟩; have HB := hide hb; clear hb) | (with_reducible refine (T3.out _ HB.out).mono ?_; rintro e w1 ⟨rfl, hb⟩; have HB := hide hb; clear hb) | (with_reducible refine (T4.out _ HB.out).mono ?_; rintro e w1 ⟨rfl, hb⟩; have HB := hide hb; clear hb) | (with_reducible refine (K.out _ HB.out).mono ?_; rintro e w1 ⟨rfl, hb⟩; have HB := hide hb; clear hb))
      go_ret
      exact ⟨rfl, HB.out⟩
  · have e : min x y = x := by omega
    rw [e, ca] at C6
    have t1 : decide (x < y) = false := by simp; omega
    have t2 : (A == B) = true := by simp; exact inj t
    have t3 : decide (y < x) = false := by simp; omega
    have t4 : decide (y ≤ x) = true := by simp; omega
    rw [t1] at T1
    rw [t2] at T2
    rw [t3] at T3
    rw [t4] at T4
    clear t e fun_ inj ca cb t1 t3 t4
    by_cases c : s < A
    · have q7 := q5 c
      have q8 : decide (A ≤ s) = false := by simp; omega
      have q9 : decide (s < A) = true := by simp [c]
      subst q7
      clear q5 q6 q4 c
      have K := hide (works_calls hT)
      have HB := hide (Below.refl W.heap.size W)
      clear hT
      go_enter Tryd.func5, Tryd.ntmps5
      go_wp2_with (first | (with_reducible refine (CW.out _).mono ?_; rintro e w1 ⟨rfl, rfl⟩) | (with_reducible refine (Oa.out _).mono ?_; rintro e w1 ⟨rfl, rfl⟩) | (with_reducible refine (Ob.out _).mono ?_; rintro e w1 ⟨rfl, rfl⟩) | (with_reducible refine (OM.out _).mono ?_; rintro e w1 ⟨rfl, rfl⟩) | (with_reducible refine (C1.out _ HB.out).mono ?_; rintro e w1 ⟨rfl, hb⟩; have HB := hide hb; clear hb) | (with_reducible refine (C2.out _ HB.out).mono ?_; rintro e w1 ⟨rfl, hb⟩; have HB := hide hb; clear hb) | (with_reducible refine (C3.out _ HB.out).mono ?_; rintro e w1 ⟨rfl, hb⟩; have HB := hide hb; clear hb) | (with_reducible refine (C4.out _ HB.out).mono ?_; rintro e w1 ⟨rfl, hb⟩; have HB := hide hb; clear hb) | (with_reducible refine (C5.out _ HB.out).mono ?_; rintro e w1 ⟨rfl, hb⟩; have HB := hide hb; clear hb) | (with_reducible refine (C6.out _ HB.out).mono ?_; rintro e w1 ⟨rfl, hb⟩; have HB := hide hb; clear hb) | (with_reducible refine (T1.out _ HB.out).mono ?_; rintro e w1 ⟨rfl, hb⟩; have HB := hide hb; clear hb) | (with_reducible refine (T2.out _ HB.out).mono ?_; rintro e w1 ⟨rfl, hb⟩; have HB := hide hb; clear hb) | (with_reducible refine (T3.out _ HB.out).mono ?_; rintro e w1 ⟨rfl, hb⟩; have HB := hide hb; clear hb) | (with_reducible refine (T4.out _ HB.out).mono ?_; rintro e w1 ⟨rfl, hb⟩; have HB := hide hb; clear hb) | (with_reducible refine (K.out _ HB.out).mono ?_; rintro e w1 ⟨rfl, hb⟩; have HB := hide hb; clear hb))
      go_ret
      exact ⟨rfl, HB.out⟩
    · have q7 := q6 c
      have q8 : decide (A ≤ s) = true := by simp; omega
      have q9 : decide (s < A) = false := by simp [c]
      subst q7
      clear q5 q6 q4 c
      have K := hide (works_calls hT)
      have HB := hide (Below.refl W.heap.size W)
      clear hT
      go_enter Tryd.func5, Tryd.ntmps5
      go_wp2_with (first | (with_reducible refine (CW.out _).mono ?_; rintro e w1 ⟨rfl, rfl⟩) | (with_reducible refine (Oa.out _).mono ?_; rintro e w1 ⟨rfl, rfl⟩) | (with_reducible refine (Ob.out _).mono ?_; rintro e w1 ⟨rfl, rfl⟩) | (with_reducible refine (OM.out _).mono ?_; rintro e w1 ⟨rfl, rfl⟩) | (with_reducible refine (C1.out _ HB.out).mono ?_; rintro e w1 ⟨rfl, hb⟩; have HB := hide hb; clear hb) | (with_reducible refine (C2.out _ HB.out).mono ?_; rintro e w1 ⟨rfl, hb⟩; have HB := hide hb; clear hb) | (with_reducible refine (C3.out _ HB.out).mono ?_; rintro e w1 ⟨rfl, hb⟩; have HB := hide hb; clear hb) | (with_reducible refine (C4.out _ HB.out).mono ?_; rintro e w1 ⟨rfl, hb⟩; have HB := hide hb; clear hb) | (with_reducible refine (C5.out _ HB.out).mono ?_; rintro e w1 ⟨rfl, hb⟩; have HB := hide hb; clear hb) | (with_reducible refine (C6.out _ HB.out).mono ?_; rintro e w1 ⟨rfl, hb⟩; have HB := hide hb; clear hb) | (with_reducible refine (T1.out _ HB.out).mono ?_; rintro e w1 ⟨rfl, hb⟩; have HB := hide hb; clear hb) | (with_reducible refine (T2.out _ HB.out).mono ?_; rintro e w1 ⟨rfl, hb⟩; have HB := hide hb; clear hb) | (with_reducible refine (T3.out _ HB.out).mono ?_; rintro e w1 ⟨rfl, hb⟩; have HB := hide hb; clear hb) | (with_reducible refine (T4.out _ HB.out).mono ?_; rintro e w1 ⟨rfl, hb⟩; have HB := hide hb; clear hb) | (with_reducible refine (K.out _ HB.out).mono ?_; rintro e w1 ⟨rfl, hb⟩; have HB := hide hb; clear hb))
      go_ret
      exact ⟨rfl, HB.out⟩
  · have e : min x y = y := by omega
    rw [e, cb] at C6
    have t5 : (B == A) = false := by simp; exact fun h => by have := fun_ h.symm; omega
    have t1 : decide (x < y) = false := by simp; omega
    have t2 : (A == B) = false := by simp; exact fun h => by have := fun_ h; omega
    have t3 : decide (y < x) = true := by simp; omega
    have t4 : decide (y ≤ x) = true := by simp; omega
    rw [t1] at T1
    rw [t2] at T2
    rw [t3] at T3
    rw [t4] at T4
    clear t e fun_ inj ca cb t1 t3 t4
    by_cases c : s < A
    · have q7 := q5 c
      have q8 : decide (A ≤ s) = false := by simp; omega
      have q9 : decide (s < A) = true := by simp [c]
      subst q7
      clear q5 q6 q4 c
      have K := hide (works_calls hT)
      have HB := hide (Below.refl W.heap.size W)
      clear hT
      go_enter Tryd.func5, Tryd.ntmps5
      go_wp2_with (first | (with_reducible refine (CW.out _).mono ?_; rintro e w1 ⟨rfl, rfl⟩) | (with_reducible refine (Oa.out _).mono ?_; rintro e w1 ⟨rfl, rfl⟩) | (with_reducible refine (Ob.out _).mono ?_; rintro e w1 ⟨rfl, rfl⟩) | (with_reducible refine (OM.out _).mono ?_; rintro e w1 ⟨rfl, rfl⟩) | (with_reducible refine (C1.out _ HB.out).mono ?_; rintro e w1 ⟨rfl, hb⟩; have HB := hide hb; clear hb) | (with_reducible refine (C2.out _ HB.out).mono ?_; rintro e w1 ⟨rfl, hb⟩; have HB := hide hb; clear hb) | (with_reducible refine (C3.out _ HB.out).mono ?_; rintro e w1 ⟨rfl, hb⟩; have HB := hide hb; clear hb) | (with_reducible refine (C4.out _ HB.out).mono ?_; rintro e w1 ⟨rfl, hb⟩; have HB := hide hb; clear hb) | (with_reducible refine (C5.out _ HB.out).mono ?_; rintro e w1 ⟨rfl, hb⟩; have HB := hide hb; clear hb) | (with_reducible refine (C6.out _ HB.out).mono ?_; rintro e w1 ⟨rfl, hb⟩; have HB := hide hb; clear hb) | (with_reducible refine (T1.out _ HB.out).mono ?_; rintro e w1 ⟨rfl, hb⟩; have HB := hide hb; clear hb) | (with_reducible refine (T2.out _ HB.out).mono ?_; rintro e w1 ⟨rfl, hb⟩; have HB := hide hb; clear hb) | (with_reducible refine (T3.out _ HB.out).mono ?_; rintro e w1 ⟨rfl, hb⟩; have HB := hide hb; clear hb) | (with_reducible refine (T4.out _ HB.out).mono ?_; rintro e w1 ⟨rfl, hb⟩; have HB := hide hb; clear hb) | (with_reducible refine (K.out _ HB.out).mono ?_; rintro e w1 ⟨rfl, hb⟩; have HB := hide hb; clear hb))
      go_ret
      exact ⟨rfl, HB.out⟩
    · have q7 := q6 c
      have q8 : decide (A ≤ s) = true := by simp; omega
      have q9 : decide (s < A) = false := by simp [c]
      subst q7
      clear q5 q6 q4 c
      have K := hide (works_calls hT)
      have HB := hide (Below.refl W.heap.size W)
      clear hT
      go_enter Tryd.func5, Tryd.ntmps5
      go_wp2_with (first | (with_reducible refine (CW.out _).mono ?_; rintro e w1 ⟨rfl, rfl⟩) | (with_reducible refine (Oa.out _).mono ?_; rintro e w1 ⟨rfl, rfl⟩) | (with_reducible refine (Ob.out _).mono ?_; rintro e w1 ⟨rfl, rfl⟩) | (with_reducible refine (OM.out _).mono ?_; rintro e w1 ⟨rfl, rfl⟩) | (with_reducible refine (C1.out _ HB.out).mono ?_; rintro e w1 ⟨rfl, hb⟩; have HB := hide hb; clear hb) | (with_reducible refine (C2.out _ HB.out).mono ?_; rintro e w1 ⟨rfl, hb⟩; have HB := hide hb; clear hb) | (with_reducible refine (C3.out _ HB.out).mono ?_; rintro e w1 ⟨rfl, hb⟩; have HB := hide hb; clear hb) | (with_reducible refine (C4.out _ HB.out).mono ?_; rintro e w1 ⟨rfl, hb⟩; have HB := hide hb; clear hb) | (with_reducible refine (C5.out _ HB.out).mono ?_; rintro e w1 ⟨rfl, hb⟩; have HB := hide hb; clear hb) | (with_reducible refine (C6.out _ HB.out).mono ?_; rintro e w1 ⟨rfl, hb⟩; have HB := hide hb; clear hb) | (with_reducible refine (T1.out _ HB.out).mono ?_; rintro e w1 ⟨rfl, hb⟩; have HB := hide hb; clear hb) | (with_reducible refine (T2.out _ HB.out).mono ?_; rintro e w1 ⟨rfl, hb⟩; have HB := hide hb; clear hb) | (with_reducible refine (T3.out _ HB.out).mono ?_; rintro e w1 ⟨rfl, hb⟩; have HB := hide hb; clear hb) | (with_reducible refine (T4.out _ HB.out).mono ?_; rintro e w1 ⟨rfl, hb⟩; have HB := hide hb; clear hb) | (with_reducible refine (K.out _ HB.out).mono ?_; rintro e w1 ⟨rfl, hb⟩; have HB := hide hb; clear hb))
      go_ret
      exact ⟨rfl, HB.out⟩
end Go.Proofs.YtlpjkmobmpcfiabDoor
