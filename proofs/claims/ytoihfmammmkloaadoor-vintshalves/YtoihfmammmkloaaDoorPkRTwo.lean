/-
  ZIntsRefs, ZIntsRefs2, ZIntsRTwo.
-/
import Derived.Test.YtoihfmammmkloaaDoorPkInts
import Derived.Test.YtoihfmammmkloaaDoorZIntsTwoP
/-
  The document's bits, moved, divided, held, oneOf, q15.
-/
set_option linter.unusedVariables false
set_option linter.unusedSimpArgs false
namespace Go.Proofs.YtoihfmammmkloaaDoor.Z
open Go.RowKit Ints

theorem nat_of {w : Nat} {a : Int} (ha : Of w a) : ∃ x : Nat, a = x ∧ x < 2 ^ w := by
  obtain ⟨x, rfl⟩ := Int.eq_ofNat_of_zero_le ha.1
  exact ⟨x, rfl, by exact_mod_cast ha.2⟩

theorem pow64 {k : Nat} (h : k < 64) : (2 : Nat) ^ k < 18446744073709551616 := (Nat.pow_lt_pow_right (a := 2) (by decide) h : 2 ^ k < 2 ^ 64)

/-- Bit j of a, as the machine takes it. -/
theorem and_bit (x : Nat) (hx : x < 18446744073709551616) (j : Nat) : bits .and .u64 ((x : Int) / 2 ^ j) 1 = (bit x j : Int) := by
  have e : (x : Int) / 2 ^ j = ((x / 2 ^ j : Nat) : Int) := by simp
  have h := bits_and_u64_nat (x / 2 ^ j) 1 (Nat.lt_of_le_of_lt (Nat.div_le_self _ _) hx) (by decide)
  rw [e]
  refine h.trans ?_
  rw [show (1 : Nat) = 2 ^ 1 - 1 from rfl, Nat.and_two_pow_sub_one_eq_mod]
  rfl

/-- Bit k put to those below it. -/
theorem or_step (S k : Nat) (hk : k < 64) (d : Nat) (hd : bit S k = d) : bits .or .u64 ((S % 2 ^ k : Nat) : Int) (IntKind.u64.wrap ((d : Int) * 2 ^ k)) = ((S % 2 ^ (k + 1) : Nat) : Int) := by
  have hp := pow64 hk
  have hd1 : d ≤ 1 := hd ▸ bit_le S k
  have hlt : S % 2 ^ k < 2 ^ k := Nat.mod_lt _ (Nat.two_pow_pos _)
  have hm : d * 2 ^ k < 18446744073709551616 := by
    have : d * 2 ^ k ≤ 1 * 2 ^ k := Nat.mul_le_mul_right _ hd1
    omega
  have e : IntKind.u64.wrap ((d : Int) * 2 ^ k) = ((2 ^ k * d : Nat) : Int) := by
    have : (d : Int) * 2 ^ k = ((2 ^ k * d : Nat) : Int) := by rw [Nat.mul_comm]; simp
    rw [this, IntKind.wrap_u64]
    rw [Nat.mul_comm] at hm
    omega
  rw [Nat.mul_comm] at hm
  rw [e, bits_or_u64_nat _ _ (by omega) hm, Nat.or_comm, ← Nat.two_pow_add_eq_or_of_lt hlt, mod_succ, hd, Nat.add_comm]

theorem or_step1 (S k : Nat) (hk : k < 64) (hd : bit S k = 1) : bits .or .u64 ((S % 2 ^ k : Nat) : Int) (IntKind.u64.wrap (2 ^ k)) = ((S % 2 ^ (k + 1) : Nat) : Int) := by
  have := or_step S k hk 1 hd
  simpa using this

theorem or_step0 (S k : Nat) (hk : k < 64) (hd : bit S k = 0) : bits .or .u64 ((S % 2 ^ k : Nat) : Int) 0 = ((S % 2 ^ (k + 1) : Nat) : Int) := by
  have := or_step S k hk 0 hd
  simp only [Int.natCast_zero, Int.zero_mul] at this
  rw [IntKind.wrap_u64] at this
  exact this

theorem step0 (S k : Nat) (hd : bit S k = 0) : S % 2 ^ (k + 1) = S % 2 ^ k := by rw [mod_succ, hd]; omega

theorem full {w S : Nat} (h : S < 2 ^ w) : S % 2 ^ w = S := Nat.mod_eq_of_lt h

set_option maxRecDepth 100000 in
set_option maxHeartbeats 2000000 in
theorem rbits_calls {w : Nat} (hw : IsW w) (op a b : Int) (ha : Of w a) (hb : Of w b) (S : Nat) (hS : S < 2 ^ w)
    (hop : (op = 8 ∧ S = a.toNat &&& b.toNat) ∨ (op = 9 ∧ S = a.toNat ||| b.toNat) ∨ (op = 10 ∧ S = a.toNat ^^^ b.toNat)) (W : World) :
    Calls Tryd.prog 81 #[.int .u8 op, .int .i64 (w : Int), .int .u64 a, .int .u64 b] W fun e W' => e = .returned (.int .u64 (S : Int)) ∧ W' = W := by
  have hle := hw.le
  have HA := hide (ha.lt64 hw)
  have HB := hide (hb.lt64 hw)
  obtain ⟨x, rfl, hx⟩ := nat_of ha
  obtain ⟨y, rfl, hy⟩ := nat_of hb
  simp only [Int.toNat_natCast] at hop
  have HF := hide (full hS)
  clear hw ha hb hx hy hS
  have HS : Hide ((op = 8 ∧ ∀ k, bit S k = bit x k * bit y k) ∨ (op = 9 ∧ ∀ k, bit S k = bit x k + bit y k - bit x k * bit y k) ∨ (op = 10 ∧ ∀ k, bit S k = (bit x k + bit y k) % 2)) := by
    refine hide ?_
    rcases hop with ⟨rfl, rfl⟩ | ⟨rfl, rfl⟩ | ⟨rfl, rfl⟩
    · exact .inl ⟨rfl, bit_and x y⟩
    · exact .inr (.inl ⟨rfl, bit_or x y⟩)
    · exact .inr (.inr ⟨rfl, bit_xor x y⟩)
  clear hop
  rcases HS.out with ⟨rfl, hbit⟩ | ⟨rfl, hbit⟩ | ⟨rfl, hbit⟩
  all_goals
    clear HS
    have HBit := hide hbit
    clear hbit
    go_enter Tryd.func81, Tryd.ntmps81
    go_wp2
    go_loop [9, 10] (fun x y => ∃ k : Nat, y = .int .i64 (k : Int) ∧ k ≤ w ∧ x = .int .u64 ((S % 2 ^ k : Nat) : Int)) (fun _ y => (w - (intOf y).toNat))
    case atStart => exact ⟨0, rfl, by omega, by simp [Nat.mod_one]⟩
    case round =>
      obtain ⟨k, rfl, hk, rfl⟩ := hrel
      by_cases c : k < w
      · have c' : (k : Int) < (w : Int) := by omega
        have hk64 : (k : Int) ≤ 64 := by omega
        have Ex := and_bit x (by have := HA.out; omega) k
        have Ey := and_bit y (by have := HB.out; omega) k
        have hbk := HBit.out k
        have lx := bit_le x k
        have ly := bit_le y k
        rcases (show bit x k = 0 ∨ bit x k = 1 by omega) with hx0 | hx0 <;> rcases (show bit y k = 0 ∨ bit y k = 1 by omega) with hy0 | hy0
        all_goals
          rw [hx0] at Ex hbk
          rw [hy0] at Ey hbk
          simp at Ex Ey hbk
          clear hx0 hy0 lx ly
          have HK := hide hbk
          have H0 := hide (or_step0 S k (by omega))
          have H1 := hide (or_step1 S k (by omega))
          have H2 := hide (step0 S k)
          clear hbk
          generalize ho : S % 2 ^ k = o at *
          have HO := hide ho
          clear ho
          go_wp2
          refine ⟨⟨k + 1, rfl, by omega, ?_⟩, by simp [intOf]; omega⟩
          first
            | (rw [H1.out HK.out]; done)
            | (rw [H2.out HK.out]; done)
      · have e : k = w := by omega
        subst e
        have c' : decide ((k : Int) < (k : Int)) = false := by simp
        generalize ho : S % 2 ^ k = o at *
        go_wp2
        go_ret
        refine ⟨?_, rfl⟩
        have := HF.out
        rw [this]; rfl

/-- Where bit k of the answer comes from: 'none', or a bit of a. -/
def src (op w n k : Nat) : Option Nat :=
  match op with
  | 11 => if n ≤ k then some (k - n) else none
  | 12 => if k + n < w then some (k + n) else none
  | 13 => if k + n < w then some (k + n) else some (w - 1)
  | 14 => some ((k + w - n) % w)
  | _ => some ((k + n) % w)

def srcBit (x : Nat) : Option Nat → Nat
  | none => 0
  | some j => bit x j

set_option maxRecDepth 100000 in
set_option maxHeartbeats 2000000 in
theorem rmoved_calls {w : Nat} (hw : IsW w) (op : Nat) (a b : Int) (ha : Of w a) (hb : Of w b) (S : Nat) (hS : S < 2 ^ w) (hop : op = 11 ∨ op = 12 ∨ op = 13 ∨ op = 14 ∨ op = 15)
    (hbit : ∀ k, k < w → bit S k = srcBit a.toNat (src op w (sh w b) k)) (W : World) :
    Calls Tryd.prog 82 #[.int .u8 (op : Int), .int .i64 (w : Int), .int .u64 a, .int .u64 b] W fun e W' => e = .returned (.int .u64 (S : Int)) ∧ W' = W := by
  have E := sh_eq hw hb.1
  have hlt := sh_lt hw b
  have hle := hw.le
  have hpos := hw.pos
  have E0 : ¬ IntKind.u64.wrap (w : Int) = 0 := by rw [IntKind.wrap_u64]; omega
  have E1 : IntKind.u64.wrap (w : Int) = (w : Int) := by rw [IntKind.wrap_u64]; omega
  rw [E1] at E E0
  have HA := hide (ha.lt64 hw)
  obtain ⟨x, rfl, hx⟩ := nat_of ha
  simp only [Int.toNat_natCast] at hbit
  have HF := hide (full hS)
  clear ha hb hx hS hw
  generalize sh w b = n at *
  have E2 : wrap64 (n : Int) = (n : Int) := by unfold wrap64; omega
  have hn1 : (n : Int) ≤ 64 := by omega
  have HBit := hide hbit
  clear hbit
  rcases hop with rfl | rfl | rfl | rfl | rfl
  all_goals
    simp only [show ((11 : Nat) : Int) = 11 from rfl, show ((12 : Nat) : Int) = 12 from rfl, show ((13 : Nat) : Int) = 13 from rfl, show ((14 : Nat) : Int) = 14 from rfl, show ((15 : Nat) : Int) = 15 from rfl]
    go_enter Tryd.func82, Tryd.ntmps82
    go_wp2
    go_loop [10, 11] (fun x y => ∃ k : Nat, y = .int .i64 (k : Int) ∧ k ≤ w ∧ x = .int .u64 ((S % 2 ^ k : Nat) : Int)) (fun _ y => (w - (intOf y).toNat))
    case atStart => exact ⟨0, rfl, by omega, by simp [Nat.mod_one]⟩
    case round =>
      obtain ⟨k, rfl, hk, rfl⟩ := hrel
      by_cases c : k < w
      · have c' : (k : Int) < (w : Int) := by omega
        have hk64 : (k : Int) ≤ 64 := by omega
        have HK := hide (HBit.out k c)
        have H0 := hide (or_step0 S k (by omega))
        have HD := hide (or_step S k (by omega))
        have HX := hide (and_bit x (by have := HA.out; omega))
        generalize ho : S % 2 ^ k = o at *
        have HO := hide ho
        clear ho
        go_wp2
        all_goals
          first
            | (exfalso
               have hwi : (0 : Int) < (w : Int) := by omega
               have m1 := Int.emod_lt_of_pos ((k : Int) + (w : Int) - (n : Int)) hwi
               have m2 := Int.emod_nonneg ((k : Int) + (w : Int) - (n : Int)) (show (w : Int) ≠ 0 by omega)
               have m3 := Int.emod_lt_of_pos ((k : Int) + (n : Int)) hwi
               have m4 := Int.emod_nonneg ((k : Int) + (n : Int)) (show (w : Int) ≠ 0 by omega)
               omega)
            | (refine ⟨⟨k + 1, rfl, by omega, ?_⟩, by simp [intOf]; omega⟩
               have hs := HK.out
               first
                 | (rw [HX.out, HD.out _ (hs.trans (by simp only [src]; first | rfl | (rw [if_pos (by omega)]; rfl) | (rw [if_neg (by omega)]; rfl)))]; done)
                 | (rw [H0.out (hs.trans (by simp only [src]; first | rfl | (rw [if_pos (by omega)]; rfl) | (rw [if_neg (by omega)]; rfl)))]; done))
      · have e : k = w := by omega
        subst e
        have c' : decide ((k : Int) < (k : Int)) = false := by simp
        generalize ho : S % 2 ^ k = o at *
        go_wp2
        go_ret
        refine ⟨?_, rfl⟩
        have := HF.out
        rw [this]; rfl
end Go.Proofs.YtoihfmammmkloaaDoor.Z
/-
  The document's divided, held, oneOf, q15.
-/
set_option linter.unusedVariables false
set_option linter.unusedSimpArgs false
namespace Go.Proofs.YtoihfmammmkloaaDoor.Z
open Go.RowKit Ints

theorem rem_neg1 {w : Nat} {a b : Int} (h : wo w b = -1) : remS w a b = 0 := by
  unfold remS
  rw [h, Int.tmod_neg, Int.tmod_one]
  unfold cutI
  simp

set_option maxRecDepth 100000 in
set_option maxHeartbeats 2000000 in
theorem divided_zero {w : Nat} (hw : IsW w) (op a : Int) (ha : Of w a) (hb : Of w 0) (W : World) :
    Calls Tryd.prog 80 #[.int .u8 op, .int .i64 (w : Int), .int .u64 a, .int .u64 0] W fun e W' => e = .returned (.tuple #[.int .u64 0, .int .i64 6]) ∧ W' = W := by
  have CA := hide (rworth_calls hw a ha)
  have CB := hide (rworth_calls hw 0 hb)
  clear ha hb
  go_enter Tryd.func80, Tryd.ntmps80
  go_wp2_with (first | (with_reducible refine (CA.out _).mono ?_; rintro e w1 ⟨rfl, rfl⟩) | (with_reducible refine (CB.out _).mono ?_; rintro e w1 ⟨rfl, rfl⟩))
  refine bodyPost_ret (v := .tuple #[.int .u64 0, .int .i64 6]) (by simp [results, Tryd.results80, go_sem]) rfl ?_
  exact ⟨rfl, rfl⟩

set_option maxRecDepth 100000 in
set_option maxHeartbeats 2000000 in
theorem divided_4 {w : Nat} (hw : IsW w) (a b : Int) (ha : Of w a) (hb : Of w b) (c : ¬ b = 0) (W : World) :
    Calls Tryd.prog 80 #[.int .u8 4, .int .i64 (w : Int), .int .u64 a, .int .u64 b] W fun e W' => e = .returned (.tuple #[.int .u64 (a / b), .int .i64 0]) ∧ W' = W := by
  have CA := hide (rworth_calls hw a ha)
  have CB := hide (rworth_calls hw b hb)
  have E : IntKind.u64.wrap (a.tdiv b) = a / b := by
    rw [Int.tdiv_eq_ediv_of_nonneg ha.1, IntKind.wrap_u64]
    have h1 := Int.ediv_nonneg ha.1 hb.1
    have h2 := Int.ediv_le_self b ha.1
    have h3 := ha.lt64 hw
    omega
  clear ha hb
  go_enter Tryd.func80, Tryd.ntmps80
  go_wp2_with (first | (with_reducible refine (CA.out _).mono ?_; rintro e w1 ⟨rfl, rfl⟩) | (with_reducible refine (CB.out _).mono ?_; rintro e w1 ⟨rfl, rfl⟩))
  refine bodyPost_ret (v := .tuple #[.int .u64 (a / b), .int .i64 0]) (by simp [results, Tryd.results80, go_sem]) rfl ?_
  exact ⟨rfl, rfl⟩

set_option maxRecDepth 100000 in
set_option maxHeartbeats 2000000 in
theorem divided_5 {w : Nat} (hw : IsW w) (a b : Int) (ha : Of w a) (hb : Of w b) (c : ¬ b = 0) (W : World) :
    Calls Tryd.prog 80 #[.int .u8 5, .int .i64 (w : Int), .int .u64 a, .int .u64 b] W fun e W' => e = .returned (.tuple #[.int .u64 (a % b), .int .i64 0]) ∧ W' = W := by
  have CA := hide (rworth_calls hw a ha)
  have CB := hide (rworth_calls hw b hb)
  have E : a.tmod b = a % b := Int.tmod_eq_emod_of_nonneg ha.1
  clear ha hb
  go_enter Tryd.func80, Tryd.ntmps80
  go_wp2_with (first | (with_reducible refine (CA.out _).mono ?_; rintro e w1 ⟨rfl, rfl⟩) | (with_reducible refine (CB.out _).mono ?_; rintro e w1 ⟨rfl, rfl⟩))
  refine bodyPost_ret (v := .tuple #[.int .u64 (a % b), .int .i64 0]) (by simp [results, Tryd.results80, go_sem]) rfl ?_
  exact ⟨rfl, rfl⟩

set_option maxRecDepth 100000 in
set_option maxHeartbeats 2000000 in
theorem divided_7 {w : Nat} (hw : IsW w) (a b : Int) (ha : Of w a) (hb : Of w b) (c : ¬ b = 0) (W : World) :
    Calls Tryd.prog 80 #[.int .u8 7, .int .i64 (w : Int), .int .u64 a, .int .u64 b] W fun e W' => e = .returned (.tuple #[.int .u64 (remS w a b), .int .i64 0]) ∧ W' = W := by
  have CA := hide (rworth_calls hw a ha)
  have CB := hide (rworth_calls hw b hb)
  have CN := hide (@number_calls w hw)
  have hy : ¬ wo w b = 0 := fun h => c ((wo_zero hw hb).1 h)
  clear ha hb
  by_cases cy : wo w b = -1
  · have R := hide (rem_neg1 (a := a) cy)
    go_enter Tryd.func80, Tryd.ntmps80
    go_wp2_with (first | (with_reducible refine (CA.out _).mono ?_; rintro e w1 ⟨rfl, rfl⟩) | (with_reducible refine (CB.out _).mono ?_; rintro e w1 ⟨rfl, rfl⟩))
    refine bodyPost_ret (v := .tuple #[.int .u64 0, .int .i64 0]) (by simp [results, Tryd.results80, go_sem]) rfl ?_
    exact ⟨by rw [R.out], rfl⟩
  · have R := hide (show cutI w ((wo w a).tmod (wo w b)) = remS w a b from rfl)
    go_enter Tryd.func80, Tryd.ntmps80
    go_wp2_with (first | (with_reducible refine (CA.out _).mono ?_; rintro e w1 ⟨rfl, rfl⟩) | (with_reducible refine (CB.out _).mono ?_; rintro e w1 ⟨rfl, rfl⟩) | (with_reducible refine (CN.out _ _).mono ?_; rintro e w1 ⟨rfl, rfl⟩))
    refine bodyPost_ret (v := .tuple #[.int .u64 (cutI w ((wo w a).tmod (wo w b))), .int .i64 0]) (by simp [results, Tryd.results80, go_sem]) rfl ?_
    exact ⟨by rw [R.out], rfl⟩

set_option maxRecDepth 100000 in
set_option maxHeartbeats 2000000 in
theorem divided_6t {w : Nat} (hw : IsW w) (a b : Int) (ha : Of w a) (hb : Of w b) (c : ¬ b = 0) (c2 : traps w a b = true) (W : World) :
    Calls Tryd.prog 80 #[.int .u8 6, .int .i64 (w : Int), .int .u64 a, .int .u64 b] W fun e W' => e = .returned (.tuple #[.int .u64 0, .int .i64 6]) ∧ W' = W := by
  have CA := hide (rworth_calls hw a ha)
  have CB := hide (rworth_calls hw b hb)
  have CL := hide (@rleast_calls w hw)
  unfold traps at c2
  simp only [Bool.and_eq_true, decide_eq_true_eq] at c2
  obtain ⟨cx, cy⟩ := c2
  rw [cx] at CA
  rw [cy] at CB
  clear ha hb cx cy
  go_enter Tryd.func80, Tryd.ntmps80
  go_wp2_with (first | (with_reducible refine (CA.out _).mono ?_; rintro e w1 ⟨rfl, rfl⟩) | (with_reducible refine (CB.out _).mono ?_; rintro e w1 ⟨rfl, rfl⟩) | (with_reducible refine (CL.out _).mono ?_; rintro e w1 ⟨rfl, rfl⟩))
  refine bodyPost_ret (v := .tuple #[.int .u64 0, .int .i64 6]) (by simp [results, Tryd.results80, go_sem]) rfl ?_
  exact ⟨rfl, rfl⟩

set_option maxRecDepth 100000 in
set_option maxHeartbeats 2000000 in
theorem divided_6n {w : Nat} (hw : IsW w) (a b : Int) (ha : Of w a) (hb : Of w b) (c : ¬ b = 0) (c2 : traps w a b = false) (W : World) :
    Calls Tryd.prog 80 #[.int .u8 6, .int .i64 (w : Int), .int .u64 a, .int .u64 b] W fun e W' => e = .returned (.tuple #[.int .u64 (divS w a b), .int .i64 0]) ∧ W' = W := by
  have CA := hide (rworth_calls hw a ha)
  have CB := hide (rworth_calls hw b hb)
  have CL := hide (@rleast_calls w hw)
  have CN := hide (@number_calls w hw)
  have hy : ¬ wo w b = 0 := fun h => c ((wo_zero hw hb).1 h)
  have R := hide (show cutI w (wrap64 ((wo w a).tdiv (wo w b))) = divS w a b by rw [cut_w64 hw]; rfl)
  unfold traps at c2
  clear ha hb
  generalize wo w a = x at *
  generalize wo w b = y at *
  by_cases cx : x = lo w
  · have cy : (y == -1) = false := by
      subst cx
      simpa using c2
    have cx' : (x == lo w) = true := by simp [cx]
    clear cx c2
    go_enter Tryd.func80, Tryd.ntmps80
    go_wp2_with (first | (with_reducible refine (CA.out _).mono ?_; rintro e w1 ⟨rfl, rfl⟩) | (with_reducible refine (CB.out _).mono ?_; rintro e w1 ⟨rfl, rfl⟩) | (with_reducible refine (CL.out _).mono ?_; rintro e w1 ⟨rfl, rfl⟩) | (with_reducible refine (CN.out _ _).mono ?_; rintro e w1 ⟨rfl, rfl⟩))
    refine bodyPost_ret (v := .tuple #[.int .u64 (cutI w (wrap64 (x.tdiv y))), .int .i64 0]) (by simp [results, Tryd.results80, go_sem]) rfl ?_
    exact ⟨by rw [R.out], rfl⟩
  · have cx' : (x == lo w) = false := by simp [cx]
    clear c2 cx
    go_enter Tryd.func80, Tryd.ntmps80
    go_wp2_with (first | (with_reducible refine (CA.out _).mono ?_; rintro e w1 ⟨rfl, rfl⟩) | (with_reducible refine (CB.out _).mono ?_; rintro e w1 ⟨rfl, rfl⟩) | (with_reducible refine (CL.out _).mono ?_; rintro e w1 ⟨rfl, rfl⟩) | (with_reducible refine (CN.out _ _).mono ?_; rintro e w1 ⟨rfl, rfl⟩))
    refine bodyPost_ret (v := .tuple #[.int .u64 (cutI w (wrap64 (x.tdiv y))), .int .i64 0]) (by simp [results, Tryd.results80, go_sem]) rfl ?_
    exact ⟨by rw [R.out], rfl⟩

/-! held -/

theorem addH_of (w : Nat) (a b z : Int) (h : z = min (max (wo w a + wo w b) (lo w)) (hi w)) : cutI w z = addH w a b := by rw [h]; rfl
theorem subH_of (w : Nat) (a b z : Int) (h : z = min (max (wo w a - wo w b) (lo w)) (hi w)) : cutI w z = subH w a b := by rw [h]; rfl

set_option maxRecDepth 100000 in
set_option maxHeartbeats 2000000 in
theorem held_16 {w : Nat} (hw : IsW w) (a b : Int) (ha : Of w a) (hb : Of w b) (W : World) :
    Calls Tryd.prog 83 #[.int .u8 16, .int .i64 (w : Int), .int .u64 a, .int .u64 b] W fun e W' => e = .returned (.int .u64 (min (a + b) (mo w))) ∧ W' = W := by
  have CA := hide (rworth_calls hw a ha)
  have CB := hide (rworth_calls hw b hb)
  have CM := hide (@rmost_calls w hw)
  have G := hide (show 0 ≤ a ∧ 0 ≤ b ∧ a ≤ mo w ∧ b ≤ mo w ∧ mo w < 18446744073709551616 from ⟨ha.1, hb.1, mo_ge ha, mo_ge hb, by rcases hw with rfl | rfl | rfl | rfl <;> decide⟩)
  clear ha hb
  go_enter Tryd.func83, Tryd.ntmps83
  go_wp2_with (first | (with_reducible refine (CA.out _).mono ?_; rintro e w1 ⟨rfl, rfl⟩) | (with_reducible refine (CB.out _).mono ?_; rintro e w1 ⟨rfl, rfl⟩) | (with_reducible refine (CM.out _).mono ?_; rintro e w1 ⟨rfl, rfl⟩))
  all_goals
    go_ret
    refine ⟨congrArg (fun z => Ending.returned (.int .u64 z)) ?_, rfl⟩
    have := G.out
    try simp only [IntKind.wrap_u64] at *
    omega

set_option maxRecDepth 100000 in
set_option maxHeartbeats 2000000 in
theorem held_17 {w : Nat} (hw : IsW w) (a b : Int) (ha : Of w a) (hb : Of w b) (W : World) :
    Calls Tryd.prog 83 #[.int .u8 17, .int .i64 (w : Int), .int .u64 a, .int .u64 b] W fun e W' => e = .returned (.int .u64 (max (a - b) 0)) ∧ W' = W := by
  have CA := hide (rworth_calls hw a ha)
  have CB := hide (rworth_calls hw b hb)
  have G := hide (show 0 ≤ a ∧ 0 ≤ b ∧ a < 18446744073709551616 ∧ b < 18446744073709551616 from ⟨ha.1, hb.1, ha.lt64 hw, hb.lt64 hw⟩)
  clear ha hb
  go_enter Tryd.func83, Tryd.ntmps83
  go_wp2_with (first | (with_reducible refine (CA.out _).mono ?_; rintro e w1 ⟨rfl, rfl⟩) | (with_reducible refine (CB.out _).mono ?_; rintro e w1 ⟨rfl, rfl⟩))
  all_goals
    go_ret
    refine ⟨congrArg (fun z => Ending.returned (.int .u64 z)) ?_, rfl⟩
    have := G.out
    try simp only [IntKind.wrap_u64] at *
    omega

set_option maxRecDepth 100000 in
set_option maxHeartbeats 2000000 in
theorem held_18 {w : Nat} (hw : IsW w) (a b : Int) (ha : Of w a) (hb : Of w b) (W : World) :
    Calls Tryd.prog 83 #[.int .u8 18, .int .i64 (w : Int), .int .u64 a, .int .u64 b] W fun e W' => e = .returned (.int .u64 (addH w a b)) ∧ W' = W := by
  have CA := hide (rworth_calls hw a ha)
  have CB := hide (rworth_calls hw b hb)
  have CL := hide (@rleast_calls w hw)
  have CG := hide (@rgreatest_calls w hw)
  have CN := hide (@number_calls w hw)
  have G := hide (And.intro (wo_range hw ha) (And.intro (wo_range hw hb) (lohi hw)))
  have R := hide (addH_of w a b)
  clear ha hb
  generalize wo w a = x at *
  generalize wo w b = y at *
  go_enter Tryd.func83, Tryd.ntmps83
  go_wp2_with (first | (with_reducible refine (CA.out _).mono ?_; rintro e w1 ⟨rfl, rfl⟩) | (with_reducible refine (CB.out _).mono ?_; rintro e w1 ⟨rfl, rfl⟩) | (with_reducible refine (CL.out _).mono ?_; rintro e w1 ⟨rfl, rfl⟩) | (with_reducible refine (CG.out _).mono ?_; rintro e w1 ⟨rfl, rfl⟩) | (with_reducible refine (CN.out _ _).mono ?_; rintro e w1 ⟨rfl, rfl⟩))
  all_goals
    go_ret
    refine ⟨congrArg (fun z => Ending.returned (.int .u64 z)) ?_, rfl⟩
    have := G.out
    refine R.out _ ?_
    simp only [wrap64] at *
    omega

set_option maxRecDepth 100000 in
set_option maxHeartbeats 2000000 in
theorem held_19 {w : Nat} (hw : IsW w) (a b : Int) (ha : Of w a) (hb : Of w b) (W : World) :
    Calls Tryd.prog 83 #[.int .u8 19, .int .i64 (w : Int), .int .u64 a, .int .u64 b] W fun e W' => e = .returned (.int .u64 (subH w a b)) ∧ W' = W := by
  have CA := hide (rworth_calls hw a ha)
  have CB := hide (rworth_calls hw b hb)
  have CL := hide (@rleast_calls w hw)
  have CG := hide (@rgreatest_calls w hw)
  have CN := hide (@number_calls w hw)
  have G := hide (And.intro (wo_range hw ha) (And.intro (wo_range hw hb) (lohi hw)))
  have R := hide (subH_of w a b)
  clear ha hb
  generalize wo w a = x at *
  generalize wo w b = y at *
  go_enter Tryd.func83, Tryd.ntmps83
  go_wp2_with (first | (with_reducible refine (CA.out _).mono ?_; rintro e w1 ⟨rfl, rfl⟩) | (with_reducible refine (CB.out _).mono ?_; rintro e w1 ⟨rfl, rfl⟩) | (with_reducible refine (CL.out _).mono ?_; rintro e w1 ⟨rfl, rfl⟩) | (with_reducible refine (CG.out _).mono ?_; rintro e w1 ⟨rfl, rfl⟩) | (with_reducible refine (CN.out _ _).mono ?_; rintro e w1 ⟨rfl, rfl⟩))
  all_goals
    go_ret
    refine ⟨congrArg (fun z => Ending.returned (.int .u64 z)) ?_, rfl⟩
    have := G.out
    refine R.out _ ?_
    simp only [wrap64] at *
    omega

/-! the lesser, the greater -/

theorem cut_wo {w : Nat} (hw : IsW w) {a : Int} (ha : Of w a) : cutI w (wo w a) = a := by
  obtain ⟨h0, h1⟩ := ha
  rcases hw with rfl | rfl | rfl | rfl <;> simp only [wo, cutI, Nat.reduceSub, Int.reducePow] at h1 ⊢ <;> split <;> omega

set_option maxRecDepth 100000 in
set_option maxHeartbeats 2000000 in
theorem oneOf_calls {w : Nat} (hw : IsW w) (op a b : Int) (ha : Of w a) (hb : Of w b) (z : Int) (W : World)
    (hz : (op = 20 ∧ z = min a b) ∨ (op = 21 ∧ z = max a b) ∨ (op = 22 ∧ z = cutI w (min (wo w a) (wo w b))) ∨ (op = 23 ∧ z = cutI w (max (wo w a) (wo w b)))) :
    Calls Tryd.prog 84 #[.int .u8 op, .int .i64 (w : Int), .int .u64 a, .int .u64 b] W fun e W' => e = .returned (.int .u64 z) ∧ W' = W := by
  have CA := hide (rworth_calls hw a ha)
  have CB := hide (rworth_calls hw b hb)
  have KA := hide (cut_wo hw ha)
  have KB := hide (cut_wo hw hb)
  clear ha hb
  rcases hz with ⟨rfl, h⟩ | ⟨rfl, h⟩ | ⟨rfl, h⟩ | ⟨rfl, h⟩
  all_goals
    have HZ := hide h
    clear h
    generalize wo w a = x at *
    generalize wo w b = y at *
    go_enter Tryd.func84, Tryd.ntmps84
    go_wp2_with (first | (with_reducible refine (CA.out _).mono ?_; rintro e w1 ⟨rfl, rfl⟩) | (with_reducible refine (CB.out _).mono ?_; rintro e w1 ⟨rfl, rfl⟩))
    all_goals
      go_ret
      refine ⟨congrArg (fun z => Ending.returned (.int .u64 z)) ?_, rfl⟩
      have h := HZ.out
      have ka := KA.out
      have kb := KB.out
      try simp only [Bool.not_eq_eq_eq_not, Bool.not_true, Bool.not_false, decide_eq_false_iff_not, decide_eq_true_eq, Int.not_lt, Bool.not_eq_true, Bool.not_eq_false] at *
      first
        | omega
        | (rw [h, Int.min_eq_left (by omega), ka]; done)
        | (rw [h, Int.min_eq_right (by omega), kb]; done)
        | (rw [h, Int.max_eq_left (by omega), ka]; done)
        | (rw [h, Int.max_eq_right (by omega), kb]; done)

set_option maxRecDepth 100000 in
set_option maxHeartbeats 2000000 in
theorem rq15_calls (a b : Int) (ha : Of 16 a) (hb : Of 16 b) (W : World) :
    Calls Tryd.prog 85 #[.int .u64 a, .int .u64 b] W fun e W' => e = .returned (.int .u64 (q15I a b)) ∧ W' = W := by
  have h16 : IsW 16 := by simp [IsW]
  have CA := rworth_calls h16 a ha
  simp only [show ((16 : Nat) : Int) = 16 from rfl] at CA
  have CA := hide CA
  have CB := rworth_calls h16 b hb
  simp only [show ((16 : Nat) : Int) = 16 from rfl] at CB
  have CB := hide CB
  have CN := @number_calls 16 h16
  simp only [show ((16 : Nat) : Int) = 16 from rfl] at CN
  have CN := hide CN
  have p := prod_16 (wo_range h16 ha) (wo_range h16 hb)
  have E1 : wrap64 (wo 16 a * wo 16 b) = wo 16 a * wo 16 b := by unfold wrap64; omega
  have E2 : wrap64 (wo 16 a * wo 16 b + 16384) = wo 16 a * wo 16 b + 16384 := by unfold wrap64; omega
  clear p ha hb
  go_enter Tryd.func85, Tryd.ntmps85
  go_wp2_with (first | (with_reducible refine (CA.out _).mono ?_; rintro e w1 ⟨rfl, rfl⟩) | (with_reducible refine (CB.out _).mono ?_; rintro e w1 ⟨rfl, rfl⟩) | (with_reducible refine (CN.out _ _).mono ?_; rintro e w1 ⟨rfl, rfl⟩))
  go_ret
  exact ⟨rfl, rfl⟩
end Go.Proofs.YtoihfmammmkloaaDoor.Z
/-
  The document's Two, operator by operator (genrtwo.py wrote it).
-/
set_option linter.unusedVariables false
set_option linter.unusedSimpArgs false
namespace Go.Proofs.YtoihfmammmkloaaDoor.Z
open Go.RowKit Ints

theorem isW_of {w : Nat} (hw : IsW w) : isW (w : Int) = true := (isW_iff w).2 ⟨w, rfl, hw⟩

theorem toNat_lt {w : Nat} {a : Int} (ha : Of w a) : a.toNat < 2 ^ w := by
  obtain ⟨x, rfl, hx⟩ := nat_of ha
  exact hx

theorem shl_bits {w : Nat} (hw : IsW w) {a b : Int} (ha : Of w a) : ∃ S : Nat, shlI w a b = (S : Int) ∧ S < 2 ^ w ∧ ∀ k, k < w → bit S k = srcBit a.toNat (src 11 w (sh w b) k) := by
  obtain ⟨x, rfl, hx⟩ := nat_of ha
  refine ⟨x * 2 ^ sh w b % 2 ^ w, by unfold shlI cutI; simp, Nat.mod_lt _ (Nat.two_pow_pos _), fun k hk => ?_⟩
  rw [bit_mod _ _ _ hk]
  simp only [src, Int.toNat_natCast]
  split
  · next h => rw [bit_shl_hi _ _ _ h]; rfl
  · next h => rw [bit_shl_lo _ _ _ (by omega)]; rfl

theorem shr_bits {w : Nat} (hw : IsW w) {a b : Int} (ha : Of w a) : ∃ S : Nat, shrI w a b = (S : Int) ∧ S < 2 ^ w ∧ ∀ k, k < w → bit S k = srcBit a.toNat (src 12 w (sh w b) k) := by
  obtain ⟨x, rfl, hx⟩ := nat_of ha
  refine ⟨x / 2 ^ sh w b, by unfold shrI; simp, Nat.lt_of_le_of_lt (Nat.div_le_self _ _) hx, fun k hk => ?_⟩
  rw [bit_shr]
  simp only [src, Int.toNat_natCast]
  split
  · rfl
  · next h => rw [bit_high x w _ hx (by omega)]; rfl

theorem sar_bits {w : Nat} (hw : IsW w) {a b : Int} (ha : Of w a) : ∃ S : Nat, sarI w a b = (S : Int) ∧ S < 2 ^ w ∧ ∀ k, k < w → bit S k = srcBit a.toNat (src 13 w (sh w b) k) := by
  obtain ⟨x, rfl, hx⟩ := nat_of ha
  refine ⟨sar w x (sh w b), sar_int w x _ hw.pos hx (sh_lt hw b), sar_lt w x _ hx (sh_lt hw b), fun k hk => ?_⟩
  rw [bit_sar w x _ k hw.pos hx (sh_lt hw b) hk]
  simp only [src, Int.toNat_natCast]
  split <;> rfl

theorem rotl_bits {w : Nat} (hw : IsW w) {a b : Int} (ha : Of w a) : ∃ S : Nat, rotlI w a b = (S : Int) ∧ S < 2 ^ w ∧ ∀ k, k < w → bit S k = srcBit a.toNat (src 14 w (sh w b) k) := by
  obtain ⟨x, rfl, hx⟩ := nat_of ha
  have hl := sh_lt hw b
  refine ⟨rotl w x (sh w b), rfl, rotl_lt w x _ hx (by omega), fun k hk => ?_⟩
  rw [bit_rotl w x _ k hx (by omega) hk]
  simp only [src, Int.toNat_natCast]
  rw [show k + (w - sh w b) = k + w - sh w b by omega]
  rfl

theorem rotr_bits {w : Nat} (hw : IsW w) {a b : Int} (ha : Of w a) : ∃ S : Nat, rotrI w a b = (S : Int) ∧ S < 2 ^ w ∧ ∀ k, k < w → bit S k = srcBit a.toNat (src 15 w (sh w b) k) := by
  obtain ⟨x, rfl, hx⟩ := nat_of ha
  have hl := sh_lt hw b
  refine ⟨rotl w x (w - sh w b), rfl, rotl_lt w x _ hx (by omega), fun k hk => ?_⟩
  rw [bit_rotl w x _ k hx (by omega) hk]
  simp only [src, Int.toNat_natCast]
  rw [show w - (w - sh w b) = sh w b by omega]
  rfl

theorem mean_ref {a b : Int} (h0 : 0 ≤ a) (h1 : 0 ≤ b) (l0 : a < 18446744073709551616) (l1 : b < 18446744073709551616) :
    IntKind.u64.wrap (IntKind.u64.wrap (IntKind.u64.wrap (a / 2) + IntKind.u64.wrap (b / 2)) + (a % 2 + b % 2 + 1) / 2) = (a + b + 1) / 2 := by
  have e : ∀ n : Int, 0 ≤ n → n < 18446744073709551616 → IntKind.u64.wrap n = n := fun n x y => by rw [IntKind.wrap_u64]; omega
  rw [e (a / 2) (by omega) (by omega), e (b / 2) (by omega) (by omega), e (a / 2 + b / 2) (by omega) (by omega), e _ (by omega) (by omega)]
  omega

set_option maxRecDepth 100000 in
set_option maxHeartbeats 1000000 in
theorem rtwo_1 {w : Nat} (hw : IsW w) (a b : Int) (ha : Of w a) (hb : Of w b) (W : World) :
    Calls Tryd.prog 39 #[.int .u8 1, .int .i64 (w : Int), .int .u64 a, .int .u64 b] W fun e W' => e = .returned (pairV (two 1 w a b)) ∧ W' = W := by
  have CW := width_calls (w : Int)
  rw [isW_of hw] at CW
  have CW := hide CW
  have FA := rfits_calls hw a
  rw [decide_eq_true (mo_ge ha)] at FA
  have FA := hide FA
  have FB := rfits_calls hw b
  rw [decide_eq_true (mo_ge hb)] at FB
  have FB := hide FB
  have CM := hide (@rmost_calls w hw)
  have E := and_wrap hw (a + b)
  clear ha hb
  go_enter Tryd.func39, Tryd.ntmps39
  go_wp2_with (first | (with_reducible refine (CW.out _).mono ?_; rintro e w1 ⟨rfl, rfl⟩) | (with_reducible refine (FA.out _).mono ?_; rintro e w1 ⟨rfl, rfl⟩) | (with_reducible refine (FB.out _).mono ?_; rintro e w1 ⟨rfl, rfl⟩) | (with_reducible refine (CM.out _).mono ?_; rintro e w1 ⟨rfl, rfl⟩))
  skip
  refine bodyPost_ret (v := .tuple #[.int .u64 (cutI w (a + b)), .int .i64 0]) (by simp [results, Tryd.results39, go_sem]) rfl ?_
  exact ⟨rfl, rfl⟩

set_option maxRecDepth 100000 in
set_option maxHeartbeats 1000000 in
theorem rtwo_2 {w : Nat} (hw : IsW w) (a b : Int) (ha : Of w a) (hb : Of w b) (W : World) :
    Calls Tryd.prog 39 #[.int .u8 2, .int .i64 (w : Int), .int .u64 a, .int .u64 b] W fun e W' => e = .returned (pairV (two 2 w a b)) ∧ W' = W := by
  have CW := width_calls (w : Int)
  rw [isW_of hw] at CW
  have CW := hide CW
  have FA := rfits_calls hw a
  rw [decide_eq_true (mo_ge ha)] at FA
  have FA := hide FA
  have FB := rfits_calls hw b
  rw [decide_eq_true (mo_ge hb)] at FB
  have FB := hide FB
  have CM := hide (@rmost_calls w hw)
  have E := and_wrap hw (a - b)
  clear ha hb
  go_enter Tryd.func39, Tryd.ntmps39
  go_wp2_with (first | (with_reducible refine (CW.out _).mono ?_; rintro e w1 ⟨rfl, rfl⟩) | (with_reducible refine (FA.out _).mono ?_; rintro e w1 ⟨rfl, rfl⟩) | (with_reducible refine (FB.out _).mono ?_; rintro e w1 ⟨rfl, rfl⟩) | (with_reducible refine (CM.out _).mono ?_; rintro e w1 ⟨rfl, rfl⟩))
  skip
  refine bodyPost_ret (v := .tuple #[.int .u64 (cutI w (a - b)), .int .i64 0]) (by simp [results, Tryd.results39, go_sem]) rfl ?_
  exact ⟨rfl, rfl⟩

set_option maxRecDepth 100000 in
set_option maxHeartbeats 1000000 in
theorem rtwo_3 {w : Nat} (hw : IsW w) (a b : Int) (ha : Of w a) (hb : Of w b) (W : World) :
    Calls Tryd.prog 39 #[.int .u8 3, .int .i64 (w : Int), .int .u64 a, .int .u64 b] W fun e W' => e = .returned (pairV (two 3 w a b)) ∧ W' = W := by
  have CW := width_calls (w : Int)
  rw [isW_of hw] at CW
  have CW := hide CW
  have FA := rfits_calls hw a
  rw [decide_eq_true (mo_ge ha)] at FA
  have FA := hide FA
  have FB := rfits_calls hw b
  rw [decide_eq_true (mo_ge hb)] at FB
  have FB := hide FB
  have CM := hide (@rmost_calls w hw)
  have E := and_wrap hw (a * b)
  clear ha hb
  go_enter Tryd.func39, Tryd.ntmps39
  go_wp2_with (first | (with_reducible refine (CW.out _).mono ?_; rintro e w1 ⟨rfl, rfl⟩) | (with_reducible refine (FA.out _).mono ?_; rintro e w1 ⟨rfl, rfl⟩) | (with_reducible refine (FB.out _).mono ?_; rintro e w1 ⟨rfl, rfl⟩) | (with_reducible refine (CM.out _).mono ?_; rintro e w1 ⟨rfl, rfl⟩))
  skip
  refine bodyPost_ret (v := .tuple #[.int .u64 (cutI w (a * b)), .int .i64 0]) (by simp [results, Tryd.results39, go_sem]) rfl ?_
  exact ⟨rfl, rfl⟩

set_option maxRecDepth 100000 in
set_option maxHeartbeats 1000000 in
theorem rtwo_4z {w : Nat} (hw : IsW w) (a b : Int) (ha : Of w a) (hb : Of w b) (c : b = 0) (W : World) :
    Calls Tryd.prog 39 #[.int .u8 4, .int .i64 (w : Int), .int .u64 a, .int .u64 b] W fun e W' => e = .returned (pairV (two 4 w a b)) ∧ W' = W := by
  have CW := width_calls (w : Int)
  rw [isW_of hw] at CW
  have CW := hide CW
  have FA := rfits_calls hw a
  rw [decide_eq_true (mo_ge ha)] at FA
  have FA := hide FA
  have FB := rfits_calls hw b
  rw [decide_eq_true (mo_ge hb)] at FB
  have FB := hide FB
  have T : two 4 w a b = (0, 6) := by simp [two, c]
  rw [T]
  clear T
  subst c
  have D := hide (divided_zero hw 4 a ha hb)
  clear ha hb
  go_enter Tryd.func39, Tryd.ntmps39
  go_wp2_with (first | (with_reducible refine (CW.out _).mono ?_; rintro e w1 ⟨rfl, rfl⟩) | (with_reducible refine (FA.out _).mono ?_; rintro e w1 ⟨rfl, rfl⟩) | (with_reducible refine (FB.out _).mono ?_; rintro e w1 ⟨rfl, rfl⟩) | (with_reducible refine (D.out _).mono ?_; rintro e w1 ⟨rfl, rfl⟩))
  skip
  refine bodyPost_ret (v := .tuple #[.int .u64 0, .int .i64 6]) (by simp [results, Tryd.results39, go_sem]) rfl ?_
  exact ⟨rfl, rfl⟩

set_option maxRecDepth 100000 in
set_option maxHeartbeats 1000000 in
theorem rtwo_4n {w : Nat} (hw : IsW w) (a b : Int) (ha : Of w a) (hb : Of w b) (c : ¬ b = 0) (W : World) :
    Calls Tryd.prog 39 #[.int .u8 4, .int .i64 (w : Int), .int .u64 a, .int .u64 b] W fun e W' => e = .returned (pairV (two 4 w a b)) ∧ W' = W := by
  have CW := width_calls (w : Int)
  rw [isW_of hw] at CW
  have CW := hide CW
  have FA := rfits_calls hw a
  rw [decide_eq_true (mo_ge ha)] at FA
  have FA := hide FA
  have FB := rfits_calls hw b
  rw [decide_eq_true (mo_ge hb)] at FB
  have FB := hide FB
  have T : two 4 w a b = ((a / b), 0) := by simp [two, c]
  rw [T]
  clear T
  have D := hide (divided_4 hw a b ha hb c)
  clear ha hb
  go_enter Tryd.func39, Tryd.ntmps39
  go_wp2_with (first | (with_reducible refine (CW.out _).mono ?_; rintro e w1 ⟨rfl, rfl⟩) | (with_reducible refine (FA.out _).mono ?_; rintro e w1 ⟨rfl, rfl⟩) | (with_reducible refine (FB.out _).mono ?_; rintro e w1 ⟨rfl, rfl⟩) | (with_reducible refine (D.out _).mono ?_; rintro e w1 ⟨rfl, rfl⟩))
  skip
  refine bodyPost_ret (v := .tuple #[.int .u64 (a / b), .int .i64 0]) (by simp [results, Tryd.results39, go_sem]) rfl ?_
  exact ⟨rfl, rfl⟩

set_option maxRecDepth 100000 in
set_option maxHeartbeats 1000000 in
theorem rtwo_5z {w : Nat} (hw : IsW w) (a b : Int) (ha : Of w a) (hb : Of w b) (c : b = 0) (W : World) :
    Calls Tryd.prog 39 #[.int .u8 5, .int .i64 (w : Int), .int .u64 a, .int .u64 b] W fun e W' => e = .returned (pairV (two 5 w a b)) ∧ W' = W := by
  have CW := width_calls (w : Int)
  rw [isW_of hw] at CW
  have CW := hide CW
  have FA := rfits_calls hw a
  rw [decide_eq_true (mo_ge ha)] at FA
  have FA := hide FA
  have FB := rfits_calls hw b
  rw [decide_eq_true (mo_ge hb)] at FB
  have FB := hide FB
  have T : two 5 w a b = (0, 6) := by simp [two, c]
  rw [T]
  clear T
  subst c
  have D := hide (divided_zero hw 5 a ha hb)
  clear ha hb
  go_enter Tryd.func39, Tryd.ntmps39
  go_wp2_with (first | (with_reducible refine (CW.out _).mono ?_; rintro e w1 ⟨rfl, rfl⟩) | (with_reducible refine (FA.out _).mono ?_; rintro e w1 ⟨rfl, rfl⟩) | (with_reducible refine (FB.out _).mono ?_; rintro e w1 ⟨rfl, rfl⟩) | (with_reducible refine (D.out _).mono ?_; rintro e w1 ⟨rfl, rfl⟩))
  skip
  refine bodyPost_ret (v := .tuple #[.int .u64 0, .int .i64 6]) (by simp [results, Tryd.results39, go_sem]) rfl ?_
  exact ⟨rfl, rfl⟩

set_option maxRecDepth 100000 in
set_option maxHeartbeats 1000000 in
theorem rtwo_5n {w : Nat} (hw : IsW w) (a b : Int) (ha : Of w a) (hb : Of w b) (c : ¬ b = 0) (W : World) :
    Calls Tryd.prog 39 #[.int .u8 5, .int .i64 (w : Int), .int .u64 a, .int .u64 b] W fun e W' => e = .returned (pairV (two 5 w a b)) ∧ W' = W := by
  have CW := width_calls (w : Int)
  rw [isW_of hw] at CW
  have CW := hide CW
  have FA := rfits_calls hw a
  rw [decide_eq_true (mo_ge ha)] at FA
  have FA := hide FA
  have FB := rfits_calls hw b
  rw [decide_eq_true (mo_ge hb)] at FB
  have FB := hide FB
  have T : two 5 w a b = ((a % b), 0) := by simp [two, c]
  rw [T]
  clear T
  have D := hide (divided_5 hw a b ha hb c)
  clear ha hb
  go_enter Tryd.func39, Tryd.ntmps39
  go_wp2_with (first | (with_reducible refine (CW.out _).mono ?_; rintro e w1 ⟨rfl, rfl⟩) | (with_reducible refine (FA.out _).mono ?_; rintro e w1 ⟨rfl, rfl⟩) | (with_reducible refine (FB.out _).mono ?_; rintro e w1 ⟨rfl, rfl⟩) | (with_reducible refine (D.out _).mono ?_; rintro e w1 ⟨rfl, rfl⟩))
  skip
  refine bodyPost_ret (v := .tuple #[.int .u64 (a % b), .int .i64 0]) (by simp [results, Tryd.results39, go_sem]) rfl ?_
  exact ⟨rfl, rfl⟩

set_option maxRecDepth 100000 in
set_option maxHeartbeats 1000000 in
theorem rtwo_7z {w : Nat} (hw : IsW w) (a b : Int) (ha : Of w a) (hb : Of w b) (c : b = 0) (W : World) :
    Calls Tryd.prog 39 #[.int .u8 7, .int .i64 (w : Int), .int .u64 a, .int .u64 b] W fun e W' => e = .returned (pairV (two 7 w a b)) ∧ W' = W := by
  have CW := width_calls (w : Int)
  rw [isW_of hw] at CW
  have CW := hide CW
  have FA := rfits_calls hw a
  rw [decide_eq_true (mo_ge ha)] at FA
  have FA := hide FA
  have FB := rfits_calls hw b
  rw [decide_eq_true (mo_ge hb)] at FB
  have FB := hide FB
  have T : two 7 w a b = (0, 6) := by simp [two, c]
  rw [T]
  clear T
  subst c
  have D := hide (divided_zero hw 7 a ha hb)
  clear ha hb
  go_enter Tryd.func39, Tryd.ntmps39
  go_wp2_with (first | (with_reducible refine (CW.out _).mono ?_; rintro e w1 ⟨rfl, rfl⟩) | (with_reducible refine (FA.out _).mono ?_; rintro e w1 ⟨rfl, rfl⟩) | (with_reducible refine (FB.out _).mono ?_; rintro e w1 ⟨rfl, rfl⟩) | (with_reducible refine (D.out _).mono ?_; rintro e w1 ⟨rfl, rfl⟩))
  skip
  refine bodyPost_ret (v := .tuple #[.int .u64 0, .int .i64 6]) (by simp [results, Tryd.results39, go_sem]) rfl ?_
  exact ⟨rfl, rfl⟩

set_option maxRecDepth 100000 in
set_option maxHeartbeats 1000000 in
theorem rtwo_7n {w : Nat} (hw : IsW w) (a b : Int) (ha : Of w a) (hb : Of w b) (c : ¬ b = 0) (W : World) :
    Calls Tryd.prog 39 #[.int .u8 7, .int .i64 (w : Int), .int .u64 a, .int .u64 b] W fun e W' => e = .returned (pairV (two 7 w a b)) ∧ W' = W := by
  have CW := width_calls (w : Int)
  rw [isW_of hw] at CW
  have CW := hide CW
  have FA := rfits_calls hw a
  rw [decide_eq_true (mo_ge ha)] at FA
  have FA := hide FA
  have FB := rfits_calls hw b
  rw [decide_eq_true (mo_ge hb)] at FB
  have FB := hide FB
  have T : two 7 w a b = ((remS w a b), 0) := by simp [two, c]
  rw [T]
  clear T
  have D := hide (divided_7 hw a b ha hb c)
  clear ha hb
  go_enter Tryd.func39, Tryd.ntmps39
  go_wp2_with (first | (with_reducible refine (CW.out _).mono ?_; rintro e w1 ⟨rfl, rfl⟩) | (with_reducible refine (FA.out _).mono ?_; rintro e w1 ⟨rfl, rfl⟩) | (with_reducible refine (FB.out _).mono ?_; rintro e w1 ⟨rfl, rfl⟩) | (with_reducible refine (D.out _).mono ?_; rintro e w1 ⟨rfl, rfl⟩))
  skip
  refine bodyPost_ret (v := .tuple #[.int .u64 (remS w a b), .int .i64 0]) (by simp [results, Tryd.results39, go_sem]) rfl ?_
  exact ⟨rfl, rfl⟩

set_option maxRecDepth 100000 in
set_option maxHeartbeats 1000000 in
theorem rtwo_6z {w : Nat} (hw : IsW w) (a b : Int) (ha : Of w a) (hb : Of w b) (c : b = 0) (W : World) :
    Calls Tryd.prog 39 #[.int .u8 6, .int .i64 (w : Int), .int .u64 a, .int .u64 b] W fun e W' => e = .returned (pairV (two 6 w a b)) ∧ W' = W := by
  have CW := width_calls (w : Int)
  rw [isW_of hw] at CW
  have CW := hide CW
  have FA := rfits_calls hw a
  rw [decide_eq_true (mo_ge ha)] at FA
  have FA := hide FA
  have FB := rfits_calls hw b
  rw [decide_eq_true (mo_ge hb)] at FB
  have FB := hide FB
  have T : two 6 w a b = (0, 6) := by simp [two, c]
  rw [T]
  clear T
  subst c
  have D := hide (divided_zero hw 6 a ha hb)
  clear ha hb
  go_enter Tryd.func39, Tryd.ntmps39
  go_wp2_with (first | (with_reducible refine (CW.out _).mono ?_; rintro e w1 ⟨rfl, rfl⟩) | (with_reducible refine (FA.out _).mono ?_; rintro e w1 ⟨rfl, rfl⟩) | (with_reducible refine (FB.out _).mono ?_; rintro e w1 ⟨rfl, rfl⟩) | (with_reducible refine (D.out _).mono ?_; rintro e w1 ⟨rfl, rfl⟩))
  skip
  refine bodyPost_ret (v := .tuple #[.int .u64 0, .int .i64 6]) (by simp [results, Tryd.results39, go_sem]) rfl ?_
  exact ⟨rfl, rfl⟩

set_option maxRecDepth 100000 in
set_option maxHeartbeats 1000000 in
theorem rtwo_6t {w : Nat} (hw : IsW w) (a b : Int) (ha : Of w a) (hb : Of w b) (c : ¬ b = 0) (c2 : traps w a b = true) (W : World) :
    Calls Tryd.prog 39 #[.int .u8 6, .int .i64 (w : Int), .int .u64 a, .int .u64 b] W fun e W' => e = .returned (pairV (two 6 w a b)) ∧ W' = W := by
  have CW := width_calls (w : Int)
  rw [isW_of hw] at CW
  have CW := hide CW
  have FA := rfits_calls hw a
  rw [decide_eq_true (mo_ge ha)] at FA
  have FA := hide FA
  have FB := rfits_calls hw b
  rw [decide_eq_true (mo_ge hb)] at FB
  have FB := hide FB
  have T : two 6 w a b = (0, 6) := by simp [two, c2]
  rw [T]
  clear T
  have D := hide (divided_6t hw a b ha hb c c2)
  clear ha hb
  go_enter Tryd.func39, Tryd.ntmps39
  go_wp2_with (first | (with_reducible refine (CW.out _).mono ?_; rintro e w1 ⟨rfl, rfl⟩) | (with_reducible refine (FA.out _).mono ?_; rintro e w1 ⟨rfl, rfl⟩) | (with_reducible refine (FB.out _).mono ?_; rintro e w1 ⟨rfl, rfl⟩) | (with_reducible refine (D.out _).mono ?_; rintro e w1 ⟨rfl, rfl⟩))
  skip
  refine bodyPost_ret (v := .tuple #[.int .u64 0, .int .i64 6]) (by simp [results, Tryd.results39, go_sem]) rfl ?_
  exact ⟨rfl, rfl⟩

set_option maxRecDepth 100000 in
set_option maxHeartbeats 1000000 in
theorem rtwo_6n {w : Nat} (hw : IsW w) (a b : Int) (ha : Of w a) (hb : Of w b) (c : ¬ b = 0) (c2 : traps w a b = false) (W : World) :
    Calls Tryd.prog 39 #[.int .u8 6, .int .i64 (w : Int), .int .u64 a, .int .u64 b] W fun e W' => e = .returned (pairV (two 6 w a b)) ∧ W' = W := by
  have CW := width_calls (w : Int)
  rw [isW_of hw] at CW
  have CW := hide CW
  have FA := rfits_calls hw a
  rw [decide_eq_true (mo_ge ha)] at FA
  have FA := hide FA
  have FB := rfits_calls hw b
  rw [decide_eq_true (mo_ge hb)] at FB
  have FB := hide FB
  have T : two 6 w a b = (divS w a b, 0) := by simp [two, c, c2]
  rw [T]
  clear T
  have D := hide (divided_6n hw a b ha hb c c2)
  clear ha hb
  go_enter Tryd.func39, Tryd.ntmps39
  go_wp2_with (first | (with_reducible refine (CW.out _).mono ?_; rintro e w1 ⟨rfl, rfl⟩) | (with_reducible refine (FA.out _).mono ?_; rintro e w1 ⟨rfl, rfl⟩) | (with_reducible refine (FB.out _).mono ?_; rintro e w1 ⟨rfl, rfl⟩) | (with_reducible refine (D.out _).mono ?_; rintro e w1 ⟨rfl, rfl⟩))
  skip
  refine bodyPost_ret (v := .tuple #[.int .u64 (divS w a b), .int .i64 0]) (by simp [results, Tryd.results39, go_sem]) rfl ?_
  exact ⟨rfl, rfl⟩

set_option maxRecDepth 100000 in
set_option maxHeartbeats 1000000 in
theorem rtwo_8 {w : Nat} (hw : IsW w) (a b : Int) (ha : Of w a) (hb : Of w b) (W : World) :
    Calls Tryd.prog 39 #[.int .u8 8, .int .i64 (w : Int), .int .u64 a, .int .u64 b] W fun e W' => e = .returned (pairV (two 8 w a b)) ∧ W' = W := by
  have CW := width_calls (w : Int)
  rw [isW_of hw] at CW
  have CW := hide CW
  have FA := rfits_calls hw a
  rw [decide_eq_true (mo_ge ha)] at FA
  have FA := hide FA
  have FB := rfits_calls hw b
  rw [decide_eq_true (mo_ge hb)] at FB
  have FB := hide FB
  have D := rbits_calls hw 8 a b ha hb (a.toNat &&& b.toNat) (Nat.and_lt_two_pow _ (toNat_lt hb)) (.inl ⟨rfl, rfl⟩)
  rw [show ((a.toNat &&& b.toNat : Nat) : Int) = andI a b from rfl] at D
  have D := hide D
  clear ha hb
  go_enter Tryd.func39, Tryd.ntmps39
  go_wp2_with (first | (with_reducible refine (CW.out _).mono ?_; rintro e w1 ⟨rfl, rfl⟩) | (with_reducible refine (FA.out _).mono ?_; rintro e w1 ⟨rfl, rfl⟩) | (with_reducible refine (FB.out _).mono ?_; rintro e w1 ⟨rfl, rfl⟩) | (with_reducible refine (D.out _).mono ?_; rintro e w1 ⟨rfl, rfl⟩))
  skip
  refine bodyPost_ret (v := .tuple #[.int .u64 (andI a b), .int .i64 0]) (by simp [results, Tryd.results39, go_sem]) rfl ?_
  exact ⟨rfl, rfl⟩

set_option maxRecDepth 100000 in
set_option maxHeartbeats 1000000 in
theorem rtwo_9 {w : Nat} (hw : IsW w) (a b : Int) (ha : Of w a) (hb : Of w b) (W : World) :
    Calls Tryd.prog 39 #[.int .u8 9, .int .i64 (w : Int), .int .u64 a, .int .u64 b] W fun e W' => e = .returned (pairV (two 9 w a b)) ∧ W' = W := by
  have CW := width_calls (w : Int)
  rw [isW_of hw] at CW
  have CW := hide CW
  have FA := rfits_calls hw a
  rw [decide_eq_true (mo_ge ha)] at FA
  have FA := hide FA
  have FB := rfits_calls hw b
  rw [decide_eq_true (mo_ge hb)] at FB
  have FB := hide FB
  have D := rbits_calls hw 9 a b ha hb (a.toNat ||| b.toNat) (Nat.or_lt_two_pow (toNat_lt ha) (toNat_lt hb)) (.inr (.inl ⟨rfl, rfl⟩))
  rw [show ((a.toNat ||| b.toNat : Nat) : Int) = orI a b from rfl] at D
  have D := hide D
  clear ha hb
  go_enter Tryd.func39, Tryd.ntmps39
  go_wp2_with (first | (with_reducible refine (CW.out _).mono ?_; rintro e w1 ⟨rfl, rfl⟩) | (with_reducible refine (FA.out _).mono ?_; rintro e w1 ⟨rfl, rfl⟩) | (with_reducible refine (FB.out _).mono ?_; rintro e w1 ⟨rfl, rfl⟩) | (with_reducible refine (D.out _).mono ?_; rintro e w1 ⟨rfl, rfl⟩))
  skip
  refine bodyPost_ret (v := .tuple #[.int .u64 (orI a b), .int .i64 0]) (by simp [results, Tryd.results39, go_sem]) rfl ?_
  exact ⟨rfl, rfl⟩

set_option maxRecDepth 100000 in
set_option maxHeartbeats 1000000 in
theorem rtwo_10 {w : Nat} (hw : IsW w) (a b : Int) (ha : Of w a) (hb : Of w b) (W : World) :
    Calls Tryd.prog 39 #[.int .u8 10, .int .i64 (w : Int), .int .u64 a, .int .u64 b] W fun e W' => e = .returned (pairV (two 10 w a b)) ∧ W' = W := by
  have CW := width_calls (w : Int)
  rw [isW_of hw] at CW
  have CW := hide CW
  have FA := rfits_calls hw a
  rw [decide_eq_true (mo_ge ha)] at FA
  have FA := hide FA
  have FB := rfits_calls hw b
  rw [decide_eq_true (mo_ge hb)] at FB
  have FB := hide FB
  have D := rbits_calls hw 10 a b ha hb (a.toNat ^^^ b.toNat) (Nat.xor_lt_two_pow (toNat_lt ha) (toNat_lt hb)) (.inr (.inr ⟨rfl, rfl⟩))
  rw [show ((a.toNat ^^^ b.toNat : Nat) : Int) = xorI a b from rfl] at D
  have D := hide D
  clear ha hb
  go_enter Tryd.func39, Tryd.ntmps39
  go_wp2_with (first | (with_reducible refine (CW.out _).mono ?_; rintro e w1 ⟨rfl, rfl⟩) | (with_reducible refine (FA.out _).mono ?_; rintro e w1 ⟨rfl, rfl⟩) | (with_reducible refine (FB.out _).mono ?_; rintro e w1 ⟨rfl, rfl⟩) | (with_reducible refine (D.out _).mono ?_; rintro e w1 ⟨rfl, rfl⟩))
  skip
  refine bodyPost_ret (v := .tuple #[.int .u64 (xorI a b), .int .i64 0]) (by simp [results, Tryd.results39, go_sem]) rfl ?_
  exact ⟨rfl, rfl⟩

set_option maxRecDepth 100000 in
set_option maxHeartbeats 1000000 in
theorem rtwo_11 {w : Nat} (hw : IsW w) (a b : Int) (ha : Of w a) (hb : Of w b) (W : World) :
    Calls Tryd.prog 39 #[.int .u8 11, .int .i64 (w : Int), .int .u64 a, .int .u64 b] W fun e W' => e = .returned (pairV (two 11 w a b)) ∧ W' = W := by
  have CW := width_calls (w : Int)
  rw [isW_of hw] at CW
  have CW := hide CW
  have FA := rfits_calls hw a
  rw [decide_eq_true (mo_ge ha)] at FA
  have FA := hide FA
  have FB := rfits_calls hw b
  rw [decide_eq_true (mo_ge hb)] at FB
  have FB := hide FB
  obtain ⟨S, hS, hlt, hbit⟩ := shl_bits hw (b := b) ha
  have D := rmoved_calls hw 11 a b ha hb S hlt (by simp) hbit
  rw [← hS] at D
  simp only [show ((11 : Nat) : Int) = 11 from rfl] at D
  have D := hide D
  clear hbit hlt hS
  clear ha hb
  go_enter Tryd.func39, Tryd.ntmps39
  go_wp2_with (first | (with_reducible refine (CW.out _).mono ?_; rintro e w1 ⟨rfl, rfl⟩) | (with_reducible refine (FA.out _).mono ?_; rintro e w1 ⟨rfl, rfl⟩) | (with_reducible refine (FB.out _).mono ?_; rintro e w1 ⟨rfl, rfl⟩) | (with_reducible refine (D.out _).mono ?_; rintro e w1 ⟨rfl, rfl⟩))
  skip
  refine bodyPost_ret (v := .tuple #[.int .u64 (shlI w a b), .int .i64 0]) (by simp [results, Tryd.results39, go_sem]) rfl ?_
  exact ⟨rfl, rfl⟩

set_option maxRecDepth 100000 in
set_option maxHeartbeats 1000000 in
theorem rtwo_12 {w : Nat} (hw : IsW w) (a b : Int) (ha : Of w a) (hb : Of w b) (W : World) :
    Calls Tryd.prog 39 #[.int .u8 12, .int .i64 (w : Int), .int .u64 a, .int .u64 b] W fun e W' => e = .returned (pairV (two 12 w a b)) ∧ W' = W := by
  have CW := width_calls (w : Int)
  rw [isW_of hw] at CW
  have CW := hide CW
  have FA := rfits_calls hw a
  rw [decide_eq_true (mo_ge ha)] at FA
  have FA := hide FA
  have FB := rfits_calls hw b
  rw [decide_eq_true (mo_ge hb)] at FB
  have FB := hide FB
  obtain ⟨S, hS, hlt, hbit⟩ := shr_bits hw (b := b) ha
  have D := rmoved_calls hw 12 a b ha hb S hlt (by simp) hbit
  rw [← hS] at D
  simp only [show ((12 : Nat) : Int) = 12 from rfl] at D
  have D := hide D
  clear hbit hlt hS
  clear ha hb
  go_enter Tryd.func39, Tryd.ntmps39
  go_wp2_with (first | (with_reducible refine (CW.out _).mono ?_; rintro e w1 ⟨rfl, rfl⟩) | (with_reducible refine (FA.out _).mono ?_; rintro e w1 ⟨rfl, rfl⟩) | (with_reducible refine (FB.out _).mono ?_; rintro e w1 ⟨rfl, rfl⟩) | (with_reducible refine (D.out _).mono ?_; rintro e w1 ⟨rfl, rfl⟩))
  skip
  refine bodyPost_ret (v := .tuple #[.int .u64 (shrI w a b), .int .i64 0]) (by simp [results, Tryd.results39, go_sem]) rfl ?_
  exact ⟨rfl, rfl⟩

set_option maxRecDepth 100000 in
set_option maxHeartbeats 1000000 in
theorem rtwo_13 {w : Nat} (hw : IsW w) (a b : Int) (ha : Of w a) (hb : Of w b) (W : World) :
    Calls Tryd.prog 39 #[.int .u8 13, .int .i64 (w : Int), .int .u64 a, .int .u64 b] W fun e W' => e = .returned (pairV (two 13 w a b)) ∧ W' = W := by
  have CW := width_calls (w : Int)
  rw [isW_of hw] at CW
  have CW := hide CW
  have FA := rfits_calls hw a
  rw [decide_eq_true (mo_ge ha)] at FA
  have FA := hide FA
  have FB := rfits_calls hw b
  rw [decide_eq_true (mo_ge hb)] at FB
  have FB := hide FB
  obtain ⟨S, hS, hlt, hbit⟩ := sar_bits hw (b := b) ha
  have D := rmoved_calls hw 13 a b ha hb S hlt (by simp) hbit
  rw [← hS] at D
  simp only [show ((13 : Nat) : Int) = 13 from rfl] at D
  have D := hide D
  clear hbit hlt hS
  clear ha hb
  go_enter Tryd.func39, Tryd.ntmps39
  go_wp2_with (first | (with_reducible refine (CW.out _).mono ?_; rintro e w1 ⟨rfl, rfl⟩) | (with_reducible refine (FA.out _).mono ?_; rintro e w1 ⟨rfl, rfl⟩) | (with_reducible refine (FB.out _).mono ?_; rintro e w1 ⟨rfl, rfl⟩) | (with_reducible refine (D.out _).mono ?_; rintro e w1 ⟨rfl, rfl⟩))
  skip
  refine bodyPost_ret (v := .tuple #[.int .u64 (sarI w a b), .int .i64 0]) (by simp [results, Tryd.results39, go_sem]) rfl ?_
  exact ⟨rfl, rfl⟩

set_option maxRecDepth 100000 in
set_option maxHeartbeats 1000000 in
theorem rtwo_14 {w : Nat} (hw : IsW w) (a b : Int) (ha : Of w a) (hb : Of w b) (W : World) :
    Calls Tryd.prog 39 #[.int .u8 14, .int .i64 (w : Int), .int .u64 a, .int .u64 b] W fun e W' => e = .returned (pairV (two 14 w a b)) ∧ W' = W := by
  have CW := width_calls (w : Int)
  rw [isW_of hw] at CW
  have CW := hide CW
  have FA := rfits_calls hw a
  rw [decide_eq_true (mo_ge ha)] at FA
  have FA := hide FA
  have FB := rfits_calls hw b
  rw [decide_eq_true (mo_ge hb)] at FB
  have FB := hide FB
  obtain ⟨S, hS, hlt, hbit⟩ := rotl_bits hw (b := b) ha
  have D := rmoved_calls hw 14 a b ha hb S hlt (by simp) hbit
  rw [← hS] at D
  simp only [show ((14 : Nat) : Int) = 14 from rfl] at D
  have D := hide D
  clear hbit hlt hS
  clear ha hb
  go_enter Tryd.func39, Tryd.ntmps39
  go_wp2_with (first | (with_reducible refine (CW.out _).mono ?_; rintro e w1 ⟨rfl, rfl⟩) | (with_reducible refine (FA.out _).mono ?_; rintro e w1 ⟨rfl, rfl⟩) | (with_reducible refine (FB.out _).mono ?_; rintro e w1 ⟨rfl, rfl⟩) | (with_reducible refine (D.out _).mono ?_; rintro e w1 ⟨rfl, rfl⟩))
  skip
  refine bodyPost_ret (v := .tuple #[.int .u64 (rotlI w a b), .int .i64 0]) (by simp [results, Tryd.results39, go_sem]) rfl ?_
  exact ⟨rfl, rfl⟩

set_option maxRecDepth 100000 in
set_option maxHeartbeats 1000000 in
theorem rtwo_15 {w : Nat} (hw : IsW w) (a b : Int) (ha : Of w a) (hb : Of w b) (W : World) :
    Calls Tryd.prog 39 #[.int .u8 15, .int .i64 (w : Int), .int .u64 a, .int .u64 b] W fun e W' => e = .returned (pairV (two 15 w a b)) ∧ W' = W := by
  have CW := width_calls (w : Int)
  rw [isW_of hw] at CW
  have CW := hide CW
  have FA := rfits_calls hw a
  rw [decide_eq_true (mo_ge ha)] at FA
  have FA := hide FA
  have FB := rfits_calls hw b
  rw [decide_eq_true (mo_ge hb)] at FB
  have FB := hide FB
  obtain ⟨S, hS, hlt, hbit⟩ := rotr_bits hw (b := b) ha
  have D := rmoved_calls hw 15 a b ha hb S hlt (by simp) hbit
  rw [← hS] at D
  simp only [show ((15 : Nat) : Int) = 15 from rfl] at D
  have D := hide D
  clear hbit hlt hS
  clear ha hb
  go_enter Tryd.func39, Tryd.ntmps39
  go_wp2_with (first | (with_reducible refine (CW.out _).mono ?_; rintro e w1 ⟨rfl, rfl⟩) | (with_reducible refine (FA.out _).mono ?_; rintro e w1 ⟨rfl, rfl⟩) | (with_reducible refine (FB.out _).mono ?_; rintro e w1 ⟨rfl, rfl⟩) | (with_reducible refine (D.out _).mono ?_; rintro e w1 ⟨rfl, rfl⟩))
  skip
  refine bodyPost_ret (v := .tuple #[.int .u64 (rotrI w a b), .int .i64 0]) (by simp [results, Tryd.results39, go_sem]) rfl ?_
  exact ⟨rfl, rfl⟩

set_option maxRecDepth 100000 in
set_option maxHeartbeats 1000000 in
theorem rtwo_16 {w : Nat} (hw : IsW w) (a b : Int) (ha : Of w a) (hb : Of w b) (W : World) :
    Calls Tryd.prog 39 #[.int .u8 16, .int .i64 (w : Int), .int .u64 a, .int .u64 b] W fun e W' => e = .returned (pairV (two 16 w a b)) ∧ W' = W := by
  have CW := width_calls (w : Int)
  rw [isW_of hw] at CW
  have CW := hide CW
  have FA := rfits_calls hw a
  rw [decide_eq_true (mo_ge ha)] at FA
  have FA := hide FA
  have FB := rfits_calls hw b
  rw [decide_eq_true (mo_ge hb)] at FB
  have FB := hide FB
  have D := hide (held_16 hw a b ha hb)
  clear ha hb
  go_enter Tryd.func39, Tryd.ntmps39
  go_wp2_with (first | (with_reducible refine (CW.out _).mono ?_; rintro e w1 ⟨rfl, rfl⟩) | (with_reducible refine (FA.out _).mono ?_; rintro e w1 ⟨rfl, rfl⟩) | (with_reducible refine (FB.out _).mono ?_; rintro e w1 ⟨rfl, rfl⟩) | (with_reducible refine (D.out _).mono ?_; rintro e w1 ⟨rfl, rfl⟩))
  skip
  refine bodyPost_ret (v := .tuple #[.int .u64 (min (a + b) (mo w)), .int .i64 0]) (by simp [results, Tryd.results39, go_sem]) rfl ?_
  exact ⟨rfl, rfl⟩

set_option maxRecDepth 100000 in
set_option maxHeartbeats 1000000 in
theorem rtwo_17 {w : Nat} (hw : IsW w) (a b : Int) (ha : Of w a) (hb : Of w b) (W : World) :
    Calls Tryd.prog 39 #[.int .u8 17, .int .i64 (w : Int), .int .u64 a, .int .u64 b] W fun e W' => e = .returned (pairV (two 17 w a b)) ∧ W' = W := by
  have CW := width_calls (w : Int)
  rw [isW_of hw] at CW
  have CW := hide CW
  have FA := rfits_calls hw a
  rw [decide_eq_true (mo_ge ha)] at FA
  have FA := hide FA
  have FB := rfits_calls hw b
  rw [decide_eq_true (mo_ge hb)] at FB
  have FB := hide FB
  have D := hide (held_17 hw a b ha hb)
  clear ha hb
  go_enter Tryd.func39, Tryd.ntmps39
  go_wp2_with (first | (with_reducible refine (CW.out _).mono ?_; rintro e w1 ⟨rfl, rfl⟩) | (with_reducible refine (FA.out _).mono ?_; rintro e w1 ⟨rfl, rfl⟩) | (with_reducible refine (FB.out _).mono ?_; rintro e w1 ⟨rfl, rfl⟩) | (with_reducible refine (D.out _).mono ?_; rintro e w1 ⟨rfl, rfl⟩))
  skip
  refine bodyPost_ret (v := .tuple #[.int .u64 (max (a - b) 0), .int .i64 0]) (by simp [results, Tryd.results39, go_sem]) rfl ?_
  exact ⟨rfl, rfl⟩

set_option maxRecDepth 100000 in
set_option maxHeartbeats 1000000 in
theorem rtwo_18 {w : Nat} (hw : IsW w) (a b : Int) (ha : Of w a) (hb : Of w b) (W : World) :
    Calls Tryd.prog 39 #[.int .u8 18, .int .i64 (w : Int), .int .u64 a, .int .u64 b] W fun e W' => e = .returned (pairV (two 18 w a b)) ∧ W' = W := by
  have CW := width_calls (w : Int)
  rw [isW_of hw] at CW
  have CW := hide CW
  have FA := rfits_calls hw a
  rw [decide_eq_true (mo_ge ha)] at FA
  have FA := hide FA
  have FB := rfits_calls hw b
  rw [decide_eq_true (mo_ge hb)] at FB
  have FB := hide FB
  have D := hide (held_18 hw a b ha hb)
  clear ha hb
  go_enter Tryd.func39, Tryd.ntmps39
  go_wp2_with (first | (with_reducible refine (CW.out _).mono ?_; rintro e w1 ⟨rfl, rfl⟩) | (with_reducible refine (FA.out _).mono ?_; rintro e w1 ⟨rfl, rfl⟩) | (with_reducible refine (FB.out _).mono ?_; rintro e w1 ⟨rfl, rfl⟩) | (with_reducible refine (D.out _).mono ?_; rintro e w1 ⟨rfl, rfl⟩))
  skip
  refine bodyPost_ret (v := .tuple #[.int .u64 (addH w a b), .int .i64 0]) (by simp [results, Tryd.results39, go_sem]) rfl ?_
  exact ⟨rfl, rfl⟩

set_option maxRecDepth 100000 in
set_option maxHeartbeats 1000000 in
theorem rtwo_19 {w : Nat} (hw : IsW w) (a b : Int) (ha : Of w a) (hb : Of w b) (W : World) :
    Calls Tryd.prog 39 #[.int .u8 19, .int .i64 (w : Int), .int .u64 a, .int .u64 b] W fun e W' => e = .returned (pairV (two 19 w a b)) ∧ W' = W := by
  have CW := width_calls (w : Int)
  rw [isW_of hw] at CW
  have CW := hide CW
  have FA := rfits_calls hw a
  rw [decide_eq_true (mo_ge ha)] at FA
  have FA := hide FA
  have FB := rfits_calls hw b
  rw [decide_eq_true (mo_ge hb)] at FB
  have FB := hide FB
  have D := hide (held_19 hw a b ha hb)
  clear ha hb
  go_enter Tryd.func39, Tryd.ntmps39
  go_wp2_with (first | (with_reducible refine (CW.out _).mono ?_; rintro e w1 ⟨rfl, rfl⟩) | (with_reducible refine (FA.out _).mono ?_; rintro e w1 ⟨rfl, rfl⟩) | (with_reducible refine (FB.out _).mono ?_; rintro e w1 ⟨rfl, rfl⟩) | (with_reducible refine (D.out _).mono ?_; rintro e w1 ⟨rfl, rfl⟩))
  skip
  refine bodyPost_ret (v := .tuple #[.int .u64 (subH w a b), .int .i64 0]) (by simp [results, Tryd.results39, go_sem]) rfl ?_
  exact ⟨rfl, rfl⟩

set_option maxRecDepth 100000 in
set_option maxHeartbeats 1000000 in
theorem rtwo_20 {w : Nat} (hw : IsW w) (a b : Int) (ha : Of w a) (hb : Of w b) (W : World) :
    Calls Tryd.prog 39 #[.int .u8 20, .int .i64 (w : Int), .int .u64 a, .int .u64 b] W fun e W' => e = .returned (pairV (two 20 w a b)) ∧ W' = W := by
  have CW := width_calls (w : Int)
  rw [isW_of hw] at CW
  have CW := hide CW
  have FA := rfits_calls hw a
  rw [decide_eq_true (mo_ge ha)] at FA
  have FA := hide FA
  have FB := rfits_calls hw b
  rw [decide_eq_true (mo_ge hb)] at FB
  have FB := hide FB
  have D := hide (fun W => oneOf_calls hw 20 a b ha hb (min a b) W (.inl ⟨rfl, rfl⟩))
  clear ha hb
  go_enter Tryd.func39, Tryd.ntmps39
  go_wp2_with (first | (with_reducible refine (CW.out _).mono ?_; rintro e w1 ⟨rfl, rfl⟩) | (with_reducible refine (FA.out _).mono ?_; rintro e w1 ⟨rfl, rfl⟩) | (with_reducible refine (FB.out _).mono ?_; rintro e w1 ⟨rfl, rfl⟩) | (with_reducible refine (D.out _).mono ?_; rintro e w1 ⟨rfl, rfl⟩))
  skip
  refine bodyPost_ret (v := .tuple #[.int .u64 (min a b), .int .i64 0]) (by simp [results, Tryd.results39, go_sem]) rfl ?_
  exact ⟨rfl, rfl⟩

set_option maxRecDepth 100000 in
set_option maxHeartbeats 1000000 in
theorem rtwo_21 {w : Nat} (hw : IsW w) (a b : Int) (ha : Of w a) (hb : Of w b) (W : World) :
    Calls Tryd.prog 39 #[.int .u8 21, .int .i64 (w : Int), .int .u64 a, .int .u64 b] W fun e W' => e = .returned (pairV (two 21 w a b)) ∧ W' = W := by
  have CW := width_calls (w : Int)
  rw [isW_of hw] at CW
  have CW := hide CW
  have FA := rfits_calls hw a
  rw [decide_eq_true (mo_ge ha)] at FA
  have FA := hide FA
  have FB := rfits_calls hw b
  rw [decide_eq_true (mo_ge hb)] at FB
  have FB := hide FB
  have D := hide (fun W => oneOf_calls hw 21 a b ha hb (max a b) W (.inr (.inl ⟨rfl, rfl⟩)))
  clear ha hb
  go_enter Tryd.func39, Tryd.ntmps39
  go_wp2_with (first | (with_reducible refine (CW.out _).mono ?_; rintro e w1 ⟨rfl, rfl⟩) | (with_reducible refine (FA.out _).mono ?_; rintro e w1 ⟨rfl, rfl⟩) | (with_reducible refine (FB.out _).mono ?_; rintro e w1 ⟨rfl, rfl⟩) | (with_reducible refine (D.out _).mono ?_; rintro e w1 ⟨rfl, rfl⟩))
  skip
  refine bodyPost_ret (v := .tuple #[.int .u64 (max a b), .int .i64 0]) (by simp [results, Tryd.results39, go_sem]) rfl ?_
  exact ⟨rfl, rfl⟩

set_option maxRecDepth 100000 in
set_option maxHeartbeats 1000000 in
theorem rtwo_22 {w : Nat} (hw : IsW w) (a b : Int) (ha : Of w a) (hb : Of w b) (W : World) :
    Calls Tryd.prog 39 #[.int .u8 22, .int .i64 (w : Int), .int .u64 a, .int .u64 b] W fun e W' => e = .returned (pairV (two 22 w a b)) ∧ W' = W := by
  have CW := width_calls (w : Int)
  rw [isW_of hw] at CW
  have CW := hide CW
  have FA := rfits_calls hw a
  rw [decide_eq_true (mo_ge ha)] at FA
  have FA := hide FA
  have FB := rfits_calls hw b
  rw [decide_eq_true (mo_ge hb)] at FB
  have FB := hide FB
  have D := hide (fun W => oneOf_calls hw 22 a b ha hb (cutI w (min (wo w a) (wo w b))) W (.inr (.inr (.inl ⟨rfl, rfl⟩))))
  clear ha hb
  go_enter Tryd.func39, Tryd.ntmps39
  go_wp2_with (first | (with_reducible refine (CW.out _).mono ?_; rintro e w1 ⟨rfl, rfl⟩) | (with_reducible refine (FA.out _).mono ?_; rintro e w1 ⟨rfl, rfl⟩) | (with_reducible refine (FB.out _).mono ?_; rintro e w1 ⟨rfl, rfl⟩) | (with_reducible refine (D.out _).mono ?_; rintro e w1 ⟨rfl, rfl⟩))
  skip
  refine bodyPost_ret (v := .tuple #[.int .u64 (cutI w (min (wo w a) (wo w b))), .int .i64 0]) (by simp [results, Tryd.results39, go_sem]) rfl ?_
  exact ⟨rfl, rfl⟩

set_option maxRecDepth 100000 in
set_option maxHeartbeats 1000000 in
theorem rtwo_23 {w : Nat} (hw : IsW w) (a b : Int) (ha : Of w a) (hb : Of w b) (W : World) :
    Calls Tryd.prog 39 #[.int .u8 23, .int .i64 (w : Int), .int .u64 a, .int .u64 b] W fun e W' => e = .returned (pairV (two 23 w a b)) ∧ W' = W := by
  have CW := width_calls (w : Int)
  rw [isW_of hw] at CW
  have CW := hide CW
  have FA := rfits_calls hw a
  rw [decide_eq_true (mo_ge ha)] at FA
  have FA := hide FA
  have FB := rfits_calls hw b
  rw [decide_eq_true (mo_ge hb)] at FB
  have FB := hide FB
  have D := hide (fun W => oneOf_calls hw 23 a b ha hb (cutI w (max (wo w a) (wo w b))) W (.inr (.inr (.inr ⟨rfl, rfl⟩))))
  clear ha hb
  go_enter Tryd.func39, Tryd.ntmps39
  go_wp2_with (first | (with_reducible refine (CW.out _).mono ?_; rintro e w1 ⟨rfl, rfl⟩) | (with_reducible refine (FA.out _).mono ?_; rintro e w1 ⟨rfl, rfl⟩) | (with_reducible refine (FB.out _).mono ?_; rintro e w1 ⟨rfl, rfl⟩) | (with_reducible refine (D.out _).mono ?_; rintro e w1 ⟨rfl, rfl⟩))
  skip
  refine bodyPost_ret (v := .tuple #[.int .u64 (cutI w (max (wo w a) (wo w b))), .int .i64 0]) (by simp [results, Tryd.results39, go_sem]) rfl ?_
  exact ⟨rfl, rfl⟩

set_option maxRecDepth 100000 in
set_option maxHeartbeats 1000000 in
theorem rtwo_24 {w : Nat} (hw : IsW w) (a b : Int) (ha : Of w a) (hb : Of w b) (W : World) :
    Calls Tryd.prog 39 #[.int .u8 24, .int .i64 (w : Int), .int .u64 a, .int .u64 b] W fun e W' => e = .returned (pairV (two 24 w a b)) ∧ W' = W := by
  have CW := width_calls (w : Int)
  rw [isW_of hw] at CW
  have CW := hide CW
  have FA := rfits_calls hw a
  rw [decide_eq_true (mo_ge ha)] at FA
  have FA := hide FA
  have FB := rfits_calls hw b
  rw [decide_eq_true (mo_ge hb)] at FB
  have FB := hide FB
  have e1 : a.tdiv 2 = a / 2 := Int.tdiv_eq_ediv_of_nonneg ha.1
  have e2 : b.tdiv 2 = b / 2 := Int.tdiv_eq_ediv_of_nonneg hb.1
  have e3 : a.tmod 2 = a % 2 := Int.tmod_eq_emod_of_nonneg ha.1
  have e4 : b.tmod 2 = b % 2 := Int.tmod_eq_emod_of_nonneg hb.1
  have G := hide (mean_ref ha.1 hb.1 (ha.lt64 hw) (hb.lt64 hw))
  clear ha hb
  go_enter Tryd.func39, Tryd.ntmps39
  go_wp2_with (first | (with_reducible refine (CW.out _).mono ?_; rintro e w1 ⟨rfl, rfl⟩) | (with_reducible refine (FA.out _).mono ?_; rintro e w1 ⟨rfl, rfl⟩) | (with_reducible refine (FB.out _).mono ?_; rintro e w1 ⟨rfl, rfl⟩))
  skip
  refine bodyPost_ret (v := .tuple #[.int .u64 (IntKind.u64.wrap (IntKind.u64.wrap (IntKind.u64.wrap (a / 2) + IntKind.u64.wrap (b / 2)) + (a % 2 + b % 2 + 1) / 2)), .int .i64 0]) (by simp [results, Tryd.results39, go_sem]) rfl ?_
  exact ⟨by rw [G.out]; rfl, rfl⟩

set_option maxRecDepth 100000 in
set_option maxHeartbeats 1000000 in
theorem rtwo_25n {w : Nat} (hw : IsW w) (a b : Int) (ha : Of w a) (hb : Of w b) (c : ¬ w = 16) (W : World) :
    Calls Tryd.prog 39 #[.int .u8 25, .int .i64 (w : Int), .int .u64 a, .int .u64 b] W fun e W' => e = .returned (pairV (two 25 w a b)) ∧ W' = W := by
  have CW := width_calls (w : Int)
  rw [isW_of hw] at CW
  have CW := hide CW
  have FA := rfits_calls hw a
  rw [decide_eq_true (mo_ge ha)] at FA
  have FA := hide FA
  have FB := rfits_calls hw b
  rw [decide_eq_true (mo_ge hb)] at FB
  have FB := hide FB
  have T : two 25 w a b = (0, 2) := by simp [two, c]
  rw [T]
  clear T
  have c3 : ((w : Int) == 16) = false := by simp; omega
  clear ha hb
  go_enter Tryd.func39, Tryd.ntmps39
  go_wp2_with (first | (with_reducible refine (CW.out _).mono ?_; rintro e w1 ⟨rfl, rfl⟩) | (with_reducible refine (FA.out _).mono ?_; rintro e w1 ⟨rfl, rfl⟩) | (with_reducible refine (FB.out _).mono ?_; rintro e w1 ⟨rfl, rfl⟩))
  skip
  refine bodyPost_ret (v := .tuple #[.int .u64 0, .int .i64 2]) (by simp [results, Tryd.results39, go_sem]) rfl ?_
  exact ⟨rfl, rfl⟩

set_option maxRecDepth 100000 in
set_option maxHeartbeats 1000000 in
theorem rtwo_25y {w : Nat} (hw : IsW w) (a b : Int) (ha : Of w a) (hb : Of w b) (c : w = 16) (W : World) :
    Calls Tryd.prog 39 #[.int .u8 25, .int .i64 (w : Int), .int .u64 a, .int .u64 b] W fun e W' => e = .returned (pairV (two 25 w a b)) ∧ W' = W := by
  have CW := width_calls (w : Int)
  rw [isW_of hw] at CW
  have CW := hide CW
  have FA := rfits_calls hw a
  rw [decide_eq_true (mo_ge ha)] at FA
  have FA := hide FA
  have FB := rfits_calls hw b
  rw [decide_eq_true (mo_ge hb)] at FB
  have FB := hide FB
  have T : two 25 w a b = (q15I a b, 0) := by simp [two, c]
  rw [T]
  clear T
  subst c
  have D := hide (rq15_calls a b ha hb)
  simp only [show ((16 : Nat) : Int) = 16 from rfl] at CW FA FB ⊢
  clear ha hb
  go_enter Tryd.func39, Tryd.ntmps39
  go_wp2_with (first | (with_reducible refine (CW.out _).mono ?_; rintro e w1 ⟨rfl, rfl⟩) | (with_reducible refine (FA.out _).mono ?_; rintro e w1 ⟨rfl, rfl⟩) | (with_reducible refine (FB.out _).mono ?_; rintro e w1 ⟨rfl, rfl⟩) | (with_reducible refine (D.out _).mono ?_; rintro e w1 ⟨rfl, rfl⟩))
  skip
  refine bodyPost_ret (v := .tuple #[.int .u64 (q15I a b), .int .i64 0]) (by simp [results, Tryd.results39, go_sem]) rfl ?_
  exact ⟨rfl, rfl⟩

set_option maxRecDepth 100000 in
set_option maxHeartbeats 2000000 in
theorem rtwo_else {w : Nat} (hw : IsW w) (op : Int) (a b : Int) (ha : Of w a) (hb : Of w b) (ho : op = 0 ∨ 25 < op) (W : World) :
    Calls Tryd.prog 39 #[.int .u8 op, .int .i64 (w : Int), .int .u64 a, .int .u64 b] W fun e W' => e = .returned (pairV (two op.toNat w a b)) ∧ W' = W := by
  rw [two_none (by omega)]
  have CW := width_calls (w : Int)
  rw [isW_of hw] at CW
  have CW := hide CW
  have FA := rfits_calls hw a
  rw [decide_eq_true (mo_ge ha)] at FA
  have FA := hide FA
  have FB := rfits_calls hw b
  rw [decide_eq_true (mo_ge hb)] at FB
  have FB := hide FB
  have n1 : (op == 1) = false := by simp; omega
  have n2 : (op == 2) = false := by simp; omega
  have n3 : (op == 3) = false := by simp; omega
  have n4 : (op == 4) = false := by simp; omega
  have n5 : (op == 5) = false := by simp; omega
  have n6 : (op == 6) = false := by simp; omega
  have n7 : (op == 7) = false := by simp; omega
  have n8 : (op == 8) = false := by simp; omega
  have n9 : (op == 9) = false := by simp; omega
  have n10 : (op == 10) = false := by simp; omega
  have n11 : (op == 11) = false := by simp; omega
  have n12 : (op == 12) = false := by simp; omega
  have n13 : (op == 13) = false := by simp; omega
  have n14 : (op == 14) = false := by simp; omega
  have n15 : (op == 15) = false := by simp; omega
  have n16 : (op == 16) = false := by simp; omega
  have n17 : (op == 17) = false := by simp; omega
  have n18 : (op == 18) = false := by simp; omega
  have n19 : (op == 19) = false := by simp; omega
  have n20 : (op == 20) = false := by simp; omega
  have n21 : (op == 21) = false := by simp; omega
  have n22 : (op == 22) = false := by simp; omega
  have n23 : (op == 23) = false := by simp; omega
  have n24 : (op == 24) = false := by simp; omega
  have n25 : (op == 25) = false := by simp; omega
  clear ha hb ho
  go_enter Tryd.func39, Tryd.ntmps39
  go_wp2_with (first | (with_reducible refine (CW.out _).mono ?_; rintro e w1 ⟨rfl, rfl⟩) | (with_reducible refine (FA.out _).mono ?_; rintro e w1 ⟨rfl, rfl⟩) | (with_reducible refine (FB.out _).mono ?_; rintro e w1 ⟨rfl, rfl⟩))
  refine bodyPost_ret (v := .tuple #[.int .u64 0, .int .i64 2]) (by simp [results, Tryd.results39, go_sem]) rfl ?_
  exact ⟨rfl, rfl⟩

set_option maxRecDepth 100000 in
set_option maxHeartbeats 1000000 in
theorem rtwo_bad (op w a b : Int) (h0 : 0 ≤ a) (h1 : 0 ≤ b) (h : ok2 w a b = false) (W : World) :
    Calls Tryd.prog 39 #[.int .u8 op, .int .i64 w, .int .u64 a, .int .u64 b] W fun e W' => e = .returned (pairV (0, 2)) ∧ W' = W := by
  have CW := width_calls w
  cases hw : isW w with
  | false =>
    rw [hw] at CW
    have CW := hide CW
    clear h
    go_enter Tryd.func39, Tryd.ntmps39
    go_wp2_with (first | (with_reducible refine (CW.out _).mono ?_; rintro e w1 ⟨rfl, rfl⟩))
    refine bodyPost_ret (v := .tuple #[.int .u64 0, .int .i64 2]) (by simp [results, Tryd.results39, go_sem]) rfl ?_
    exact ⟨rfl, rfl⟩
  | true =>
    rw [hw] at CW
    have CW := hide CW
    obtain ⟨n, rfl, hn⟩ := (isW_iff w).1 hw
    unfold ok2 at h
    rw [hw, Bool.true_and, Int.toNat_natCast] at h
    have FA := rfits_calls hn a
    have FB := rfits_calls hn b
    cases ca : decide (a ≤ mo n) with
    | false =>
      rw [ca] at FA
      have FA := hide FA
      clear h FB ca h0 h1
      go_enter Tryd.func39, Tryd.ntmps39
      go_wp2_with (first | (with_reducible refine (CW.out _).mono ?_; rintro e w1 ⟨rfl, rfl⟩) | (with_reducible refine (FA.out _).mono ?_; rintro e w1 ⟨rfl, rfl⟩))
      refine bodyPost_ret (v := .tuple #[.int .u64 0, .int .i64 2]) (by simp [results, Tryd.results39, go_sem]) rfl ?_
      exact ⟨rfl, rfl⟩
    | true =>
      rw [ca, Bool.true_and] at h
      rw [ca] at FA
      rw [h] at FB
      have FA := hide FA
      have FB := hide FB
      clear h ca h0 h1
      go_enter Tryd.func39, Tryd.ntmps39
      go_wp2_with (first | (with_reducible refine (CW.out _).mono ?_; rintro e w1 ⟨rfl, rfl⟩) | (with_reducible refine (FA.out _).mono ?_; rintro e w1 ⟨rfl, rfl⟩) | (with_reducible refine (FB.out _).mono ?_; rintro e w1 ⟨rfl, rfl⟩))
      refine bodyPost_ret (v := .tuple #[.int .u64 0, .int .i64 2]) (by simp [results, Tryd.results39, go_sem]) rfl ?_
      exact ⟨rfl, rfl⟩

/-- The document's Two: every operator, at numbers of a width. -/
theorem RTwo_calls {w : Nat} (hw : IsW w) (op a b : Int) (ho : 0 ≤ op) (ha : Of w a) (hb : Of w b) (W : World) :
    Calls Tryd.prog 39 #[.int .u8 op, .int .i64 (w : Int), .int .u64 a, .int .u64 b] W fun e W' => e = .returned (pairV (two op.toNat w a b)) ∧ W' = W := by
  by_cases hk : op = 0 ∨ 25 < op
  · exact rtwo_else hw op a b ha hb hk W
  · obtain ⟨n, rfl⟩ := Int.eq_ofNat_of_zero_le ho
    have h1 : 1 ≤ n := by omega
    have h2 : n ≤ 25 := by omega
    clear hk ho
    rcases (show n = 1 ∨ n = 2 ∨ n = 3 ∨ n = 4 ∨ n = 5 ∨ n = 6 ∨ n = 7 ∨ n = 8 ∨ n = 9 ∨ n = 10 ∨ n = 11 ∨ n = 12 ∨ n = 13 ∨ n = 14 ∨ n = 15 ∨ n = 16 ∨ n = 17 ∨ n = 18 ∨ n = 19 ∨ n = 20 ∨ n = 21 ∨ n = 22 ∨ n = 23 ∨ n = 24 ∨ n = 25 by omega) with rfl | rfl | rfl | rfl | rfl | rfl | rfl | rfl | rfl | rfl | rfl | rfl | rfl | rfl | rfl | rfl | rfl | rfl | rfl | rfl | rfl | rfl | rfl | rfl | rfl
    · exact rtwo_1 hw a b ha hb W
    · exact rtwo_2 hw a b ha hb W
    · exact rtwo_3 hw a b ha hb W
    · by_cases c : b = 0
      · exact rtwo_4z hw a b ha hb c W
      · exact rtwo_4n hw a b ha hb c W
    · by_cases c : b = 0
      · exact rtwo_5z hw a b ha hb c W
      · exact rtwo_5n hw a b ha hb c W
    · by_cases c : b = 0
      · exact rtwo_6z hw a b ha hb c W
      · cases c2 : traps w a b with
        | true => exact rtwo_6t hw a b ha hb c c2 W
        | false => exact rtwo_6n hw a b ha hb c c2 W
    · by_cases c : b = 0
      · exact rtwo_7z hw a b ha hb c W
      · exact rtwo_7n hw a b ha hb c W
    · exact rtwo_8 hw a b ha hb W
    · exact rtwo_9 hw a b ha hb W
    · exact rtwo_10 hw a b ha hb W
    · exact rtwo_11 hw a b ha hb W
    · exact rtwo_12 hw a b ha hb W
    · exact rtwo_13 hw a b ha hb W
    · exact rtwo_14 hw a b ha hb W
    · exact rtwo_15 hw a b ha hb W
    · exact rtwo_16 hw a b ha hb W
    · exact rtwo_17 hw a b ha hb W
    · exact rtwo_18 hw a b ha hb W
    · exact rtwo_19 hw a b ha hb W
    · exact rtwo_20 hw a b ha hb W
    · exact rtwo_21 hw a b ha hb W
    · exact rtwo_22 hw a b ha hb W
    · exact rtwo_23 hw a b ha hb W
    · exact rtwo_24 hw a b ha hb W
    · by_cases c : w = 16
      · exact rtwo_25y hw a b ha hb c W
      · exact rtwo_25n hw a b ha hb c W
end Go.Proofs.YtoihfmammmkloaaDoor.Z
