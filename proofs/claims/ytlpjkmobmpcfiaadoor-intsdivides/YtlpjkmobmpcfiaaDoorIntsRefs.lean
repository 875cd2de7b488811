/-
  The document's bits, moved, divided, held, oneOf, q15.
-/
import Derived.Test.YtlpjkmobmpcfiaaDoorIntsMoves
set_option linter.unusedVariables false
set_option linter.unusedSimpArgs false
namespace Go.Proofs.YtlpjkmobmpcfiaaDoor
open Go.RowKit Ints

theorem nat_of {w : Nat} {a : Int} (ha : Of w a) : ∃ x : Nat, a = x ∧ x < 2 ^ w := by
  obtain ⟨x, rfl⟩ := Int.eq_ofNat_of_zero_le ha.1
  exact ⟨x, rfl, by exact_mod_cast ha.2⟩

theorem pow64 {k : Nat} (h : k < 64) : (2 : Nat) ^ k < 18446744073709551616 := (Nat.pow_lt_pow_right (a := 2) (by decide) h : 2 ^ k < 2 ^ 64)

/-- Bit j of a, as the machine takes it. -/
theorem and_bit (x : Nat) (hx : x < 18446744073709551616) (j : Nat) : bits .and .u64 ((x : Int) / 2 ^ j) 1 = (bit x j : Int) := by
  have e : (x : Int) / 2 ^ j = ((x / 2 ^ j : Nat) : Int) := by simp
  have h := bits_and_u64_nat (x / 2 ^ j) 1 (Nat.lt_of_le_of_lt (Nat.div_le_self _ _) hx) (by decide)
  rw [e]
  refine h.trans ?_
  rw [show (1 : Nat) = 2 ^ 1 - 1 from rfl, Nat.and_two_pow_sub_one_eq_mod]
  rfl

/-- Bit k put to those below it. -/
theorem or_step (S k : Nat) (hk : k < 64) (d : Nat) (hd : bit S k = d) : bits .or .u64 ((S % 2 ^ k : Nat) : Int) (IntKind.u64.wrap ((d : Int) * 2 ^ k)) = ((S % 2 ^ (k + 1) : Nat) : Int) := by
  have hp := pow64 hk
  have hd1 : d ≤ 1 := hd ▸ bit_le S k
  have hlt : S % 2 ^ k < 2 ^ k := Nat.mod_lt _ (Nat.two_pow_pos _)
  have hm : d * 2 ^ k < 18446744073709551616 := by
    have : d * 2 ^ k ≤ 1 * 2 ^ k := Nat.mul_le_mul_right _ hd1
    omega
  have e : IntKind.u64.wrap ((d : Int) * 2 ^ k) = ((2 ^ k * d : Nat) : Int) := by
    have : (d : Int) * 2 ^ k = ((2 ^ k * d : Nat) : Int) := by rw [Nat.mul_comm]; simp
    rw [this, IntKind.wrap_u64]
    rw [Nat.mul_comm] at hm
    omega
  rw [Nat.mul_comm] at hm
  rw [e, bits_or_u64_nat _ _ (by omega) hm, Nat.or_comm, ← Nat.two_pow_add_eq_or_of_lt hlt, mod_succ, hd, Nat.add_comm]

theorem or_step1 (S k : Nat) (hk : k < 64) (hd : bit S k = 1) : bits .or .u64 ((S % 2 ^ k : Nat) : Int) (IntKind.u64.wrap (2 ^ k)) = ((S % 2 ^ (k + 1) : Nat) : Int) := by
  have := or_step S k hk 1 hd
  simpa using this

theorem or_step0 (S k : Nat) (hk : k < 64) (hd : bit S k = 0) : bits .or .u64 ((S % 2 ^ k : Nat) : Int) 0 = ((S % 2 ^ (k + 1) : Nat) : Int) := by
  have := or_step S k hk 0 hd
  simp only [Int.natCast_zero, Int.zero_mul] at this
  rw [IntKind.wrap_u64] at this
  exact this

theorem step0 (S k : Nat) (hd : bit S k = 0) : S % 2 ^ (k + 1) = S % 2 ^ k := by rw [mod_succ, hd]; omega

theorem full {w S : Nat} (h : S < 2 ^ w) : S % 2 ^ w = S := Nat.mod_eq_of_lt h

set_option maxRecDepth 100000 in
set_option maxHeartbeats 2000000 in
theorem rbits_calls {w : Nat} (hw : IsW w) (op a b : Int) (ha : Of w a) (hb : Of w b) (S : Nat) (hS : S < 2 ^ w)
    (hop : (op = 8 ∧ S = a.toNat &&& b.toNat) ∨ (op = 9 ∧ S = a.toNat ||| b.toNat) ∨ (op = 10 ∧ S = a.toNat ^^^ b.toNat)) (W : World) :
    Calls Tryd.prog 36 #[.int .u8 op, .int .i64 (w : Int), .int .u64 a, .int .u64 b] W fun e W' => e = .returned (.int .u64 (S : Int)) ∧ W' = W := by
  have hle := hw.le
  have HA := hide (ha.lt64 hw)
  have HB := hide (hb.lt64 hw)
  obtain ⟨x, rfl, hx⟩ := nat_of ha
  obtain ⟨y, rfl, hy⟩ := nat_of hb
  simp only [Int.toNat_natCast] at hop
  have HF := hide (full hS)
  clear hw ha hb hx hy hS
  have HS : Hide ((op = 8 ∧ ∀ k, bit S k = bit x k * bit y k) ∨ (op = 9 ∧ ∀ k, bit S k = bit x k + bit y k - bit x k * bit y k) ∨ (op = 10 ∧ ∀ k, bit S k = (bit x k + bit y k) % 2)) := by
    refine hide ?_
    rcases hop with ⟨rfl, rfl⟩ | ⟨rfl, rfl⟩ | ⟨rfl, rfl⟩
    · exact .inl ⟨rfl, bit_and x y⟩
    · exact .inr (.inl ⟨rfl, bit_or x y⟩)
    · exact .inr (.inr ⟨rfl, bit_xor x y⟩)
  clear hop
  rcases HS.out with ⟨rfl, hbit⟩ | ⟨rfl, hbit⟩ | ⟨rfl, hbit⟩
  all_goals
    clear HS
    have HBit := hide hbit
    clear hbit
    go_enter Tryd.func36, Tryd.ntmps36
    go_wp2
    go_loop [9, 10] (fun x y => ∃ k : Nat, y = .int .i64 (k : Int) ∧ k ≤ w ∧ x = .int .u64 ((S % 2 ^ k : Nat) : Int)) (fun _ y => (w - (intOf y).toNat))
    case atStart => exact ⟨0, rfl, by omega, by simp [Nat.mod_one]⟩
    case round =>
      obtain ⟨k, rfl, hk, rfl⟩ := hrel
      by_cases c : k < w
      · have c' : (k : Int) < (w : Int) := by omega
        have hk64 : (k : Int) ≤ 64 := by omega
        have Ex := and_bit x (by have := HA.out; omega) k
        have Ey := and_bit y (by have := HB.out; omega) k
        have hbk := HBit.out k
        have lx := bit_le x k
        have ly := bit_le y k
        rcases (show bit x k = 0 ∨ bit x k = 1 by omega) with hx0 | hx0 <;> rcases (show bit y k = 0 ∨ bit y k = 1 by omega) with hy0 | hy0
        all_goals
          rw [hx0] at Ex hbk
          rw [hy0] at Ey hbk
          simp at Ex Ey hbk
          clear hx0 hy0 lx ly
          have HK := hide hbk
          have H0 := hide (or_step0 S k (by omega))
          have H1 := hide (or_step1 S k (by omega))
          have H2 := hide (step0 S k)
          clear hbk
          generalize ho : S % 2 ^ k = o at *
          have HO := hide ho
          clear ho
          go_wp2
          refine ⟨⟨k + 1, rfl, by omega, ?_⟩, by simp [intOf]; omega⟩
          first
            | (rw [H1.out HK.out]; done)
            | (rw [H2.out HK.out]; done)
      · have e : k = w := by omega
        subst e
        have c' : decide ((k : Int) < (k : Int)) = false := by simp
        generalize ho : S % 2 ^ k = o at *
        go_wp2
        go_ret
        refine ⟨?_, rfl⟩
        have := HF.out
        rw [this]; rfl

/-- Where bit k of the answer comes from: 'none', or a bit of a. -/
def src (op w n k : Nat) : Option Nat :=
  match op with
  | 11 => if n ≤ k then some (k - n) else none
  | 12 => if k + n < w then some (k + n) else none
  | 13 => if k + n < w then some (k + n) else some (w - 1)
  | 14 => some ((k + w - n) % w)
  | _ => some ((k + n) % w)

def srcBit (x : Nat) : Option Nat → Nat
  | none => 0
  | some j => bit x j

set_option maxRecDepth 100000 in
set_option maxHeartbeats 2000000 in
theorem rmoved_calls {w : Nat} (hw : IsW w) (op : Nat) (a b : Int) (ha : Of w a) (hb : Of w b) (S : Nat) (hS : S < 2 ^ w) (hop : op = 11 ∨ op = 12 ∨ op = 13 ∨ op = 14 ∨ op = 15)
    (hbit : ∀ k, k < w → bit S k = srcBit a.toNat (src op w (sh w b) k)) (W : World) :
    Calls Tryd.prog 37 #[.int .u8 (op : Int), .int .i64 (w : Int), .int .u64 a, .int .u64 b] W fun e W' => e = .returned (.int .u64 (S : Int)) ∧ W' = W := by
  have E := sh_eq hw hb.1
  have hlt := sh_lt hw b
  have hle := hw.le
  have hpos := hw.pos
  have E0 : ¬ IntKind.u64.wrap (w : Int) = 0 := by rw [IntKind.wrap_u64]; omega
  have E1 : IntKind.u64.wrap (w : Int) = (w : Int) := by rw [IntKind.wrap_u64]; omega
  rw [E1] at E E0
  have HA := hide (ha.lt64 hw)
  obtain ⟨x, rfl, hx⟩ := nat_of ha
  simp only [Int.toNat_natCast] at hbit
  have HF := hide (full hS)
  clear ha hb hx hS hw
  generalize sh w b = n at *
  have E2 : wrap64 (n : Int) = (n : Int) := by unfold wrap64; omega
  have hn1 : (n : Int) ≤ 64 := by omega
  have HBit := hide hbit
  clear hbit
  rcases hop with rfl | rfl | rfl | rfl | rfl
  all_goals
    simp only [show ((11 : Nat) : Int) = 11 from rfl, show ((12 : Nat) : Int) = 12 from rfl, show ((13 : Nat) : Int) = 13 from rfl, show ((14 : Nat) : Int) = 14 from rfl, show ((15 : Nat) : Int) = 15 from rfl]
    go_enter Tryd.func37, Tryd.ntmps37
    go_wp2
    go_loop [10, 11] (fun x y => ∃ k : Nat, y = .int .i64 (k : Int) ∧ k ≤ w ∧ x = .int .u64 ((S % 2 ^ k : Nat) : Int)) (fun _ y => (w - (intOf y).toNat))
    case atStart => exact ⟨0, rfl, by omega, by simp [Nat.mod_one]⟩
    case round =>
      obtain ⟨k, rfl, hk, rfl⟩ := hrel
      by_cases c : k < w
      · have c' : (k : Int) < (w : Int) := by omega
        have hk64 : (k : Int) ≤ 64 := by omega
        have HK := hide (HBit.out k c)
        have H0 := hide (or_step0 S k (by omega))
        have HD := hide (or_step S k (by omega))
        have HX := hide (and_bit x (by have := HA.out; omega))
        generalize ho : S % 2 ^ k = o at *
        have HO := hide ho
        clear ho
        go_wp2
        all_goals
          first
            | (exfalso
               have hwi : (0 : Int) < (w : Int) := by omega
               have m1 := Int.emod_lt_of_pos ((k : Int) + (w : Int) - (n : Int)) hwi
               have m2 := Int.emod_nonneg ((k : Int) + (w : Int) - (n : Int)) (show (w : Int) ≠ 0 by omega)
               have m3 := Int.emod_lt_of_pos ((k : Int) + (n : Int)) hwi
               have m4 := Int.emod_nonneg ((k : Int) + (n : Int)) (show (w : Int) ≠ 0 by omega)
               omega)
            | (refine ⟨⟨k + 1, rfl, by omega, ?_⟩, by simp [intOf]; omega⟩
               have hs := HK.out
               first
                 | (rw [HX.out, HD.out _ (hs.trans (by simp only [src]; first | rfl | (rw [if_pos (by omega)]; rfl) | (rw [if_neg (by omega)]; rfl)))]; done)
                 | (rw [H0.out (hs.trans (by simp only [src]; first | rfl | (rw [if_pos (by omega)]; rfl) | (rw [if_neg (by omega)]; rfl)))]; done))
      · have e : k = w := by omega
        subst e
        have c' : decide ((k : Int) < (k : Int)) = false := by simp
        generalize ho : S % 2 ^ k = o at *
        go_wp2
        go_ret
        refine ⟨?_, rfl⟩
        have := HF.out
        rw [this]; rfl
end Go.Proofs.YtlpjkmobmpcfiaaDoor
