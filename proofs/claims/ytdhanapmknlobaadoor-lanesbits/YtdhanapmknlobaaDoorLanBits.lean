/-
  lanes.Bits, lanes.Any; the document's Any.
-/
import Derived.Test.YtdhanapmknlobaaDoorLanAll
set_option linter.unusedVariables false
set_option linter.unusedSimpArgs false
namespace Go.Proofs.YtdhanapmknlobaaDoor
open Go.RowKit Lan

/-- One word of the operator's answer. -/
def bitW (op : Nat) (a b c : Nat) : Nat :=
  match op with
  | 1 => 18446744073709551615 - a
  | 2 => a &&& b
  | 3 => a &&& (18446744073709551615 - b)
  | 4 => a ||| b
  | 5 => a ^^^ b
  | _ => (a &&& c) ||| (b &&& (18446744073709551615 - c))
def bitsN (op : Nat) (a b c : Nat × Nat) : Nat × Nat := (bitW op a.1 b.1 c.1, bitW op a.2 b.2 c.2)
def bitsV (op : Int) (a b c : Nat × Nat) : (Nat × Nat) × Int := if 1 ≤ op ∧ op ≤ 6 then (bitsN op.toNat a b c, 0) else ((0, 0), 2)
def anyN (a : Nat × Nat) : Bool := !(a.1 == 0 && a.2 == 0)

theorem and_lt64 {a b : Nat} (h : a < 18446744073709551616) : a &&& b < 18446744073709551616 := Nat.lt_of_le_of_lt Nat.and_le_left h

theorem sel_bits {a b c : Nat} (ha : a < 18446744073709551616) (hb : b < 18446744073709551616) (hc : c < 18446744073709551616) :
    bits .or .u64 (bits .and .u64 (a : Int) (c : Int)) (bits .andNot .u64 (b : Int) (c : Int)) = (bitW 6 a b c : Int) := by
  rw [bits_and_u64_nat a c ha hc, u64_andNot_nat b c hb hc, bits_or_u64_nat _ _ (and_lt64 ha) (and_lt64 hb)]
  rfl

theorem not_bits {a : Nat} (ha : a < 18446744073709551616) : bits .xor .u64 IntKind.u64.max (a : Int) = (bitW 1 a 0 0 : Int) := by
  have e : IntKind.u64.max = ((18446744073709551615 : Nat) : Int) := rfl
  rw [e, bits_xor_u64_nat _ a (by decide) ha]
  congr 1
  show _ = 18446744073709551615 - a
  apply word_ext
  · exact Nat.xor_lt_two_pow (by decide) ha
  · omega
  · intro k hk
    rw [Nat.testBit_xor]
    have e1 := Nat.testBit_two_pow_sub_succ (n := 64) ha k
    rw [show (18446744073709551615 : Nat) - a = 2 ^ 64 - (a + 1) by omega, e1]
    have e2 : (18446744073709551615 : Nat).testBit k = decide (k < 64) := Nat.testBit_two_pow_sub_one 64 k
    rw [e2]; simp [hk]

set_option maxHeartbeats 1000000 in
theorem lany_calls (v : Nat × Nat) (W : World) :
    Calls Tryd.prog 31 #[vecV v] W fun e W' => e = .returned (.bool (anyN v)) ∧ Below W.heap.size W W' := by
  obtain ⟨lo, hi⟩ := v
  unfold vecV anyN
  simp only
  go_enter Tryd.func31, Tryd.ntmps31
  go_wp2
  all_goals (go_ret; exact ⟨by simp_all, below_two _ _⟩)

set_option maxHeartbeats 1000000 in
theorem rany_calls (v : Nat × Nat) (W : World) :
    Calls Tryd.prog 32 #[vecV v] W fun e W' => e = .returned (.bool (anyN v)) ∧ Below W.heap.size W W' := by
  obtain ⟨lo, hi⟩ := v
  unfold vecV anyN
  simp only
  by_cases c : lo = 0
  · subst c
    by_cases d : hi = 0
    · subst d
      go_enter Tryd.func32, Tryd.ntmps32
      go_wp2
      go_ret
      exact ⟨rfl, below_two _ _⟩
    · have d1 : decide ((hi : Int) > 0) = true := by simp; omega
      go_enter Tryd.func32, Tryd.ntmps32
      go_wp2
      go_ret
      exact ⟨by simp [d, Nat.pos_of_ne_zero d], below_two _ _⟩
  · have c1 : decide ((lo : Int) > 0) = true := by simp; omega
    have c2 : (lo : Int) > 0 := by omega
    go_enter Tryd.func32, Tryd.ntmps32
    go_wp2
    go_ret
    exact ⟨by simp [c], below_two _ _⟩

set_option maxHeartbeats 1000000 in
theorem lbits_bad (op : Int) (h : ¬ (1 ≤ op ∧ op ≤ 6)) (a b c : Nat × Nat) (W : World) :
    Calls Tryd.prog 29 #[.int .u8 op, vecV a, vecV b, vecV c] W fun e W' => e = .returned (vecE ((0, 0), 2)) ∧ Below W.heap.size W W' := by
  have n1 : (op == 1) = false := by simp; omega
  have n2 : (op == 2) = false := by simp; omega
  have n3 : (op == 3) = false := by simp; omega
  have n4 : (op == 4) = false := by simp; omega
  have n5 : (op == 5) = false := by simp; omega
  have n6 : (op == 6) = false := by simp; omega
  clear h
  unfold vecE vecV
  go_enter Tryd.func29, Tryd.ntmps29
  go_wp2
  refine bodyPost_ret (v := vecE ((0, 0), 2)) (VBlk.result2 (v := (0, 0)) (alloc_at (g := W.heap.size + 1 + 1 + 1) (by simp)) (by rfl) _ rfl rfl) rfl ?_
  exact ⟨rfl, ((((Below.refl _ _).alloc (Nat.le_refl _) _).alloc (by simp) _).alloc (by simp; omega) _).alloc (by simp; omega) _⟩

set_option maxHeartbeats 1000000 in
theorem lbits_walk1 (a0 a1 b0 b1 c0 c1 x y : Nat) (E1 : bits .xor .u64 IntKind.u64.max (a0 : Int) = (x : Int)) (E2 : bits .xor .u64 IntKind.u64.max (a1 : Int) = (y : Int)) (W : World) :
    Calls Tryd.prog 29 #[.int .u8 1, vecV (a0, a1), vecV (b0, b1), vecV (c0, c1)] W fun e W' => e = .returned (vecE ((x, y), 0)) ∧ Below W.heap.size W W' := by
  unfold vecE vecV
  go_enter Tryd.func29, Tryd.ntmps29
  go_wp2
  refine bodyPost_ret (v := vecE ((x, y), 0)) (VBlk.result2 (v := (x, y)) (alloc_at (g := W.heap.size + 1 + 1 + 1) (by simp)) (by rfl) _ rfl rfl) rfl ?_
  exact ⟨rfl, ((((Below.refl _ _).alloc (Nat.le_refl _) _).alloc (by simp) _).alloc (by simp; omega) _).alloc (by simp; omega) _⟩

set_option maxHeartbeats 1000000 in
theorem lbits_walk2 (a0 a1 b0 b1 c0 c1 x y : Nat) (E1 : bits .and .u64 (a0 : Int) (b0 : Int) = (x : Int)) (E2 : bits .and .u64 (a1 : Int) (b1 : Int) = (y : Int)) (W : World) :
    Calls Tryd.prog 29 #[.int .u8 2, vecV (a0, a1), vecV (b0, b1), vecV (c0, c1)] W fun e W' => e = .returned (vecE ((x, y), 0)) ∧ Below W.heap.size W W' := by
  unfold vecE vecV
  go_enter Tryd.func29, Tryd.ntmps29
  go_wp2
  refine bodyPost_ret (v := vecE ((x, y), 0)) (VBlk.result2 (v := (x, y)) (alloc_at (g := W.heap.size + 1 + 1 + 1) (by simp)) (by rfl) _ rfl rfl) rfl ?_
  exact ⟨rfl, ((((Below.refl _ _).alloc (Nat.le_refl _) _).alloc (by simp) _).alloc (by simp; omega) _).alloc (by simp; omega) _⟩

set_option maxHeartbeats 1000000 in
theorem lbits_walk3 (a0 a1 b0 b1 c0 c1 x y : Nat) (E1 : bits .andNot .u64 (a0 : Int) (b0 : Int) = (x : Int)) (E2 : bits .andNot .u64 (a1 : Int) (b1 : Int) = (y : Int)) (W : World) :
    Calls Tryd.prog 29 #[.int .u8 3, vecV (a0, a1), vecV (b0, b1), vecV (c0, c1)] W fun e W' => e = .returned (vecE ((x, y), 0)) ∧ Below W.heap.size W W' := by
  unfold vecE vecV
  go_enter Tryd.func29, Tryd.ntmps29
  go_wp2
  refine bodyPost_ret (v := vecE ((x, y), 0)) (VBlk.result2 (v := (x, y)) (alloc_at (g := W.heap.size + 1 + 1 + 1) (by simp)) (by rfl) _ rfl rfl) rfl ?_
  exact ⟨rfl, ((((Below.refl _ _).alloc (Nat.le_refl _) _).alloc (by simp) _).alloc (by simp; omega) _).alloc (by simp; omega) _⟩

set_option maxHeartbeats 1000000 in
theorem lbits_walk4 (a0 a1 b0 b1 c0 c1 x y : Nat) (E1 : bits .or .u64 (a0 : Int) (b0 : Int) = (x : Int)) (E2 : bits .or .u64 (a1 : Int) (b1 : Int) = (y : Int)) (W : World) :
    Calls Tryd.prog 29 #[.int .u8 4, vecV (a0, a1), vecV (b0, b1), vecV (c0, c1)] W fun e W' => e = .returned (vecE ((x, y), 0)) ∧ Below W.heap.size W W' := by
  unfold vecE vecV
  go_enter Tryd.func29, Tryd.ntmps29
  go_wp2
  refine bodyPost_ret (v := vecE ((x, y), 0)) (VBlk.result2 (v := (x, y)) (alloc_at (g := W.heap.size + 1 + 1 + 1) (by simp)) (by rfl) _ rfl rfl) rfl ?_
  exact ⟨rfl, ((((Below.refl _ _).alloc (Nat.le_refl _) _).alloc (by simp) _).alloc (by simp; omega) _).alloc (by simp; omega) _⟩

set_option maxHeartbeats 1000000 in
theorem lbits_walk5 (a0 a1 b0 b1 c0 c1 x y : Nat) (E1 : bits .xor .u64 (a0 : Int) (b0 : Int) = (x : Int)) (E2 : bits .xor .u64 (a1 : Int) (b1 : Int) = (y : Int)) (W : World) :
    Calls Tryd.prog 29 #[.int .u8 5, vecV (a0, a1), vecV (b0, b1), vecV (c0, c1)] W fun e W' => e = .returned (vecE ((x, y), 0)) ∧ Below W.heap.size W W' := by
  unfold vecE vecV
  go_enter Tryd.func29, Tryd.ntmps29
  go_wp2
  refine bodyPost_ret (v := vecE ((x, y), 0)) (VBlk.result2 (v := (x, y)) (alloc_at (g := W.heap.size + 1 + 1 + 1) (by simp)) (by rfl) _ rfl rfl) rfl ?_
  exact ⟨rfl, ((((Below.refl _ _).alloc (Nat.le_refl _) _).alloc (by simp) _).alloc (by simp; omega) _).alloc (by simp; omega) _⟩

set_option maxHeartbeats 1000000 in
theorem lbits_walk6 (a0 a1 b0 b1 c0 c1 x y : Nat) (E1 : bits .or .u64 (bits .and .u64 (a0 : Int) (c0 : Int)) (bits .andNot .u64 (b0 : Int) (c0 : Int)) = (x : Int)) (E2 : bits .or .u64 (bits .and .u64 (a1 : Int) (c1 : Int)) (bits .andNot .u64 (b1 : Int) (c1 : Int)) = (y : Int)) (W : World) :
    Calls Tryd.prog 29 #[.int .u8 6, vecV (a0, a1), vecV (b0, b1), vecV (c0, c1)] W fun e W' => e = .returned (vecE ((x, y), 0)) ∧ Below W.heap.size W W' := by
  unfold vecE vecV
  go_enter Tryd.func29, Tryd.ntmps29
  go_wp2
  refine bodyPost_ret (v := vecE ((x, y), 0)) (VBlk.result2 (v := (x, y)) (alloc_at (g := W.heap.size + 1 + 1 + 1) (by simp)) (by rfl) _ rfl rfl) rfl ?_
  exact ⟨rfl, ((((Below.refl _ _).alloc (Nat.le_refl _) _).alloc (by simp) _).alloc (by simp; omega) _).alloc (by simp; omega) _⟩

theorem lbits_calls (op : Int) (a b c : Nat × Nat) (ha : Vok a) (hb : Vok b) (hc : Vok c) (W : World) :
    Calls Tryd.prog 29 #[.int .u8 op, vecV a, vecV b, vecV c] W fun e W' => e = .returned (vecE (bitsV op a b c)) ∧ Below W.heap.size W W' := by
  unfold bitsV
  by_cases h : 1 ≤ op ∧ op ≤ 6
  · rw [if_pos h]
    rcases (show op = 1 ∨ op = 2 ∨ op = 3 ∨ op = 4 ∨ op = 5 ∨ op = 6 by omega) with rfl | rfl | rfl | rfl | rfl | rfl
    · exact lbits_walk1 a.1 a.2 b.1 b.2 c.1 c.2 _ _ (not_bits ha.1) (not_bits ha.2) W
    · exact lbits_walk2 a.1 a.2 b.1 b.2 c.1 c.2 _ _ (bits_and_u64_nat _ _ ha.1 hb.1) (bits_and_u64_nat _ _ ha.2 hb.2) W
    · exact lbits_walk3 a.1 a.2 b.1 b.2 c.1 c.2 _ _ (u64_andNot_nat _ _ ha.1 hb.1) (u64_andNot_nat _ _ ha.2 hb.2) W
    · exact lbits_walk4 a.1 a.2 b.1 b.2 c.1 c.2 _ _ (bits_or_u64_nat _ _ ha.1 hb.1) (bits_or_u64_nat _ _ ha.2 hb.2) W
    · exact lbits_walk5 a.1 a.2 b.1 b.2 c.1 c.2 _ _ (bits_xor_u64_nat _ _ ha.1 hb.1) (bits_xor_u64_nat _ _ ha.2 hb.2) W
    · exact lbits_walk6 a.1 a.2 b.1 b.2 c.1 c.2 _ _ (sel_bits ha.1 hb.1 hc.1) (sel_bits ha.2 hb.2 hc.2) W
  · rw [if_neg h]; exact lbits_bad op h a b c W
end Go.Proofs.YtdhanapmknlobaaDoor
