/-
  One bit of the document's answer; the answer bit by bit.
-/
import Derived.Test.YtdhanapmknlobaaDoorLanBits
import Derived.Test.YtdhanapmknlobaaDoorLanMove
set_option linter.unusedVariables false
set_option linter.unusedSimpArgs false
namespace Go.Proofs.YtdhanapmknlobaaDoor
open Go.RowKit Lan

def bitB (op : Nat) (x y z : Bool) : Bool :=
  match op with
  | 1 => !x
  | 2 => x && y
  | 3 => x && !y
  | 4 => x || y
  | 5 => x != y
  | _ => if z then x else y
def b2i (x : Bool) : Int := if x then 1 else 0

set_option maxHeartbeats 4000000 in
theorem rbit_calls (op : Nat) (h1 : 1 ≤ op) (h6 : op ≤ 6) (x y z : Bool) (W : World) :
    Calls Tryd.prog 43 #[.int .u8 (op : Int), .int .u8 (b2i x), .int .u8 (b2i y), .int .u8 (b2i z)] W fun e W' => e = .returned (.bool (bitB op x y z)) ∧ W' = W := by
  rcases (show op = 1 ∨ op = 2 ∨ op = 3 ∨ op = 4 ∨ op = 5 ∨ op = 6 by omega) with rfl | rfl | rfl | rfl | rfl | rfl <;> cases x <;> cases y <;> cases z <;>
  · simp only [b2i, Bool.false_eq_true, if_false, if_true]
    go_enter Tryd.func43, Tryd.ntmps43
    go_wp2
    go_ret
    exact ⟨rfl, rfl⟩

theorem tb_not {a k : Nat} (ha : a < 18446744073709551616) (hk : k < 64) : (18446744073709551615 - a).testBit k = !a.testBit k := by
  have := Nat.testBit_two_pow_sub_succ (n := 64) ha k
  rw [show (18446744073709551615 : Nat) - a = 2 ^ 64 - (a + 1) by omega, this]
  simp [hk]

theorem tb_bitW {op a b c k : Nat} (h1 : 1 ≤ op) (h6 : op ≤ 6) (ha : a < 18446744073709551616) (hb : b < 18446744073709551616) (hc : c < 18446744073709551616) (hk : k < 64) :
    (bitW op a b c).testBit k = bitB op (a.testBit k) (b.testBit k) (c.testBit k) := by
  rcases (show op = 1 ∨ op = 2 ∨ op = 3 ∨ op = 4 ∨ op = 5 ∨ op = 6 by omega) with rfl | rfl | rfl | rfl | rfl | rfl
  · exact tb_not ha hk
  · exact Nat.testBit_and ..
  · show (a &&& (18446744073709551615 - b)).testBit k = (a.testBit k && !b.testBit k)
    rw [Nat.testBit_and, tb_not hb hk]
  · exact Nat.testBit_or ..
  · show (a ^^^ b).testBit k = (a.testBit k != b.testBit k)
    rw [Nat.testBit_xor]
  · show ((a &&& c) ||| (b &&& (18446744073709551615 - c))).testBit k = if c.testBit k then a.testBit k else b.testBit k
    rw [Nat.testBit_or, Nat.testBit_and, Nat.testBit_and, tb_not hc hk]
    cases c.testBit k <;> simp

theorem bitW_lt {op a b c : Nat} (h1 : 1 ≤ op) (h6 : op ≤ 6) (ha : a < 18446744073709551616) (hb : b < 18446744073709551616) (hc : c < 18446744073709551616) : bitW op a b c < 2 ^ 64 := by
  rcases (show op = 1 ∨ op = 2 ∨ op = 3 ∨ op = 4 ∨ op = 5 ∨ op = 6 by omega) with rfl | rfl | rfl | rfl | rfl | rfl
  · show 18446744073709551615 - a < 2 ^ 64; omega
  · exact and_lt64 ha
  · exact and_lt64 ha
  · exact Nat.or_lt_two_pow ha hb
  · exact Nat.xor_lt_two_pow ha hb
  · exact Nat.or_lt_two_pow (and_lt64 ha) (and_lt64 hb)

theorem bv_bits {op : Nat} {a b c : Nat × Nat} (h1 : 1 ≤ op) (h6 : op ≤ 6) (ha : Vok a) (hb : Vok b) (hc : Vok c) (k : Nat) (hk : k < 128) :
    bv (bitsN op a b c) k = bitB op (bv a k) (bv b k) (bv c k) := by
  unfold bv bitsN
  split
  · next h => exact tb_bitW h1 h6 ha.1 hb.1 hc.1 h
  · next h => exact tb_bitW h1 h6 ha.2 hb.2 hc.2 (by omega)

/-- The bit k of a row of bytes. -/
def byteBit (A : List Nat) (k : Nat) : Bool := (at0 A (k / 8)).testBit (k % 8)
theorem byteBit_list (v : Nat × Nat) (k : Nat) (hk : k < 128) : byteBit (listN v 8) k = bv v k := by
  unfold byteBit
  have h1 : k / 8 < 128 / 8 := by omega
  rw [at_list v 8 _ h1, tb_lane (.inl rfl) h1]
  rw [show k / 8 * 8 + k % 8 = k by omega]
  simp [show k % 8 < 8 by omega]

theorem bits_vec {op : Nat} {a b c : Nat × Nat} (h1 : 1 ≤ op) (h6 : op ≤ 6) (ha : Vok a) (hb : Vok b) (hc : Vok c) {O : List Nat}
    (hO : Bits (fun k => bitB op (byteBit (listN a 8) k) (byteBit (listN b 8) k) (byteBit (listN c 8) k)) 128 O) : vecN 8 O = bitsN op a b c := by
  refine vec_ext (vecTo_ok (.inl rfl) hO.2.1 _ (Nat.le_refl _)) ⟨bitW_lt h1 h6 ha.1 hb.1 hc.1, bitW_lt h1 h6 ha.2 hb.2 hc.2⟩ fun k hk => ?_
  rw [bits_all hO k hk, bv_bits h1 h6 ha hb hc k hk, byteBit_list a k hk, byteBit_list b k hk, byteBit_list c k hk]

theorem and_one (x : Nat) (r : Nat) (hx : x < 256) : bits .and .u8 ((x : Int) / 2 ^ r) 1 = b2i (x.testBit r) := by
  have e : (x : Int) / 2 ^ r = ((x / 2 ^ r : Nat) : Int) := by simp
  have hlt : x / 2 ^ r < 256 := Nat.lt_of_le_of_lt (Nat.div_le_self _ _) hx
  have hb : x.testBit r = (x / 2 ^ r).testBit 0 := by rw [Nat.testBit_div_two_pow]; simp
  rw [e, hb]
  clear e hb hx
  generalize x / 2 ^ r = y at *
  clear x r
  revert y
  decide +kernel

theorem or_shift (x r : Nat) (hx : x < 256) (hr : r < 8) : bits .or .u8 (x : Int) ((2 ^ r : Nat) : Int) = ((x ||| 2 ^ r : Nat) : Int) := by
  rcases (show r = 0 ∨ r = 1 ∨ r = 2 ∨ r = 3 ∨ r = 4 ∨ r = 5 ∨ r = 6 ∨ r = 7 by omega) with rfl | rfl | rfl | rfl | rfl | rfl | rfl | rfl <;> (clear hr; revert x; decide +kernel)
end Go.Proofs.YtdhanapmknlobaaDoor
