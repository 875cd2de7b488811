/-
  ints.One.
-/
import Derived.Test.YtfahogbiekmdfabDoorZIntsTwo
import Derived.Test.YtfahogbiekmdfabDoorZIntsBitFns
set_option linter.unusedVariables false
set_option linter.unusedSimpArgs false
namespace Go.Proofs.YtfahogbiekmdfabDoor.Z
open Go.RowKit Ints

def absI (w : Nat) (a : Int) : Int := if a ≤ hi w then a else 2 ^ w - a

/-- The answer, and the error's number. -/
def one (op : Nat) (w : Nat) (a : Int) : Int × Int :=
  match op with
  | 26 => ((w : Int) - (Lib.bitLen a.toNat : Int), 0)
  | 27 => (min (tzI a) w, 0)
  | 28 => (pcI a, 0)
  | 29 => (absI w a, 0)
  | 30 => (cutI w (-a), 0)
  | 31 => (mo w - a, 0)
  | _ => (0, 2)

theorem len_of {w : Nat} (hw : IsW w) {a : Int} (ha : Of w a) : Lib.bitLen a.toNat ≤ w := by
  obtain ⟨x, rfl⟩ := Int.eq_ofNat_of_zero_le ha.1
  exact Lib.bitLen_le x w hw.le (by exact_mod_cast ha.2)

theorem lz_int {w : Nat} (hw : IsW w) {a : Int} (ha : Of w a) : IntKind.u64.wrap (wrap64 (lzI a - wrap64 (64 - (w : Int)))) = (w : Int) - (Lib.bitLen a.toNat : Int) := by
  have h1 := len_of hw ha
  have h2 := hw.le
  rw [IntKind.wrap_u64]
  unfold wrap64 lzI
  omega

theorem tz_le {w : Nat} (hw : IsW w) {a : Int} (ha : Of w a) : 0 ≤ tzI a ∧ tzI a ≤ 64 := by
  unfold tzI
  refine ⟨by omega, ?_⟩
  by_cases h : a.toNat = 0
  · rw [h]; decide
  · have := (Lib.lowest_bit 64 a.toNat h (by have := ha.lt64 hw; omega)).2
    omega

theorem pc_le {w : Nat} (hw : IsW w) {a : Int} (ha : Of w a) : 0 ≤ pcI a ∧ pcI a ≤ 64 := by
  unfold pcI
  have := pop_le 64 a.toNat
  unfold Lib.onesCount
  omega

theorem abs_int {w : Nat} (hw : IsW w) {a : Int} (ha : Of w a) : IntKind.u64.wrap (max (wo w a) (wrap64 (-wo w a))) = absI w a := by
  obtain ⟨h0, h1⟩ := ha
  rw [IntKind.wrap_u64]
  rcases hw with rfl | rfl | rfl | rfl <;> simp only [wo, absI, hi, wrap64, Nat.reduceSub, Int.reducePow] at h1 ⊢ <;> omega

theorem not_int {a : Int} (h0 : 0 ≤ a) (h1 : a < 18446744073709551616) : bits .xor .u64 18446744073709551615 a = 18446744073709551615 - a := by
  obtain ⟨x, rfl⟩ := Int.eq_ofNat_of_zero_le h0
  have hx : x < 18446744073709551616 := by omega
  have e : bits .xor .u64 ((18446744073709551615 : Nat) : Int) (x : Int) = ((18446744073709551615 ^^^ x : Nat) : Int) := bits_xor_u64_nat _ _ (by decide) hx
  refine e.trans ?_
  have h2 := add_eq_bits 18446744073709551615 x
  have h3 : 18446744073709551615 &&& x = x := by
    rw [Nat.and_comm, show (18446744073709551615 : Nat) = 2 ^ 64 - 1 from rfl, Nat.and_two_pow_sub_one_eq_mod]
    exact Nat.mod_eq_of_lt hx
  rw [h3] at h2
  omega

theorem cut_not {w : Nat} (hw : IsW w) {a : Int} (ha : Of w a) : cutI w (18446744073709551615 - a) = mo w - a := by
  obtain ⟨h0, h1⟩ := ha
  rcases hw with rfl | rfl | rfl | rfl <;> simp only [cutI, mo, Int.reducePow] at h1 ⊢ <;> omega

/-! The operators, one by one -/

set_option maxRecDepth 100000 in
set_option maxHeartbeats 1000000 in
theorem one_26 {w : Nat} (hw : IsW w) (a : Int) (ha : Of w a) (W : World) (hT : Tabs W) :
    Calls Tryd.prog 12 #[.int .u8 26, .int .i64 (w : Int), .int .u64 a] W fun e W' => e = .returned (pairV (one 26 w a)) ∧ Below W.heap.size W W' := by
  have F := fit1 w a W hT.toWTabs
  rw [ok1_of hw ha] at F
  have F := hide F
  have B := hide (below_two W (.cells #[.int .u64 a] 22))
  have hT' := hT.later (below_two W (.cells #[.int .u64 a] 22))
  have D := hide (fun W => lead_calls a W ha.1 (by have := ha.lt64 hw; omega))
  have E := lz_int hw ha
  generalize lzI a = l at *
  clear ha hT hT'
  go_enter Tryd.func12, Tryd.ntmps12
  go_wp2_with (first | (with_reducible refine F.out.mono ?_; rintro e w1 ⟨rfl, rfl⟩) | (with_reducible refine (D.out _).mono ?_; rintro e w1 ⟨rfl, rfl⟩))
  refine bodyPost_ret (v := .tuple #[.int .u64 ((w : Int) - (Lib.bitLen a.toNat : Int)), .int .i64 0]) (by simp [results, Tryd.results12, go_sem]) rfl ?_
  exact ⟨rfl, B.out⟩

set_option maxRecDepth 100000 in
set_option maxHeartbeats 1000000 in
theorem one_27 {w : Nat} (hw : IsW w) (a : Int) (ha : Of w a) (W : World) (hT : Tabs W) :
    Calls Tryd.prog 12 #[.int .u8 27, .int .i64 (w : Int), .int .u64 a] W fun e W' => e = .returned (pairV (one 27 w a)) ∧ Below W.heap.size W W' := by
  have F := fit1 w a W hT.toWTabs
  rw [ok1_of hw ha] at F
  have F := hide F
  have B := hide (below_two W (.cells #[.int .u64 a] 22))
  have hT' := hT.later (below_two W (.cells #[.int .u64 a] 22))
  have D := hide (trail_calls a _ ha.1 (ha.lt64 hw) hT')
  have E : IntKind.u64.wrap (min (tzI a) (w : Int)) = min (tzI a) w := by
    have := tz_le hw ha
    rw [IntKind.wrap_u64]; omega
  clear ha hT hT'
  go_enter Tryd.func12, Tryd.ntmps12
  go_wp2_with (first | (with_reducible refine F.out.mono ?_; rintro e w1 ⟨rfl, rfl⟩) | (with_reducible refine (D.out).mono ?_; rintro e w1 ⟨rfl, rfl⟩))
  refine bodyPost_ret (v := .tuple #[.int .u64 (min (tzI a) w), .int .i64 0]) (by simp [results, Tryd.results12, go_sem]) rfl ?_
  exact ⟨rfl, B.out⟩

set_option maxRecDepth 100000 in
set_option maxHeartbeats 1000000 in
theorem one_28 {w : Nat} (hw : IsW w) (a : Int) (ha : Of w a) (W : World) (hT : Tabs W) :
    Calls Tryd.prog 12 #[.int .u8 28, .int .i64 (w : Int), .int .u64 a] W fun e W' => e = .returned (pairV (one 28 w a)) ∧ Below W.heap.size W W' := by
  have F := fit1 w a W hT.toWTabs
  rw [ok1_of hw ha] at F
  have F := hide F
  have B := hide (below_two W (.cells #[.int .u64 a] 22))
  have hT' := hT.later (below_two W (.cells #[.int .u64 a] 22))
  have D := hide (fun W => ones_calls a W ha.1 (ha.lt64 hw))
  have E : IntKind.u64.wrap (pcI a) = pcI a := by
    have := pc_le hw ha
    rw [IntKind.wrap_u64]; omega
  clear ha hT hT'
  go_enter Tryd.func12, Tryd.ntmps12
  go_wp2_with (first | (with_reducible refine F.out.mono ?_; rintro e w1 ⟨rfl, rfl⟩) | (with_reducible refine (D.out _).mono ?_; rintro e w1 ⟨rfl, rfl⟩))
  refine bodyPost_ret (v := .tuple #[.int .u64 (pcI a), .int .i64 0]) (by simp [results, Tryd.results12, go_sem]) rfl ?_
  exact ⟨rfl, B.out⟩

set_option maxRecDepth 100000 in
set_option maxHeartbeats 1000000 in
theorem one_29 {w : Nat} (hw : IsW w) (a : Int) (ha : Of w a) (W : World) (hT : Tabs W) :
    Calls Tryd.prog 12 #[.int .u8 29, .int .i64 (w : Int), .int .u64 a] W fun e W' => e = .returned (pairV (one 29 w a)) ∧ Below W.heap.size W W' := by
  have F := fit1 w a W hT.toWTabs
  rw [ok1_of hw ha] at F
  have F := hide F
  have B := hide (below_two W (.cells #[.int .u64 a] 22))
  have hT' := hT.later (below_two W (.cells #[.int .u64 a] 22))
  have D := hide (worth_calls hw a ha)
  have E := abs_int hw ha
  clear ha hT hT'
  go_enter Tryd.func12, Tryd.ntmps12
  go_wp2_with (first | (with_reducible refine F.out.mono ?_; rintro e w1 ⟨rfl, rfl⟩) | (with_reducible refine (D.out _).mono ?_; rintro e w1 ⟨rfl, rfl⟩))
  refine bodyPost_ret (v := .tuple #[.int .u64 (absI w a), .int .i64 0]) (by simp [results, Tryd.results12, go_sem]) rfl ?_
  exact ⟨rfl, B.out⟩

set_option maxRecDepth 100000 in
set_option maxHeartbeats 1000000 in
theorem one_30 {w : Nat} (hw : IsW w) (a : Int) (ha : Of w a) (W : World) (hT : Tabs W) :
    Calls Tryd.prog 12 #[.int .u8 30, .int .i64 (w : Int), .int .u64 a] W fun e W' => e = .returned (pairV (one 30 w a)) ∧ Below W.heap.size W W' := by
  have F := fit1 w a W hT.toWTabs
  rw [ok1_of hw ha] at F
  have F := hide F
  have B := hide (below_two W (.cells #[.int .u64 a] 22))
  have hT' := hT.later (below_two W (.cells #[.int .u64 a] 22))
  have CC := hide (@cutw_calls w hw)
  clear ha hT hT'
  go_enter Tryd.func12, Tryd.ntmps12
  go_wp2_with (first | (with_reducible refine F.out.mono ?_; rintro e w1 ⟨rfl, rfl⟩) | (with_reducible refine (CC.out _ _).mono ?_; rintro e w1 ⟨rfl, rfl⟩))
  refine bodyPost_ret (v := .tuple #[.int .u64 (cutI w (-a)), .int .i64 0]) (by simp [results, Tryd.results12, go_sem]) rfl ?_
  exact ⟨rfl, B.out⟩

set_option maxRecDepth 100000 in
set_option maxHeartbeats 1000000 in
theorem one_31 {w : Nat} (hw : IsW w) (a : Int) (ha : Of w a) (W : World) (hT : Tabs W) :
    Calls Tryd.prog 12 #[.int .u8 31, .int .i64 (w : Int), .int .u64 a] W fun e W' => e = .returned (pairV (one 31 w a)) ∧ Below W.heap.size W W' := by
  have F := fit1 w a W hT.toWTabs
  rw [ok1_of hw ha] at F
  have F := hide F
  have B := hide (below_two W (.cells #[.int .u64 a] 22))
  have hT' := hT.later (below_two W (.cells #[.int .u64 a] 22))
  have CC := hide (cut_calls hw (18446744073709551615 - a) (by have := ha.lt64 hw; omega) (by have := ha.1; omega))
  have E : bits .xor .u64 IntKind.u64.max a = 18446744073709551615 - a := not_int ha.1 (ha.lt64 hw)
  have G := hide (cut_not hw ha)
  clear ha hT hT'
  go_enter Tryd.func12, Tryd.ntmps12
  go_wp2_with (first | (with_reducible refine F.out.mono ?_; rintro e w1 ⟨rfl, rfl⟩) | (with_reducible refine (CC.out _).mono ?_; rintro e w1 ⟨rfl, rfl⟩))
  refine bodyPost_ret (v := .tuple #[.int .u64 (cutI w (18446744073709551615 - a)), .int .i64 0]) (by simp [results, Tryd.results12, go_sem]) rfl ?_
  exact ⟨by rw [G.out]; rfl, B.out⟩

theorem one_none {op : Nat} (h : op < 26 ∨ 31 < op) (w : Nat) (a : Int) : one op w a = (0, 2) := by
  unfold one
  split <;> first | omega | rfl

set_option maxRecDepth 100000 in
set_option maxHeartbeats 2000000 in
theorem one_else {w : Nat} (hw : IsW w) (op : Int) (a : Int) (ho0 : 0 ≤ op) (ha : Of w a) (ho : op < 26 ∨ 31 < op) (W : World) (hT : Tabs W) :
    Calls Tryd.prog 12 #[.int .u8 op, .int .i64 (w : Int), .int .u64 a] W fun e W' => e = .returned (pairV (one op.toNat w a)) ∧ Below W.heap.size W W' := by
  rw [one_none (by omega)]
  have F := fit1 w a W hT.toWTabs
  rw [ok1_of hw ha] at F
  have F := hide F
  have B := hide (below_two W (.cells #[.int .u64 a] 22))
  have n26 : (op == 26) = false := by simp; omega
  have n27 : (op == 27) = false := by simp; omega
  have n28 : (op == 28) = false := by simp; omega
  have n29 : (op == 29) = false := by simp; omega
  have n30 : (op == 30) = false := by simp; omega
  have n31 : (op == 31) = false := by simp; omega
  clear ha hT ho ho0
  go_enter Tryd.func12, Tryd.ntmps12
  go_wp2_with (with_reducible refine F.out.mono ?_; rintro e w1 ⟨rfl, rfl⟩)
  refine bodyPost_ret (v := .tuple #[.int .u64 0, .int .i64 2]) (by simp [results, Tryd.results12, go_sem]) rfl ?_
  exact ⟨rfl, B.out⟩

set_option maxRecDepth 100000 in
set_option maxHeartbeats 1000000 in
theorem one_bad (op w a : Int) (h : ok1 w a = false) (W : World) (hT : Tabs W) :
    Calls Tryd.prog 12 #[.int .u8 op, .int .i64 w, .int .u64 a] W fun e W' => e = .returned (pairV (0, 2)) ∧ Below W.heap.size W W' := by
  have F := fit1 w a W hT.toWTabs
  rw [h] at F
  have F := hide F
  have B := hide (below_two W (.cells #[.int .u64 a] 22))
  clear hT
  go_enter Tryd.func12, Tryd.ntmps12
  go_wp2_with (with_reducible refine F.out.mono ?_; rintro e w1 ⟨rfl, rfl⟩)
  refine bodyPost_ret (v := .tuple #[.int .u64 0, .int .i64 2]) (by simp [results, Tryd.results12, go_sem]) rfl ?_
  exact ⟨rfl, B.out⟩

/-- Every operator of one, at a number of a width. -/
theorem One_calls {w : Nat} (hw : IsW w) (op a : Int) (ho : 0 ≤ op) (ha : Of w a) (W : World) (hT : Tabs W) :
    Calls Tryd.prog 12 #[.int .u8 op, .int .i64 (w : Int), .int .u64 a] W fun e W' => e = .returned (pairV (one op.toNat w a)) ∧ Below W.heap.size W W' := by
  by_cases hk : op < 26 ∨ 31 < op
  · exact one_else hw op a ho ha hk W hT
  · rcases (show op = 26 ∨ op = 27 ∨ op = 28 ∨ op = 29 ∨ op = 30 ∨ op = 31 by omega) with rfl | rfl | rfl | rfl | rfl | rfl
    · exact one_26 hw a ha W hT
    · exact one_27 hw a ha W hT
    · exact one_28 hw a ha W hT
    · exact one_29 hw a ha W hT
    · exact one_30 hw a ha W hT
    · exact one_31 hw a ha W hT
end Go.Proofs.YtfahogbiekmdfabDoor.Z
