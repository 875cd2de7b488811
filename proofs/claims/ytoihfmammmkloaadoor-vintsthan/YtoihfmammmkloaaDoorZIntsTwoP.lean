/-
  ints.Two, operator by operator (gentwo.py wrote it).
-/
import Derived.Test.YtoihfmammmkloaaDoorPkInts
set_option linter.unusedVariables false
set_option linter.unusedSimpArgs false
namespace Go.Proofs.YtoihfmammmkloaaDoor.Z
open Go.RowKit Ints

theorem bits_and_int {a b : Int} (h0 : 0 ≤ a) (h1 : 0 ≤ b) (l0 : a < 18446744073709551616) (l1 : b < 18446744073709551616) : bits .and .u64 a b = andI a b := by
  obtain ⟨x, rfl⟩ := Int.eq_ofNat_of_zero_le h0
  obtain ⟨y, rfl⟩ := Int.eq_ofNat_of_zero_le h1
  rw [bits_and_u64_nat x y (by omega) (by omega)]; rfl
theorem bits_or_int {a b : Int} (h0 : 0 ≤ a) (h1 : 0 ≤ b) (l0 : a < 18446744073709551616) (l1 : b < 18446744073709551616) : bits .or .u64 a b = orI a b := by
  obtain ⟨x, rfl⟩ := Int.eq_ofNat_of_zero_le h0
  obtain ⟨y, rfl⟩ := Int.eq_ofNat_of_zero_le h1
  rw [bits_or_u64_nat x y (by omega) (by omega)]; rfl
theorem bits_xor_int {a b : Int} (h0 : 0 ≤ a) (h1 : 0 ≤ b) (l0 : a < 18446744073709551616) (l1 : b < 18446744073709551616) : bits .xor .u64 a b = xorI a b := by
  obtain ⟨x, rfl⟩ := Int.eq_ofNat_of_zero_le h0
  obtain ⟨y, rfl⟩ := Int.eq_ofNat_of_zero_le h1
  rw [bits_xor_u64_nat x y (by omega) (by omega)]; rfl

theorem mean_int {a b : Int} (h0 : 0 ≤ a) (h1 : 0 ≤ b) (l0 : a < 18446744073709551616) (l1 : b < 18446744073709551616) : IntKind.u64.wrap (orI a b - xorI a b / 2) = (a + b + 1) / 2 := by
  obtain ⟨x, rfl⟩ := Int.eq_ofNat_of_zero_le h0
  obtain ⟨y, rfl⟩ := Int.eq_ofNat_of_zero_le h1
  have h := mean_bits x y
  have h2 := or_eq_bits x y
  unfold orI xorI
  simp only [Int.toNat_natCast]
  rw [IntKind.wrap_u64]
  omega

theorem sumU_int {w : Nat} (hw : IsW w) {a b : Int} (ha : Of w a) (hb : Of w b) : IntKind.u64.wrap (a + min b (IntKind.u64.wrap (mo w - a))) = min (a + b) (mo w) := by
  have l0 := ha.lt64 hw
  have h1 := mo_ge ha
  have h2 := mo_ge hb
  have h3 : mo w < 18446744073709551616 := by rcases hw with rfl | rfl | rfl | rfl <;> decide
  have h4 := ha.1; have h5 := hb.1
  rw [IntKind.wrap_u64, IntKind.wrap_u64]
  omega

theorem difU_int {w : Nat} (hw : IsW w) {a b : Int} (ha : Of w a) (hb : Of w b) : IntKind.u64.wrap (a - min b a) = max (a - b) 0 := by
  have l0 := ha.lt64 hw
  have h4 := ha.1; have h5 := hb.1
  rw [IntKind.wrap_u64]
  omega

theorem prod_16 {x y : Int} (hx : -32768 ≤ x ∧ x ≤ 32767) (hy : -32768 ≤ y ∧ y ≤ 32767) : -1073709056 ≤ x * y ∧ x * y ≤ 1073741824 := by
  obtain ⟨a, b⟩ := hx
  obtain ⟨c, d⟩ := hy
  have key : ∀ u v : Int, 0 ≤ u → u ≤ 32768 → 0 ≤ v → v ≤ 32768 → 0 ≤ u * v ∧ u * v ≤ 1073741824 := fun u v h1 h2 h3 h4 =>
    ⟨Int.mul_nonneg h1 h3, by have := Int.mul_le_mul h2 h4 h3 (by decide); omega⟩
  have key2 : ∀ u v : Int, 0 ≤ u → u ≤ 32768 → 0 ≤ v → v ≤ 32767 → 0 ≤ u * v ∧ u * v ≤ 1073709056 := fun u v h1 h2 h3 h4 =>
    ⟨Int.mul_nonneg h1 h3, by have := Int.mul_le_mul h2 h4 h3 (by decide); omega⟩
  by_cases cx : 0 ≤ x <;> by_cases cy : 0 ≤ y
  · have := key x y cx (by omega) cy (by omega); omega
  · have := key2 (-y) x (by omega) (by omega) cx (by omega)
    have e : -y * x = -(x * y) := by rw [Int.neg_mul, Int.mul_comm]
    omega
  · have := key2 (-x) y (by omega) (by omega) cy (by omega)
    have e : -x * y = -(x * y) := by rw [Int.neg_mul]
    omega
  · have := key (-x) (-y) (by omega) (by omega) (by omega) (by omega)
    have e : -x * -y = x * y := by rw [Int.neg_mul_neg]
    omega

set_option maxRecDepth 100000 in
set_option maxHeartbeats 1000000 in
theorem q15_no {w : Nat} (h : ¬ (w : Int) = 16) (a b : Int) (W : World) :
    Calls Tryd.prog 76 #[.int .i64 (w : Int), .int .u64 a, .int .u64 b] W fun e W' => e = .returned (.tuple #[.int .u64 0, .int .i64 2]) ∧ W' = W := by
  go_enter Tryd.func76, Tryd.ntmps76
  go_wp2
  refine bodyPost_ret (v := .tuple #[.int .u64 0, .int .i64 2]) (by simp [results, Tryd.results76, go_sem]) rfl ?_
  exact ⟨rfl, rfl⟩

set_option maxRecDepth 100000 in
set_option maxHeartbeats 1000000 in
theorem q15_yes (a b : Int) (ha : Of 16 a) (hb : Of 16 b) (W : World) :
    Calls Tryd.prog 76 #[.int .i64 16, .int .u64 a, .int .u64 b] W fun e W' => e = .returned (.tuple #[.int .u64 (q15I a b), .int .i64 0]) ∧ W' = W := by
  have h16 : IsW 16 := by simp [IsW]
  have CA := worth_calls h16 a ha
  simp only [show ((16 : Nat) : Int) = 16 from rfl] at CA
  have CA := hide CA
  have CB := worth_calls h16 b hb
  simp only [show ((16 : Nat) : Int) = 16 from rfl] at CB
  have CB := hide CB
  have CL := @least_calls 16 h16
  simp only [show ((16 : Nat) : Int) = 16 from rfl] at CL
  have CL := hide CL
  have CG := @greatest_calls 16 h16
  simp only [show ((16 : Nat) : Int) = 16 from rfl] at CG
  have CG := hide CG
  have CC := @cutw_calls 16 h16
  simp only [show ((16 : Nat) : Int) = 16 from rfl] at CC
  have CC := hide CC
  have CH := hide hold_calls
  have p := prod_16 (wo_range h16 ha) (wo_range h16 hb)
  have E1 : wrap64 (wo 16 a * wo 16 b) = wo 16 a * wo 16 b := by unfold wrap64; omega
  have E2 : wrap64 (wo 16 a * wo 16 b + 16384) = wo 16 a * wo 16 b + 16384 := by unfold wrap64; omega
  have E3 := hide (show cutI 16 (holdI ((wo 16 a * wo 16 b + 16384) / 32768) (lo 16) (hi 16)) = q15I a b by
    unfold q15I holdI
    have e1 : lo 16 = -32768 := by decide
    have e2 : hi 16 = 32767 := by decide
    rw [e1, e2]
    congr 1
    omega)
  clear p ha hb
  go_enter Tryd.func76, Tryd.ntmps76
  go_wp2_with (first | (with_reducible refine (CA.out _).mono ?_; rintro e w1 ⟨rfl, rfl⟩) | (with_reducible refine (CB.out _).mono ?_; rintro e w1 ⟨rfl, rfl⟩) | (with_reducible refine (CL.out _).mono ?_; rintro e w1 ⟨rfl, rfl⟩) | (with_reducible refine (CG.out _).mono ?_; rintro e w1 ⟨rfl, rfl⟩) | (with_reducible refine (CH.out _ _ _ _).mono ?_; rintro e w1 ⟨rfl, rfl⟩) | (with_reducible refine (CC.out _ _).mono ?_; rintro e w1 ⟨rfl, rfl⟩))
  refine bodyPost_ret (v := .tuple #[.int .u64 (cutI 16 (holdI ((wo 16 a * wo 16 b + 16384) / 32768) (lo 16) (hi 16))), .int .i64 0]) (by simp [results, Tryd.results76, go_sem]) rfl ?_
  exact ⟨by rw [E3.out], rfl⟩

set_option maxRecDepth 100000 in
set_option maxHeartbeats 1000000 in
theorem two_1 {w : Nat} (hw : IsW w) (a b : Int) (ha : Of w a) (hb : Of w b) (W : World) (hT : WTabs W) :
    Calls Tryd.prog 34 #[.int .u8 1, .int .i64 (w : Int), .int .u64 a, .int .u64 b] W fun e W' => e = .returned (pairV (two 1 w a b)) ∧ Below W.heap.size W W' := by
  have F := fit2 w a b W hT
  rw [ok2_of hw ha hb] at F
  have F := hide F
  have B := hide (below_two W (.cells #[.int .u64 a, .int .u64 b] 23))
  have CC := hide (@cutw_calls w hw)
  clear ha hb hT
  go_enter Tryd.func34, Tryd.ntmps34
  go_wp2_with (first | (with_reducible refine F.out.mono ?_; rintro e w1 ⟨rfl, rfl⟩) | (with_reducible refine (CC.out _ _).mono ?_; rintro e w1 ⟨rfl, rfl⟩))
  refine bodyPost_ret (v := .tuple #[.int .u64 (cutI w (a + b)), .int .i64 0]) (by simp [results, Tryd.results34, go_sem]) rfl ?_
  exact ⟨rfl, B.out⟩

set_option maxRecDepth 100000 in
set_option maxHeartbeats 1000000 in
theorem two_2 {w : Nat} (hw : IsW w) (a b : Int) (ha : Of w a) (hb : Of w b) (W : World) (hT : WTabs W) :
    Calls Tryd.prog 34 #[.int .u8 2, .int .i64 (w : Int), .int .u64 a, .int .u64 b] W fun e W' => e = .returned (pairV (two 2 w a b)) ∧ Below W.heap.size W W' := by
  have F := fit2 w a b W hT
  rw [ok2_of hw ha hb] at F
  have F := hide F
  have B := hide (below_two W (.cells #[.int .u64 a, .int .u64 b] 23))
  have CC := hide (@cutw_calls w hw)
  clear ha hb hT
  go_enter Tryd.func34, Tryd.ntmps34
  go_wp2_with (first | (with_reducible refine F.out.mono ?_; rintro e w1 ⟨rfl, rfl⟩) | (with_reducible refine (CC.out _ _).mono ?_; rintro e w1 ⟨rfl, rfl⟩))
  refine bodyPost_ret (v := .tuple #[.int .u64 (cutI w (a - b)), .int .i64 0]) (by simp [results, Tryd.results34, go_sem]) rfl ?_
  exact ⟨rfl, B.out⟩

set_option maxRecDepth 100000 in
set_option maxHeartbeats 1000000 in
theorem two_3 {w : Nat} (hw : IsW w) (a b : Int) (ha : Of w a) (hb : Of w b) (W : World) (hT : WTabs W) :
    Calls Tryd.prog 34 #[.int .u8 3, .int .i64 (w : Int), .int .u64 a, .int .u64 b] W fun e W' => e = .returned (pairV (two 3 w a b)) ∧ Below W.heap.size W W' := by
  have F := fit2 w a b W hT
  rw [ok2_of hw ha hb] at F
  have F := hide F
  have B := hide (below_two W (.cells #[.int .u64 a, .int .u64 b] 23))
  have CC := hide (@cutw_calls w hw)
  clear ha hb hT
  go_enter Tryd.func34, Tryd.ntmps34
  go_wp2_with (first | (with_reducible refine F.out.mono ?_; rintro e w1 ⟨rfl, rfl⟩) | (with_reducible refine (CC.out _ _).mono ?_; rintro e w1 ⟨rfl, rfl⟩))
  refine bodyPost_ret (v := .tuple #[.int .u64 (cutI w (a * b)), .int .i64 0]) (by simp [results, Tryd.results34, go_sem]) rfl ?_
  exact ⟨rfl, B.out⟩

set_option maxRecDepth 100000 in
set_option maxHeartbeats 1000000 in
theorem two_4z {w : Nat} (hw : IsW w) (a b : Int) (ha : Of w a) (hb : Of w b) (c : b = 0) (W : World) (hT : WTabs W) :
    Calls Tryd.prog 34 #[.int .u8 4, .int .i64 (w : Int), .int .u64 a, .int .u64 b] W fun e W' => e = .returned (pairV (two 4 w a b)) ∧ Below W.heap.size W W' := by
  have F := fit2 w a b W hT
  rw [ok2_of hw ha hb] at F
  have F := hide F
  have B := hide (below_two W (.cells #[.int .u64 a, .int .u64 b] 23))
  have T : two 4 w a b = (0, 6) := by simp [two, c]
  rw [T]
  clear T
  have D := hide (divide_zero (w := w) 4 a b c)
  simp only [pairV] at D
  clear c
  clear ha hb hT
  go_enter Tryd.func34, Tryd.ntmps34
  go_wp2_with (first | (with_reducible refine F.out.mono ?_; rintro e w1 ⟨rfl, rfl⟩) | (with_reducible refine (D.out _).mono ?_; rintro e w1 ⟨rfl, rfl⟩))
  refine bodyPost_ret (v := .tuple #[.int .u64 0, .int .i64 6]) (by simp [results, Tryd.results34, go_sem]) rfl ?_
  exact ⟨rfl, B.out⟩

set_option maxRecDepth 100000 in
set_option maxHeartbeats 1000000 in
theorem two_4n {w : Nat} (hw : IsW w) (a b : Int) (ha : Of w a) (hb : Of w b) (c : ¬ b = 0) (W : World) (hT : WTabs W) :
    Calls Tryd.prog 34 #[.int .u8 4, .int .i64 (w : Int), .int .u64 a, .int .u64 b] W fun e W' => e = .returned (pairV (two 4 w a b)) ∧ Below W.heap.size W W' := by
  have F := fit2 w a b W hT
  rw [ok2_of hw ha hb] at F
  have F := hide F
  have B := hide (below_two W (.cells #[.int .u64 a, .int .u64 b] 23))
  have T : two 4 w a b = ((a / b), 0) := by simp [two, c]
  rw [T]
  clear T
  have D := hide (divide_4 hw a b ha hb c)
  simp only [pairV] at D
  clear ha hb hT
  go_enter Tryd.func34, Tryd.ntmps34
  go_wp2_with (first | (with_reducible refine F.out.mono ?_; rintro e w1 ⟨rfl, rfl⟩) | (with_reducible refine (D.out _).mono ?_; rintro e w1 ⟨rfl, rfl⟩))
  refine bodyPost_ret (v := .tuple #[.int .u64 (a / b), .int .i64 0]) (by simp [results, Tryd.results34, go_sem]) rfl ?_
  exact ⟨rfl, B.out⟩

set_option maxRecDepth 100000 in
set_option maxHeartbeats 1000000 in
theorem two_5z {w : Nat} (hw : IsW w) (a b : Int) (ha : Of w a) (hb : Of w b) (c : b = 0) (W : World) (hT : WTabs W) :
    Calls Tryd.prog 34 #[.int .u8 5, .int .i64 (w : Int), .int .u64 a, .int .u64 b] W fun e W' => e = .returned (pairV (two 5 w a b)) ∧ Below W.heap.size W W' := by
  have F := fit2 w a b W hT
  rw [ok2_of hw ha hb] at F
  have F := hide F
  have B := hide (below_two W (.cells #[.int .u64 a, .int .u64 b] 23))
  have T : two 5 w a b = (0, 6) := by simp [two, c]
  rw [T]
  clear T
  have D := hide (divide_zero (w := w) 5 a b c)
  simp only [pairV] at D
  clear c
  clear ha hb hT
  go_enter Tryd.func34, Tryd.ntmps34
  go_wp2_with (first | (with_reducible refine F.out.mono ?_; rintro e w1 ⟨rfl, rfl⟩) | (with_reducible refine (D.out _).mono ?_; rintro e w1 ⟨rfl, rfl⟩))
  refine bodyPost_ret (v := .tuple #[.int .u64 0, .int .i64 6]) (by simp [results, Tryd.results34, go_sem]) rfl ?_
  exact ⟨rfl, B.out⟩

set_option maxRecDepth 100000 in
set_option maxHeartbeats 1000000 in
theorem two_5n {w : Nat} (hw : IsW w) (a b : Int) (ha : Of w a) (hb : Of w b) (c : ¬ b = 0) (W : World) (hT : WTabs W) :
    Calls Tryd.prog 34 #[.int .u8 5, .int .i64 (w : Int), .int .u64 a, .int .u64 b] W fun e W' => e = .returned (pairV (two 5 w a b)) ∧ Below W.heap.size W W' := by
  have F := fit2 w a b W hT
  rw [ok2_of hw ha hb] at F
  have F := hide F
  have B := hide (below_two W (.cells #[.int .u64 a, .int .u64 b] 23))
  have T : two 5 w a b = ((a % b), 0) := by simp [two, c]
  rw [T]
  clear T
  have D := hide (divide_5 hw a b ha hb c)
  simp only [pairV] at D
  clear ha hb hT
  go_enter Tryd.func34, Tryd.ntmps34
  go_wp2_with (first | (with_reducible refine F.out.mono ?_; rintro e w1 ⟨rfl, rfl⟩) | (with_reducible refine (D.out _).mono ?_; rintro e w1 ⟨rfl, rfl⟩))
  refine bodyPost_ret (v := .tuple #[.int .u64 (a % b), .int .i64 0]) (by simp [results, Tryd.results34, go_sem]) rfl ?_
  exact ⟨rfl, B.out⟩

set_option maxRecDepth 100000 in
set_option maxHeartbeats 1000000 in
theorem two_7z {w : Nat} (hw : IsW w) (a b : Int) (ha : Of w a) (hb : Of w b) (c : b = 0) (W : World) (hT : WTabs W) :
    Calls Tryd.prog 34 #[.int .u8 7, .int .i64 (w : Int), .int .u64 a, .int .u64 b] W fun e W' => e = .returned (pairV (two 7 w a b)) ∧ Below W.heap.size W W' := by
  have F := fit2 w a b W hT
  rw [ok2_of hw ha hb] at F
  have F := hide F
  have B := hide (below_two W (.cells #[.int .u64 a, .int .u64 b] 23))
  have T : two 7 w a b = (0, 6) := by simp [two, c]
  rw [T]
  clear T
  have D := hide (divide_zero (w := w) 7 a b c)
  simp only [pairV] at D
  clear c
  clear ha hb hT
  go_enter Tryd.func34, Tryd.ntmps34
  go_wp2_with (first | (with_reducible refine F.out.mono ?_; rintro e w1 ⟨rfl, rfl⟩) | (with_reducible refine (D.out _).mono ?_; rintro e w1 ⟨rfl, rfl⟩))
  refine bodyPost_ret (v := .tuple #[.int .u64 0, .int .i64 6]) (by simp [results, Tryd.results34, go_sem]) rfl ?_
  exact ⟨rfl, B.out⟩

set_option maxRecDepth 100000 in
set_option maxHeartbeats 1000000 in
theorem two_7n {w : Nat} (hw : IsW w) (a b : Int) (ha : Of w a) (hb : Of w b) (c : ¬ b = 0) (W : World) (hT : WTabs W) :
    Calls Tryd.prog 34 #[.int .u8 7, .int .i64 (w : Int), .int .u64 a, .int .u64 b] W fun e W' => e = .returned (pairV (two 7 w a b)) ∧ Below W.heap.size W W' := by
  have F := fit2 w a b W hT
  rw [ok2_of hw ha hb] at F
  have F := hide F
  have B := hide (below_two W (.cells #[.int .u64 a, .int .u64 b] 23))
  have T : two 7 w a b = ((remS w a b), 0) := by simp [two, c]
  rw [T]
  clear T
  have D := hide (divide_7 hw a b ha hb c)
  simp only [pairV] at D
  clear ha hb hT
  go_enter Tryd.func34, Tryd.ntmps34
  go_wp2_with (first | (with_reducible refine F.out.mono ?_; rintro e w1 ⟨rfl, rfl⟩) | (with_reducible refine (D.out _).mono ?_; rintro e w1 ⟨rfl, rfl⟩))
  refine bodyPost_ret (v := .tuple #[.int .u64 (remS w a b), .int .i64 0]) (by simp [results, Tryd.results34, go_sem]) rfl ?_
  exact ⟨rfl, B.out⟩

set_option maxRecDepth 100000 in
set_option maxHeartbeats 1000000 in
theorem two_6z {w : Nat} (hw : IsW w) (a b : Int) (ha : Of w a) (hb : Of w b) (c : b = 0) (W : World) (hT : WTabs W) :
    Calls Tryd.prog 34 #[.int .u8 6, .int .i64 (w : Int), .int .u64 a, .int .u64 b] W fun e W' => e = .returned (pairV (two 6 w a b)) ∧ Below W.heap.size W W' := by
  have F := fit2 w a b W hT
  rw [ok2_of hw ha hb] at F
  have F := hide F
  have B := hide (below_two W (.cells #[.int .u64 a, .int .u64 b] 23))
  have T : two 6 w a b = (0, 6) := by simp [two, c]
  rw [T]
  clear T
  have D := hide (divide_zero (w := w) 6 a b c)
  simp only [pairV] at D
  clear c
  clear ha hb hT
  go_enter Tryd.func34, Tryd.ntmps34
  go_wp2_with (first | (with_reducible refine F.out.mono ?_; rintro e w1 ⟨rfl, rfl⟩) | (with_reducible refine (D.out _).mono ?_; rintro e w1 ⟨rfl, rfl⟩))
  refine bodyPost_ret (v := .tuple #[.int .u64 0, .int .i64 6]) (by simp [results, Tryd.results34, go_sem]) rfl ?_
  exact ⟨rfl, B.out⟩

set_option maxRecDepth 100000 in
set_option maxHeartbeats 1000000 in
theorem two_6t {w : Nat} (hw : IsW w) (a b : Int) (ha : Of w a) (hb : Of w b) (c : ¬ b = 0) (c2 : traps w a b = true) (W : World) (hT : WTabs W) :
    Calls Tryd.prog 34 #[.int .u8 6, .int .i64 (w : Int), .int .u64 a, .int .u64 b] W fun e W' => e = .returned (pairV (two 6 w a b)) ∧ Below W.heap.size W W' := by
  have F := fit2 w a b W hT
  rw [ok2_of hw ha hb] at F
  have F := hide F
  have B := hide (below_two W (.cells #[.int .u64 a, .int .u64 b] 23))
  have T : two 6 w a b = (0, 6) := by simp [two, c2]
  rw [T]
  clear T
  have D := divide_6 hw a b ha hb c
  rw [c2, if_pos rfl] at D
  have D := hide D
  simp only [pairV] at D
  clear ha hb hT
  go_enter Tryd.func34, Tryd.ntmps34
  go_wp2_with (first | (with_reducible refine F.out.mono ?_; rintro e w1 ⟨rfl, rfl⟩) | (with_reducible refine (D.out _).mono ?_; rintro e w1 ⟨rfl, rfl⟩))
  refine bodyPost_ret (v := .tuple #[.int .u64 0, .int .i64 6]) (by simp [results, Tryd.results34, go_sem]) rfl ?_
  exact ⟨rfl, B.out⟩

set_option maxRecDepth 100000 in
set_option maxHeartbeats 1000000 in
theorem two_6n {w : Nat} (hw : IsW w) (a b : Int) (ha : Of w a) (hb : Of w b) (c : ¬ b = 0) (c2 : traps w a b = false) (W : World) (hT : WTabs W) :
    Calls Tryd.prog 34 #[.int .u8 6, .int .i64 (w : Int), .int .u64 a, .int .u64 b] W fun e W' => e = .returned (pairV (two 6 w a b)) ∧ Below W.heap.size W W' := by
  have F := fit2 w a b W hT
  rw [ok2_of hw ha hb] at F
  have F := hide F
  have B := hide (below_two W (.cells #[.int .u64 a, .int .u64 b] 23))
  have T : two 6 w a b = (divS w a b, 0) := by simp [two, c, c2]
  rw [T]
  clear T
  have D := divide_6 hw a b ha hb c
  rw [c2, if_neg (by decide)] at D
  have D := hide D
  simp only [pairV] at D
  clear ha hb hT
  go_enter Tryd.func34, Tryd.ntmps34
  go_wp2_with (first | (with_reducible refine F.out.mono ?_; rintro e w1 ⟨rfl, rfl⟩) | (with_reducible refine (D.out _).mono ?_; rintro e w1 ⟨rfl, rfl⟩))
  refine bodyPost_ret (v := .tuple #[.int .u64 (divS w a b), .int .i64 0]) (by simp [results, Tryd.results34, go_sem]) rfl ?_
  exact ⟨rfl, B.out⟩

set_option maxRecDepth 100000 in
set_option maxHeartbeats 1000000 in
theorem two_8 {w : Nat} (hw : IsW w) (a b : Int) (ha : Of w a) (hb : Of w b) (W : World) (hT : WTabs W) :
    Calls Tryd.prog 34 #[.int .u8 8, .int .i64 (w : Int), .int .u64 a, .int .u64 b] W fun e W' => e = .returned (pairV (two 8 w a b)) ∧ Below W.heap.size W W' := by
  have F := fit2 w a b W hT
  rw [ok2_of hw ha hb] at F
  have F := hide F
  have B := hide (below_two W (.cells #[.int .u64 a, .int .u64 b] 23))
  have E := bits_and_int (ha.1) (hb.1) (ha.lt64 hw) (hb.lt64 hw)
  clear ha hb hT
  go_enter Tryd.func34, Tryd.ntmps34
  go_wp2_with (first | (with_reducible refine F.out.mono ?_; rintro e w1 ⟨rfl, rfl⟩))
  refine bodyPost_ret (v := .tuple #[.int .u64 (andI a b), .int .i64 0]) (by simp [results, Tryd.results34, go_sem]) rfl ?_
  exact ⟨rfl, B.out⟩

set_option maxRecDepth 100000 in
set_option maxHeartbeats 1000000 in
theorem two_9 {w : Nat} (hw : IsW w) (a b : Int) (ha : Of w a) (hb : Of w b) (W : World) (hT : WTabs W) :
    Calls Tryd.prog 34 #[.int .u8 9, .int .i64 (w : Int), .int .u64 a, .int .u64 b] W fun e W' => e = .returned (pairV (two 9 w a b)) ∧ Below W.heap.size W W' := by
  have F := fit2 w a b W hT
  rw [ok2_of hw ha hb] at F
  have F := hide F
  have B := hide (below_two W (.cells #[.int .u64 a, .int .u64 b] 23))
  have E := bits_or_int (ha.1) (hb.1) (ha.lt64 hw) (hb.lt64 hw)
  clear ha hb hT
  go_enter Tryd.func34, Tryd.ntmps34
  go_wp2_with (first | (with_reducible refine F.out.mono ?_; rintro e w1 ⟨rfl, rfl⟩))
  refine bodyPost_ret (v := .tuple #[.int .u64 (orI a b), .int .i64 0]) (by simp [results, Tryd.results34, go_sem]) rfl ?_
  exact ⟨rfl, B.out⟩

set_option maxRecDepth 100000 in
set_option maxHeartbeats 1000000 in
theorem two_10 {w : Nat} (hw : IsW w) (a b : Int) (ha : Of w a) (hb : Of w b) (W : World) (hT : WTabs W) :
    Calls Tryd.prog 34 #[.int .u8 10, .int .i64 (w : Int), .int .u64 a, .int .u64 b] W fun e W' => e = .returned (pairV (two 10 w a b)) ∧ Below W.heap.size W W' := by
  have F := fit2 w a b W hT
  rw [ok2_of hw ha hb] at F
  have F := hide F
  have B := hide (below_two W (.cells #[.int .u64 a, .int .u64 b] 23))
  have E := bits_xor_int (ha.1) (hb.1) (ha.lt64 hw) (hb.lt64 hw)
  clear ha hb hT
  go_enter Tryd.func34, Tryd.ntmps34
  go_wp2_with (first | (with_reducible refine F.out.mono ?_; rintro e w1 ⟨rfl, rfl⟩))
  refine bodyPost_ret (v := .tuple #[.int .u64 (xorI a b), .int .i64 0]) (by simp [results, Tryd.results34, go_sem]) rfl ?_
  exact ⟨rfl, B.out⟩

set_option maxRecDepth 100000 in
set_option maxHeartbeats 1000000 in
theorem two_11 {w : Nat} (hw : IsW w) (a b : Int) (ha : Of w a) (hb : Of w b) (W : World) (hT : WTabs W) :
    Calls Tryd.prog 34 #[.int .u8 11, .int .i64 (w : Int), .int .u64 a, .int .u64 b] W fun e W' => e = .returned (pairV (two 11 w a b)) ∧ Below W.heap.size W W' := by
  have F := fit2 w a b W hT
  rw [ok2_of hw ha hb] at F
  have F := hide F
  have B := hide (below_two W (.cells #[.int .u64 a, .int .u64 b] 23))
  obtain ⟨m, M, m0, m1, ME⟩ : ∃ m : Int, (∀ W, Calls Tryd.prog 71 #[.int .u8 11, .int .i64 (w : Int), .int .u64 a, .int .u64 b] W fun e W' => e = .returned (.int .u64 m) ∧ W' = W) ∧ 0 ≤ m ∧ m < 18446744073709551616 ∧ cutI w m = shlI w a b :=
    ⟨IntKind.u64.wrap (a * 2 ^ sh w b), fun W => move_any hw 11 a b ha hb _ W (.inl ⟨rfl, rfl⟩), ⟨by rw [IntKind.wrap_u64]; omega, by rw [IntKind.wrap_u64]; omega, cut_wrap hw _⟩⟩
  have D := hide M
  have CC := hide (cut_calls hw m m0 m1)
  have E := hide ME
  clear M m0 m1 ME
  clear ha hb hT
  go_enter Tryd.func34, Tryd.ntmps34
  go_wp2_with (first | (with_reducible refine F.out.mono ?_; rintro e w1 ⟨rfl, rfl⟩) | (with_reducible refine (D.out _).mono ?_; rintro e w1 ⟨rfl, rfl⟩) | (with_reducible refine (CC.out _).mono ?_; rintro e w1 ⟨rfl, rfl⟩))
  refine bodyPost_ret (v := .tuple #[.int .u64 (cutI w m), .int .i64 0]) (by simp [results, Tryd.results34, go_sem]) rfl ?_
  exact ⟨by rw [E.out]; rfl, B.out⟩

set_option maxRecDepth 100000 in
set_option maxHeartbeats 1000000 in
theorem two_12 {w : Nat} (hw : IsW w) (a b : Int) (ha : Of w a) (hb : Of w b) (W : World) (hT : WTabs W) :
    Calls Tryd.prog 34 #[.int .u8 12, .int .i64 (w : Int), .int .u64 a, .int .u64 b] W fun e W' => e = .returned (pairV (two 12 w a b)) ∧ Below W.heap.size W W' := by
  have F := fit2 w a b W hT
  rw [ok2_of hw ha hb] at F
  have F := hide F
  have B := hide (below_two W (.cells #[.int .u64 a, .int .u64 b] 23))
  obtain ⟨m, M, m0, m1, ME⟩ : ∃ m : Int, (∀ W, Calls Tryd.prog 71 #[.int .u8 12, .int .i64 (w : Int), .int .u64 a, .int .u64 b] W fun e W' => e = .returned (.int .u64 m) ∧ W' = W) ∧ 0 ≤ m ∧ m < 18446744073709551616 ∧ cutI w m = shrI w a b :=
    ⟨a / 2 ^ sh w b, fun W => move_any hw 12 a b ha hb _ W (.inr (.inl ⟨rfl, rfl⟩)), ⟨Int.ediv_nonneg ha.1 (Int.pow_nonneg (by decide)), Int.lt_of_le_of_lt (Int.ediv_le_self _ ha.1) (ha.lt64 hw), Int.emod_eq_of_lt (Int.ediv_nonneg ha.1 (Int.pow_nonneg (by decide))) (Int.lt_of_le_of_lt (Int.ediv_le_self _ ha.1) ha.2)⟩⟩
  have D := hide M
  have CC := hide (cut_calls hw m m0 m1)
  have E := hide ME
  clear M m0 m1 ME
  clear ha hb hT
  go_enter Tryd.func34, Tryd.ntmps34
  go_wp2_with (first | (with_reducible refine F.out.mono ?_; rintro e w1 ⟨rfl, rfl⟩) | (with_reducible refine (D.out _).mono ?_; rintro e w1 ⟨rfl, rfl⟩) | (with_reducible refine (CC.out _).mono ?_; rintro e w1 ⟨rfl, rfl⟩))
  refine bodyPost_ret (v := .tuple #[.int .u64 (cutI w m), .int .i64 0]) (by simp [results, Tryd.results34, go_sem]) rfl ?_
  exact ⟨by rw [E.out]; rfl, B.out⟩

set_option maxRecDepth 100000 in
set_option maxHeartbeats 1000000 in
theorem two_13 {w : Nat} (hw : IsW w) (a b : Int) (ha : Of w a) (hb : Of w b) (W : World) (hT : WTabs W) :
    Calls Tryd.prog 34 #[.int .u8 13, .int .i64 (w : Int), .int .u64 a, .int .u64 b] W fun e W' => e = .returned (pairV (two 13 w a b)) ∧ Below W.heap.size W W' := by
  have F := fit2 w a b W hT
  rw [ok2_of hw ha hb] at F
  have F := hide F
  have B := hide (below_two W (.cells #[.int .u64 a, .int .u64 b] 23))
  obtain ⟨m, M, m0, m1, ME⟩ : ∃ m : Int, (∀ W, Calls Tryd.prog 71 #[.int .u8 13, .int .i64 (w : Int), .int .u64 a, .int .u64 b] W fun e W' => e = .returned (.int .u64 m) ∧ W' = W) ∧ 0 ≤ m ∧ m < 18446744073709551616 ∧ cutI w m = sarI w a b :=
    ⟨IntKind.u64.wrap (wo w a / 2 ^ sh w b), fun W => move_any hw 13 a b ha hb _ W (.inr (.inr (.inl ⟨rfl, rfl⟩))), ⟨by rw [IntKind.wrap_u64]; omega, by rw [IntKind.wrap_u64]; omega, cut_wrap hw _⟩⟩
  have D := hide M
  have CC := hide (cut_calls hw m m0 m1)
  have E := hide ME
  clear M m0 m1 ME
  clear ha hb hT
  go_enter Tryd.func34, Tryd.ntmps34
  go_wp2_with (first | (with_reducible refine F.out.mono ?_; rintro e w1 ⟨rfl, rfl⟩) | (with_reducible refine (D.out _).mono ?_; rintro e w1 ⟨rfl, rfl⟩) | (with_reducible refine (CC.out _).mono ?_; rintro e w1 ⟨rfl, rfl⟩))
  refine bodyPost_ret (v := .tuple #[.int .u64 (cutI w m), .int .i64 0]) (by simp [results, Tryd.results34, go_sem]) rfl ?_
  exact ⟨by rw [E.out]; rfl, B.out⟩

set_option maxRecDepth 100000 in
set_option maxHeartbeats 1000000 in
theorem two_14 {w : Nat} (hw : IsW w) (a b : Int) (ha : Of w a) (hb : Of w b) (W : World) (hT : WTabs W) :
    Calls Tryd.prog 34 #[.int .u8 14, .int .i64 (w : Int), .int .u64 a, .int .u64 b] W fun e W' => e = .returned (pairV (two 14 w a b)) ∧ Below W.heap.size W W' := by
  have F := fit2 w a b W hT
  rw [ok2_of hw ha hb] at F
  have F := hide F
  have B := hide (below_two W (.cells #[.int .u64 a, .int .u64 b] 23))
  obtain ⟨m, M, m0, m1, ME⟩ : ∃ m : Int, (∀ W, Calls Tryd.prog 71 #[.int .u8 14, .int .i64 (w : Int), .int .u64 a, .int .u64 b] W fun e W' => e = .returned (.int .u64 m) ∧ W' = W) ∧ 0 ≤ m ∧ m < 18446744073709551616 ∧ cutI w m = rotlI w a b :=
    ⟨bits .or .u64 (IntKind.u64.wrap (a * 2 ^ sh w b)) (a / 2 ^ (w - sh w b)), fun W => move_any hw 14 a b ha hb _ W (.inr (.inr (.inr (.inl ⟨rfl, rfl⟩)))), (let t := turn_int hw a ha (sh w b) (w - sh w b) (by have := sh_lt hw b; omega); ⟨t.2.2.1, t.2.2.2.1, t.1⟩)⟩
  have D := hide M
  have CC := hide (cut_calls hw m m0 m1)
  have E := hide ME
  clear M m0 m1 ME
  clear ha hb hT
  go_enter Tryd.func34, Tryd.ntmps34
  go_wp2_with (first | (with_reducible refine F.out.mono ?_; rintro e w1 ⟨rfl, rfl⟩) | (with_reducible refine (D.out _).mono ?_; rintro e w1 ⟨rfl, rfl⟩) | (with_reducible refine (CC.out _).mono ?_; rintro e w1 ⟨rfl, rfl⟩))
  refine bodyPost_ret (v := .tuple #[.int .u64 (cutI w m), .int .i64 0]) (by simp [results, Tryd.results34, go_sem]) rfl ?_
  exact ⟨by rw [E.out]; rfl, B.out⟩

set_option maxRecDepth 100000 in
set_option maxHeartbeats 1000000 in
theorem two_15 {w : Nat} (hw : IsW w) (a b : Int) (ha : Of w a) (hb : Of w b) (W : World) (hT : WTabs W) :
    Calls Tryd.prog 34 #[.int .u8 15, .int .i64 (w : Int), .int .u64 a, .int .u64 b] W fun e W' => e = .returned (pairV (two 15 w a b)) ∧ Below W.heap.size W W' := by
  have F := fit2 w a b W hT
  rw [ok2_of hw ha hb] at F
  have F := hide F
  have B := hide (below_two W (.cells #[.int .u64 a, .int .u64 b] 23))
  obtain ⟨m, M, m0, m1, ME⟩ : ∃ m : Int, (∀ W, Calls Tryd.prog 71 #[.int .u8 15, .int .i64 (w : Int), .int .u64 a, .int .u64 b] W fun e W' => e = .returned (.int .u64 m) ∧ W' = W) ∧ 0 ≤ m ∧ m < 18446744073709551616 ∧ cutI w m = rotrI w a b :=
    ⟨bits .or .u64 (a / 2 ^ sh w b) (IntKind.u64.wrap (a * 2 ^ (w - sh w b))), fun W => move_any hw 15 a b ha hb _ W (.inr (.inr (.inr (.inr ⟨rfl, rfl⟩)))), (let t := turn_int hw a ha (w - sh w b) (sh w b) (by have := sh_lt hw b; omega); ⟨t.2.2.2.2.1, t.2.2.2.2.2, t.2.1⟩)⟩
  have D := hide M
  have CC := hide (cut_calls hw m m0 m1)
  have E := hide ME
  clear M m0 m1 ME
  clear ha hb hT
  go_enter Tryd.func34, Tryd.ntmps34
  go_wp2_with (first | (with_reducible refine F.out.mono ?_; rintro e w1 ⟨rfl, rfl⟩) | (with_reducible refine (D.out _).mono ?_; rintro e w1 ⟨rfl, rfl⟩) | (with_reducible refine (CC.out _).mono ?_; rintro e w1 ⟨rfl, rfl⟩))
  refine bodyPost_ret (v := .tuple #[.int .u64 (cutI w m), .int .i64 0]) (by simp [results, Tryd.results34, go_sem]) rfl ?_
  exact ⟨by rw [E.out]; rfl, B.out⟩

set_option maxRecDepth 100000 in
set_option maxHeartbeats 1000000 in
theorem two_16 {w : Nat} (hw : IsW w) (a b : Int) (ha : Of w a) (hb : Of w b) (W : World) (hT : WTabs W) :
    Calls Tryd.prog 34 #[.int .u8 16, .int .i64 (w : Int), .int .u64 a, .int .u64 b] W fun e W' => e = .returned (pairV (two 16 w a b)) ∧ Below W.heap.size W W' := by
  have F := fit2 w a b W hT
  rw [ok2_of hw ha hb] at F
  have F := hide F
  have B := hide (below_two W (.cells #[.int .u64 a, .int .u64 b] 23))
  have CM := hide (@most_calls w hw)
  have E := sumU_int hw ha hb
  clear ha hb hT
  go_enter Tryd.func34, Tryd.ntmps34
  go_wp2_with (first | (with_reducible refine F.out.mono ?_; rintro e w1 ⟨rfl, rfl⟩) | (with_reducible refine (CM.out _).mono ?_; rintro e w1 ⟨rfl, rfl⟩))
  refine bodyPost_ret (v := .tuple #[.int .u64 (min (a + b) (mo w)), .int .i64 0]) (by simp [results, Tryd.results34, go_sem]) rfl ?_
  exact ⟨rfl, B.out⟩

set_option maxRecDepth 100000 in
set_option maxHeartbeats 1000000 in
theorem two_17 {w : Nat} (hw : IsW w) (a b : Int) (ha : Of w a) (hb : Of w b) (W : World) (hT : WTabs W) :
    Calls Tryd.prog 34 #[.int .u8 17, .int .i64 (w : Int), .int .u64 a, .int .u64 b] W fun e W' => e = .returned (pairV (two 17 w a b)) ∧ Below W.heap.size W W' := by
  have F := fit2 w a b W hT
  rw [ok2_of hw ha hb] at F
  have F := hide F
  have B := hide (below_two W (.cells #[.int .u64 a, .int .u64 b] 23))
  have E := difU_int hw ha hb
  clear ha hb hT
  go_enter Tryd.func34, Tryd.ntmps34
  go_wp2_with (first | (with_reducible refine F.out.mono ?_; rintro e w1 ⟨rfl, rfl⟩))
  refine bodyPost_ret (v := .tuple #[.int .u64 (max (a - b) 0), .int .i64 0]) (by simp [results, Tryd.results34, go_sem]) rfl ?_
  exact ⟨rfl, B.out⟩

set_option maxRecDepth 100000 in
set_option maxHeartbeats 1000000 in
theorem two_18 {w : Nat} (hw : IsW w) (a b : Int) (ha : Of w a) (hb : Of w b) (W : World) (hT : WTabs W) :
    Calls Tryd.prog 34 #[.int .u8 18, .int .i64 (w : Int), .int .u64 a, .int .u64 b] W fun e W' => e = .returned (pairV (two 18 w a b)) ∧ Below W.heap.size W W' := by
  have F := fit2 w a b W hT
  rw [ok2_of hw ha hb] at F
  have F := hide F
  have B := hide (below_two W (.cells #[.int .u64 a, .int .u64 b] 23))
  have CA := hide (worth_calls hw a ha)
  have CB := hide (worth_calls hw b hb)
  have CC := hide (@cutw_calls w hw)
  have D := hide (addHeld_calls hw _ _ (wo_range hw ha) (wo_range hw hb))
  clear ha hb hT
  go_enter Tryd.func34, Tryd.ntmps34
  go_wp2_with (first | (with_reducible refine F.out.mono ?_; rintro e w1 ⟨rfl, rfl⟩) | (with_reducible refine (CA.out _).mono ?_; rintro e w1 ⟨rfl, rfl⟩) | (with_reducible refine (CB.out _).mono ?_; rintro e w1 ⟨rfl, rfl⟩) | (with_reducible refine (D.out _).mono ?_; rintro e w1 ⟨rfl, rfl⟩) | (with_reducible refine (CC.out _ _).mono ?_; rintro e w1 ⟨rfl, rfl⟩))
  refine bodyPost_ret (v := .tuple #[.int .u64 (cutI w (min (max (wo w a + wo w b) (lo w)) (hi w))), .int .i64 0]) (by simp [results, Tryd.results34, go_sem]) rfl ?_
  exact ⟨rfl, B.out⟩

set_option maxRecDepth 100000 in
set_option maxHeartbeats 1000000 in
theorem two_19 {w : Nat} (hw : IsW w) (a b : Int) (ha : Of w a) (hb : Of w b) (W : World) (hT : WTabs W) :
    Calls Tryd.prog 34 #[.int .u8 19, .int .i64 (w : Int), .int .u64 a, .int .u64 b] W fun e W' => e = .returned (pairV (two 19 w a b)) ∧ Below W.heap.size W W' := by
  have F := fit2 w a b W hT
  rw [ok2_of hw ha hb] at F
  have F := hide F
  have B := hide (below_two W (.cells #[.int .u64 a, .int .u64 b] 23))
  have CA := hide (worth_calls hw a ha)
  have CB := hide (worth_calls hw b hb)
  have CC := hide (@cutw_calls w hw)
  have D := hide (subHeld_calls hw _ _ (wo_range hw ha) (wo_range hw hb))
  clear ha hb hT
  go_enter Tryd.func34, Tryd.ntmps34
  go_wp2_with (first | (with_reducible refine F.out.mono ?_; rintro e w1 ⟨rfl, rfl⟩) | (with_reducible refine (CA.out _).mono ?_; rintro e w1 ⟨rfl, rfl⟩) | (with_reducible refine (CB.out _).mono ?_; rintro e w1 ⟨rfl, rfl⟩) | (with_reducible refine (D.out _).mono ?_; rintro e w1 ⟨rfl, rfl⟩) | (with_reducible refine (CC.out _ _).mono ?_; rintro e w1 ⟨rfl, rfl⟩))
  refine bodyPost_ret (v := .tuple #[.int .u64 (cutI w (min (max (wo w a - wo w b) (lo w)) (hi w))), .int .i64 0]) (by simp [results, Tryd.results34, go_sem]) rfl ?_
  exact ⟨rfl, B.out⟩

set_option maxRecDepth 100000 in
set_option maxHeartbeats 1000000 in
theorem two_20 {w : Nat} (hw : IsW w) (a b : Int) (ha : Of w a) (hb : Of w b) (W : World) (hT : WTabs W) :
    Calls Tryd.prog 34 #[.int .u8 20, .int .i64 (w : Int), .int .u64 a, .int .u64 b] W fun e W' => e = .returned (pairV (two 20 w a b)) ∧ Below W.heap.size W W' := by
  have F := fit2 w a b W hT
  rw [ok2_of hw ha hb] at F
  have F := hide F
  have B := hide (below_two W (.cells #[.int .u64 a, .int .u64 b] 23))
  clear ha hb hT
  go_enter Tryd.func34, Tryd.ntmps34
  go_wp2_with (first | (with_reducible refine F.out.mono ?_; rintro e w1 ⟨rfl, rfl⟩))
  refine bodyPost_ret (v := .tuple #[.int .u64 (min a b), .int .i64 0]) (by simp [results, Tryd.results34, go_sem]) rfl ?_
  exact ⟨rfl, B.out⟩

set_option maxRecDepth 100000 in
set_option maxHeartbeats 1000000 in
theorem two_21 {w : Nat} (hw : IsW w) (a b : Int) (ha : Of w a) (hb : Of w b) (W : World) (hT : WTabs W) :
    Calls Tryd.prog 34 #[.int .u8 21, .int .i64 (w : Int), .int .u64 a, .int .u64 b] W fun e W' => e = .returned (pairV (two 21 w a b)) ∧ Below W.heap.size W W' := by
  have F := fit2 w a b W hT
  rw [ok2_of hw ha hb] at F
  have F := hide F
  have B := hide (below_two W (.cells #[.int .u64 a, .int .u64 b] 23))
  clear ha hb hT
  go_enter Tryd.func34, Tryd.ntmps34
  go_wp2_with (first | (with_reducible refine F.out.mono ?_; rintro e w1 ⟨rfl, rfl⟩))
  refine bodyPost_ret (v := .tuple #[.int .u64 (max a b), .int .i64 0]) (by simp [results, Tryd.results34, go_sem]) rfl ?_
  exact ⟨rfl, B.out⟩

set_option maxRecDepth 100000 in
set_option maxHeartbeats 1000000 in
theorem two_22 {w : Nat} (hw : IsW w) (a b : Int) (ha : Of w a) (hb : Of w b) (W : World) (hT : WTabs W) :
    Calls Tryd.prog 34 #[.int .u8 22, .int .i64 (w : Int), .int .u64 a, .int .u64 b] W fun e W' => e = .returned (pairV (two 22 w a b)) ∧ Below W.heap.size W W' := by
  have F := fit2 w a b W hT
  rw [ok2_of hw ha hb] at F
  have F := hide F
  have B := hide (below_two W (.cells #[.int .u64 a, .int .u64 b] 23))
  have CA := hide (worth_calls hw a ha)
  have CB := hide (worth_calls hw b hb)
  have CC := hide (@cutw_calls w hw)
  clear ha hb hT
  go_enter Tryd.func34, Tryd.ntmps34
  go_wp2_with (first | (with_reducible refine F.out.mono ?_; rintro e w1 ⟨rfl, rfl⟩) | (with_reducible refine (CA.out _).mono ?_; rintro e w1 ⟨rfl, rfl⟩) | (with_reducible refine (CB.out _).mono ?_; rintro e w1 ⟨rfl, rfl⟩) | (with_reducible refine (CC.out _ _).mono ?_; rintro e w1 ⟨rfl, rfl⟩))
  refine bodyPost_ret (v := .tuple #[.int .u64 (cutI w (min (wo w a) (wo w b))), .int .i64 0]) (by simp [results, Tryd.results34, go_sem]) rfl ?_
  exact ⟨rfl, B.out⟩

set_option maxRecDepth 100000 in
set_option maxHeartbeats 1000000 in
theorem two_23 {w : Nat} (hw : IsW w) (a b : Int) (ha : Of w a) (hb : Of w b) (W : World) (hT : WTabs W) :
    Calls Tryd.prog 34 #[.int .u8 23, .int .i64 (w : Int), .int .u64 a, .int .u64 b] W fun e W' => e = .returned (pairV (two 23 w a b)) ∧ Below W.heap.size W W' := by
  have F := fit2 w a b W hT
  rw [ok2_of hw ha hb] at F
  have F := hide F
  have B := hide (below_two W (.cells #[.int .u64 a, .int .u64 b] 23))
  have CA := hide (worth_calls hw a ha)
  have CB := hide (worth_calls hw b hb)
  have CC := hide (@cutw_calls w hw)
  clear ha hb hT
  go_enter Tryd.func34, Tryd.ntmps34
  go_wp2_with (first | (with_reducible refine F.out.mono ?_; rintro e w1 ⟨rfl, rfl⟩) | (with_reducible refine (CA.out _).mono ?_; rintro e w1 ⟨rfl, rfl⟩) | (with_reducible refine (CB.out _).mono ?_; rintro e w1 ⟨rfl, rfl⟩) | (with_reducible refine (CC.out _ _).mono ?_; rintro e w1 ⟨rfl, rfl⟩))
  refine bodyPost_ret (v := .tuple #[.int .u64 (cutI w (max (wo w a) (wo w b))), .int .i64 0]) (by simp [results, Tryd.results34, go_sem]) rfl ?_
  exact ⟨rfl, B.out⟩

set_option maxRecDepth 100000 in
set_option maxHeartbeats 1000000 in
theorem two_24 {w : Nat} (hw : IsW w) (a b : Int) (ha : Of w a) (hb : Of w b) (W : World) (hT : WTabs W) :
    Calls Tryd.prog 34 #[.int .u8 24, .int .i64 (w : Int), .int .u64 a, .int .u64 b] W fun e W' => e = .returned (pairV (two 24 w a b)) ∧ Below W.heap.size W W' := by
  have F := fit2 w a b W hT
  rw [ok2_of hw ha hb] at F
  have F := hide F
  have B := hide (below_two W (.cells #[.int .u64 a, .int .u64 b] 23))
  have E0 := bits_or_int (ha.1) (hb.1) (ha.lt64 hw) (hb.lt64 hw)
  have E1 := bits_xor_int (ha.1) (hb.1) (ha.lt64 hw) (hb.lt64 hw)
  have E := mean_int (ha.1) (hb.1) (ha.lt64 hw) (hb.lt64 hw)
  clear ha hb hT
  go_enter Tryd.func34, Tryd.ntmps34
  go_wp2_with (first | (with_reducible refine F.out.mono ?_; rintro e w1 ⟨rfl, rfl⟩))
  refine bodyPost_ret (v := .tuple #[.int .u64 ((a + b + 1) / 2), .int .i64 0]) (by simp [results, Tryd.results34, go_sem]) rfl ?_
  exact ⟨rfl, B.out⟩

set_option maxRecDepth 100000 in
set_option maxHeartbeats 1000000 in
theorem two_25n {w : Nat} (hw : IsW w) (a b : Int) (ha : Of w a) (hb : Of w b) (c : ¬ w = 16) (W : World) (hT : WTabs W) :
    Calls Tryd.prog 34 #[.int .u8 25, .int .i64 (w : Int), .int .u64 a, .int .u64 b] W fun e W' => e = .returned (pairV (two 25 w a b)) ∧ Below W.heap.size W W' := by
  have F := fit2 w a b W hT
  rw [ok2_of hw ha hb] at F
  have F := hide F
  have B := hide (below_two W (.cells #[.int .u64 a, .int .u64 b] 23))
  have T : two 25 w a b = (0, 2) := by simp [two, c]
  rw [T]
  clear T
  have D := hide (q15_no (show ¬ (w : Int) = 16 by omega) a b)
  clear ha hb hT
  go_enter Tryd.func34, Tryd.ntmps34
  go_wp2_with (first | (with_reducible refine F.out.mono ?_; rintro e w1 ⟨rfl, rfl⟩) | (with_reducible refine (D.out _).mono ?_; rintro e w1 ⟨rfl, rfl⟩))
  refine bodyPost_ret (v := .tuple #[.int .u64 0, .int .i64 2]) (by simp [results, Tryd.results34, go_sem]) rfl ?_
  exact ⟨rfl, B.out⟩

set_option maxRecDepth 100000 in
set_option maxHeartbeats 1000000 in
theorem two_25y {w : Nat} (hw : IsW w) (a b : Int) (ha : Of w a) (hb : Of w b) (c : w = 16) (W : World) (hT : WTabs W) :
    Calls Tryd.prog 34 #[.int .u8 25, .int .i64 (w : Int), .int .u64 a, .int .u64 b] W fun e W' => e = .returned (pairV (two 25 w a b)) ∧ Below W.heap.size W W' := by
  have F := fit2 w a b W hT
  rw [ok2_of hw ha hb] at F
  have F := hide F
  have B := hide (below_two W (.cells #[.int .u64 a, .int .u64 b] 23))
  have T : two 25 w a b = (q15I a b, 0) := by simp [two, c]
  rw [T]
  clear T
  subst c
  have D := hide (q15_yes a b ha hb)
  simp only [show ((16 : Nat) : Int) = 16 from rfl] at F ⊢
  clear ha hb hT
  go_enter Tryd.func34, Tryd.ntmps34
  go_wp2_with (first | (with_reducible refine F.out.mono ?_; rintro e w1 ⟨rfl, rfl⟩) | (with_reducible refine (D.out _).mono ?_; rintro e w1 ⟨rfl, rfl⟩))
  refine bodyPost_ret (v := .tuple #[.int .u64 (q15I a b), .int .i64 0]) (by simp [results, Tryd.results34, go_sem]) rfl ?_
  exact ⟨rfl, B.out⟩

theorem two_none {op : Nat} (h : op = 0 ∨ 25 < op) (w : Nat) (a b : Int) : two op w a b = (0, 2) := by
  unfold two
  split <;> first | omega | rfl

set_option maxRecDepth 100000 in
set_option maxHeartbeats 2000000 in
theorem two_else {w : Nat} (hw : IsW w) (op : Int) (a b : Int) (ha : Of w a) (hb : Of w b) (ho : op = 0 ∨ 25 < op) (W : World) (hT : WTabs W) :
    Calls Tryd.prog 34 #[.int .u8 op, .int .i64 (w : Int), .int .u64 a, .int .u64 b] W fun e W' => e = .returned (pairV (two op.toNat w a b)) ∧ Below W.heap.size W W' := by
  rw [two_none (by omega)]
  have F := fit2 w a b W hT
  rw [ok2_of hw ha hb] at F
  have F := hide F
  have B := hide (below_two W (.cells #[.int .u64 a, .int .u64 b] 23))
  have n1 : (op == 1) = false := by simp; omega
  have n2 : (op == 2) = false := by simp; omega
  have n3 : (op == 3) = false := by simp; omega
  have n4 : (op == 4) = false := by simp; omega
  have n5 : (op == 5) = false := by simp; omega
  have n6 : (op == 6) = false := by simp; omega
  have n7 : (op == 7) = false := by simp; omega
  have n8 : (op == 8) = false := by simp; omega
  have n9 : (op == 9) = false := by simp; omega
  have n10 : (op == 10) = false := by simp; omega
  have n11 : (op == 11) = false := by simp; omega
  have n12 : (op == 12) = false := by simp; omega
  have n13 : (op == 13) = false := by simp; omega
  have n14 : (op == 14) = false := by simp; omega
  have n15 : (op == 15) = false := by simp; omega
  have n16 : (op == 16) = false := by simp; omega
  have n17 : (op == 17) = false := by simp; omega
  have n18 : (op == 18) = false := by simp; omega
  have n19 : (op == 19) = false := by simp; omega
  have n20 : (op == 20) = false := by simp; omega
  have n21 : (op == 21) = false := by simp; omega
  have n22 : (op == 22) = false := by simp; omega
  have n23 : (op == 23) = false := by simp; omega
  have n24 : (op == 24) = false := by simp; omega
  have n25 : (op == 25) = false := by simp; omega
  clear ha hb hT ho
  go_enter Tryd.func34, Tryd.ntmps34
  go_wp2_with (with_reducible refine F.out.mono ?_; rintro e w1 ⟨rfl, rfl⟩)
  refine bodyPost_ret (v := .tuple #[.int .u64 0, .int .i64 2]) (by simp [results, Tryd.results34, go_sem]) rfl ?_
  exact ⟨rfl, B.out⟩

set_option maxRecDepth 100000 in
set_option maxHeartbeats 1000000 in
theorem two_bad (op w a b : Int) (h : ok2 w a b = false) (W : World) (hT : WTabs W) :
    Calls Tryd.prog 34 #[.int .u8 op, .int .i64 w, .int .u64 a, .int .u64 b] W fun e W' => e = .returned (pairV (0, 2)) ∧ Below W.heap.size W W' := by
  have F := fit2 w a b W hT
  rw [h] at F
  have F := hide F
  have B := hide (below_two W (.cells #[.int .u64 a, .int .u64 b] 23))
  clear hT
  go_enter Tryd.func34, Tryd.ntmps34
  go_wp2_with (with_reducible refine F.out.mono ?_; rintro e w1 ⟨rfl, rfl⟩)
  refine bodyPost_ret (v := .tuple #[.int .u64 0, .int .i64 2]) (by simp [results, Tryd.results34, go_sem]) rfl ?_
  exact ⟨rfl, B.out⟩

/-- Every operator of two, at numbers of a width. -/
theorem Two_calls {w : Nat} (hw : IsW w) (op a b : Int) (ho : 0 ≤ op) (ha : Of w a) (hb : Of w b) (W : World) (hT : WTabs W) :
    Calls Tryd.prog 34 #[.int .u8 op, .int .i64 (w : Int), .int .u64 a, .int .u64 b] W fun e W' => e = .returned (pairV (two op.toNat w a b)) ∧ Below W.heap.size W W' := by
  by_cases hk : op = 0 ∨ 25 < op
  · exact two_else hw op a b ha hb hk W hT
  · obtain ⟨n, rfl⟩ := Int.eq_ofNat_of_zero_le ho
    have h1 : 1 ≤ n := by omega
    have h2 : n ≤ 25 := by omega
    clear hk ho
    rcases (show n = 1 ∨ n = 2 ∨ n = 3 ∨ n = 4 ∨ n = 5 ∨ n = 6 ∨ n = 7 ∨ n = 8 ∨ n = 9 ∨ n = 10 ∨ n = 11 ∨ n = 12 ∨ n = 13 ∨ n = 14 ∨ n = 15 ∨ n = 16 ∨ n = 17 ∨ n = 18 ∨ n = 19 ∨ n = 20 ∨ n = 21 ∨ n = 22 ∨ n = 23 ∨ n = 24 ∨ n = 25 by omega) with rfl | rfl | rfl | rfl | rfl | rfl | rfl | rfl | rfl | rfl | rfl | rfl | rfl | rfl | rfl | rfl | rfl | rfl | rfl | rfl | rfl | rfl | rfl | rfl | rfl
    · exact two_1 hw a b ha hb W hT
    · exact two_2 hw a b ha hb W hT
    · exact two_3 hw a b ha hb W hT
    · by_cases c : b = 0
      · exact two_4z hw a b ha hb c W hT
      · exact two_4n hw a b ha hb c W hT
    · by_cases c : b = 0
      · exact two_5z hw a b ha hb c W hT
      · exact two_5n hw a b ha hb c W hT
    · by_cases c : b = 0
      · exact two_6z hw a b ha hb c W hT
      · cases c2 : traps w a b with
        | true => exact two_6t hw a b ha hb c c2 W hT
        | false => exact two_6n hw a b ha hb c c2 W hT
    · by_cases c : b = 0
      · exact two_7z hw a b ha hb c W hT
      · exact two_7n hw a b ha hb c W hT
    · exact two_8 hw a b ha hb W hT
    · exact two_9 hw a b ha hb W hT
    · exact two_10 hw a b ha hb W hT
    · exact two_11 hw a b ha hb W hT
    · exact two_12 hw a b ha hb W hT
    · exact two_13 hw a b ha hb W hT
    · exact two_14 hw a b ha hb W hT
    · exact two_15 hw a b ha hb W hT
    · exact two_16 hw a b ha hb W hT
    · exact two_17 hw a b ha hb W hT
    · exact two_18 hw a b ha hb W hT
    · exact two_19 hw a b ha hb W hT
    · exact two_20 hw a b ha hb W hT
    · exact two_21 hw a b ha hb W hT
    · exact two_22 hw a b ha hb W hT
    · exact two_23 hw a b ha hb W hT
    · exact two_24 hw a b ha hb W hT
    · by_cases c : w = 16
      · exact two_25y hw a b ha hb c W hT
      · exact two_25n hw a b ha hb c W hT
end Go.Proofs.YtoihfmammmkloaaDoor.Z
