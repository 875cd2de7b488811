/-
  floats.Two, operator by operator (genflo.py wrote it).
-/
import Derived.Test.YtpeckiaimellmaaDoorFFloOuterP
import Derived.Test.YtpeckiaimellmaaDoorFFloFitP
set_option linter.unusedVariables false
set_option linter.unusedSimpArgs false
namespace Go.Proofs.YtpeckiaimellmaaDoor.F
open Go.RowKit Flo

def pairV (p : Nat × Nat) : Value := .tuple #[.int .u64 (p.1 : Int), .int .i64 (p.2 : Int)]
def pairB (p : Bool × Nat) : Value := .tuple #[.bool p.1, .int .i64 (p.2 : Int)]

set_option maxRecDepth 100000 in
set_option maxHeartbeats 1000000 in
theorem two_1 {w a b : Nat} (hw : IsW w) (ha : a < 2 ^ w) (hb : b < 2 ^ w) (W : World) :
    Calls Tryd.prog 28 #[.int .u8 1, .int .i64 (w : Int), .int .u64 (a : Int), .int .u64 (b : Int)] W fun e W' => e = .returned (pairV (two 1 w a b)) ∧ Below W.heap.size W W' := by
  have F := fit2 w a b W
  rw [okW_of hw ha, okW_of hw hb, Bool.and_self] at F
  have F := hide F
  have HB := hide (below_one W (.cells #[.int .u64 (a : Int), .int .u64 (b : Int)] 23))
  have R := hide (reckon_1 hw ha hb)
  have S := hide (@settle_calls w)
  have HW := hide hw
  clear ha hb hw
  go_enter Tryd.func28, Tryd.ntmps28
  go_wp2_with (first | ((with_reducible refine F.out.mono ?_); rintro e w1 ⟨rfl, rfl⟩) | ((with_reducible refine (R.out _).mono ?_); rintro e w1 ⟨r, rfl, hr, hb⟩; have Hr := hide hr; have HB := hide (below_two HB.out hb); clear hr hb) | ((with_reducible refine (S.out HW.out Hr.out.1 _).mono ?_); rintro e w1 ⟨rfl, hb⟩; have HB := hide (below_two HB.out hb); clear hb))
  refine bodyPost_ret (v := .tuple #[.int .u64 ((cl w r) : Nat), .int .i64 0]) (by simp [results, Tryd.results28, go_sem]) rfl ?_
  exact ⟨by rw [Hr.out.2]; rfl, HB.out⟩

set_option maxRecDepth 100000 in
set_option maxHeartbeats 1000000 in
theorem two_2 {w a b : Nat} (hw : IsW w) (ha : a < 2 ^ w) (hb : b < 2 ^ w) (W : World) :
    Calls Tryd.prog 28 #[.int .u8 2, .int .i64 (w : Int), .int .u64 (a : Int), .int .u64 (b : Int)] W fun e W' => e = .returned (pairV (two 2 w a b)) ∧ Below W.heap.size W W' := by
  have F := fit2 w a b W
  rw [okW_of hw ha, okW_of hw hb, Bool.and_self] at F
  have F := hide F
  have HB := hide (below_one W (.cells #[.int .u64 (a : Int), .int .u64 (b : Int)] 23))
  have R := hide (reckon_2 hw ha hb)
  have S := hide (@settle_calls w)
  have HW := hide hw
  clear ha hb hw
  go_enter Tryd.func28, Tryd.ntmps28
  go_wp2_with (first | ((with_reducible refine F.out.mono ?_); rintro e w1 ⟨rfl, rfl⟩) | ((with_reducible refine (R.out _).mono ?_); rintro e w1 ⟨r, rfl, hr, hb⟩; have Hr := hide hr; have HB := hide (below_two HB.out hb); clear hr hb) | ((with_reducible refine (S.out HW.out Hr.out.1 _).mono ?_); rintro e w1 ⟨rfl, hb⟩; have HB := hide (below_two HB.out hb); clear hb))
  refine bodyPost_ret (v := .tuple #[.int .u64 ((cl w r) : Nat), .int .i64 0]) (by simp [results, Tryd.results28, go_sem]) rfl ?_
  exact ⟨by rw [Hr.out.2]; rfl, HB.out⟩

set_option maxRecDepth 100000 in
set_option maxHeartbeats 1000000 in
theorem two_3 {w a b : Nat} (hw : IsW w) (ha : a < 2 ^ w) (hb : b < 2 ^ w) (W : World) :
    Calls Tryd.prog 28 #[.int .u8 3, .int .i64 (w : Int), .int .u64 (a : Int), .int .u64 (b : Int)] W fun e W' => e = .returned (pairV (two 3 w a b)) ∧ Below W.heap.size W W' := by
  have F := fit2 w a b W
  rw [okW_of hw ha, okW_of hw hb, Bool.and_self] at F
  have F := hide F
  have HB := hide (below_one W (.cells #[.int .u64 (a : Int), .int .u64 (b : Int)] 23))
  have R := hide (reckon_3 hw ha hb)
  have S := hide (@settle_calls w)
  have HW := hide hw
  clear ha hb hw
  go_enter Tryd.func28, Tryd.ntmps28
  go_wp2_with (first | ((with_reducible refine F.out.mono ?_); rintro e w1 ⟨rfl, rfl⟩) | ((with_reducible refine (R.out _).mono ?_); rintro e w1 ⟨r, rfl, hr, hb⟩; have Hr := hide hr; have HB := hide (below_two HB.out hb); clear hr hb) | ((with_reducible refine (S.out HW.out Hr.out.1 _).mono ?_); rintro e w1 ⟨rfl, hb⟩; have HB := hide (below_two HB.out hb); clear hb))
  refine bodyPost_ret (v := .tuple #[.int .u64 ((cl w r) : Nat), .int .i64 0]) (by simp [results, Tryd.results28, go_sem]) rfl ?_
  exact ⟨by rw [Hr.out.2]; rfl, HB.out⟩

set_option maxRecDepth 100000 in
set_option maxHeartbeats 1000000 in
theorem two_4 {w a b : Nat} (hw : IsW w) (ha : a < 2 ^ w) (hb : b < 2 ^ w) (W : World) :
    Calls Tryd.prog 28 #[.int .u8 4, .int .i64 (w : Int), .int .u64 (a : Int), .int .u64 (b : Int)] W fun e W' => e = .returned (pairV (two 4 w a b)) ∧ Below W.heap.size W W' := by
  have F := fit2 w a b W
  rw [okW_of hw ha, okW_of hw hb, Bool.and_self] at F
  have F := hide F
  have HB := hide (below_one W (.cells #[.int .u64 (a : Int), .int .u64 (b : Int)] 23))
  have R := hide (reckon_4 hw ha hb)
  have S := hide (@settle_calls w)
  have HW := hide hw
  clear ha hb hw
  go_enter Tryd.func28, Tryd.ntmps28
  go_wp2_with (first | ((with_reducible refine F.out.mono ?_); rintro e w1 ⟨rfl, rfl⟩) | ((with_reducible refine (R.out _).mono ?_); rintro e w1 ⟨r, rfl, hr, hb⟩; have Hr := hide hr; have HB := hide (below_two HB.out hb); clear hr hb) | ((with_reducible refine (S.out HW.out Hr.out.1 _).mono ?_); rintro e w1 ⟨rfl, hb⟩; have HB := hide (below_two HB.out hb); clear hb))
  refine bodyPost_ret (v := .tuple #[.int .u64 ((cl w r) : Nat), .int .i64 0]) (by simp [results, Tryd.results28, go_sem]) rfl ?_
  exact ⟨by rw [Hr.out.2]; rfl, HB.out⟩

set_option maxRecDepth 100000 in
set_option maxHeartbeats 1000000 in
theorem two_5 {w a b : Nat} (hw : IsW w) (ha : a < 2 ^ w) (hb : b < 2 ^ w) (W : World) :
    Calls Tryd.prog 28 #[.int .u8 5, .int .i64 (w : Int), .int .u64 (a : Int), .int .u64 (b : Int)] W fun e W' => e = .returned (pairV (two 5 w a b)) ∧ Below W.heap.size W W' := by
  have F := fit2 w a b W
  rw [okW_of hw ha, okW_of hw hb, Bool.and_self] at F
  have F := hide F
  have HB := hide (below_one W (.cells #[.int .u64 (a : Int), .int .u64 (b : Int)] 23))
  have R := hide (outer_5 hw ha hb)
  have HW := hide hw
  clear ha hb hw
  go_enter Tryd.func28, Tryd.ntmps28
  go_wp2_with (first | ((with_reducible refine F.out.mono ?_); rintro e w1 ⟨rfl, rfl⟩) | ((with_reducible refine (R.out _).mono ?_); rintro e w1 ⟨rfl, hb⟩; have HB := hide (below_two HB.out hb); clear hb))
  refine bodyPost_ret (v := .tuple #[.int .u64 ((leastN true w a b) : Nat), .int .i64 0]) (by simp [results, Tryd.results28, go_sem]) rfl ?_
  exact ⟨rfl, HB.out⟩

set_option maxRecDepth 100000 in
set_option maxHeartbeats 1000000 in
theorem two_6 {w a b : Nat} (hw : IsW w) (ha : a < 2 ^ w) (hb : b < 2 ^ w) (W : World) :
    Calls Tryd.prog 28 #[.int .u8 6, .int .i64 (w : Int), .int .u64 (a : Int), .int .u64 (b : Int)] W fun e W' => e = .returned (pairV (two 6 w a b)) ∧ Below W.heap.size W W' := by
  have F := fit2 w a b W
  rw [okW_of hw ha, okW_of hw hb, Bool.and_self] at F
  have F := hide F
  have HB := hide (below_one W (.cells #[.int .u64 (a : Int), .int .u64 (b : Int)] 23))
  have R := hide (outer_6 hw ha hb)
  have HW := hide hw
  clear ha hb hw
  go_enter Tryd.func28, Tryd.ntmps28
  go_wp2_with (first | ((with_reducible refine F.out.mono ?_); rintro e w1 ⟨rfl, rfl⟩) | ((with_reducible refine (R.out _).mono ?_); rintro e w1 ⟨rfl, hb⟩; have HB := hide (below_two HB.out hb); clear hb))
  refine bodyPost_ret (v := .tuple #[.int .u64 ((leastN false w a b) : Nat), .int .i64 0]) (by simp [results, Tryd.results28, go_sem]) rfl ?_
  exact ⟨rfl, HB.out⟩

set_option maxRecDepth 100000 in
set_option maxHeartbeats 1000000 in
theorem two_7 {w a b : Nat} (hw : IsW w) (ha : a < 2 ^ w) (hb : b < 2 ^ w) (W : World) :
    Calls Tryd.prog 28 #[.int .u8 7, .int .i64 (w : Int), .int .u64 (a : Int), .int .u64 (b : Int)] W fun e W' => e = .returned (pairV (two 7 w a b)) ∧ Below W.heap.size W W' := by
  have F := fit2 w a b W
  rw [okW_of hw ha, okW_of hw hb, Bool.and_self] at F
  have F := hide F
  have HB := hide (below_one W (.cells #[.int .u64 (a : Int), .int .u64 (b : Int)] 23))
  have S := hide (signBit_calls hw)
  have E1 := bits_andNot_sign hw ha
  have E2 := bits_and_sign hw hb
  have E3 := bits_or_parts hw (signOf_cases w b) (rung_lt (fm w) a)
  have HW := hide hw
  clear ha hb hw
  go_enter Tryd.func28, Tryd.ntmps28
  go_wp2_with (first | ((with_reducible refine F.out.mono ?_); rintro e w1 ⟨rfl, rfl⟩) | ((with_reducible refine (S.out _).mono ?_); rintro e w1 ⟨rfl, rfl⟩))
  refine bodyPost_ret (v := .tuple #[.int .u64 ((signOf w b + rung (fm w) a) : Nat), .int .i64 0]) (by simp [results, Tryd.results28, go_sem]) rfl ?_
  exact ⟨rfl, HB.out⟩

set_option maxRecDepth 100000 in
set_option maxHeartbeats 1000000 in
theorem two_8t {w a b : Nat} (hw : IsW w) (ha : a < 2 ^ w) (hb : b < 2 ^ w) (c : lessN w b a = true) (W : World) :
    Calls Tryd.prog 28 #[.int .u8 8, .int .i64 (w : Int), .int .u64 (a : Int), .int .u64 (b : Int)] W fun e W' => e = .returned (pairV (two 8 w a b)) ∧ Below W.heap.size W W' := by
  have F := fit2 w a b W
  rw [okW_of hw ha, okW_of hw hb, Bool.and_self] at F
  have F := hide F
  have HB := hide (below_one W (.cells #[.int .u64 (a : Int), .int .u64 (b : Int)] 23))
  have X := hide (worth_calls hw ha)
  have Y := hide (worth_calls hw hb)
  have V : two 8 w a b = (b, 0) := by simp [two, c]
  have HV := hide V
  have HO := hide (show ∀ x y, Wor w b x → Wor w a y → (FloatKind.f64.format.order x y == some .lt) = true from fun x y hx hy => by rw [order_ord hw hx hy, ← less_ord, c])
  have HW := hide hw
  clear ha hb hw V c
  go_enter Tryd.func28, Tryd.ntmps28
  go_wp2_with (first | ((with_reducible refine F.out.mono ?_); rintro e w1 ⟨rfl, rfl⟩) | ((with_reducible refine (Y.out _).mono ?_); rintro e w1 ⟨x, rfl, hx, hb⟩; have Hx := hide hx; have HB := hide (below_two HB.out hb); clear hx hb) | ((with_reducible refine (X.out _).mono ?_); rintro e w1 ⟨y, rfl, hy, hb⟩; have Hy := hide hy; have HB := hide (below_two HB.out hb); have E := HO.out _ _ Hx.out Hy.out; clear hy hb))
  refine bodyPost_ret (v := .tuple #[.int .u64 (b : Nat), .int .i64 0]) (by simp [results, Tryd.results28, go_sem]) rfl ?_
  exact ⟨by rw [HV.out]; rfl, HB.out⟩

set_option maxRecDepth 100000 in
set_option maxHeartbeats 1000000 in
theorem two_8f {w a b : Nat} (hw : IsW w) (ha : a < 2 ^ w) (hb : b < 2 ^ w) (c : lessN w b a = false) (W : World) :
    Calls Tryd.prog 28 #[.int .u8 8, .int .i64 (w : Int), .int .u64 (a : Int), .int .u64 (b : Int)] W fun e W' => e = .returned (pairV (two 8 w a b)) ∧ Below W.heap.size W W' := by
  have F := fit2 w a b W
  rw [okW_of hw ha, okW_of hw hb, Bool.and_self] at F
  have F := hide F
  have HB := hide (below_one W (.cells #[.int .u64 (a : Int), .int .u64 (b : Int)] 23))
  have X := hide (worth_calls hw ha)
  have Y := hide (worth_calls hw hb)
  have V : two 8 w a b = (a, 0) := by simp [two, c]
  have HV := hide V
  have HO := hide (show ∀ x y, Wor w b x → Wor w a y → (FloatKind.f64.format.order x y == some .lt) = false from fun x y hx hy => by rw [order_ord hw hx hy, ← less_ord, c])
  have HW := hide hw
  clear ha hb hw V c
  go_enter Tryd.func28, Tryd.ntmps28
  go_wp2_with (first | ((with_reducible refine F.out.mono ?_); rintro e w1 ⟨rfl, rfl⟩) | ((with_reducible refine (Y.out _).mono ?_); rintro e w1 ⟨x, rfl, hx, hb⟩; have Hx := hide hx; have HB := hide (below_two HB.out hb); clear hx hb) | ((with_reducible refine (X.out _).mono ?_); rintro e w1 ⟨y, rfl, hy, hb⟩; have Hy := hide hy; have HB := hide (below_two HB.out hb); have E := HO.out _ _ Hx.out Hy.out; clear hy hb))
  refine bodyPost_ret (v := .tuple #[.int .u64 (a : Nat), .int .i64 0]) (by simp [results, Tryd.results28, go_sem]) rfl ?_
  exact ⟨by rw [HV.out]; rfl, HB.out⟩

set_option maxRecDepth 100000 in
set_option maxHeartbeats 1000000 in
theorem two_9t {w a b : Nat} (hw : IsW w) (ha : a < 2 ^ w) (hb : b < 2 ^ w) (c : lessN w a b = true) (W : World) :
    Calls Tryd.prog 28 #[.int .u8 9, .int .i64 (w : Int), .int .u64 (a : Int), .int .u64 (b : Int)] W fun e W' => e = .returned (pairV (two 9 w a b)) ∧ Below W.heap.size W W' := by
  have F := fit2 w a b W
  rw [okW_of hw ha, okW_of hw hb, Bool.and_self] at F
  have F := hide F
  have HB := hide (below_one W (.cells #[.int .u64 (a : Int), .int .u64 (b : Int)] 23))
  have X := hide (worth_calls hw ha)
  have Y := hide (worth_calls hw hb)
  have V : two 9 w a b = (b, 0) := by simp [two, c]
  have HV := hide V
  have HO := hide (show ∀ x y, Wor w a x → Wor w b y → (FloatKind.f64.format.order x y == some .lt) = true from fun x y hx hy => by rw [order_ord hw hx hy, ← less_ord, c])
  have HW := hide hw
  clear ha hb hw V c
  go_enter Tryd.func28, Tryd.ntmps28
  go_wp2_with (first | ((with_reducible refine F.out.mono ?_); rintro e w1 ⟨rfl, rfl⟩) | ((with_reducible refine (X.out _).mono ?_); rintro e w1 ⟨x, rfl, hx, hb⟩; have Hx := hide hx; have HB := hide (below_two HB.out hb); clear hx hb) | ((with_reducible refine (Y.out _).mono ?_); rintro e w1 ⟨y, rfl, hy, hb⟩; have Hy := hide hy; have HB := hide (below_two HB.out hb); have E := HO.out _ _ Hx.out Hy.out; clear hy hb))
  refine bodyPost_ret (v := .tuple #[.int .u64 (b : Nat), .int .i64 0]) (by simp [results, Tryd.results28, go_sem]) rfl ?_
  exact ⟨by rw [HV.out]; rfl, HB.out⟩

set_option maxRecDepth 100000 in
set_option maxHeartbeats 1000000 in
theorem two_9f {w a b : Nat} (hw : IsW w) (ha : a < 2 ^ w) (hb : b < 2 ^ w) (c : lessN w a b = false) (W : World) :
    Calls Tryd.prog 28 #[.int .u8 9, .int .i64 (w : Int), .int .u64 (a : Int), .int .u64 (b : Int)] W fun e W' => e = .returned (pairV (two 9 w a b)) ∧ Below W.heap.size W W' := by
  have F := fit2 w a b W
  rw [okW_of hw ha, okW_of hw hb, Bool.and_self] at F
  have F := hide F
  have HB := hide (below_one W (.cells #[.int .u64 (a : Int), .int .u64 (b : Int)] 23))
  have X := hide (worth_calls hw ha)
  have Y := hide (worth_calls hw hb)
  have V : two 9 w a b = (a, 0) := by simp [two, c]
  have HV := hide V
  have HO := hide (show ∀ x y, Wor w a x → Wor w b y → (FloatKind.f64.format.order x y == some .lt) = false from fun x y hx hy => by rw [order_ord hw hx hy, ← less_ord, c])
  have HW := hide hw
  clear ha hb hw V c
  go_enter Tryd.func28, Tryd.ntmps28
  go_wp2_with (first | ((with_reducible refine F.out.mono ?_); rintro e w1 ⟨rfl, rfl⟩) | ((with_reducible refine (X.out _).mono ?_); rintro e w1 ⟨x, rfl, hx, hb⟩; have Hx := hide hx; have HB := hide (below_two HB.out hb); clear hx hb) | ((with_reducible refine (Y.out _).mono ?_); rintro e w1 ⟨y, rfl, hy, hb⟩; have Hy := hide hy; have HB := hide (below_two HB.out hb); have E := HO.out _ _ Hx.out Hy.out; clear hy hb))
  refine bodyPost_ret (v := .tuple #[.int .u64 (a : Nat), .int .i64 0]) (by simp [results, Tryd.results28, go_sem]) rfl ?_
  exact ⟨by rw [HV.out]; rfl, HB.out⟩

theorem two_none {op w a b : Nat} (h : op = 0 ∨ 9 < op) : two op w a b = (0, 2) := by
  unfold two
  split <;> first | omega | rfl

set_option maxRecDepth 100000 in
set_option maxHeartbeats 1000000 in
theorem two_else {w a b : Nat} (hw : IsW w) (op : Int) (ha : a < 2 ^ w) (hb : b < 2 ^ w) (ho : op = 0 ∨ 9 < op) (W : World) :
    Calls Tryd.prog 28 #[.int .u8 op, .int .i64 (w : Int), .int .u64 (a : Int), .int .u64 (b : Int)] W fun e W' => e = .returned (pairV (two op.toNat w a b)) ∧ Below W.heap.size W W' := by
  rw [two_none (by omega)]
  have F := fit2 w a b W
  rw [okW_of hw ha, okW_of hw hb, Bool.and_self] at F
  have F := hide F
  have HB := hide (below_one W (.cells #[.int .u64 (a : Int), .int .u64 (b : Int)] 23))
  have n1 : (op == 1) = false := by simp; omega
  have n2 : (op == 2) = false := by simp; omega
  have n3 : (op == 3) = false := by simp; omega
  have n4 : (op == 4) = false := by simp; omega
  have n5 : (op == 5) = false := by simp; omega
  have n6 : (op == 6) = false := by simp; omega
  have n7 : (op == 7) = false := by simp; omega
  have n8 : (op == 8) = false := by simp; omega
  have n9 : (op == 9) = false := by simp; omega
  clear ha hb hw ho
  go_enter Tryd.func28, Tryd.ntmps28
  go_wp2_with ((with_reducible refine F.out.mono ?_); rintro e w1 ⟨rfl, rfl⟩)
  refine bodyPost_ret (v := .tuple #[.int .u64 0, .int .i64 2]) (by simp [results, Tryd.results28, go_sem]) rfl ?_
  exact ⟨rfl, HB.out⟩

set_option maxRecDepth 100000 in
set_option maxHeartbeats 1000000 in
theorem two_bad (op w : Int) (a b : Nat) (h : (okW w a && okW w b) = false) (W : World) :
    Calls Tryd.prog 28 #[.int .u8 op, .int .i64 w, .int .u64 (a : Int), .int .u64 (b : Int)] W fun e W' => e = .returned (pairV (0, 2)) ∧ Below W.heap.size W W' := by
  have F := fit2 w a b W
  rw [h] at F
  have F := hide F
  have HB := hide (below_one W (.cells #[.int .u64 (a : Int), .int .u64 (b : Int)] 23))
  clear h
  go_enter Tryd.func28, Tryd.ntmps28
  go_wp2_with ((with_reducible refine F.out.mono ?_); rintro e w1 ⟨rfl, rfl⟩)
  refine bodyPost_ret (v := .tuple #[.int .u64 0, .int .i64 2]) (by simp [results, Tryd.results28, go_sem]) rfl ?_
  exact ⟨rfl, HB.out⟩

theorem Two_calls {w a b : Nat} (hw : IsW w) (op : Nat) (ha : a < 2 ^ w) (hb : b < 2 ^ w) (W : World) :
    Calls Tryd.prog 28 #[.int .u8 (op : Int), .int .i64 (w : Int), .int .u64 (a : Int), .int .u64 (b : Int)] W fun e W' => e = .returned (pairV (two op w a b)) ∧ Below W.heap.size W W' := by
  by_cases hk : op = 0 ∨ 9 < op
  · have := two_else hw (op : Int) ha hb (by omega) W
    exact this
  · rcases (show op = 1 ∨ op = 2 ∨ op = 3 ∨ op = 4 ∨ op = 5 ∨ op = 6 ∨ op = 7 ∨ op = 8 ∨ op = 9 by omega) with rfl | rfl | rfl | rfl | rfl | rfl | rfl | rfl | rfl
    · exact two_1 hw ha hb W
    · exact two_2 hw ha hb W
    · exact two_3 hw ha hb W
    · exact two_4 hw ha hb W
    · exact two_5 hw ha hb W
    · exact two_6 hw ha hb W
    · exact two_7 hw ha hb W
    · cases c : lessN w b a with
      | true => exact two_8t hw ha hb c W
      | false => exact two_8f hw ha hb c W
    · cases c : lessN w a b with
      | true => exact two_9t hw ha hb c W
      | false => exact two_9f hw ha hb c W
end Go.Proofs.YtpeckiaimellmaaDoor.F
