/-
  floats.One, operator by operator (genflo.py wrote it).
-/
import Derived.Test.YtpeckiaimellmaaDoorFFloTwoP
set_option linter.unusedVariables false
set_option linter.unusedSimpArgs false
namespace Go.Proofs.YtpeckiaimellmaaDoor.F
open Go.RowKit Flo

set_option maxRecDepth 100000 in
set_option maxHeartbeats 1000000 in
theorem one_10 {w a : Nat} (hw : IsW w) (ha : a < 2 ^ w) (W : World) :
    Calls Tryd.prog 36 #[.int .u8 10, .int .i64 (w : Int), .int .u64 (a : Int)] W fun e W' => e = .returned (pairV (one 10 w a)) ∧ Below W.heap.size W W' := by
  have F := fit1 w a W
  rw [okW_of hw ha] at F
  have F := hide F
  have X := hide (worth_calls hw ha)
  have HB := hide (below_one W (.cells #[.int .u64 (a : Int)] 23))
  have S := hide (signBit_calls hw)
  have E1 := bits_andNot_sign hw ha
  have HW := hide hw
  clear ha hw
  go_enter Tryd.func36, Tryd.ntmps36
  go_wp2_with (first | ((with_reducible refine F.out.mono ?_); rintro e w1 ⟨rfl, rfl⟩) | ((with_reducible refine (X.out _).mono ?_); rintro e w1 ⟨x, rfl, hx, hb⟩; have Hx := hide hx; have HB := hide (below_two HB.out hb); clear hx hb) | ((with_reducible refine (S.out _).mono ?_); rintro e w1 ⟨rfl, rfl⟩))
  refine bodyPost_ret (v := .tuple #[.int .u64 ((rung (fm w) a) : Nat), .int .i64 0]) (by simp [results, Tryd.results36, go_sem]) rfl ?_
  exact ⟨rfl, HB.out⟩

set_option maxRecDepth 100000 in
set_option maxHeartbeats 1000000 in
theorem one_11 {w a : Nat} (hw : IsW w) (ha : a < 2 ^ w) (W : World) :
    Calls Tryd.prog 36 #[.int .u8 11, .int .i64 (w : Int), .int .u64 (a : Int)] W fun e W' => e = .returned (pairV (one 11 w a)) ∧ Below W.heap.size W W' := by
  have F := fit1 w a W
  rw [okW_of hw ha] at F
  have F := hide F
  have X := hide (worth_calls hw ha)
  have HB := hide (below_one W (.cells #[.int .u64 (a : Int)] 23))
  have S := hide (signBit_calls hw)
  have E1 := bits_xor_sign hw ha
  have HW := hide hw
  clear ha hw
  go_enter Tryd.func36, Tryd.ntmps36
  go_wp2_with (first | ((with_reducible refine F.out.mono ?_); rintro e w1 ⟨rfl, rfl⟩) | ((with_reducible refine (X.out _).mono ?_); rintro e w1 ⟨x, rfl, hx, hb⟩; have Hx := hide hx; have HB := hide (below_two HB.out hb); clear hx hb) | ((with_reducible refine (S.out _).mono ?_); rintro e w1 ⟨rfl, rfl⟩))
  refine bodyPost_ret (v := .tuple #[.int .u64 ((flip w a) : Nat), .int .i64 0]) (by simp [results, Tryd.results36, go_sem]) rfl ?_
  exact ⟨rfl, HB.out⟩

set_option maxRecDepth 100000 in
set_option maxHeartbeats 1000000 in
theorem one_12 {w a : Nat} (hw : IsW w) (ha : a < 2 ^ w) (W : World) :
    Calls Tryd.prog 36 #[.int .u8 12, .int .i64 (w : Int), .int .u64 (a : Int)] W fun e W' => e = .returned (pairV (one 12 w a)) ∧ Below W.heap.size W W' := by
  have F := fit1 w a W
  rw [okW_of hw ha] at F
  have F := hide F
  have X := hide (worth_calls hw ha)
  have HB := hide (below_one W (.cells #[.int .u64 (a : Int)] 23))
  have K := hide (@bitsOf_calls w)
  have S := hide (@settle_calls w)
  have Q := hide (@Sqrt_calls)
  have HW := hide hw
  clear ha hw
  go_enter Tryd.func36, Tryd.ntmps36
  go_wp2_with (first | ((with_reducible refine F.out.mono ?_); rintro e w1 ⟨rfl, rfl⟩) | ((with_reducible refine (X.out _).mono ?_); rintro e w1 ⟨x, rfl, hx, hb⟩; have Hx := hide hx; have HB := hide (below_two HB.out hb); clear hx hb) | ((with_reducible refine (Q.out Hx.out.lt _).mono ?_); rintro e w1 ⟨y, rfl, hy, hb⟩; have Hy := hide hy; have HB := hide (below_two HB.out hb); clear hy hb) | ((with_reducible refine (K.out HW.out Hy.out.lt (Sq.fits HW.out Hx.out Hy.out) _).mono ?_); rintro e w1 ⟨r, rfl, hr, hb⟩; have Hr := hide hr; have HB := hide (below_two HB.out hb); clear hr hb) | ((with_reducible refine (S.out HW.out Hr.out.lt _).mono ?_); rintro e w1 ⟨rfl, hb⟩; have HB := hide (below_two HB.out hb); clear hb))
  refine bodyPost_ret (v := .tuple #[.int .u64 ((cl w r) : Nat), .int .i64 0]) (by simp [results, Tryd.results36, go_sem]) rfl ?_
  exact ⟨by rw [root_of HW.out Hx.out Hy.out Hr.out]; rfl, HB.out⟩

set_option maxRecDepth 100000 in
set_option maxHeartbeats 1000000 in
theorem one_13 {w a : Nat} (hw : IsW w) (ha : a < 2 ^ w) (W : World) :
    Calls Tryd.prog 36 #[.int .u8 13, .int .i64 (w : Int), .int .u64 (a : Int)] W fun e W' => e = .returned (pairV (one 13 w a)) ∧ Below W.heap.size W W' := by
  have F := fit1 w a W
  rw [okW_of hw ha] at F
  have F := hide F
  have X := hide (worth_calls hw ha)
  have HB := hide (below_one W (.cells #[.int .u64 (a : Int)] 23))
  have K := hide (@bitsOf_calls w)
  have S := hide (@settle_calls w)
  have Q := hide (@Ceil_calls)
  have HW := hide hw
  clear ha hw
  go_enter Tryd.func36, Tryd.ntmps36
  go_wp2_with (first | ((with_reducible refine F.out.mono ?_); rintro e w1 ⟨rfl, rfl⟩) | ((with_reducible refine (X.out _).mono ?_); rintro e w1 ⟨x, rfl, hx, hb⟩; have Hx := hide hx; have HB := hide (below_two HB.out hb); clear hx hb) | ((with_reducible refine (Q.out Hx.out.lt _).mono ?_); rintro e w1 ⟨y, rfl, hy, hb⟩; have Hy := hide hy; have HB := hide (below_two HB.out hb); clear hy hb) | ((with_reducible refine (K.out HW.out Hy.out.lt (Whl.fits HW.out Hx.out Hy.out) _).mono ?_); rintro e w1 ⟨r, rfl, hr, hb⟩; have Hr := hide hr; have HB := hide (below_two HB.out hb); clear hr hb) | ((with_reducible refine (S.out HW.out Hr.out.lt _).mono ?_); rintro e w1 ⟨rfl, hb⟩; have HB := hide (below_two HB.out hb); clear hb))
  refine bodyPost_ret (v := .tuple #[.int .u64 ((cl w r) : Nat), .int .i64 0]) (by simp [results, Tryd.results36, go_sem]) rfl ?_
  exact ⟨by rw [rnd_of HW.out Hx.out Hy.out Hr.out]; rfl, HB.out⟩

set_option maxRecDepth 100000 in
set_option maxHeartbeats 1000000 in
theorem one_14 {w a : Nat} (hw : IsW w) (ha : a < 2 ^ w) (W : World) :
    Calls Tryd.prog 36 #[.int .u8 14, .int .i64 (w : Int), .int .u64 (a : Int)] W fun e W' => e = .returned (pairV (one 14 w a)) ∧ Below W.heap.size W W' := by
  have F := fit1 w a W
  rw [okW_of hw ha] at F
  have F := hide F
  have X := hide (worth_calls hw ha)
  have HB := hide (below_one W (.cells #[.int .u64 (a : Int)] 23))
  have K := hide (@bitsOf_calls w)
  have S := hide (@settle_calls w)
  have Q := hide (@Floor_calls)
  have HW := hide hw
  clear ha hw
  go_enter Tryd.func36, Tryd.ntmps36
  go_wp2_with (first | ((with_reducible refine F.out.mono ?_); rintro e w1 ⟨rfl, rfl⟩) | ((with_reducible refine (X.out _).mono ?_); rintro e w1 ⟨x, rfl, hx, hb⟩; have Hx := hide hx; have HB := hide (below_two HB.out hb); clear hx hb) | ((with_reducible refine (Q.out Hx.out.lt _).mono ?_); rintro e w1 ⟨y, rfl, hy, hb⟩; have Hy := hide hy; have HB := hide (below_two HB.out hb); clear hy hb) | ((with_reducible refine (K.out HW.out Hy.out.lt (Whl.fits HW.out Hx.out Hy.out) _).mono ?_); rintro e w1 ⟨r, rfl, hr, hb⟩; have Hr := hide hr; have HB := hide (below_two HB.out hb); clear hr hb) | ((with_reducible refine (S.out HW.out Hr.out.lt _).mono ?_); rintro e w1 ⟨rfl, hb⟩; have HB := hide (below_two HB.out hb); clear hb))
  refine bodyPost_ret (v := .tuple #[.int .u64 ((cl w r) : Nat), .int .i64 0]) (by simp [results, Tryd.results36, go_sem]) rfl ?_
  exact ⟨by rw [rnd_of HW.out Hx.out Hy.out Hr.out]; rfl, HB.out⟩

set_option maxRecDepth 100000 in
set_option maxHeartbeats 1000000 in
theorem one_15 {w a : Nat} (hw : IsW w) (ha : a < 2 ^ w) (W : World) :
    Calls Tryd.prog 36 #[.int .u8 15, .int .i64 (w : Int), .int .u64 (a : Int)] W fun e W' => e = .returned (pairV (one 15 w a)) ∧ Below W.heap.size W W' := by
  have F := fit1 w a W
  rw [okW_of hw ha] at F
  have F := hide F
  have X := hide (worth_calls hw ha)
  have HB := hide (below_one W (.cells #[.int .u64 (a : Int)] 23))
  have K := hide (@bitsOf_calls w)
  have S := hide (@settle_calls w)
  have Q := hide (@Trunc_calls)
  have HW := hide hw
  clear ha hw
  go_enter Tryd.func36, Tryd.ntmps36
  go_wp2_with (first | ((with_reducible refine F.out.mono ?_); rintro e w1 ⟨rfl, rfl⟩) | ((with_reducible refine (X.out _).mono ?_); rintro e w1 ⟨x, rfl, hx, hb⟩; have Hx := hide hx; have HB := hide (below_two HB.out hb); clear hx hb) | ((with_reducible refine (Q.out Hx.out.lt _).mono ?_); rintro e w1 ⟨y, rfl, hy, hb⟩; have Hy := hide hy; have HB := hide (below_two HB.out hb); clear hy hb) | ((with_reducible refine (K.out HW.out Hy.out.lt (Whl.fits HW.out Hx.out Hy.out) _).mono ?_); rintro e w1 ⟨r, rfl, hr, hb⟩; have Hr := hide hr; have HB := hide (below_two HB.out hb); clear hr hb) | ((with_reducible refine (S.out HW.out Hr.out.lt _).mono ?_); rintro e w1 ⟨rfl, hb⟩; have HB := hide (below_two HB.out hb); clear hb))
  refine bodyPost_ret (v := .tuple #[.int .u64 ((cl w r) : Nat), .int .i64 0]) (by simp [results, Tryd.results36, go_sem]) rfl ?_
  exact ⟨by rw [rnd_of HW.out Hx.out Hy.out Hr.out]; rfl, HB.out⟩

set_option maxRecDepth 100000 in
set_option maxHeartbeats 1000000 in
theorem one_16 {w a : Nat} (hw : IsW w) (ha : a < 2 ^ w) (W : World) :
    Calls Tryd.prog 36 #[.int .u8 16, .int .i64 (w : Int), .int .u64 (a : Int)] W fun e W' => e = .returned (pairV (one 16 w a)) ∧ Below W.heap.size W W' := by
  have F := fit1 w a W
  rw [okW_of hw ha] at F
  have F := hide F
  have X := hide (worth_calls hw ha)
  have HB := hide (below_one W (.cells #[.int .u64 (a : Int)] 23))
  have K := hide (@bitsOf_calls w)
  have S := hide (@settle_calls w)
  have HW := hide hw
  clear ha hw
  go_enter Tryd.func36, Tryd.ntmps36
  go_wp2_with (first | ((with_reducible refine F.out.mono ?_); rintro e w1 ⟨rfl, rfl⟩) | ((with_reducible refine (X.out _).mono ?_); rintro e w1 ⟨x, rfl, hx, hb⟩; have Hx := hide hx; have HB := hide (below_two HB.out hb); obtain ⟨y, w2, hrun, hy, hw2⟩ := even_run hx.lt w1; have Hy := hide hy; have HB := hide (below_two HB.out (below_or hw2)); clear hx hb hy hw2) | ((with_reducible refine (K.out HW.out Hy.out.lt (Whl.fits HW.out Hx.out Hy.out) _).mono ?_); rintro e w1 ⟨r, rfl, hr, hb⟩; have Hr := hide hr; have HB := hide (below_two HB.out hb); clear hr hb) | ((with_reducible refine (S.out HW.out Hr.out.lt _).mono ?_); rintro e w1 ⟨rfl, hb⟩; have HB := hide (below_two HB.out hb); clear hb))
  refine bodyPost_ret (v := .tuple #[.int .u64 ((cl w r) : Nat), .int .i64 0]) (by simp [results, Tryd.results36, go_sem]) rfl ?_
  exact ⟨by rw [rnd_of HW.out Hx.out Hy.out Hr.out]; rfl, HB.out⟩

theorem one_none {op w a : Nat} (h : op < 10 ∨ 16 < op) : one op w a = (0, 2) := by
  unfold one
  split <;> first | omega | rfl

set_option maxRecDepth 100000 in
set_option maxHeartbeats 1000000 in
theorem one_else {w a : Nat} (hw : IsW w) (op : Int) (ha : a < 2 ^ w) (h0 : 0 ≤ op) (ho : op < 10 ∨ 16 < op) (W : World) :
    Calls Tryd.prog 36 #[.int .u8 op, .int .i64 (w : Int), .int .u64 (a : Int)] W fun e W' => e = .returned (pairV (one op.toNat w a)) ∧ Below W.heap.size W W' := by
  rw [one_none (by omega)]
  have F := fit1 w a W
  rw [okW_of hw ha] at F
  have F := hide F
  have X := hide (worth_calls hw ha)
  have HB := hide (below_one W (.cells #[.int .u64 (a : Int)] 23))
  have n10 : (op == 10) = false := by simp; omega
  have n11 : (op == 11) = false := by simp; omega
  have n12 : (op == 12) = false := by simp; omega
  have n13 : (op == 13) = false := by simp; omega
  have n14 : (op == 14) = false := by simp; omega
  have n15 : (op == 15) = false := by simp; omega
  have n16 : (op == 16) = false := by simp; omega
  clear ha hw ho h0
  go_enter Tryd.func36, Tryd.ntmps36
  go_wp2_with (first | ((with_reducible refine F.out.mono ?_); rintro e w1 ⟨rfl, rfl⟩) | ((with_reducible refine (X.out _).mono ?_); rintro e w1 ⟨x, rfl, hx, hb⟩; have Hx := hide hx; have HB := hide (below_two HB.out hb); clear hx hb))
  refine bodyPost_ret (v := .tuple #[.int .u64 0, .int .i64 2]) (by simp [results, Tryd.results36, go_sem]) rfl ?_
  exact ⟨rfl, HB.out⟩

set_option maxRecDepth 100000 in
set_option maxHeartbeats 1000000 in
theorem one_bad (op w : Int) (a : Nat) (h : okW w a = false) (W : World) :
    Calls Tryd.prog 36 #[.int .u8 op, .int .i64 w, .int .u64 (a : Int)] W fun e W' => e = .returned (pairV (0, 2)) ∧ Below W.heap.size W W' := by
  have F := fit1 w a W
  rw [h] at F
  have F := hide F
  have HB := hide (below_one W (.cells #[.int .u64 (a : Int)] 23))
  clear h
  go_enter Tryd.func36, Tryd.ntmps36
  go_wp2_with ((with_reducible refine F.out.mono ?_); rintro e w1 ⟨rfl, rfl⟩)
  refine bodyPost_ret (v := .tuple #[.int .u64 0, .int .i64 2]) (by simp [results, Tryd.results36, go_sem]) rfl ?_
  exact ⟨rfl, HB.out⟩

theorem One_calls {w a : Nat} (hw : IsW w) (op : Nat) (ha : a < 2 ^ w) (W : World) :
    Calls Tryd.prog 36 #[.int .u8 (op : Int), .int .i64 (w : Int), .int .u64 (a : Int)] W fun e W' => e = .returned (pairV (one op w a)) ∧ Below W.heap.size W W' := by
  by_cases hk : op < 10 ∨ 16 < op
  · exact one_else hw (op : Int) ha (by omega) (by omega) W
  · rcases (show op = 10 ∨ op = 11 ∨ op = 12 ∨ op = 13 ∨ op = 14 ∨ op = 15 ∨ op = 16 by omega) with rfl | rfl | rfl | rfl | rfl | rfl | rfl
    · exact one_10 hw ha W
    · exact one_11 hw ha W
    · exact one_12 hw ha W
    · exact one_13 hw ha W
    · exact one_14 hw ha W
    · exact one_15 hw ha W
    · exact one_16 hw ha W
end Go.Proofs.YtpeckiaimellmaaDoor.F
