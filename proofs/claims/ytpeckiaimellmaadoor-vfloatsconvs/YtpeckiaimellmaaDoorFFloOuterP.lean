/-
  floats.outer (genflo.py wrote it).
-/
import Derived.Test.YtpeckiaimellmaaDoorFFloArithP
set_option linter.unusedVariables false
set_option linter.unusedSimpArgs false
namespace Go.Proofs.YtpeckiaimellmaaDoor.F
open Go.RowKit Flo

def ordN (w a b : Nat) : Option Ordering := if na w a || na w b then none else some (compare (place (fm w) a) (place (fm w) b))
theorem order_ord {w a b x y : Nat} (hw : IsW w) (hx : Wor w a x) (hy : Wor w b y) : FloatKind.f64.format.order x y = ordN w a b := by
  show Ieee.double.order x y = _
  unfold ordN
  cases ha : na w a
  · cases hb : na w b
    · rw [order_some hw hx hy ha hb]; rfl
    · rw [order_none hw hx hy (.inr hb)]; rfl
  · rw [order_none hw hx hy (.inl ha)]; rfl
theorem less_ord (w a b : Nat) : lessN w a b = (ordN w a b == some .lt) := by
  unfold lessN ordN
  cases na w a <;> cases na w b <;> simp [cmp_lt_iff] <;> (try rfl)
  exact cmp_lt_iff.symm
theorem more_ord (w a b : Nat) : lessN w b a = (ordN w a b == some .gt) := by
  unfold lessN ordN
  cases na w a <;> cases na w b <;> simp [cmp_gt_iff] <;> (try rfl)
  exact cmp_gt_iff.symm
theorem same_ord (w a b : Nat) : sameN w a b = (ordN w a b == some .eq) := by
  unfold sameN ordN
  cases na w a <;> cases na w b <;> simp [cmp_eq_iff] <;> (try rfl)
  exact cmp_eq_iff.symm
theorem ord_none {w a b : Nat} (h : ordN w a b = none) : na w a = true ∨ na w b = true := by
  unfold ordN at h
  cases ha : na w a <;> cases hb : na w b <;> simp [ha, hb] at h ⊢
theorem ord_some {w a b : Nat} {c : Ordering} (h : ordN w a b = some c) : na w a = false ∧ na w b = false := by
  unfold ordN at h
  cases ha : na w a <;> cases hb : na w b <;> simp [ha, hb] at h ⊢

theorem lt64 {w a : Nat} (hw : IsW w) (ha : a < 2 ^ w) : a < 18446744073709551616 := by have := pow_le hw; omega

set_option maxRecDepth 100000 in
set_option maxHeartbeats 1000000 in
theorem outer5_x {w a b : Nat} (hw : IsW w) (ha : a < 2 ^ w) (hb : b < 2 ^ w) (ha' : na w a = true) (W : World) :
    Calls Tryd.prog 64 #[.int .u8 5, .int .i64 (w : Int), .int .u64 (a : Int), .int .u64 (b : Int)] W fun e W' => e = .returned (.int .u64 (leastN true w a b : Int)) ∧ Below W.heap.size W W' := by
  have V : leastN true w a b = nanN w := by
    unfold leastN
    rw [ha']; rfl
  rw [V]
  clear V
  have N := hide (noNumber_calls hw)
  have A := ask_calls hw ha
  have B := ask_calls hw hb
  rw [ha'] at A
  have A := hide A
  have B := hide B
  have O := hide (oneNaN_calls hw)
  have X := hide (worth_calls hw ha)
  have Y := hide (worth_calls hw hb)
  have G1 := u64_or_nat a b (lt64 hw ha) (lt64 hw hb)
  have G2 := u64_and_nat a b (lt64 hw ha) (lt64 hw hb)
  have HB := hide (Below.refl W.heap.size W)
  have HO := hide (@order_ord w a b)
  skip
  have HW := hide hw
  clear ha hb hw ha'
  go_enter Tryd.func64, Tryd.ntmps64
  go_wp2_with (first | ((with_reducible refine (N.out _).mono ?_); rintro e w1 ⟨rfl, h0, h1, hb⟩; have H0 := hide h0; have H1 := hide h1; have HB := hide (below_two HB.out hb); clear h0 h1 hb) | ((with_reducible refine (A.out _ _ _ H0.out H1.out).mono ?_); rintro e w1 ⟨rfl, rfl⟩) | ((with_reducible refine (B.out _ _ _ H0.out H1.out).mono ?_); rintro e w1 ⟨rfl, rfl⟩) | ((with_reducible refine (O.out _).mono ?_); rintro e w1 ⟨rfl, rfl⟩) | ((with_reducible refine (X.out _).mono ?_); rintro e w1 ⟨x, rfl, hx, hb⟩; have Hx := hide hx; have HB := hide (below_two HB.out hb); clear hx hb) | ((with_reducible refine (Y.out _).mono ?_); rintro e w1 ⟨y, rfl, hy, hb⟩; have Hy := hide hy; have HB := hide (below_two HB.out hb); have E := HO.out HW.out Hx.out Hy.out; clear hy hb))
  go_ret
  exact ⟨rfl, HB.out⟩

set_option maxRecDepth 100000 in
set_option maxHeartbeats 1000000 in
theorem outer5_y {w a b : Nat} (hw : IsW w) (ha : a < 2 ^ w) (hb : b < 2 ^ w) (ha' : na w a = false) (hb' : na w b = true) (W : World) :
    Calls Tryd.prog 64 #[.int .u8 5, .int .i64 (w : Int), .int .u64 (a : Int), .int .u64 (b : Int)] W fun e W' => e = .returned (.int .u64 (leastN true w a b : Int)) ∧ Below W.heap.size W W' := by
  have V : leastN true w a b = nanN w := by
    unfold leastN
    rw [ha', hb']; rfl
  rw [V]
  clear V
  have N := hide (noNumber_calls hw)
  have A := ask_calls hw ha
  have B := ask_calls hw hb
  rw [ha'] at A
  rw [hb'] at B
  have A := hide A
  have B := hide B
  have O := hide (oneNaN_calls hw)
  have X := hide (worth_calls hw ha)
  have Y := hide (worth_calls hw hb)
  have G1 := u64_or_nat a b (lt64 hw ha) (lt64 hw hb)
  have G2 := u64_and_nat a b (lt64 hw ha) (lt64 hw hb)
  have HB := hide (Below.refl W.heap.size W)
  have HO := hide (@order_ord w a b)
  skip
  have HW := hide hw
  clear ha hb hw ha' hb'
  go_enter Tryd.func64, Tryd.ntmps64
  go_wp2_with (first | ((with_reducible refine (N.out _).mono ?_); rintro e w1 ⟨rfl, h0, h1, hb⟩; have H0 := hide h0; have H1 := hide h1; have HB := hide (below_two HB.out hb); clear h0 h1 hb) | ((with_reducible refine (A.out _ _ _ H0.out H1.out).mono ?_); rintro e w1 ⟨rfl, rfl⟩) | ((with_reducible refine (B.out _ _ _ H0.out H1.out).mono ?_); rintro e w1 ⟨rfl, rfl⟩) | ((with_reducible refine (O.out _).mono ?_); rintro e w1 ⟨rfl, rfl⟩) | ((with_reducible refine (X.out _).mono ?_); rintro e w1 ⟨x, rfl, hx, hb⟩; have Hx := hide hx; have HB := hide (below_two HB.out hb); clear hx hb) | ((with_reducible refine (Y.out _).mono ?_); rintro e w1 ⟨y, rfl, hy, hb⟩; have Hy := hide hy; have HB := hide (below_two HB.out hb); have E := HO.out HW.out Hx.out Hy.out; clear hy hb))
  go_ret
  exact ⟨rfl, HB.out⟩

set_option maxRecDepth 100000 in
set_option maxHeartbeats 1000000 in
theorem outer5_lt {w a b : Nat} (hw : IsW w) (ha : a < 2 ^ w) (hb : b < 2 ^ w) (ho : ordN w a b = some .lt) (W : World) :
    Calls Tryd.prog 64 #[.int .u8 5, .int .i64 (w : Int), .int .u64 (a : Int), .int .u64 (b : Int)] W fun e W' => e = .returned (.int .u64 (leastN true w a b : Int)) ∧ Below W.heap.size W W' := by
  have V : leastN true w a b = a := by
    unfold leastN
    rw [(ord_some ho).1, (ord_some ho).2, same_ord, less_ord, ho]; rfl
  rw [V]
  clear V
  have N := hide (noNumber_calls hw)
  have A := ask_calls hw ha
  have B := ask_calls hw hb
  obtain ⟨ha', hb'⟩ := ord_some ho
  rw [ha'] at A
  rw [hb'] at B
  have A := hide A
  have B := hide B
  have O := hide (oneNaN_calls hw)
  have X := hide (worth_calls hw ha)
  have Y := hide (worth_calls hw hb)
  have G1 := u64_or_nat a b (lt64 hw ha) (lt64 hw hb)
  have G2 := u64_and_nat a b (lt64 hw ha) (lt64 hw hb)
  have HB := hide (Below.refl W.heap.size W)
  have HO := hide (@order_ord w a b)
  rw [ho] at HO
  have HW := hide hw
  clear ha hb hw ha' hb' ho
  go_enter Tryd.func64, Tryd.ntmps64
  go_wp2_with (first | ((with_reducible refine (N.out _).mono ?_); rintro e w1 ⟨rfl, h0, h1, hb⟩; have H0 := hide h0; have H1 := hide h1; have HB := hide (below_two HB.out hb); clear h0 h1 hb) | ((with_reducible refine (A.out _ _ _ H0.out H1.out).mono ?_); rintro e w1 ⟨rfl, rfl⟩) | ((with_reducible refine (B.out _ _ _ H0.out H1.out).mono ?_); rintro e w1 ⟨rfl, rfl⟩) | ((with_reducible refine (O.out _).mono ?_); rintro e w1 ⟨rfl, rfl⟩) | ((with_reducible refine (X.out _).mono ?_); rintro e w1 ⟨x, rfl, hx, hb⟩; have Hx := hide hx; have HB := hide (below_two HB.out hb); clear hx hb) | ((with_reducible refine (Y.out _).mono ?_); rintro e w1 ⟨y, rfl, hy, hb⟩; have Hy := hide hy; have HB := hide (below_two HB.out hb); have E := HO.out HW.out Hx.out Hy.out; clear hy hb))
  go_ret
  exact ⟨rfl, HB.out⟩

set_option maxRecDepth 100000 in
set_option maxHeartbeats 1000000 in
theorem outer5_eq {w a b : Nat} (hw : IsW w) (ha : a < 2 ^ w) (hb : b < 2 ^ w) (ho : ordN w a b = some .eq) (W : World) :
    Calls Tryd.prog 64 #[.int .u8 5, .int .i64 (w : Int), .int .u64 (a : Int), .int .u64 (b : Int)] W fun e W' => e = .returned (.int .u64 (leastN true w a b : Int)) ∧ Below W.heap.size W W' := by
  have V : leastN true w a b = (a ||| b) := by
    unfold leastN
    rw [(ord_some ho).1, (ord_some ho).2, same_ord, less_ord, ho]; rfl
  rw [V]
  clear V
  have N := hide (noNumber_calls hw)
  have A := ask_calls hw ha
  have B := ask_calls hw hb
  obtain ⟨ha', hb'⟩ := ord_some ho
  rw [ha'] at A
  rw [hb'] at B
  have A := hide A
  have B := hide B
  have O := hide (oneNaN_calls hw)
  have X := hide (worth_calls hw ha)
  have Y := hide (worth_calls hw hb)
  have G1 := u64_or_nat a b (lt64 hw ha) (lt64 hw hb)
  have G2 := u64_and_nat a b (lt64 hw ha) (lt64 hw hb)
  have HB := hide (Below.refl W.heap.size W)
  have HO := hide (@order_ord w a b)
  rw [ho] at HO
  have HW := hide hw
  clear ha hb hw ha' hb' ho
  go_enter Tryd.func64, Tryd.ntmps64
  go_wp2_with (first | ((with_reducible refine (N.out _).mono ?_); rintro e w1 ⟨rfl, h0, h1, hb⟩; have H0 := hide h0; have H1 := hide h1; have HB := hide (below_two HB.out hb); clear h0 h1 hb) | ((with_reducible refine (A.out _ _ _ H0.out H1.out).mono ?_); rintro e w1 ⟨rfl, rfl⟩) | ((with_reducible refine (B.out _ _ _ H0.out H1.out).mono ?_); rintro e w1 ⟨rfl, rfl⟩) | ((with_reducible refine (O.out _).mono ?_); rintro e w1 ⟨rfl, rfl⟩) | ((with_reducible refine (X.out _).mono ?_); rintro e w1 ⟨x, rfl, hx, hb⟩; have Hx := hide hx; have HB := hide (below_two HB.out hb); clear hx hb) | ((with_reducible refine (Y.out _).mono ?_); rintro e w1 ⟨y, rfl, hy, hb⟩; have Hy := hide hy; have HB := hide (below_two HB.out hb); have E := HO.out HW.out Hx.out Hy.out; clear hy hb))
  go_ret
  exact ⟨rfl, HB.out⟩

set_option maxRecDepth 100000 in
set_option maxHeartbeats 1000000 in
theorem outer5_gt {w a b : Nat} (hw : IsW w) (ha : a < 2 ^ w) (hb : b < 2 ^ w) (ho : ordN w a b = some .gt) (W : World) :
    Calls Tryd.prog 64 #[.int .u8 5, .int .i64 (w : Int), .int .u64 (a : Int), .int .u64 (b : Int)] W fun e W' => e = .returned (.int .u64 (leastN true w a b : Int)) ∧ Below W.heap.size W W' := by
  have V : leastN true w a b = b := by
    unfold leastN
    rw [(ord_some ho).1, (ord_some ho).2, same_ord, less_ord, ho]; rfl
  rw [V]
  clear V
  have N := hide (noNumber_calls hw)
  have A := ask_calls hw ha
  have B := ask_calls hw hb
  obtain ⟨ha', hb'⟩ := ord_some ho
  rw [ha'] at A
  rw [hb'] at B
  have A := hide A
  have B := hide B
  have O := hide (oneNaN_calls hw)
  have X := hide (worth_calls hw ha)
  have Y := hide (worth_calls hw hb)
  have G1 := u64_or_nat a b (lt64 hw ha) (lt64 hw hb)
  have G2 := u64_and_nat a b (lt64 hw ha) (lt64 hw hb)
  have HB := hide (Below.refl W.heap.size W)
  have HO := hide (@order_ord w a b)
  rw [ho] at HO
  have HW := hide hw
  clear ha hb hw ha' hb' ho
  go_enter Tryd.func64, Tryd.ntmps64
  go_wp2_with (first | ((with_reducible refine (N.out _).mono ?_); rintro e w1 ⟨rfl, h0, h1, hb⟩; have H0 := hide h0; have H1 := hide h1; have HB := hide (below_two HB.out hb); clear h0 h1 hb) | ((with_reducible refine (A.out _ _ _ H0.out H1.out).mono ?_); rintro e w1 ⟨rfl, rfl⟩) | ((with_reducible refine (B.out _ _ _ H0.out H1.out).mono ?_); rintro e w1 ⟨rfl, rfl⟩) | ((with_reducible refine (O.out _).mono ?_); rintro e w1 ⟨rfl, rfl⟩) | ((with_reducible refine (X.out _).mono ?_); rintro e w1 ⟨x, rfl, hx, hb⟩; have Hx := hide hx; have HB := hide (below_two HB.out hb); clear hx hb) | ((with_reducible refine (Y.out _).mono ?_); rintro e w1 ⟨y, rfl, hy, hb⟩; have Hy := hide hy; have HB := hide (below_two HB.out hb); have E := HO.out HW.out Hx.out Hy.out; clear hy hb))
  go_ret
  exact ⟨rfl, HB.out⟩

theorem outer_5 {w a b : Nat} (hw : IsW w) (ha : a < 2 ^ w) (hb : b < 2 ^ w) (W : World) :
    Calls Tryd.prog 64 #[.int .u8 5, .int .i64 (w : Int), .int .u64 (a : Int), .int .u64 (b : Int)] W fun e W' => e = .returned (.int .u64 (leastN true w a b : Int)) ∧ Below W.heap.size W W' := by
  cases ho : ordN w a b with
  | none =>
    cases ha' : na w a with
    | true => exact outer5_x hw ha hb ha' W
    | false => exact outer5_y hw ha hb ha' ((ord_none ho).resolve_left (by rw [ha']; decide)) W
  | some c =>
    cases c with
    | lt => exact outer5_lt hw ha hb ho W
    | eq => exact outer5_eq hw ha hb ho W
    | gt => exact outer5_gt hw ha hb ho W

set_option maxRecDepth 100000 in
set_option maxHeartbeats 1000000 in
theorem outer6_x {w a b : Nat} (hw : IsW w) (ha : a < 2 ^ w) (hb : b < 2 ^ w) (ha' : na w a = true) (W : World) :
    Calls Tryd.prog 64 #[.int .u8 6, .int .i64 (w : Int), .int .u64 (a : Int), .int .u64 (b : Int)] W fun e W' => e = .returned (.int .u64 (leastN false w a b : Int)) ∧ Below W.heap.size W W' := by
  have V : leastN false w a b = nanN w := by
    unfold leastN
    rw [ha']; rfl
  rw [V]
  clear V
  have N := hide (noNumber_calls hw)
  have A := ask_calls hw ha
  have B := ask_calls hw hb
  rw [ha'] at A
  have A := hide A
  have B := hide B
  have O := hide (oneNaN_calls hw)
  have X := hide (worth_calls hw ha)
  have Y := hide (worth_calls hw hb)
  have G1 := u64_or_nat a b (lt64 hw ha) (lt64 hw hb)
  have G2 := u64_and_nat a b (lt64 hw ha) (lt64 hw hb)
  have HB := hide (Below.refl W.heap.size W)
  have HO := hide (@order_ord w a b)
  skip
  have HW := hide hw
  clear ha hb hw ha'
  go_enter Tryd.func64, Tryd.ntmps64
  go_wp2_with (first | ((with_reducible refine (N.out _).mono ?_); rintro e w1 ⟨rfl, h0, h1, hb⟩; have H0 := hide h0; have H1 := hide h1; have HB := hide (below_two HB.out hb); clear h0 h1 hb) | ((with_reducible refine (A.out _ _ _ H0.out H1.out).mono ?_); rintro e w1 ⟨rfl, rfl⟩) | ((with_reducible refine (B.out _ _ _ H0.out H1.out).mono ?_); rintro e w1 ⟨rfl, rfl⟩) | ((with_reducible refine (O.out _).mono ?_); rintro e w1 ⟨rfl, rfl⟩) | ((with_reducible refine (X.out _).mono ?_); rintro e w1 ⟨x, rfl, hx, hb⟩; have Hx := hide hx; have HB := hide (below_two HB.out hb); clear hx hb) | ((with_reducible refine (Y.out _).mono ?_); rintro e w1 ⟨y, rfl, hy, hb⟩; have Hy := hide hy; have HB := hide (below_two HB.out hb); have E := HO.out HW.out Hx.out Hy.out; clear hy hb))
  go_ret
  exact ⟨rfl, HB.out⟩

set_option maxRecDepth 100000 in
set_option maxHeartbeats 1000000 in
theorem outer6_y {w a b : Nat} (hw : IsW w) (ha : a < 2 ^ w) (hb : b < 2 ^ w) (ha' : na w a = false) (hb' : na w b = true) (W : World) :
    Calls Tryd.prog 64 #[.int .u8 6, .int .i64 (w : Int), .int .u64 (a : Int), .int .u64 (b : Int)] W fun e W' => e = .returned (.int .u64 (leastN false w a b : Int)) ∧ Below W.heap.size W W' := by
  have V : leastN false w a b = nanN w := by
    unfold leastN
    rw [ha', hb']; rfl
  rw [V]
  clear V
  have N := hide (noNumber_calls hw)
  have A := ask_calls hw ha
  have B := ask_calls hw hb
  rw [ha'] at A
  rw [hb'] at B
  have A := hide A
  have B := hide B
  have O := hide (oneNaN_calls hw)
  have X := hide (worth_calls hw ha)
  have Y := hide (worth_calls hw hb)
  have G1 := u64_or_nat a b (lt64 hw ha) (lt64 hw hb)
  have G2 := u64_and_nat a b (lt64 hw ha) (lt64 hw hb)
  have HB := hide (Below.refl W.heap.size W)
  have HO := hide (@order_ord w a b)
  skip
  have HW := hide hw
  clear ha hb hw ha' hb'
  go_enter Tryd.func64, Tryd.ntmps64
  go_wp2_with (first | ((with_reducible refine (N.out _).mono ?_); rintro e w1 ⟨rfl, h0, h1, hb⟩; have H0 := hide h0; have H1 := hide h1; have HB := hide (below_two HB.out hb); clear h0 h1 hb) | ((with_reducible refine (A.out _ _ _ H0.out H1.out).mono ?_); rintro e w1 ⟨rfl, rfl⟩) | ((with_reducible refine (B.out _ _ _ H0.out H1.out).mono ?_); rintro e w1 ⟨rfl, rfl⟩) | ((with_reducible refine (O.out _).mono ?_); rintro e w1 ⟨rfl, rfl⟩) | ((with_reducible refine (X.out _).mono ?_); rintro e w1 ⟨x, rfl, hx, hb⟩; have Hx := hide hx; have HB := hide (below_two HB.out hb); clear hx hb) | ((with_reducible refine (Y.out _).mono ?_); rintro e w1 ⟨y, rfl, hy, hb⟩; have Hy := hide hy; have HB := hide (below_two HB.out hb); have E := HO.out HW.out Hx.out Hy.out; clear hy hb))
  go_ret
  exact ⟨rfl, HB.out⟩

set_option maxRecDepth 100000 in
set_option maxHeartbeats 1000000 in
theorem outer6_lt {w a b : Nat} (hw : IsW w) (ha : a < 2 ^ w) (hb : b < 2 ^ w) (ho : ordN w a b = some .lt) (W : World) :
    Calls Tryd.prog 64 #[.int .u8 6, .int .i64 (w : Int), .int .u64 (a : Int), .int .u64 (b : Int)] W fun e W' => e = .returned (.int .u64 (leastN false w a b : Int)) ∧ Below W.heap.size W W' := by
  have V : leastN false w a b = b := by
    unfold leastN
    rw [(ord_some ho).1, (ord_some ho).2, same_ord, less_ord, ho]; rfl
  rw [V]
  clear V
  have N := hide (noNumber_calls hw)
  have A := ask_calls hw ha
  have B := ask_calls hw hb
  obtain ⟨ha', hb'⟩ := ord_some ho
  rw [ha'] at A
  rw [hb'] at B
  have A := hide A
  have B := hide B
  have O := hide (oneNaN_calls hw)
  have X := hide (worth_calls hw ha)
  have Y := hide (worth_calls hw hb)
  have G1 := u64_or_nat a b (lt64 hw ha) (lt64 hw hb)
  have G2 := u64_and_nat a b (lt64 hw ha) (lt64 hw hb)
  have HB := hide (Below.refl W.heap.size W)
  have HO := hide (@order_ord w a b)
  rw [ho] at HO
  have HW := hide hw
  clear ha hb hw ha' hb' ho
  go_enter Tryd.func64, Tryd.ntmps64
  go_wp2_with (first | ((with_reducible refine (N.out _).mono ?_); rintro e w1 ⟨rfl, h0, h1, hb⟩; have H0 := hide h0; have H1 := hide h1; have HB := hide (below_two HB.out hb); clear h0 h1 hb) | ((with_reducible refine (A.out _ _ _ H0.out H1.out).mono ?_); rintro e w1 ⟨rfl, rfl⟩) | ((with_reducible refine (B.out _ _ _ H0.out H1.out).mono ?_); rintro e w1 ⟨rfl, rfl⟩) | ((with_reducible refine (O.out _).mono ?_); rintro e w1 ⟨rfl, rfl⟩) | ((with_reducible refine (X.out _).mono ?_); rintro e w1 ⟨x, rfl, hx, hb⟩; have Hx := hide hx; have HB := hide (below_two HB.out hb); clear hx hb) | ((with_reducible refine (Y.out _).mono ?_); rintro e w1 ⟨y, rfl, hy, hb⟩; have Hy := hide hy; have HB := hide (below_two HB.out hb); have E := HO.out HW.out Hx.out Hy.out; clear hy hb))
  go_ret
  exact ⟨rfl, HB.out⟩

set_option maxRecDepth 100000 in
set_option maxHeartbeats 1000000 in
theorem outer6_eq {w a b : Nat} (hw : IsW w) (ha : a < 2 ^ w) (hb : b < 2 ^ w) (ho : ordN w a b = some .eq) (W : World) :
    Calls Tryd.prog 64 #[.int .u8 6, .int .i64 (w : Int), .int .u64 (a : Int), .int .u64 (b : Int)] W fun e W' => e = .returned (.int .u64 (leastN false w a b : Int)) ∧ Below W.heap.size W W' := by
  have V : leastN false w a b = (a &&& b) := by
    unfold leastN
    rw [(ord_some ho).1, (ord_some ho).2, same_ord, less_ord, ho]; rfl
  rw [V]
  clear V
  have N := hide (noNumber_calls hw)
  have A := ask_calls hw ha
  have B := ask_calls hw hb
  obtain ⟨ha', hb'⟩ := ord_some ho
  rw [ha'] at A
  rw [hb'] at B
  have A := hide A
  have B := hide B
  have O := hide (oneNaN_calls hw)
  have X := hide (worth_calls hw ha)
  have Y := hide (worth_calls hw hb)
  have G1 := u64_or_nat a b (lt64 hw ha) (lt64 hw hb)
  have G2 := u64_and_nat a b (lt64 hw ha) (lt64 hw hb)
  have HB := hide (Below.refl W.heap.size W)
  have HO := hide (@order_ord w a b)
  rw [ho] at HO
  have HW := hide hw
  clear ha hb hw ha' hb' ho
  go_enter Tryd.func64, Tryd.ntmps64
  go_wp2_with (first | ((with_reducible refine (N.out _).mono ?_); rintro e w1 ⟨rfl, h0, h1, hb⟩; have H0 := hide h0; have H1 := hide h1; have HB := hide (below_two HB.out hb); clear h0 h1 hb) | ((with_reducible refine (A.out _ _ _ H0.out H1.out).mono ?_); rintro e w1 ⟨rfl, rfl⟩) | ((with_reducible refine (B.out _ _ _ H0.out H1.out).mono ?_); rintro e w1 ⟨rfl, rfl⟩) | ((with_reducible refine (O.out _).mono ?_); rintro e w1 ⟨rfl, rfl⟩) | ((with_reducible refine (X.out _).mono ?_); rintro e w1 ⟨x, rfl, hx, hb⟩; have Hx := hide hx; have HB := hide (below_two HB.out hb); clear hx hb) | ((with_reducible refine (Y.out _).mono ?_); rintro e w1 ⟨y, rfl, hy, hb⟩; have Hy := hide hy; have HB := hide (below_two HB.out hb); have E := HO.out HW.out Hx.out Hy.out; clear hy hb))
  go_ret
  exact ⟨rfl, HB.out⟩

set_option maxRecDepth 100000 in
set_option maxHeartbeats 1000000 in
theorem outer6_gt {w a b : Nat} (hw : IsW w) (ha : a < 2 ^ w) (hb : b < 2 ^ w) (ho : ordN w a b = some .gt) (W : World) :
    Calls Tryd.prog 64 #[.int .u8 6, .int .i64 (w : Int), .int .u64 (a : Int), .int .u64 (b : Int)] W fun e W' => e = .returned (.int .u64 (leastN false w a b : Int)) ∧ Below W.heap.size W W' := by
  have V : leastN false w a b = a := by
    unfold leastN
    rw [(ord_some ho).1, (ord_some ho).2, same_ord, less_ord, ho]; rfl
  rw [V]
  clear V
  have N := hide (noNumber_calls hw)
  have A := ask_calls hw ha
  have B := ask_calls hw hb
  obtain ⟨ha', hb'⟩ := ord_some ho
  rw [ha'] at A
  rw [hb'] at B
  have A := hide A
  have B := hide B
  have O := hide (oneNaN_calls hw)
  have X := hide (worth_calls hw ha)
  have Y := hide (worth_calls hw hb)
  have G1 := u64_or_nat a b (lt64 hw ha) (lt64 hw hb)
  have G2 := u64_and_nat a b (lt64 hw ha) (lt64 hw hb)
  have HB := hide (Below.refl W.heap.size W)
  have HO := hide (@order_ord w a b)
  rw [ho] at HO
  have HW := hide hw
  clear ha hb hw ha' hb' ho
  go_enter Tryd.func64, Tryd.ntmps64
  go_wp2_with (first | ((with_reducible refine (N.out _).mono ?_); rintro e w1 ⟨rfl, h0, h1, hb⟩; have H0 := hide h0; have H1 := hide h1; have HB := hide (below_two HB.out hb); clear h0 h1 hb) | ((with_reducible refine (A.out _ _ _ H0.out H1.out).mono ?_); rintro e w1 ⟨rfl, rfl⟩) | ((with_reducible refine (B.out _ _ _ H0.out H1.out).mono ?_); rintro e w1 ⟨rfl, rfl⟩) | ((with_reducible refine (O.out _).mono ?_); rintro e w1 ⟨rfl, rfl⟩) | ((with_reducible refine (X.out _).mono ?_); rintro e w1 ⟨x, rfl, hx, hb⟩; have Hx := hide hx; have HB := hide (below_two HB.out hb); clear hx hb) | ((with_reducible refine (Y.out _).mono ?_); rintro e w1 ⟨y, rfl, hy, hb⟩; have Hy := hide hy; have HB := hide (below_two HB.out hb); have E := HO.out HW.out Hx.out Hy.out; clear hy hb))
  go_ret
  exact ⟨rfl, HB.out⟩

theorem outer_6 {w a b : Nat} (hw : IsW w) (ha : a < 2 ^ w) (hb : b < 2 ^ w) (W : World) :
    Calls Tryd.prog 64 #[.int .u8 6, .int .i64 (w : Int), .int .u64 (a : Int), .int .u64 (b : Int)] W fun e W' => e = .returned (.int .u64 (leastN false w a b : Int)) ∧ Below W.heap.size W W' := by
  cases ho : ordN w a b with
  | none =>
    cases ha' : na w a with
    | true => exact outer6_x hw ha hb ha' W
    | false => exact outer6_y hw ha hb ha' ((ord_none ho).resolve_left (by rw [ha']; decide)) W
  | some c =>
    cases c with
    | lt => exact outer6_lt hw ha hb ho W
    | eq => exact outer6_eq hw ha hb ho W
    | gt => exact outer6_gt hw ha hb ho W

end Go.Proofs.YtpeckiaimellmaaDoor.F
