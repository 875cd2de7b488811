/-
  floats.Than, operator by operator; floats.None (genflo.py wrote it).
-/
import Derived.Test.YtpeckiaimellmaaDoorFFloTwoP
set_option linter.unusedVariables false
set_option linter.unusedSimpArgs false
namespace Go.Proofs.YtpeckiaimellmaaDoor.F
open Go.RowKit Flo

set_option maxRecDepth 100000 in
set_option maxHeartbeats 1000000 in
theorem than_17 {w a b : Nat} (hw : IsW w) (ha : a < 2 ^ w) (hb : b < 2 ^ w) (W : World) :
    Calls Tryd.prog 39 #[.int .u8 17, .int .i64 (w : Int), .int .u64 (a : Int), .int .u64 (b : Int)] W fun e W' => e = .returned (pairB (than 17 w a b)) ∧ Below W.heap.size W W' := by
  have V : than 17 w a b = ((ordN w a b == some .eq), 0) := by simp only [than, less_ord w a b, more_ord w a b, same_ord w a b]
  rw [V]
  clear V
  have F := fit2 w a b W
  rw [okW_of hw ha, okW_of hw hb, Bool.and_self] at F
  have F := hide F
  have HB := hide (below_one W (.cells #[.int .u64 (a : Int), .int .u64 (b : Int)] 23))
  have X := hide (worth_calls hw ha)
  have Y := hide (worth_calls hw hb)
  have HO := hide (show ∀ x y, Wor w a x → Wor w b y → FloatKind.f64.format.order x y = ordN w a b from fun x y hx hy => order_ord hw hx hy)
  clear ha hb hw
  rcases ho : ordN w a b with _ | c
  case none =>
    rw [ho] at HO
    clear ho
    go_enter Tryd.func39, Tryd.ntmps39
    go_wp2_with (first | ((with_reducible refine F.out.mono ?_); rintro e w1 ⟨rfl, rfl⟩) | ((with_reducible refine (X.out _).mono ?_); rintro e w1 ⟨x, rfl, hx, hb⟩; have Hx := hide hx; have HB := hide (below_two HB.out hb); clear hx hb) | ((with_reducible refine (Y.out _).mono ?_); rintro e w1 ⟨y, rfl, hy, hb⟩; have Hy := hide hy; have HB := hide (below_two HB.out hb); have E := HO.out _ _ Hx.out Hy.out; clear hy hb))
    refine bodyPost_ret (v := .tuple #[.bool false, .int .i64 0]) (by simp [results, Tryd.results39, go_sem]) rfl ?_
    exact ⟨rfl, HB.out⟩
  case some =>
    cases c
    all_goals
      rw [ho] at HO
      clear ho
      go_enter Tryd.func39, Tryd.ntmps39
      go_wp2_with (first | ((with_reducible refine F.out.mono ?_); rintro e w1 ⟨rfl, rfl⟩) | ((with_reducible refine (X.out _).mono ?_); rintro e w1 ⟨x, rfl, hx, hb⟩; have Hx := hide hx; have HB := hide (below_two HB.out hb); clear hx hb) | ((with_reducible refine (Y.out _).mono ?_); rintro e w1 ⟨y, rfl, hy, hb⟩; have Hy := hide hy; have HB := hide (below_two HB.out hb); have E := HO.out _ _ Hx.out Hy.out; clear hy hb))
      first
        | (refine bodyPost_ret (v := .tuple #[.bool true, .int .i64 0]) (by simp [results, Tryd.results39, go_sem]) rfl ?_
           exact ⟨rfl, HB.out⟩)
        | (refine bodyPost_ret (v := .tuple #[.bool false, .int .i64 0]) (by simp [results, Tryd.results39, go_sem]) rfl ?_
           exact ⟨rfl, HB.out⟩)

set_option maxRecDepth 100000 in
set_option maxHeartbeats 1000000 in
theorem than_18 {w a b : Nat} (hw : IsW w) (ha : a < 2 ^ w) (hb : b < 2 ^ w) (W : World) :
    Calls Tryd.prog 39 #[.int .u8 18, .int .i64 (w : Int), .int .u64 (a : Int), .int .u64 (b : Int)] W fun e W' => e = .returned (pairB (than 18 w a b)) ∧ Below W.heap.size W W' := by
  have V : than 18 w a b = ((!(ordN w a b == some .eq)), 0) := by simp only [than, less_ord w a b, more_ord w a b, same_ord w a b]
  rw [V]
  clear V
  have F := fit2 w a b W
  rw [okW_of hw ha, okW_of hw hb, Bool.and_self] at F
  have F := hide F
  have HB := hide (below_one W (.cells #[.int .u64 (a : Int), .int .u64 (b : Int)] 23))
  have X := hide (worth_calls hw ha)
  have Y := hide (worth_calls hw hb)
  have HO := hide (show ∀ x y, Wor w a x → Wor w b y → FloatKind.f64.format.order x y = ordN w a b from fun x y hx hy => order_ord hw hx hy)
  clear ha hb hw
  rcases ho : ordN w a b with _ | c
  case none =>
    rw [ho] at HO
    clear ho
    go_enter Tryd.func39, Tryd.ntmps39
    go_wp2_with (first | ((with_reducible refine F.out.mono ?_); rintro e w1 ⟨rfl, rfl⟩) | ((with_reducible refine (X.out _).mono ?_); rintro e w1 ⟨x, rfl, hx, hb⟩; have Hx := hide hx; have HB := hide (below_two HB.out hb); clear hx hb) | ((with_reducible refine (Y.out _).mono ?_); rintro e w1 ⟨y, rfl, hy, hb⟩; have Hy := hide hy; have HB := hide (below_two HB.out hb); have E := HO.out _ _ Hx.out Hy.out; clear hy hb))
    refine bodyPost_ret (v := .tuple #[.bool true, .int .i64 0]) (by simp [results, Tryd.results39, go_sem]) rfl ?_
    exact ⟨rfl, HB.out⟩
  case some =>
    cases c
    all_goals
      rw [ho] at HO
      clear ho
      go_enter Tryd.func39, Tryd.ntmps39
      go_wp2_with (first | ((with_reducible refine F.out.mono ?_); rintro e w1 ⟨rfl, rfl⟩) | ((with_reducible refine (X.out _).mono ?_); rintro e w1 ⟨x, rfl, hx, hb⟩; have Hx := hide hx; have HB := hide (below_two HB.out hb); clear hx hb) | ((with_reducible refine (Y.out _).mono ?_); rintro e w1 ⟨y, rfl, hy, hb⟩; have Hy := hide hy; have HB := hide (below_two HB.out hb); have E := HO.out _ _ Hx.out Hy.out; clear hy hb))
      first
        | (refine bodyPost_ret (v := .tuple #[.bool true, .int .i64 0]) (by simp [results, Tryd.results39, go_sem]) rfl ?_
           exact ⟨rfl, HB.out⟩)
        | (refine bodyPost_ret (v := .tuple #[.bool false, .int .i64 0]) (by simp [results, Tryd.results39, go_sem]) rfl ?_
           exact ⟨rfl, HB.out⟩)

set_option maxRecDepth 100000 in
set_option maxHeartbeats 1000000 in
theorem than_19 {w a b : Nat} (hw : IsW w) (ha : a < 2 ^ w) (hb : b < 2 ^ w) (W : World) :
    Calls Tryd.prog 39 #[.int .u8 19, .int .i64 (w : Int), .int .u64 (a : Int), .int .u64 (b : Int)] W fun e W' => e = .returned (pairB (than 19 w a b)) ∧ Below W.heap.size W W' := by
  have V : than 19 w a b = ((ordN w a b == some .lt), 0) := by simp only [than, less_ord w a b, more_ord w a b, same_ord w a b]
  rw [V]
  clear V
  have F := fit2 w a b W
  rw [okW_of hw ha, okW_of hw hb, Bool.and_self] at F
  have F := hide F
  have HB := hide (below_one W (.cells #[.int .u64 (a : Int), .int .u64 (b : Int)] 23))
  have X := hide (worth_calls hw ha)
  have Y := hide (worth_calls hw hb)
  have HO := hide (show ∀ x y, Wor w a x → Wor w b y → FloatKind.f64.format.order x y = ordN w a b from fun x y hx hy => order_ord hw hx hy)
  clear ha hb hw
  rcases ho : ordN w a b with _ | c
  case none =>
    rw [ho] at HO
    clear ho
    go_enter Tryd.func39, Tryd.ntmps39
    go_wp2_with (first | ((with_reducible refine F.out.mono ?_); rintro e w1 ⟨rfl, rfl⟩) | ((with_reducible refine (X.out _).mono ?_); rintro e w1 ⟨x, rfl, hx, hb⟩; have Hx := hide hx; have HB := hide (below_two HB.out hb); clear hx hb) | ((with_reducible refine (Y.out _).mono ?_); rintro e w1 ⟨y, rfl, hy, hb⟩; have Hy := hide hy; have HB := hide (below_two HB.out hb); have E := HO.out _ _ Hx.out Hy.out; clear hy hb))
    refine bodyPost_ret (v := .tuple #[.bool false, .int .i64 0]) (by simp [results, Tryd.results39, go_sem]) rfl ?_
    exact ⟨rfl, HB.out⟩
  case some =>
    cases c
    all_goals
      rw [ho] at HO
      clear ho
      go_enter Tryd.func39, Tryd.ntmps39
      go_wp2_with (first | ((with_reducible refine F.out.mono ?_); rintro e w1 ⟨rfl, rfl⟩) | ((with_reducible refine (X.out _).mono ?_); rintro e w1 ⟨x, rfl, hx, hb⟩; have Hx := hide hx; have HB := hide (below_two HB.out hb); clear hx hb) | ((with_reducible refine (Y.out _).mono ?_); rintro e w1 ⟨y, rfl, hy, hb⟩; have Hy := hide hy; have HB := hide (below_two HB.out hb); have E := HO.out _ _ Hx.out Hy.out; clear hy hb))
      first
        | (refine bodyPost_ret (v := .tuple #[.bool true, .int .i64 0]) (by simp [results, Tryd.results39, go_sem]) rfl ?_
           exact ⟨rfl, HB.out⟩)
        | (refine bodyPost_ret (v := .tuple #[.bool false, .int .i64 0]) (by simp [results, Tryd.results39, go_sem]) rfl ?_
           exact ⟨rfl, HB.out⟩)

set_option maxRecDepth 100000 in
set_option maxHeartbeats 1000000 in
theorem than_20 {w a b : Nat} (hw : IsW w) (ha : a < 2 ^ w) (hb : b < 2 ^ w) (W : World) :
    Calls Tryd.prog 39 #[.int .u8 20, .int .i64 (w : Int), .int .u64 (a : Int), .int .u64 (b : Int)] W fun e W' => e = .returned (pairB (than 20 w a b)) ∧ Below W.heap.size W W' := by
  have V : than 20 w a b = ((ordN w a b == some .gt), 0) := by simp only [than, less_ord w a b, more_ord w a b, same_ord w a b]
  rw [V]
  clear V
  have F := fit2 w a b W
  rw [okW_of hw ha, okW_of hw hb, Bool.and_self] at F
  have F := hide F
  have HB := hide (below_one W (.cells #[.int .u64 (a : Int), .int .u64 (b : Int)] 23))
  have X := hide (worth_calls hw ha)
  have Y := hide (worth_calls hw hb)
  have HO := hide (show ∀ x y, Wor w a x → Wor w b y → FloatKind.f64.format.order x y = ordN w a b from fun x y hx hy => order_ord hw hx hy)
  clear ha hb hw
  rcases ho : ordN w a b with _ | c
  case none =>
    rw [ho] at HO
    clear ho
    go_enter Tryd.func39, Tryd.ntmps39
    go_wp2_with (first | ((with_reducible refine F.out.mono ?_); rintro e w1 ⟨rfl, rfl⟩) | ((with_reducible refine (X.out _).mono ?_); rintro e w1 ⟨x, rfl, hx, hb⟩; have Hx := hide hx; have HB := hide (below_two HB.out hb); clear hx hb) | ((with_reducible refine (Y.out _).mono ?_); rintro e w1 ⟨y, rfl, hy, hb⟩; have Hy := hide hy; have HB := hide (below_two HB.out hb); have E := HO.out _ _ Hx.out Hy.out; clear hy hb))
    refine bodyPost_ret (v := .tuple #[.bool false, .int .i64 0]) (by simp [results, Tryd.results39, go_sem]) rfl ?_
    exact ⟨rfl, HB.out⟩
  case some =>
    cases c
    all_goals
      rw [ho] at HO
      clear ho
      go_enter Tryd.func39, Tryd.ntmps39
      go_wp2_with (first | ((with_reducible refine F.out.mono ?_); rintro e w1 ⟨rfl, rfl⟩) | ((with_reducible refine (X.out _).mono ?_); rintro e w1 ⟨x, rfl, hx, hb⟩; have Hx := hide hx; have HB := hide (below_two HB.out hb); clear hx hb) | ((with_reducible refine (Y.out _).mono ?_); rintro e w1 ⟨y, rfl, hy, hb⟩; have Hy := hide hy; have HB := hide (below_two HB.out hb); have E := HO.out _ _ Hx.out Hy.out; clear hy hb))
      first
        | (refine bodyPost_ret (v := .tuple #[.bool true, .int .i64 0]) (by simp [results, Tryd.results39, go_sem]) rfl ?_
           exact ⟨rfl, HB.out⟩)
        | (refine bodyPost_ret (v := .tuple #[.bool false, .int .i64 0]) (by simp [results, Tryd.results39, go_sem]) rfl ?_
           exact ⟨rfl, HB.out⟩)

set_option maxRecDepth 100000 in
set_option maxHeartbeats 1000000 in
theorem than_21 {w a b : Nat} (hw : IsW w) (ha : a < 2 ^ w) (hb : b < 2 ^ w) (W : World) :
    Calls Tryd.prog 39 #[.int .u8 21, .int .i64 (w : Int), .int .u64 (a : Int), .int .u64 (b : Int)] W fun e W' => e = .returned (pairB (than 21 w a b)) ∧ Below W.heap.size W W' := by
  have V : than 21 w a b = ((ordN w a b == some .lt || ordN w a b == some .eq), 0) := by simp only [than, less_ord w a b, more_ord w a b, same_ord w a b]
  rw [V]
  clear V
  have F := fit2 w a b W
  rw [okW_of hw ha, okW_of hw hb, Bool.and_self] at F
  have F := hide F
  have HB := hide (below_one W (.cells #[.int .u64 (a : Int), .int .u64 (b : Int)] 23))
  have X := hide (worth_calls hw ha)
  have Y := hide (worth_calls hw hb)
  have HO := hide (show ∀ x y, Wor w a x → Wor w b y → FloatKind.f64.format.order x y = ordN w a b from fun x y hx hy => order_ord hw hx hy)
  clear ha hb hw
  rcases ho : ordN w a b with _ | c
  case none =>
    rw [ho] at HO
    clear ho
    go_enter Tryd.func39, Tryd.ntmps39
    go_wp2_with (first | ((with_reducible refine F.out.mono ?_); rintro e w1 ⟨rfl, rfl⟩) | ((with_reducible refine (X.out _).mono ?_); rintro e w1 ⟨x, rfl, hx, hb⟩; have Hx := hide hx; have HB := hide (below_two HB.out hb); clear hx hb) | ((with_reducible refine (Y.out _).mono ?_); rintro e w1 ⟨y, rfl, hy, hb⟩; have Hy := hide hy; have HB := hide (below_two HB.out hb); have E := HO.out _ _ Hx.out Hy.out; clear hy hb))
    refine bodyPost_ret (v := .tuple #[.bool false, .int .i64 0]) (by simp [results, Tryd.results39, go_sem]) rfl ?_
    exact ⟨rfl, HB.out⟩
  case some =>
    cases c
    all_goals
      rw [ho] at HO
      clear ho
      go_enter Tryd.func39, Tryd.ntmps39
      go_wp2_with (first | ((with_reducible refine F.out.mono ?_); rintro e w1 ⟨rfl, rfl⟩) | ((with_reducible refine (X.out _).mono ?_); rintro e w1 ⟨x, rfl, hx, hb⟩; have Hx := hide hx; have HB := hide (below_two HB.out hb); clear hx hb) | ((with_reducible refine (Y.out _).mono ?_); rintro e w1 ⟨y, rfl, hy, hb⟩; have Hy := hide hy; have HB := hide (below_two HB.out hb); have E := HO.out _ _ Hx.out Hy.out; clear hy hb))
      first
        | (refine bodyPost_ret (v := .tuple #[.bool true, .int .i64 0]) (by simp [results, Tryd.results39, go_sem]) rfl ?_
           exact ⟨rfl, HB.out⟩)
        | (refine bodyPost_ret (v := .tuple #[.bool false, .int .i64 0]) (by simp [results, Tryd.results39, go_sem]) rfl ?_
           exact ⟨rfl, HB.out⟩)

set_option maxRecDepth 100000 in
set_option maxHeartbeats 1000000 in
theorem than_22 {w a b : Nat} (hw : IsW w) (ha : a < 2 ^ w) (hb : b < 2 ^ w) (W : World) :
    Calls Tryd.prog 39 #[.int .u8 22, .int .i64 (w : Int), .int .u64 (a : Int), .int .u64 (b : Int)] W fun e W' => e = .returned (pairB (than 22 w a b)) ∧ Below W.heap.size W W' := by
  have V : than 22 w a b = ((ordN w a b == some .gt || ordN w a b == some .eq), 0) := by simp only [than, less_ord w a b, more_ord w a b, same_ord w a b]
  rw [V]
  clear V
  have F := fit2 w a b W
  rw [okW_of hw ha, okW_of hw hb, Bool.and_self] at F
  have F := hide F
  have HB := hide (below_one W (.cells #[.int .u64 (a : Int), .int .u64 (b : Int)] 23))
  have X := hide (worth_calls hw ha)
  have Y := hide (worth_calls hw hb)
  have HO := hide (show ∀ x y, Wor w a x → Wor w b y → FloatKind.f64.format.order x y = ordN w a b from fun x y hx hy => order_ord hw hx hy)
  clear ha hb hw
  rcases ho : ordN w a b with _ | c
  case none =>
    rw [ho] at HO
    clear ho
    go_enter Tryd.func39, Tryd.ntmps39
    go_wp2_with (first | ((with_reducible refine F.out.mono ?_); rintro e w1 ⟨rfl, rfl⟩) | ((with_reducible refine (X.out _).mono ?_); rintro e w1 ⟨x, rfl, hx, hb⟩; have Hx := hide hx; have HB := hide (below_two HB.out hb); clear hx hb) | ((with_reducible refine (Y.out _).mono ?_); rintro e w1 ⟨y, rfl, hy, hb⟩; have Hy := hide hy; have HB := hide (below_two HB.out hb); have E := HO.out _ _ Hx.out Hy.out; clear hy hb))
    refine bodyPost_ret (v := .tuple #[.bool false, .int .i64 0]) (by simp [results, Tryd.results39, go_sem]) rfl ?_
    exact ⟨rfl, HB.out⟩
  case some =>
    cases c
    all_goals
      rw [ho] at HO
      clear ho
      go_enter Tryd.func39, Tryd.ntmps39
      go_wp2_with (first | ((with_reducible refine F.out.mono ?_); rintro e w1 ⟨rfl, rfl⟩) | ((with_reducible refine (X.out _).mono ?_); rintro e w1 ⟨x, rfl, hx, hb⟩; have Hx := hide hx; have HB := hide (below_two HB.out hb); clear hx hb) | ((with_reducible refine (Y.out _).mono ?_); rintro e w1 ⟨y, rfl, hy, hb⟩; have Hy := hide hy; have HB := hide (below_two HB.out hb); have E := HO.out _ _ Hx.out Hy.out; clear hy hb))
      first
        | (refine bodyPost_ret (v := .tuple #[.bool true, .int .i64 0]) (by simp [results, Tryd.results39, go_sem]) rfl ?_
           exact ⟨rfl, HB.out⟩)
        | (refine bodyPost_ret (v := .tuple #[.bool false, .int .i64 0]) (by simp [results, Tryd.results39, go_sem]) rfl ?_
           exact ⟨rfl, HB.out⟩)

theorem than_none {op w a b : Nat} (h : op < 17 ∨ 22 < op) : than op w a b = (false, 2) := by
  unfold than
  split <;> first | omega | rfl

set_option maxRecDepth 100000 in
set_option maxHeartbeats 1000000 in
theorem than_else {w a b : Nat} (hw : IsW w) (op : Int) (ha : a < 2 ^ w) (hb : b < 2 ^ w) (h0 : 0 ≤ op) (ho : op < 17 ∨ 22 < op) (W : World) :
    Calls Tryd.prog 39 #[.int .u8 op, .int .i64 (w : Int), .int .u64 (a : Int), .int .u64 (b : Int)] W fun e W' => e = .returned (pairB (than op.toNat w a b)) ∧ Below W.heap.size W W' := by
  rw [than_none (by omega)]
  have F := fit2 w a b W
  rw [okW_of hw ha, okW_of hw hb, Bool.and_self] at F
  have F := hide F
  have HB := hide (below_one W (.cells #[.int .u64 (a : Int), .int .u64 (b : Int)] 23))
  have X := hide (worth_calls hw ha)
  have Y := hide (worth_calls hw hb)
  have n17 : (op == 17) = false := by simp; omega
  have n18 : (op == 18) = false := by simp; omega
  have n19 : (op == 19) = false := by simp; omega
  have n20 : (op == 20) = false := by simp; omega
  have n21 : (op == 21) = false := by simp; omega
  have n22 : (op == 22) = false := by simp; omega
  clear ha hb hw ho h0
  go_enter Tryd.func39, Tryd.ntmps39
  go_wp2_with (first | ((with_reducible refine F.out.mono ?_); rintro e w1 ⟨rfl, rfl⟩) | ((with_reducible refine (X.out _).mono ?_); rintro e w1 ⟨x, rfl, hx, hb⟩; have Hx := hide hx; have HB := hide (below_two HB.out hb); clear hx hb) | ((with_reducible refine (Y.out _).mono ?_); rintro e w1 ⟨y, rfl, hy, hb⟩; have Hy := hide hy; have HB := hide (below_two HB.out hb); clear hy hb))
  refine bodyPost_ret (v := .tuple #[.bool false, .int .i64 2]) (by simp [results, Tryd.results39, go_sem]) rfl ?_
  exact ⟨rfl, HB.out⟩

set_option maxRecDepth 100000 in
set_option maxHeartbeats 1000000 in
theorem than_bad (op w : Int) (a b : Nat) (h : (okW w a && okW w b) = false) (W : World) :
    Calls Tryd.prog 39 #[.int .u8 op, .int .i64 w, .int .u64 (a : Int), .int .u64 (b : Int)] W fun e W' => e = .returned (pairB (false, 2)) ∧ Below W.heap.size W W' := by
  have F := fit2 w a b W
  rw [h] at F
  have F := hide F
  have HB := hide (below_one W (.cells #[.int .u64 (a : Int), .int .u64 (b : Int)] 23))
  clear h
  go_enter Tryd.func39, Tryd.ntmps39
  go_wp2_with ((with_reducible refine F.out.mono ?_); rintro e w1 ⟨rfl, rfl⟩)
  refine bodyPost_ret (v := .tuple #[.bool false, .int .i64 2]) (by simp [results, Tryd.results39, go_sem]) rfl ?_
  exact ⟨rfl, HB.out⟩

theorem Than_calls {w a b : Nat} (hw : IsW w) (op : Nat) (ha : a < 2 ^ w) (hb : b < 2 ^ w) (W : World) :
    Calls Tryd.prog 39 #[.int .u8 (op : Int), .int .i64 (w : Int), .int .u64 (a : Int), .int .u64 (b : Int)] W fun e W' => e = .returned (pairB (than op w a b)) ∧ Below W.heap.size W W' := by
  by_cases hk : op < 17 ∨ 22 < op
  · exact than_else hw (op : Int) ha hb (by omega) (by omega) W
  · rcases (show op = 17 ∨ op = 18 ∨ op = 19 ∨ op = 20 ∨ op = 21 ∨ op = 22 by omega) with rfl | rfl | rfl | rfl | rfl | rfl
    · exact than_17 hw ha hb W
    · exact than_18 hw ha hb W
    · exact than_19 hw ha hb W
    · exact than_20 hw ha hb W
    · exact than_21 hw ha hb W
    · exact than_22 hw ha hb W

theorem fit1b (w : Int) (a : Nat) (W : World) :
    Calls Tryd.prog 61 #[.int .i64 w, .slice (some ⟨W.heap.size, 0, none⟩) 1 1] (W.alloc (.cells #[.int .u64 (a : Int)] 23)) fun e W' => e = .returned (.bool (okW w a)) ∧ Below W.heap.size W W' :=
  (fit1 w a W).mono fun e W' h => ⟨h.1, by rw [h.2]; exact below_one ..⟩

set_option maxRecDepth 100000 in
set_option maxHeartbeats 1000000 in
theorem None_calls (w : Int) (a : Nat) (h64 : a < 2 ^ 64) (W : World) :
    Calls Tryd.prog 103 #[.int .i64 w, .int .u64 (a : Int)] W fun e W' => e = .returned (pairB (if okW w a then (na w.toNat a, 0) else (false, 2))) ∧ Below W.heap.size W W' := by
  have F := fit1b w a W
  have HB := hide (below_one W (.cells #[.int .u64 (a : Int)] 23))
  cases h : okW w a with
  | false =>
    rw [h] at F
    have F := hide F
    clear h
    go_enter Tryd.func103, Tryd.ntmps103
    go_wp2_with ((with_reducible refine F.out.mono ?_); rintro e w1 ⟨rfl, hb⟩; have HB := hide hb; clear hb)
    refine bodyPost_ret (v := .tuple #[.bool false, .int .i64 2]) (by simp [results, Tryd.results103, go_sem]) rfl ?_
    exact ⟨rfl, HB.out⟩
  | true =>
    obtain ⟨n, rfl, hn, ha⟩ := of_okW h64 h
    rw [h] at F
    have F := hide F
    have N := hide (noNumber_calls hn)
    have A := hide (ask_calls hn ha)
    rw [show ((n : Int)).toNat = n from Int.toNat_natCast n]
    clear h ha hn h64
    generalize na n a = r at *
    go_enter Tryd.func103, Tryd.ntmps103
    go_wp2_with (first | ((with_reducible refine F.out.mono ?_); rintro e w1 ⟨rfl, hb⟩; have HB := hide hb; clear hb) | ((with_reducible refine (N.out _).mono ?_); rintro e w1 ⟨rfl, h0, h1, hb⟩; have H0 := hide h0; have H1 := hide h1; have HB := hide (below_two HB.out hb); clear h0 h1 hb) | ((with_reducible refine (A.out _ _ _ H0.out H1.out).mono ?_); rintro e w1 ⟨rfl, rfl⟩))
    refine bodyPost_ret (v := .tuple #[.bool r, .int .i64 0]) (by simp [results, Tryd.results103, go_sem]) rfl ?_
    exact ⟨rfl, HB.out⟩
end Go.Proofs.YtpeckiaimellmaaDoor.F
