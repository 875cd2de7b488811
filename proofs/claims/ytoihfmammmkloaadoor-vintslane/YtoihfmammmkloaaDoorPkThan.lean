/-
  ZIntsThan, ZIntsWide.
-/
import Derived.Test.YtoihfmammmkloaaDoorPkOne
/-
  Than, and the document's (genthan.py wrote it).
-/
set_option linter.unusedVariables false
set_option linter.unusedSimpArgs false
namespace Go.Proofs.YtoihfmammmkloaaDoor.Z
open Go.RowKit Ints

/-- The answer, and the error's number. -/
def than (op : Nat) (w : Nat) (a b : Int) : Bool × Int :=
  match op with
  | 32 => ((a == b), 0)
  | 33 => ((a != b), 0)
  | 34 => ((decide (a < b)), 0)
  | 35 => ((decide (wo w a < wo w b)), 0)
  | 36 => ((decide (b < a)), 0)
  | 37 => ((decide (wo w b < wo w a)), 0)
  | 38 => ((decide (a ≤ b)), 0)
  | 39 => ((decide (wo w a ≤ wo w b)), 0)
  | 40 => ((decide (b ≤ a)), 0)
  | 41 => ((decide (wo w b ≤ wo w a)), 0)
  | _ => (false, 2)

def pairB (p : Bool × Int) : Value := .tuple #[.bool p.1, .int .i64 p.2]

theorem than_none {op : Nat} (h : op < 32 ∨ 41 < op) (w : Nat) (a b : Int) : than op w a b = (false, 2) := by
  unfold than
  split <;> first | omega | rfl

set_option maxRecDepth 100000 in
set_option maxHeartbeats 2000000 in
theorem than_32 {w : Nat} (hw : IsW w) (a b : Int) (ha : Of w a) (hb : Of w b) (W : World) (hT : WTabs W) :
    Calls Tryd.prog 48 #[.int .u8 32, .int .i64 (w : Int), .int .u64 a, .int .u64 b] W fun e W' => e = .returned (pairB (than 32 w a b)) ∧ Below W.heap.size W W' := by
  have F := fit2 w a b W hT
  rw [ok2_of hw ha hb] at F
  have F := hide F
  have B := hide (below_two W (.cells #[.int .u64 a, .int .u64 b] 23))
  have CA := hide (worth_calls hw a ha)
  have CB := hide (worth_calls hw b hb)
  clear ha hb hT
  go_enter Tryd.func48, Tryd.ntmps48
  go_wp2_with (first | (with_reducible refine F.out.mono ?_; rintro e w1 ⟨rfl, rfl⟩) | (with_reducible refine (CA.out _).mono ?_; rintro e w1 ⟨rfl, rfl⟩) | (with_reducible refine (CB.out _).mono ?_; rintro e w1 ⟨rfl, rfl⟩))
  refine bodyPost_ret (v := .tuple #[.bool (a == b), .int .i64 0]) (by simp [results, Tryd.results48, go_sem]) rfl ?_
  exact ⟨rfl, B.out⟩

set_option maxRecDepth 100000 in
set_option maxHeartbeats 2000000 in
theorem than_33 {w : Nat} (hw : IsW w) (a b : Int) (ha : Of w a) (hb : Of w b) (W : World) (hT : WTabs W) :
    Calls Tryd.prog 48 #[.int .u8 33, .int .i64 (w : Int), .int .u64 a, .int .u64 b] W fun e W' => e = .returned (pairB (than 33 w a b)) ∧ Below W.heap.size W W' := by
  have F := fit2 w a b W hT
  rw [ok2_of hw ha hb] at F
  have F := hide F
  have B := hide (below_two W (.cells #[.int .u64 a, .int .u64 b] 23))
  have CA := hide (worth_calls hw a ha)
  have CB := hide (worth_calls hw b hb)
  clear ha hb hT
  go_enter Tryd.func48, Tryd.ntmps48
  go_wp2_with (first | (with_reducible refine F.out.mono ?_; rintro e w1 ⟨rfl, rfl⟩) | (with_reducible refine (CA.out _).mono ?_; rintro e w1 ⟨rfl, rfl⟩) | (with_reducible refine (CB.out _).mono ?_; rintro e w1 ⟨rfl, rfl⟩))
  refine bodyPost_ret (v := .tuple #[.bool (a != b), .int .i64 0]) (by simp [results, Tryd.results48, go_sem]) rfl ?_
  exact ⟨rfl, B.out⟩

set_option maxRecDepth 100000 in
set_option maxHeartbeats 2000000 in
theorem than_34 {w : Nat} (hw : IsW w) (a b : Int) (ha : Of w a) (hb : Of w b) (W : World) (hT : WTabs W) :
    Calls Tryd.prog 48 #[.int .u8 34, .int .i64 (w : Int), .int .u64 a, .int .u64 b] W fun e W' => e = .returned (pairB (than 34 w a b)) ∧ Below W.heap.size W W' := by
  have F := fit2 w a b W hT
  rw [ok2_of hw ha hb] at F
  have F := hide F
  have B := hide (below_two W (.cells #[.int .u64 a, .int .u64 b] 23))
  have CA := hide (worth_calls hw a ha)
  have CB := hide (worth_calls hw b hb)
  clear ha hb hT
  go_enter Tryd.func48, Tryd.ntmps48
  go_wp2_with (first | (with_reducible refine F.out.mono ?_; rintro e w1 ⟨rfl, rfl⟩) | (with_reducible refine (CA.out _).mono ?_; rintro e w1 ⟨rfl, rfl⟩) | (with_reducible refine (CB.out _).mono ?_; rintro e w1 ⟨rfl, rfl⟩))
  refine bodyPost_ret (v := .tuple #[.bool (decide (a < b)), .int .i64 0]) (by simp [results, Tryd.results48, go_sem]) rfl ?_
  exact ⟨rfl, B.out⟩

set_option maxRecDepth 100000 in
set_option maxHeartbeats 2000000 in
theorem than_35 {w : Nat} (hw : IsW w) (a b : Int) (ha : Of w a) (hb : Of w b) (W : World) (hT : WTabs W) :
    Calls Tryd.prog 48 #[.int .u8 35, .int .i64 (w : Int), .int .u64 a, .int .u64 b] W fun e W' => e = .returned (pairB (than 35 w a b)) ∧ Below W.heap.size W W' := by
  have F := fit2 w a b W hT
  rw [ok2_of hw ha hb] at F
  have F := hide F
  have B := hide (below_two W (.cells #[.int .u64 a, .int .u64 b] 23))
  have CA := hide (worth_calls hw a ha)
  have CB := hide (worth_calls hw b hb)
  clear ha hb hT
  go_enter Tryd.func48, Tryd.ntmps48
  go_wp2_with (first | (with_reducible refine F.out.mono ?_; rintro e w1 ⟨rfl, rfl⟩) | (with_reducible refine (CA.out _).mono ?_; rintro e w1 ⟨rfl, rfl⟩) | (with_reducible refine (CB.out _).mono ?_; rintro e w1 ⟨rfl, rfl⟩))
  refine bodyPost_ret (v := .tuple #[.bool (decide (wo w a < wo w b)), .int .i64 0]) (by simp [results, Tryd.results48, go_sem]) rfl ?_
  exact ⟨rfl, B.out⟩

set_option maxRecDepth 100000 in
set_option maxHeartbeats 2000000 in
theorem than_36 {w : Nat} (hw : IsW w) (a b : Int) (ha : Of w a) (hb : Of w b) (W : World) (hT : WTabs W) :
    Calls Tryd.prog 48 #[.int .u8 36, .int .i64 (w : Int), .int .u64 a, .int .u64 b] W fun e W' => e = .returned (pairB (than 36 w a b)) ∧ Below W.heap.size W W' := by
  have F := fit2 w a b W hT
  rw [ok2_of hw ha hb] at F
  have F := hide F
  have B := hide (below_two W (.cells #[.int .u64 a, .int .u64 b] 23))
  have CA := hide (worth_calls hw a ha)
  have CB := hide (worth_calls hw b hb)
  clear ha hb hT
  go_enter Tryd.func48, Tryd.ntmps48
  go_wp2_with (first | (with_reducible refine F.out.mono ?_; rintro e w1 ⟨rfl, rfl⟩) | (with_reducible refine (CA.out _).mono ?_; rintro e w1 ⟨rfl, rfl⟩) | (with_reducible refine (CB.out _).mono ?_; rintro e w1 ⟨rfl, rfl⟩))
  refine bodyPost_ret (v := .tuple #[.bool (decide (b < a)), .int .i64 0]) (by simp [results, Tryd.results48, go_sem]) rfl ?_
  exact ⟨rfl, B.out⟩

set_option maxRecDepth 100000 in
set_option maxHeartbeats 2000000 in
theorem than_37 {w : Nat} (hw : IsW w) (a b : Int) (ha : Of w a) (hb : Of w b) (W : World) (hT : WTabs W) :
    Calls Tryd.prog 48 #[.int .u8 37, .int .i64 (w : Int), .int .u64 a, .int .u64 b] W fun e W' => e = .returned (pairB (than 37 w a b)) ∧ Below W.heap.size W W' := by
  have F := fit2 w a b W hT
  rw [ok2_of hw ha hb] at F
  have F := hide F
  have B := hide (below_two W (.cells #[.int .u64 a, .int .u64 b] 23))
  have CA := hide (worth_calls hw a ha)
  have CB := hide (worth_calls hw b hb)
  clear ha hb hT
  go_enter Tryd.func48, Tryd.ntmps48
  go_wp2_with (first | (with_reducible refine F.out.mono ?_; rintro e w1 ⟨rfl, rfl⟩) | (with_reducible refine (CA.out _).mono ?_; rintro e w1 ⟨rfl, rfl⟩) | (with_reducible refine (CB.out _).mono ?_; rintro e w1 ⟨rfl, rfl⟩))
  refine bodyPost_ret (v := .tuple #[.bool (decide (wo w b < wo w a)), .int .i64 0]) (by simp [results, Tryd.results48, go_sem]) rfl ?_
  exact ⟨rfl, B.out⟩

set_option maxRecDepth 100000 in
set_option maxHeartbeats 2000000 in
theorem than_38 {w : Nat} (hw : IsW w) (a b : Int) (ha : Of w a) (hb : Of w b) (W : World) (hT : WTabs W) :
    Calls Tryd.prog 48 #[.int .u8 38, .int .i64 (w : Int), .int .u64 a, .int .u64 b] W fun e W' => e = .returned (pairB (than 38 w a b)) ∧ Below W.heap.size W W' := by
  have F := fit2 w a b W hT
  rw [ok2_of hw ha hb] at F
  have F := hide F
  have B := hide (below_two W (.cells #[.int .u64 a, .int .u64 b] 23))
  have CA := hide (worth_calls hw a ha)
  have CB := hide (worth_calls hw b hb)
  clear ha hb hT
  go_enter Tryd.func48, Tryd.ntmps48
  go_wp2_with (first | (with_reducible refine F.out.mono ?_; rintro e w1 ⟨rfl, rfl⟩) | (with_reducible refine (CA.out _).mono ?_; rintro e w1 ⟨rfl, rfl⟩) | (with_reducible refine (CB.out _).mono ?_; rintro e w1 ⟨rfl, rfl⟩))
  refine bodyPost_ret (v := .tuple #[.bool (decide (a ≤ b)), .int .i64 0]) (by simp [results, Tryd.results48, go_sem]) rfl ?_
  exact ⟨rfl, B.out⟩

set_option maxRecDepth 100000 in
set_option maxHeartbeats 2000000 in
theorem than_39 {w : Nat} (hw : IsW w) (a b : Int) (ha : Of w a) (hb : Of w b) (W : World) (hT : WTabs W) :
    Calls Tryd.prog 48 #[.int .u8 39, .int .i64 (w : Int), .int .u64 a, .int .u64 b] W fun e W' => e = .returned (pairB (than 39 w a b)) ∧ Below W.heap.size W W' := by
  have F := fit2 w a b W hT
  rw [ok2_of hw ha hb] at F
  have F := hide F
  have B := hide (below_two W (.cells #[.int .u64 a, .int .u64 b] 23))
  have CA := hide (worth_calls hw a ha)
  have CB := hide (worth_calls hw b hb)
  clear ha hb hT
  go_enter Tryd.func48, Tryd.ntmps48
  go_wp2_with (first | (with_reducible refine F.out.mono ?_; rintro e w1 ⟨rfl, rfl⟩) | (with_reducible refine (CA.out _).mono ?_; rintro e w1 ⟨rfl, rfl⟩) | (with_reducible refine (CB.out _).mono ?_; rintro e w1 ⟨rfl, rfl⟩))
  refine bodyPost_ret (v := .tuple #[.bool (decide (wo w a ≤ wo w b)), .int .i64 0]) (by simp [results, Tryd.results48, go_sem]) rfl ?_
  exact ⟨rfl, B.out⟩

set_option maxRecDepth 100000 in
set_option maxHeartbeats 2000000 in
theorem than_40 {w : Nat} (hw : IsW w) (a b : Int) (ha : Of w a) (hb : Of w b) (W : World) (hT : WTabs W) :
    Calls Tryd.prog 48 #[.int .u8 40, .int .i64 (w : Int), .int .u64 a, .int .u64 b] W fun e W' => e = .returned (pairB (than 40 w a b)) ∧ Below W.heap.size W W' := by
  have F := fit2 w a b W hT
  rw [ok2_of hw ha hb] at F
  have F := hide F
  have B := hide (below_two W (.cells #[.int .u64 a, .int .u64 b] 23))
  have CA := hide (worth_calls hw a ha)
  have CB := hide (worth_calls hw b hb)
  clear ha hb hT
  go_enter Tryd.func48, Tryd.ntmps48
  go_wp2_with (first | (with_reducible refine F.out.mono ?_; rintro e w1 ⟨rfl, rfl⟩) | (with_reducible refine (CA.out _).mono ?_; rintro e w1 ⟨rfl, rfl⟩) | (with_reducible refine (CB.out _).mono ?_; rintro e w1 ⟨rfl, rfl⟩))
  refine bodyPost_ret (v := .tuple #[.bool (decide (b ≤ a)), .int .i64 0]) (by simp [results, Tryd.results48, go_sem]) rfl ?_
  exact ⟨rfl, B.out⟩

set_option maxRecDepth 100000 in
set_option maxHeartbeats 2000000 in
theorem than_41 {w : Nat} (hw : IsW w) (a b : Int) (ha : Of w a) (hb : Of w b) (W : World) (hT : WTabs W) :
    Calls Tryd.prog 48 #[.int .u8 41, .int .i64 (w : Int), .int .u64 a, .int .u64 b] W fun e W' => e = .returned (pairB (than 41 w a b)) ∧ Below W.heap.size W W' := by
  have F := fit2 w a b W hT
  rw [ok2_of hw ha hb] at F
  have F := hide F
  have B := hide (below_two W (.cells #[.int .u64 a, .int .u64 b] 23))
  have CA := hide (worth_calls hw a ha)
  have CB := hide (worth_calls hw b hb)
  clear ha hb hT
  go_enter Tryd.func48, Tryd.ntmps48
  go_wp2_with (first | (with_reducible refine F.out.mono ?_; rintro e w1 ⟨rfl, rfl⟩) | (with_reducible refine (CA.out _).mono ?_; rintro e w1 ⟨rfl, rfl⟩) | (with_reducible refine (CB.out _).mono ?_; rintro e w1 ⟨rfl, rfl⟩))
  refine bodyPost_ret (v := .tuple #[.bool (decide (wo w b ≤ wo w a)), .int .i64 0]) (by simp [results, Tryd.results48, go_sem]) rfl ?_
  exact ⟨rfl, B.out⟩

set_option maxRecDepth 100000 in
set_option maxHeartbeats 2000000 in
theorem than_else {w : Nat} (hw : IsW w) (op : Int) (a b : Int) (ho0 : 0 ≤ op) (ha : Of w a) (hb : Of w b) (ho : op < 32 ∨ 41 < op) (W : World) (hT : WTabs W) :
    Calls Tryd.prog 48 #[.int .u8 op, .int .i64 (w : Int), .int .u64 a, .int .u64 b] W fun e W' => e = .returned (pairB (than op.toNat w a b)) ∧ Below W.heap.size W W' := by
  rw [than_none (by omega)]
  have F := fit2 w a b W hT
  rw [ok2_of hw ha hb] at F
  have F := hide F
  have B := hide (below_two W (.cells #[.int .u64 a, .int .u64 b] 23))
  have CA := hide (worth_calls hw a ha)
  have CB := hide (worth_calls hw b hb)
  have n32 : (op == 32) = false := by simp; omega
  have n33 : (op == 33) = false := by simp; omega
  have n34 : (op == 34) = false := by simp; omega
  have n35 : (op == 35) = false := by simp; omega
  have n36 : (op == 36) = false := by simp; omega
  have n37 : (op == 37) = false := by simp; omega
  have n38 : (op == 38) = false := by simp; omega
  have n39 : (op == 39) = false := by simp; omega
  have n40 : (op == 40) = false := by simp; omega
  have n41 : (op == 41) = false := by simp; omega
  clear ha hb hT ho ho0
  go_enter Tryd.func48, Tryd.ntmps48
  go_wp2_with (first | (with_reducible refine F.out.mono ?_; rintro e w1 ⟨rfl, rfl⟩) | (with_reducible refine (CA.out _).mono ?_; rintro e w1 ⟨rfl, rfl⟩) | (with_reducible refine (CB.out _).mono ?_; rintro e w1 ⟨rfl, rfl⟩))
  refine bodyPost_ret (v := .tuple #[.bool false, .int .i64 2]) (by simp [results, Tryd.results48, go_sem]) rfl ?_
  exact ⟨rfl, B.out⟩

set_option maxRecDepth 100000 in
set_option maxHeartbeats 2000000 in
theorem than_bad (op w a b : Int) (h : ok2 w a b = false) (W : World) (hT : WTabs W) :
    Calls Tryd.prog 48 #[.int .u8 op, .int .i64 w, .int .u64 a, .int .u64 b] W fun e W' => e = .returned (pairB (false, 2)) ∧ Below W.heap.size W W' := by
  have F := fit2 w a b W hT
  rw [h] at F
  have F := hide F
  have B := hide (below_two W (.cells #[.int .u64 a, .int .u64 b] 23))
  clear hT
  go_enter Tryd.func48, Tryd.ntmps48
  go_wp2_with (with_reducible refine F.out.mono ?_; rintro e w1 ⟨rfl, rfl⟩)
  refine bodyPost_ret (v := .tuple #[.bool false, .int .i64 2]) (by simp [results, Tryd.results48, go_sem]) rfl ?_
  exact ⟨rfl, B.out⟩

theorem Than_calls {w : Nat} (hw : IsW w) (op a b : Int) (ho : 0 ≤ op) (ha : Of w a) (hb : Of w b) (W : World) (hT : WTabs W) :
    Calls Tryd.prog 48 #[.int .u8 op, .int .i64 (w : Int), .int .u64 a, .int .u64 b] W fun e W' => e = .returned (pairB (than op.toNat w a b)) ∧ Below W.heap.size W W' := by
  by_cases hk : op < 32 ∨ 41 < op
  · exact than_else hw op a b ho ha hb hk W hT
  · rcases (show op = 32 ∨ op = 33 ∨ op = 34 ∨ op = 35 ∨ op = 36 ∨ op = 37 ∨ op = 38 ∨ op = 39 ∨ op = 40 ∨ op = 41 by omega) with rfl | rfl | rfl | rfl | rfl | rfl | rfl | rfl | rfl | rfl
    · exact than_32 hw a b ha hb W hT
    · exact than_33 hw a b ha hb W hT
    · exact than_34 hw a b ha hb W hT
    · exact than_35 hw a b ha hb W hT
    · exact than_36 hw a b ha hb W hT
    · exact than_37 hw a b ha hb W hT
    · exact than_38 hw a b ha hb W hT
    · exact than_39 hw a b ha hb W hT
    · exact than_40 hw a b ha hb W hT
    · exact than_41 hw a b ha hb W hT

set_option maxRecDepth 100000 in
set_option maxHeartbeats 2000000 in
theorem rthan_32 {w : Nat} (hw : IsW w) (a b : Int) (ha : Of w a) (hb : Of w b) (W : World) :
    Calls Tryd.prog 49 #[.int .u8 32, .int .i64 (w : Int), .int .u64 a, .int .u64 b] W fun e W' => e = .returned (pairB (than 32 w a b)) ∧ W' = W := by
  have CW := width_calls (w : Int)
  rw [isW_of hw] at CW
  have CW := hide CW
  have FA := rfits_calls hw a
  rw [decide_eq_true (mo_ge ha)] at FA
  have FA := hide FA
  have FB := rfits_calls hw b
  rw [decide_eq_true (mo_ge hb)] at FB
  have FB := hide FB
  have CA := hide (rworth_calls hw a ha)
  have CB := hide (rworth_calls hw b hb)
  clear ha hb
  go_enter Tryd.func49, Tryd.ntmps49
  go_wp2_with (first | (with_reducible refine (CW.out _).mono ?_; rintro e w1 ⟨rfl, rfl⟩) | (with_reducible refine (FA.out _).mono ?_; rintro e w1 ⟨rfl, rfl⟩) | (with_reducible refine (FB.out _).mono ?_; rintro e w1 ⟨rfl, rfl⟩) | (with_reducible refine (CA.out _).mono ?_; rintro e w1 ⟨rfl, rfl⟩) | (with_reducible refine (CB.out _).mono ?_; rintro e w1 ⟨rfl, rfl⟩))
  refine bodyPost_ret (v := .tuple #[.bool (a == b), .int .i64 0]) (by simp [results, Tryd.results49, go_sem]) rfl ?_
  exact ⟨rfl, rfl⟩

set_option maxRecDepth 100000 in
set_option maxHeartbeats 2000000 in
theorem rthan_33 {w : Nat} (hw : IsW w) (a b : Int) (ha : Of w a) (hb : Of w b) (W : World) :
    Calls Tryd.prog 49 #[.int .u8 33, .int .i64 (w : Int), .int .u64 a, .int .u64 b] W fun e W' => e = .returned (pairB (than 33 w a b)) ∧ W' = W := by
  have CW := width_calls (w : Int)
  rw [isW_of hw] at CW
  have CW := hide CW
  have FA := rfits_calls hw a
  rw [decide_eq_true (mo_ge ha)] at FA
  have FA := hide FA
  have FB := rfits_calls hw b
  rw [decide_eq_true (mo_ge hb)] at FB
  have FB := hide FB
  have CA := hide (rworth_calls hw a ha)
  have CB := hide (rworth_calls hw b hb)
  clear ha hb
  go_enter Tryd.func49, Tryd.ntmps49
  go_wp2_with (first | (with_reducible refine (CW.out _).mono ?_; rintro e w1 ⟨rfl, rfl⟩) | (with_reducible refine (FA.out _).mono ?_; rintro e w1 ⟨rfl, rfl⟩) | (with_reducible refine (FB.out _).mono ?_; rintro e w1 ⟨rfl, rfl⟩) | (with_reducible refine (CA.out _).mono ?_; rintro e w1 ⟨rfl, rfl⟩) | (with_reducible refine (CB.out _).mono ?_; rintro e w1 ⟨rfl, rfl⟩))
  refine bodyPost_ret (v := .tuple #[.bool (a != b), .int .i64 0]) (by simp [results, Tryd.results49, go_sem]) rfl ?_
  exact ⟨rfl, rfl⟩

set_option maxRecDepth 100000 in
set_option maxHeartbeats 2000000 in
theorem rthan_34 {w : Nat} (hw : IsW w) (a b : Int) (ha : Of w a) (hb : Of w b) (W : World) :
    Calls Tryd.prog 49 #[.int .u8 34, .int .i64 (w : Int), .int .u64 a, .int .u64 b] W fun e W' => e = .returned (pairB (than 34 w a b)) ∧ W' = W := by
  have CW := width_calls (w : Int)
  rw [isW_of hw] at CW
  have CW := hide CW
  have FA := rfits_calls hw a
  rw [decide_eq_true (mo_ge ha)] at FA
  have FA := hide FA
  have FB := rfits_calls hw b
  rw [decide_eq_true (mo_ge hb)] at FB
  have FB := hide FB
  have CA := hide (rworth_calls hw a ha)
  have CB := hide (rworth_calls hw b hb)
  clear ha hb
  go_enter Tryd.func49, Tryd.ntmps49
  go_wp2_with (first | (with_reducible refine (CW.out _).mono ?_; rintro e w1 ⟨rfl, rfl⟩) | (with_reducible refine (FA.out _).mono ?_; rintro e w1 ⟨rfl, rfl⟩) | (with_reducible refine (FB.out _).mono ?_; rintro e w1 ⟨rfl, rfl⟩) | (with_reducible refine (CA.out _).mono ?_; rintro e w1 ⟨rfl, rfl⟩) | (with_reducible refine (CB.out _).mono ?_; rintro e w1 ⟨rfl, rfl⟩))
  refine bodyPost_ret (v := .tuple #[.bool (decide (a < b)), .int .i64 0]) (by simp [results, Tryd.results49, go_sem]) rfl ?_
  exact ⟨rfl, rfl⟩

set_option maxRecDepth 100000 in
set_option maxHeartbeats 2000000 in
theorem rthan_35 {w : Nat} (hw : IsW w) (a b : Int) (ha : Of w a) (hb : Of w b) (W : World) :
    Calls Tryd.prog 49 #[.int .u8 35, .int .i64 (w : Int), .int .u64 a, .int .u64 b] W fun e W' => e = .returned (pairB (than 35 w a b)) ∧ W' = W := by
  have CW := width_calls (w : Int)
  rw [isW_of hw] at CW
  have CW := hide CW
  have FA := rfits_calls hw a
  rw [decide_eq_true (mo_ge ha)] at FA
  have FA := hide FA
  have FB := rfits_calls hw b
  rw [decide_eq_true (mo_ge hb)] at FB
  have FB := hide FB
  have CA := hide (rworth_calls hw a ha)
  have CB := hide (rworth_calls hw b hb)
  clear ha hb
  go_enter Tryd.func49, Tryd.ntmps49
  go_wp2_with (first | (with_reducible refine (CW.out _).mono ?_; rintro e w1 ⟨rfl, rfl⟩) | (with_reducible refine (FA.out _).mono ?_; rintro e w1 ⟨rfl, rfl⟩) | (with_reducible refine (FB.out _).mono ?_; rintro e w1 ⟨rfl, rfl⟩) | (with_reducible refine (CA.out _).mono ?_; rintro e w1 ⟨rfl, rfl⟩) | (with_reducible refine (CB.out _).mono ?_; rintro e w1 ⟨rfl, rfl⟩))
  refine bodyPost_ret (v := .tuple #[.bool (decide (wo w a < wo w b)), .int .i64 0]) (by simp [results, Tryd.results49, go_sem]) rfl ?_
  exact ⟨rfl, rfl⟩

set_option maxRecDepth 100000 in
set_option maxHeartbeats 2000000 in
theorem rthan_36 {w : Nat} (hw : IsW w) (a b : Int) (ha : Of w a) (hb : Of w b) (W : World) :
    Calls Tryd.prog 49 #[.int .u8 36, .int .i64 (w : Int), .int .u64 a, .int .u64 b] W fun e W' => e = .returned (pairB (than 36 w a b)) ∧ W' = W := by
  have CW := width_calls (w : Int)
  rw [isW_of hw] at CW
  have CW := hide CW
  have FA := rfits_calls hw a
  rw [decide_eq_true (mo_ge ha)] at FA
  have FA := hide FA
  have FB := rfits_calls hw b
  rw [decide_eq_true (mo_ge hb)] at FB
  have FB := hide FB
  have CA := hide (rworth_calls hw a ha)
  have CB := hide (rworth_calls hw b hb)
  clear ha hb
  go_enter Tryd.func49, Tryd.ntmps49
  go_wp2_with (first | (with_reducible refine (CW.out _).mono ?_; rintro e w1 ⟨rfl, rfl⟩) | (with_reducible refine (FA.out _).mono ?_; rintro e w1 ⟨rfl, rfl⟩) | (with_reducible refine (FB.out _).mono ?_; rintro e w1 ⟨rfl, rfl⟩) | (with_reducible refine (CA.out _).mono ?_; rintro e w1 ⟨rfl, rfl⟩) | (with_reducible refine (CB.out _).mono ?_; rintro e w1 ⟨rfl, rfl⟩))
  refine bodyPost_ret (v := .tuple #[.bool (decide (b < a)), .int .i64 0]) (by simp [results, Tryd.results49, go_sem]) rfl ?_
  exact ⟨rfl, rfl⟩

set_option maxRecDepth 100000 in
set_option maxHeartbeats 2000000 in
theorem rthan_37 {w : Nat} (hw : IsW w) (a b : Int) (ha : Of w a) (hb : Of w b) (W : World) :
    Calls Tryd.prog 49 #[.int .u8 37, .int .i64 (w : Int), .int .u64 a, .int .u64 b] W fun e W' => e = .returned (pairB (than 37 w a b)) ∧ W' = W := by
  have CW := width_calls (w : Int)
  rw [isW_of hw] at CW
  have CW := hide CW
  have FA := rfits_calls hw a
  rw [decide_eq_true (mo_ge ha)] at FA
  have FA := hide FA
  have FB := rfits_calls hw b
  rw [decide_eq_true (mo_ge hb)] at FB
  have FB := hide FB
  have CA := hide (rworth_calls hw a ha)
  have CB := hide (rworth_calls hw b hb)
  clear ha hb
  go_enter Tryd.func49, Tryd.ntmps49
  go_wp2_with (first | (with_reducible refine (CW.out _).mono ?_; rintro e w1 ⟨rfl, rfl⟩) | (with_reducible refine (FA.out _).mono ?_; rintro e w1 ⟨rfl, rfl⟩) | (with_reducible refine (FB.out _).mono ?_; rintro e w1 ⟨rfl, rfl⟩) | (with_reducible refine (CA.out _).mono ?_; rintro e w1 ⟨rfl, rfl⟩) | (with_reducible refine (CB.out _).mono ?_; rintro e w1 ⟨rfl, rfl⟩))
  refine bodyPost_ret (v := .tuple #[.bool (decide (wo w b < wo w a)), .int .i64 0]) (by simp [results, Tryd.results49, go_sem]) rfl ?_
  exact ⟨rfl, rfl⟩

set_option maxRecDepth 100000 in
set_option maxHeartbeats 2000000 in
theorem rthan_38 {w : Nat} (hw : IsW w) (a b : Int) (ha : Of w a) (hb : Of w b) (W : World) :
    Calls Tryd.prog 49 #[.int .u8 38, .int .i64 (w : Int), .int .u64 a, .int .u64 b] W fun e W' => e = .returned (pairB (than 38 w a b)) ∧ W' = W := by
  have CW := width_calls (w : Int)
  rw [isW_of hw] at CW
  have CW := hide CW
  have FA := rfits_calls hw a
  rw [decide_eq_true (mo_ge ha)] at FA
  have FA := hide FA
  have FB := rfits_calls hw b
  rw [decide_eq_true (mo_ge hb)] at FB
  have FB := hide FB
  have CA := hide (rworth_calls hw a ha)
  have CB := hide (rworth_calls hw b hb)
  clear ha hb
  go_enter Tryd.func49, Tryd.ntmps49
  go_wp2_with (first | (with_reducible refine (CW.out _).mono ?_; rintro e w1 ⟨rfl, rfl⟩) | (with_reducible refine (FA.out _).mono ?_; rintro e w1 ⟨rfl, rfl⟩) | (with_reducible refine (FB.out _).mono ?_; rintro e w1 ⟨rfl, rfl⟩) | (with_reducible refine (CA.out _).mono ?_; rintro e w1 ⟨rfl, rfl⟩) | (with_reducible refine (CB.out _).mono ?_; rintro e w1 ⟨rfl, rfl⟩))
  refine bodyPost_ret (v := .tuple #[.bool (decide (a ≤ b)), .int .i64 0]) (by simp [results, Tryd.results49, go_sem]) rfl ?_
  exact ⟨rfl, rfl⟩

set_option maxRecDepth 100000 in
set_option maxHeartbeats 2000000 in
theorem rthan_39 {w : Nat} (hw : IsW w) (a b : Int) (ha : Of w a) (hb : Of w b) (W : World) :
    Calls Tryd.prog 49 #[.int .u8 39, .int .i64 (w : Int), .int .u64 a, .int .u64 b] W fun e W' => e = .returned (pairB (than 39 w a b)) ∧ W' = W := by
  have CW := width_calls (w : Int)
  rw [isW_of hw] at CW
  have CW := hide CW
  have FA := rfits_calls hw a
  rw [decide_eq_true (mo_ge ha)] at FA
  have FA := hide FA
  have FB := rfits_calls hw b
  rw [decide_eq_true (mo_ge hb)] at FB
  have FB := hide FB
  have CA := hide (rworth_calls hw a ha)
  have CB := hide (rworth_calls hw b hb)
  clear ha hb
  go_enter Tryd.func49, Tryd.ntmps49
  go_wp2_with (first | (with_reducible refine (CW.out _).mono ?_; rintro e w1 ⟨rfl, rfl⟩) | (with_reducible refine (FA.out _).mono ?_; rintro e w1 ⟨rfl, rfl⟩) | (with_reducible refine (FB.out _).mono ?_; rintro e w1 ⟨rfl, rfl⟩) | (with_reducible refine (CA.out _).mono ?_; rintro e w1 ⟨rfl, rfl⟩) | (with_reducible refine (CB.out _).mono ?_; rintro e w1 ⟨rfl, rfl⟩))
  refine bodyPost_ret (v := .tuple #[.bool (decide (wo w a ≤ wo w b)), .int .i64 0]) (by simp [results, Tryd.results49, go_sem]) rfl ?_
  exact ⟨rfl, rfl⟩

set_option maxRecDepth 100000 in
set_option maxHeartbeats 2000000 in
theorem rthan_40 {w : Nat} (hw : IsW w) (a b : Int) (ha : Of w a) (hb : Of w b) (W : World) :
    Calls Tryd.prog 49 #[.int .u8 40, .int .i64 (w : Int), .int .u64 a, .int .u64 b] W fun e W' => e = .returned (pairB (than 40 w a b)) ∧ W' = W := by
  have CW := width_calls (w : Int)
  rw [isW_of hw] at CW
  have CW := hide CW
  have FA := rfits_calls hw a
  rw [decide_eq_true (mo_ge ha)] at FA
  have FA := hide FA
  have FB := rfits_calls hw b
  rw [decide_eq_true (mo_ge hb)] at FB
  have FB := hide FB
  have CA := hide (rworth_calls hw a ha)
  have CB := hide (rworth_calls hw b hb)
  clear ha hb
  go_enter Tryd.func49, Tryd.ntmps49
  go_wp2_with (first | (with_reducible refine (CW.out _).mono ?_; rintro e w1 ⟨rfl, rfl⟩) | (with_reducible refine (FA.out _).mono ?_; rintro e w1 ⟨rfl, rfl⟩) | (with_reducible refine (FB.out _).mono ?_; rintro e w1 ⟨rfl, rfl⟩) | (with_reducible refine (CA.out _).mono ?_; rintro e w1 ⟨rfl, rfl⟩) | (with_reducible refine (CB.out _).mono ?_; rintro e w1 ⟨rfl, rfl⟩))
  refine bodyPost_ret (v := .tuple #[.bool (decide (b ≤ a)), .int .i64 0]) (by simp [results, Tryd.results49, go_sem]) rfl ?_
  exact ⟨rfl, rfl⟩

set_option maxRecDepth 100000 in
set_option maxHeartbeats 2000000 in
theorem rthan_41 {w : Nat} (hw : IsW w) (a b : Int) (ha : Of w a) (hb : Of w b) (W : World) :
    Calls Tryd.prog 49 #[.int .u8 41, .int .i64 (w : Int), .int .u64 a, .int .u64 b] W fun e W' => e = .returned (pairB (than 41 w a b)) ∧ W' = W := by
  have CW := width_calls (w : Int)
  rw [isW_of hw] at CW
  have CW := hide CW
  have FA := rfits_calls hw a
  rw [decide_eq_true (mo_ge ha)] at FA
  have FA := hide FA
  have FB := rfits_calls hw b
  rw [decide_eq_true (mo_ge hb)] at FB
  have FB := hide FB
  have CA := hide (rworth_calls hw a ha)
  have CB := hide (rworth_calls hw b hb)
  clear ha hb
  go_enter Tryd.func49, Tryd.ntmps49
  go_wp2_with (first | (with_reducible refine (CW.out _).mono ?_; rintro e w1 ⟨rfl, rfl⟩) | (with_reducible refine (FA.out _).mono ?_; rintro e w1 ⟨rfl, rfl⟩) | (with_reducible refine (FB.out _).mono ?_; rintro e w1 ⟨rfl, rfl⟩) | (with_reducible refine (CA.out _).mono ?_; rintro e w1 ⟨rfl, rfl⟩) | (with_reducible refine (CB.out _).mono ?_; rintro e w1 ⟨rfl, rfl⟩))
  refine bodyPost_ret (v := .tuple #[.bool (decide (wo w b ≤ wo w a)), .int .i64 0]) (by simp [results, Tryd.results49, go_sem]) rfl ?_
  exact ⟨rfl, rfl⟩

set_option maxRecDepth 100000 in
set_option maxHeartbeats 2000000 in
theorem rthan_else {w : Nat} (hw : IsW w) (op : Int) (a b : Int) (ho0 : 0 ≤ op) (ha : Of w a) (hb : Of w b) (ho : op < 32 ∨ 41 < op) (W : World) :
    Calls Tryd.prog 49 #[.int .u8 op, .int .i64 (w : Int), .int .u64 a, .int .u64 b] W fun e W' => e = .returned (pairB (than op.toNat w a b)) ∧ W' = W := by
  rw [than_none (by omega)]
  have CW := width_calls (w : Int)
  rw [isW_of hw] at CW
  have CW := hide CW
  have FA := rfits_calls hw a
  rw [decide_eq_true (mo_ge ha)] at FA
  have FA := hide FA
  have FB := rfits_calls hw b
  rw [decide_eq_true (mo_ge hb)] at FB
  have FB := hide FB
  have CA := hide (rworth_calls hw a ha)
  have CB := hide (rworth_calls hw b hb)
  have n32 : (op == 32) = false := by simp; omega
  have n33 : (op == 33) = false := by simp; omega
  have n34 : (op == 34) = false := by simp; omega
  have n35 : (op == 35) = false := by simp; omega
  have n36 : (op == 36) = false := by simp; omega
  have n37 : (op == 37) = false := by simp; omega
  have n38 : (op == 38) = false := by simp; omega
  have n39 : (op == 39) = false := by simp; omega
  have n40 : (op == 40) = false := by simp; omega
  have n41 : (op == 41) = false := by simp; omega
  clear ha hb ho ho0
  go_enter Tryd.func49, Tryd.ntmps49
  go_wp2_with (first | (with_reducible refine (CW.out _).mono ?_; rintro e w1 ⟨rfl, rfl⟩) | (with_reducible refine (FA.out _).mono ?_; rintro e w1 ⟨rfl, rfl⟩) | (with_reducible refine (FB.out _).mono ?_; rintro e w1 ⟨rfl, rfl⟩) | (with_reducible refine (CA.out _).mono ?_; rintro e w1 ⟨rfl, rfl⟩) | (with_reducible refine (CB.out _).mono ?_; rintro e w1 ⟨rfl, rfl⟩))
  refine bodyPost_ret (v := .tuple #[.bool false, .int .i64 2]) (by simp [results, Tryd.results49, go_sem]) rfl ?_
  exact ⟨rfl, rfl⟩

set_option maxRecDepth 100000 in
set_option maxHeartbeats 2000000 in
theorem rthan_bad (op w a b : Int) (h : ok2 w a b = false) (W : World) :
    Calls Tryd.prog 49 #[.int .u8 op, .int .i64 w, .int .u64 a, .int .u64 b] W fun e W' => e = .returned (pairB (false, 2)) ∧ W' = W := by
  have CW := width_calls w
  cases hw : isW w with
  | false =>
    rw [hw] at CW
    have CW := hide CW
    clear h
    go_enter Tryd.func49, Tryd.ntmps49
    go_wp2_with (first | (with_reducible refine (CW.out _).mono ?_; rintro e w1 ⟨rfl, rfl⟩))
    refine bodyPost_ret (v := .tuple #[.bool false, .int .i64 2]) (by simp [results, Tryd.results49, go_sem]) rfl ?_
    exact ⟨rfl, rfl⟩
  | true =>
    rw [hw] at CW
    have CW := hide CW
    obtain ⟨n, rfl, hn⟩ := (isW_iff w).1 hw
    unfold ok2 at h
    rw [hw, Bool.true_and, Int.toNat_natCast] at h
    have FA := rfits_calls hn a
    have FB := rfits_calls hn b
    cases ca : decide (a ≤ mo n) with
    | false =>
      rw [ca] at FA
      have FA := hide FA
      clear h FB ca
      go_enter Tryd.func49, Tryd.ntmps49
      go_wp2_with (first | (with_reducible refine (CW.out _).mono ?_; rintro e w1 ⟨rfl, rfl⟩) | (with_reducible refine (FA.out _).mono ?_; rintro e w1 ⟨rfl, rfl⟩))
      refine bodyPost_ret (v := .tuple #[.bool false, .int .i64 2]) (by simp [results, Tryd.results49, go_sem]) rfl ?_
      exact ⟨rfl, rfl⟩
    | true =>
      rw [ca, Bool.true_and] at h
      rw [ca] at FA
      rw [h] at FB
      have FA := hide FA
      have FB := hide FB
      clear h ca
      go_enter Tryd.func49, Tryd.ntmps49
      go_wp2_with (first | (with_reducible refine (CW.out _).mono ?_; rintro e w1 ⟨rfl, rfl⟩) | (with_reducible refine (FA.out _).mono ?_; rintro e w1 ⟨rfl, rfl⟩) | (with_reducible refine (FB.out _).mono ?_; rintro e w1 ⟨rfl, rfl⟩))
      refine bodyPost_ret (v := .tuple #[.bool false, .int .i64 2]) (by simp [results, Tryd.results49, go_sem]) rfl ?_
      exact ⟨rfl, rfl⟩

theorem RThan_calls {w : Nat} (hw : IsW w) (op a b : Int) (ho : 0 ≤ op) (ha : Of w a) (hb : Of w b) (W : World) :
    Calls Tryd.prog 49 #[.int .u8 op, .int .i64 (w : Int), .int .u64 a, .int .u64 b] W fun e W' => e = .returned (pairB (than op.toNat w a b)) ∧ W' = W := by
  by_cases hk : op < 32 ∨ 41 < op
  · exact rthan_else hw op a b ho ha hb hk W
  · rcases (show op = 32 ∨ op = 33 ∨ op = 34 ∨ op = 35 ∨ op = 36 ∨ op = 37 ∨ op = 38 ∨ op = 39 ∨ op = 40 ∨ op = 41 by omega) with rfl | rfl | rfl | rfl | rfl | rfl | rfl | rfl | rfl | rfl
    · exact rthan_32 hw a b ha hb W
    · exact rthan_33 hw a b ha hb W
    · exact rthan_34 hw a b ha hb W
    · exact rthan_35 hw a b ha hb W
    · exact rthan_36 hw a b ha hb W
    · exact rthan_37 hw a b ha hb W
    · exact rthan_38 hw a b ha hb W
    · exact rthan_39 hw a b ha hb W
    · exact rthan_40 hw a b ha hb W
    · exact rthan_41 hw a b ha hb W

end Go.Proofs.YtoihfmammmkloaaDoor.Z
/-
  Extend, Narrow, and the document's (genthan.py wrote it).
-/
set_option linter.unusedVariables false
set_option linter.unusedSimpArgs false
namespace Go.Proofs.YtoihfmammmkloaaDoor.Z
open Go.RowKit Ints

def extV (f t : Nat) (s : Bool) (a : Int) : Int := if s then cutI t (wo f a) else a
def narV (f t : Nat) (s : Bool) (a : Int) : Int := if s then cutI t (min (max (wo f a) (lo t)) (hi t)) else min (max (wo f a) 0) (mo t)

set_option maxRecDepth 100000 in
set_option maxHeartbeats 2000000 in
theorem ext_true {f t : Nat} (hf : IsW f) (ht : IsW t) (a : Int) (ha : Of f a) (c : f ≤ t) (W : World) (hT : WTabs W) :
    Calls Tryd.prog 61 #[.int .i64 (f : Int), .int .i64 (t : Int), .bool true, .int .u64 a] W fun e W' => e = .returned (pairV (extV f t true a, 0)) ∧ Below W.heap.size W W' := by
  have F := fit1 f a W hT
  rw [ok1_of hf ha] at F
  have F := hide F
  have B := hide (below_two W (.cells #[.int .u64 a] 23))
  have hT' := hT.later (below_two W (.cells #[.int .u64 a] 23))
  have FT := fit0 t _ hT'
  rw [isW_of ht] at FT
  have FT := hide FT
  have D : decide (t < f) = false := by simp; omega
  have D2 : decide (f ≤ t) = true := by simp; omega
  have CA := hide (worth_calls hf a ha)
  have CC := hide (@cutw_calls t ht)
  clear ha hT hT'
  go_enter Tryd.func61, Tryd.ntmps61
  go_wp2_with (first | (with_reducible refine F.out.mono ?_; rintro e w1 ⟨rfl, rfl⟩) | (with_reducible refine FT.out.mono ?_; rintro e w1 ⟨rfl, rfl⟩) | (with_reducible refine (CA.out _).mono ?_; rintro e w1 ⟨rfl, rfl⟩) | (with_reducible refine (CC.out _ _).mono ?_; rintro e w1 ⟨rfl, rfl⟩))
  refine bodyPost_ret (v := .tuple #[.int .u64 (cutI t (wo f a)), .int .i64 0]) (by simp [results, Tryd.results61, go_sem]) rfl ?_
  exact ⟨rfl, B.out⟩

set_option maxRecDepth 100000 in
set_option maxHeartbeats 2000000 in
theorem rext_true {f t : Nat} (hf : IsW f) (ht : IsW t) (a : Int) (ha : Of f a) (c : f ≤ t) (W : World) :
    Calls Tryd.prog 64 #[.int .i64 (f : Int), .int .i64 (t : Int), .bool true, .int .u64 a] W fun e W' => e = .returned (pairV (extV f t true a, 0)) ∧ W' = W := by
  have CF := width_calls (f : Int)
  rw [isW_of hf] at CF
  have CF := hide CF
  have CT := width_calls (t : Int)
  rw [isW_of ht] at CT
  have CT := hide CT
  have FA := rfits_calls hf a
  rw [decide_eq_true (mo_ge ha)] at FA
  have FA := hide FA
  have D : decide (t < f) = false := by simp; omega
  have D2 : decide (f ≤ t) = true := by simp; omega
  have CA := hide (rworth_calls hf a ha)
  have CN := hide (@number_calls t ht)
  clear ha
  go_enter Tryd.func64, Tryd.ntmps64
  go_wp2_with (first | (with_reducible refine (CF.out _).mono ?_; rintro e w1 ⟨rfl, rfl⟩) | (with_reducible refine (CT.out _).mono ?_; rintro e w1 ⟨rfl, rfl⟩) | (with_reducible refine (FA.out _).mono ?_; rintro e w1 ⟨rfl, rfl⟩) | (with_reducible refine (CA.out _).mono ?_; rintro e w1 ⟨rfl, rfl⟩) | (with_reducible refine (CN.out _ _).mono ?_; rintro e w1 ⟨rfl, rfl⟩))
  refine bodyPost_ret (v := .tuple #[.int .u64 (cutI t (wo f a)), .int .i64 0]) (by simp [results, Tryd.results64, go_sem]) rfl ?_
  exact ⟨rfl, rfl⟩

set_option maxRecDepth 100000 in
set_option maxHeartbeats 2000000 in
theorem ext_false {f t : Nat} (hf : IsW f) (ht : IsW t) (a : Int) (ha : Of f a) (c : f ≤ t) (W : World) (hT : WTabs W) :
    Calls Tryd.prog 61 #[.int .i64 (f : Int), .int .i64 (t : Int), .bool false, .int .u64 a] W fun e W' => e = .returned (pairV (extV f t false a, 0)) ∧ Below W.heap.size W W' := by
  have F := fit1 f a W hT
  rw [ok1_of hf ha] at F
  have F := hide F
  have B := hide (below_two W (.cells #[.int .u64 a] 23))
  have hT' := hT.later (below_two W (.cells #[.int .u64 a] 23))
  have FT := fit0 t _ hT'
  rw [isW_of ht] at FT
  have FT := hide FT
  have D : decide (t < f) = false := by simp; omega
  have D2 : decide (f ≤ t) = true := by simp; omega
  clear ha hT hT'
  go_enter Tryd.func61, Tryd.ntmps61
  go_wp2_with (first | (with_reducible refine F.out.mono ?_; rintro e w1 ⟨rfl, rfl⟩) | (with_reducible refine FT.out.mono ?_; rintro e w1 ⟨rfl, rfl⟩))
  refine bodyPost_ret (v := .tuple #[.int .u64 a, .int .i64 0]) (by simp [results, Tryd.results61, go_sem]) rfl ?_
  exact ⟨rfl, B.out⟩

set_option maxRecDepth 100000 in
set_option maxHeartbeats 2000000 in
theorem rext_false {f t : Nat} (hf : IsW f) (ht : IsW t) (a : Int) (ha : Of f a) (c : f ≤ t) (W : World) :
    Calls Tryd.prog 64 #[.int .i64 (f : Int), .int .i64 (t : Int), .bool false, .int .u64 a] W fun e W' => e = .returned (pairV (extV f t false a, 0)) ∧ W' = W := by
  have CF := width_calls (f : Int)
  rw [isW_of hf] at CF
  have CF := hide CF
  have CT := width_calls (t : Int)
  rw [isW_of ht] at CT
  have CT := hide CT
  have FA := rfits_calls hf a
  rw [decide_eq_true (mo_ge ha)] at FA
  have FA := hide FA
  have D : decide (t < f) = false := by simp; omega
  have D2 : decide (f ≤ t) = true := by simp; omega
  clear ha
  go_enter Tryd.func64, Tryd.ntmps64
  go_wp2_with (first | (with_reducible refine (CF.out _).mono ?_; rintro e w1 ⟨rfl, rfl⟩) | (with_reducible refine (CT.out _).mono ?_; rintro e w1 ⟨rfl, rfl⟩) | (with_reducible refine (FA.out _).mono ?_; rintro e w1 ⟨rfl, rfl⟩))
  refine bodyPost_ret (v := .tuple #[.int .u64 a, .int .i64 0]) (by simp [results, Tryd.results64, go_sem]) rfl ?_
  exact ⟨rfl, rfl⟩

set_option maxRecDepth 100000 in
set_option maxHeartbeats 2000000 in
theorem ext_order {f t : Nat} (hf : IsW f) (ht : IsW t) (a : Int) (ha : Of f a) (c : t < f) (s : Bool) (W : World) (hT : WTabs W) :
    Calls Tryd.prog 61 #[.int .i64 (f : Int), .int .i64 (t : Int), .bool s, .int .u64 a] W fun e W' => e = .returned (pairV (0, 2)) ∧ Below W.heap.size W W' := by
  have F := fit1 f a W hT
  rw [ok1_of hf ha] at F
  have F := hide F
  have B := hide (below_two W (.cells #[.int .u64 a] 23))
  have hT' := hT.later (below_two W (.cells #[.int .u64 a] 23))
  have FT := fit0 t _ hT'
  rw [isW_of ht] at FT
  have FT := hide FT
  have D : decide (t < f) = true := by simp; omega
  have D2 : decide (f ≤ t) = false := by simp; omega
  clear ha hT hT'
  go_enter Tryd.func61, Tryd.ntmps61
  go_wp2_with (first | (with_reducible refine F.out.mono ?_; rintro e w1 ⟨rfl, rfl⟩) | (with_reducible refine FT.out.mono ?_; rintro e w1 ⟨rfl, rfl⟩))
  refine bodyPost_ret (v := .tuple #[.int .u64 0, .int .i64 2]) (by simp [results, Tryd.results61, go_sem]) rfl ?_
  exact ⟨rfl, B.out⟩

set_option maxRecDepth 100000 in
set_option maxHeartbeats 2000000 in
theorem rext_order {f t : Nat} (hf : IsW f) (ht : IsW t) (a : Int) (ha : Of f a) (c : t < f) (s : Bool) (W : World) :
    Calls Tryd.prog 64 #[.int .i64 (f : Int), .int .i64 (t : Int), .bool s, .int .u64 a] W fun e W' => e = .returned (pairV (0, 2)) ∧ W' = W := by
  have CF := width_calls (f : Int)
  rw [isW_of hf] at CF
  have CF := hide CF
  have CT := width_calls (t : Int)
  rw [isW_of ht] at CT
  have CT := hide CT
  have FA := rfits_calls hf a
  rw [decide_eq_true (mo_ge ha)] at FA
  have FA := hide FA
  have D : decide (t < f) = true := by simp; omega
  have D2 : decide (f ≤ t) = false := by simp; omega
  clear ha
  go_enter Tryd.func64, Tryd.ntmps64
  go_wp2_with (first | (with_reducible refine (CF.out _).mono ?_; rintro e w1 ⟨rfl, rfl⟩) | (with_reducible refine (CT.out _).mono ?_; rintro e w1 ⟨rfl, rfl⟩) | (with_reducible refine (FA.out _).mono ?_; rintro e w1 ⟨rfl, rfl⟩))
  refine bodyPost_ret (v := .tuple #[.int .u64 0, .int .i64 2]) (by simp [results, Tryd.results64, go_sem]) rfl ?_
  exact ⟨rfl, rfl⟩

set_option maxRecDepth 100000 in
set_option maxHeartbeats 2000000 in
theorem ext_bad (f t : Int) (s : Bool) (a : Int) (h : ok1 f a = false ∨ (ok1 f a = true ∧ isW t = false)) (W : World) (hT : WTabs W) :
    Calls Tryd.prog 61 #[.int .i64 f, .int .i64 t, .bool s, .int .u64 a] W fun e W' => e = .returned (pairV (0, 2)) ∧ Below W.heap.size W W' := by
  have F := fit1 f a W hT
  have B := hide (below_two W (.cells #[.int .u64 a] 23))
  have hT' := hT.later (below_two W (.cells #[.int .u64 a] 23))
  rcases h with h | ⟨h, h2⟩
  · rw [h] at F
    have F := hide F
    clear hT hT' h
    go_enter Tryd.func61, Tryd.ntmps61
    go_wp2_with (first | (with_reducible refine F.out.mono ?_; rintro e w1 ⟨rfl, rfl⟩))
    refine bodyPost_ret (v := .tuple #[.int .u64 0, .int .i64 2]) (by simp [results, Tryd.results61, go_sem]) rfl ?_
    exact ⟨rfl, B.out⟩
  · have FT := fit0 t _ hT'
    rw [h] at F
    rw [h2] at FT
    have F := hide F
    have FT := hide FT
    clear hT hT' h h2
    go_enter Tryd.func61, Tryd.ntmps61
    go_wp2_with (first | (with_reducible refine F.out.mono ?_; rintro e w1 ⟨rfl, rfl⟩) | (with_reducible refine FT.out.mono ?_; rintro e w1 ⟨rfl, rfl⟩))
    refine bodyPost_ret (v := .tuple #[.int .u64 0, .int .i64 2]) (by simp [results, Tryd.results61, go_sem]) rfl ?_
    exact ⟨rfl, B.out⟩

set_option maxRecDepth 100000 in
set_option maxHeartbeats 2000000 in
theorem rext_width (f t : Int) (s : Bool) (a : Int) (h : isW f = false ∨ (isW f = true ∧ isW t = false)) (W : World) :
    Calls Tryd.prog 64 #[.int .i64 f, .int .i64 t, .bool s, .int .u64 a] W fun e W' => e = .returned (pairV (0, 2)) ∧ W' = W := by
  have CF := width_calls f
  have CT := width_calls t
  rcases h with h | ⟨h, h2⟩
  · rw [h] at CF
    have CF := hide CF
    clear CT h
    go_enter Tryd.func64, Tryd.ntmps64
    go_wp2_with (first | (with_reducible refine (CF.out _).mono ?_; rintro e w1 ⟨rfl, rfl⟩))
    refine bodyPost_ret (v := .tuple #[.int .u64 0, .int .i64 2]) (by simp [results, Tryd.results64, go_sem]) rfl ?_
    exact ⟨rfl, rfl⟩
  · rw [h] at CF
    rw [h2] at CT
    have CF := hide CF
    have CT := hide CT
    clear h h2
    go_enter Tryd.func64, Tryd.ntmps64
    go_wp2_with (first | (with_reducible refine (CF.out _).mono ?_; rintro e w1 ⟨rfl, rfl⟩) | (with_reducible refine (CT.out _).mono ?_; rintro e w1 ⟨rfl, rfl⟩))
    refine bodyPost_ret (v := .tuple #[.int .u64 0, .int .i64 2]) (by simp [results, Tryd.results64, go_sem]) rfl ?_
    exact ⟨rfl, rfl⟩

set_option maxRecDepth 100000 in
set_option maxHeartbeats 2000000 in
theorem rext_big {f t : Nat} (hf : IsW f) (ht : IsW t) (a : Int) (ha : decide (a ≤ mo f) = false) (s : Bool) (W : World) :
    Calls Tryd.prog 64 #[.int .i64 (f : Int), .int .i64 (t : Int), .bool s, .int .u64 a] W fun e W' => e = .returned (pairV (0, 2)) ∧ W' = W := by
  have CF := width_calls (f : Int)
  rw [isW_of hf] at CF
  have CF := hide CF
  have CT := width_calls (t : Int)
  rw [isW_of ht] at CT
  have CT := hide CT
  have FA := rfits_calls hf a
  rw [ha] at FA
  have FA := hide FA
  clear ha
  by_cases c : f ≤ t
  · have D : decide (t < f) = false := by simp; omega
    have D2 : decide (f ≤ t) = true := by simp; omega
    skip
    go_enter Tryd.func64, Tryd.ntmps64
    go_wp2_with (first | (with_reducible refine (CF.out _).mono ?_; rintro e w1 ⟨rfl, rfl⟩) | (with_reducible refine (CT.out _).mono ?_; rintro e w1 ⟨rfl, rfl⟩) | (with_reducible refine (FA.out _).mono ?_; rintro e w1 ⟨rfl, rfl⟩))
    refine bodyPost_ret (v := .tuple #[.int .u64 0, .int .i64 2]) (by simp [results, Tryd.results64, go_sem]) rfl ?_
    exact ⟨rfl, rfl⟩
  · have D : decide (t < f) = true := by simp; omega
    have D2 : decide (f ≤ t) = false := by simp; omega
    skip
    go_enter Tryd.func64, Tryd.ntmps64
    go_wp2_with (first | (with_reducible refine (CF.out _).mono ?_; rintro e w1 ⟨rfl, rfl⟩) | (with_reducible refine (CT.out _).mono ?_; rintro e w1 ⟨rfl, rfl⟩) | (with_reducible refine (FA.out _).mono ?_; rintro e w1 ⟨rfl, rfl⟩))
    refine bodyPost_ret (v := .tuple #[.int .u64 0, .int .i64 2]) (by simp [results, Tryd.results64, go_sem]) rfl ?_
    exact ⟨rfl, rfl⟩

/-- The answer, and the error's number. -/
def ext (f t : Int) (s : Bool) (a : Int) : Int × Int := if ok1 f a = true ∧ isW t = true ∧ f ≤ t then (extV f.toNat t.toNat s a, 0) else (0, 2)

theorem Extend_calls (f t : Int) (s : Bool) (a : Int) (h0 : 0 ≤ a) (W : World) (hT : WTabs W) :
    Calls Tryd.prog 61 #[.int .i64 f, .int .i64 t, .bool s, .int .u64 a] W fun e W' => e = .returned (pairV (ext f t s a)) ∧ Below W.heap.size W W' := by
  unfold ext
  cases ho : ok1 f a with
  | false => rw [if_neg (by simp)]; exact ext_bad f t s a (.inl ho) W hT
  | true =>
    cases hw : isW t with
    | false => rw [if_neg (by simp)]; exact ext_bad f t s a (.inr ⟨ho, hw⟩) W hT
    | true =>
      obtain ⟨n, rfl, hn, ha⟩ := of_ok1 h0 ho
      obtain ⟨m, rfl, hm⟩ := (isW_iff t).1 hw
      by_cases c : (n : Int) ≤ (m : Int)
      · rw [if_pos ⟨rfl, rfl, c⟩]
        cases s
        · exact ext_false hn hm a ha (by omega) W hT
        · exact ext_true hn hm a ha (by omega) W hT
      · rw [if_neg (fun h => c h.2.2)]
        exact ext_order hn hm a ha (by omega) s W hT

theorem RExtend_calls (f t : Int) (s : Bool) (a : Int) (h0 : 0 ≤ a) (W : World) :
    Calls Tryd.prog 64 #[.int .i64 f, .int .i64 t, .bool s, .int .u64 a] W fun e W' => e = .returned (pairV (ext f t s a)) ∧ W' = W := by
  unfold ext
  cases hf : isW f with
  | false => rw [if_neg (by unfold ok1; rw [hf]; simp)]; exact rext_width f t s a (.inl hf) W
  | true =>
    cases hw : isW t with
    | false => rw [if_neg (by simp)]; exact rext_width f t s a (.inr ⟨hf, hw⟩) W
    | true =>
      obtain ⟨n, rfl, hn⟩ := (isW_iff f).1 hf
      obtain ⟨m, rfl, hm⟩ := (isW_iff t).1 hw
      cases ho : ok1 (n : Int) a with
      | false =>
        rw [if_neg (by simp)]
        unfold ok1 at ho
        rw [hf, Bool.true_and, Int.toNat_natCast] at ho
        exact rext_big hn hm a ho s W
      | true =>
        obtain ⟨n', hn', _, ha⟩ := of_ok1 h0 ho
        obtain rfl : n = n' := by omega
        by_cases c : (n : Int) ≤ (m : Int)
        · rw [if_pos ⟨rfl, rfl, c⟩]
          cases s
          · exact rext_false hn hm a ha (by omega) W
          · exact rext_true hn hm a ha (by omega) W
        · rw [if_neg (fun h => c h.2.2)]
          exact rext_order hn hm a ha (by omega) s W

set_option maxRecDepth 100000 in
set_option maxHeartbeats 2000000 in
theorem nar_true {f t : Nat} (hf : IsW f) (ht : IsW t) (a : Int) (ha : Of f a) (c : t < f) (W : World) (hT : WTabs W) :
    Calls Tryd.prog 57 #[.int .i64 (f : Int), .int .i64 (t : Int), .bool true, .int .u64 a] W fun e W' => e = .returned (pairV (narV f t true a, 0)) ∧ Below W.heap.size W W' := by
  have F := fit1 f a W hT
  rw [ok1_of hf ha] at F
  have F := hide F
  have B := hide (below_two W (.cells #[.int .u64 a] 23))
  have hT' := hT.later (below_two W (.cells #[.int .u64 a] 23))
  have FT := fit0 t _ hT'
  rw [isW_of ht] at FT
  have FT := hide FT
  have D : decide (t < f) = true := by simp; omega
  have D2 : decide (f ≤ t) = false := by simp; omega
  have CA := hide (worth_calls hf a ha)
  have CC := hide (@cutw_calls t ht)
  have CL := hide (@least_calls t ht)
  have CG := hide (@greatest_calls t ht)
  have CH := hide hold_calls
  clear ha hT hT'
  go_enter Tryd.func57, Tryd.ntmps57
  go_wp2_with (first | (with_reducible refine F.out.mono ?_; rintro e w1 ⟨rfl, rfl⟩) | (with_reducible refine FT.out.mono ?_; rintro e w1 ⟨rfl, rfl⟩) | (with_reducible refine (CA.out _).mono ?_; rintro e w1 ⟨rfl, rfl⟩) | (with_reducible refine (CL.out _).mono ?_; rintro e w1 ⟨rfl, rfl⟩) | (with_reducible refine (CG.out _).mono ?_; rintro e w1 ⟨rfl, rfl⟩) | (with_reducible refine (CH.out _ _ _ _).mono ?_; rintro e w1 ⟨rfl, rfl⟩) | (with_reducible refine (CC.out _ _).mono ?_; rintro e w1 ⟨rfl, rfl⟩))
  refine bodyPost_ret (v := .tuple #[.int .u64 (cutI t (holdI (wo f a) (lo t) (hi t))), .int .i64 0]) (by simp [results, Tryd.results57, go_sem]) rfl ?_
  exact ⟨rfl, B.out⟩

set_option maxRecDepth 100000 in
set_option maxHeartbeats 2000000 in
theorem rnar_true {f t : Nat} (hf : IsW f) (ht : IsW t) (a : Int) (ha : Of f a) (c : t < f) (W : World) :
    Calls Tryd.prog 58 #[.int .i64 (f : Int), .int .i64 (t : Int), .bool true, .int .u64 a] W fun e W' => e = .returned (pairV (narV f t true a, 0)) ∧ W' = W := by
  have CF := width_calls (f : Int)
  rw [isW_of hf] at CF
  have CF := hide CF
  have CT := width_calls (t : Int)
  rw [isW_of ht] at CT
  have CT := hide CT
  have FA := rfits_calls hf a
  rw [decide_eq_true (mo_ge ha)] at FA
  have FA := hide FA
  have D : decide (t < f) = true := by simp; omega
  have D2 : decide (f ≤ t) = false := by simp; omega
  have CA := hide (rworth_calls hf a ha)
  have CN := hide (@number_calls t ht)
  have CL := hide (@rleast_calls t ht)
  have CG := hide (@rgreatest_calls t ht)
  have G := hide (show cutI t (max (lo t) (min (hi t) (wo f a))) = narV f t true a by
    have := lohi ht
    unfold narV
    rw [if_pos rfl]
    congr 1
    omega)
  clear ha
  go_enter Tryd.func58, Tryd.ntmps58
  go_wp2_with (first | (with_reducible refine (CF.out _).mono ?_; rintro e w1 ⟨rfl, rfl⟩) | (with_reducible refine (CT.out _).mono ?_; rintro e w1 ⟨rfl, rfl⟩) | (with_reducible refine (FA.out _).mono ?_; rintro e w1 ⟨rfl, rfl⟩) | (with_reducible refine (CA.out _).mono ?_; rintro e w1 ⟨rfl, rfl⟩) | (with_reducible refine (CL.out _).mono ?_; rintro e w1 ⟨rfl, rfl⟩) | (with_reducible refine (CG.out _).mono ?_; rintro e w1 ⟨rfl, rfl⟩) | (with_reducible refine (CN.out _ _).mono ?_; rintro e w1 ⟨rfl, rfl⟩))
  refine bodyPost_ret (v := .tuple #[.int .u64 (cutI t (max (lo t) (min (hi t) (wo f a)))), .int .i64 0]) (by simp [results, Tryd.results58, go_sem]) rfl ?_
  exact ⟨by rw [G.out]; rfl, rfl⟩

set_option maxRecDepth 100000 in
set_option maxHeartbeats 2000000 in
theorem nar_false {f t : Nat} (hf : IsW f) (ht : IsW t) (a : Int) (ha : Of f a) (c : t < f) (W : World) (hT : WTabs W) :
    Calls Tryd.prog 57 #[.int .i64 (f : Int), .int .i64 (t : Int), .bool false, .int .u64 a] W fun e W' => e = .returned (pairV (narV f t false a, 0)) ∧ Below W.heap.size W W' := by
  have F := fit1 f a W hT
  rw [ok1_of hf ha] at F
  have F := hide F
  have B := hide (below_two W (.cells #[.int .u64 a] 23))
  have hT' := hT.later (below_two W (.cells #[.int .u64 a] 23))
  have FT := fit0 t _ hT'
  rw [isW_of ht] at FT
  have FT := hide FT
  have D : decide (t < f) = true := by simp; omega
  have D2 : decide (f ≤ t) = false := by simp; omega
  have CA := hide (worth_calls hf a ha)
  have CM := hide (@most_calls t ht)
  have CH := hide hold_calls
  have mt : 0 ≤ mo t ∧ mo t < 9223372036854775808 := by
    rcases hf with rfl | rfl | rfl | rfl <;> rcases ht with rfl | rfl | rfl | rfl <;> first | omega | decide
  have E1 : wrap64 (mo t) = mo t := by unfold wrap64; omega
  have E2 : IntKind.u64.wrap (holdI (wo f a) 0 (mo t)) = narV f t false a := by
    unfold narV holdI
    rw [if_neg (by decide), IntKind.wrap_u64]
    omega
  clear mt
  clear ha hT hT'
  go_enter Tryd.func57, Tryd.ntmps57
  go_wp2_with (first | (with_reducible refine F.out.mono ?_; rintro e w1 ⟨rfl, rfl⟩) | (with_reducible refine FT.out.mono ?_; rintro e w1 ⟨rfl, rfl⟩) | (with_reducible refine (CA.out _).mono ?_; rintro e w1 ⟨rfl, rfl⟩) | (with_reducible refine (CM.out _).mono ?_; rintro e w1 ⟨rfl, rfl⟩) | (with_reducible refine (CH.out _ _ _ _).mono ?_; rintro e w1 ⟨rfl, rfl⟩))
  refine bodyPost_ret (v := .tuple #[.int .u64 (narV f t false a), .int .i64 0]) (by simp [results, Tryd.results57, go_sem]) rfl ?_
  exact ⟨rfl, B.out⟩

set_option maxRecDepth 100000 in
set_option maxHeartbeats 2000000 in
theorem rnar_false {f t : Nat} (hf : IsW f) (ht : IsW t) (a : Int) (ha : Of f a) (c : t < f) (W : World) :
    Calls Tryd.prog 58 #[.int .i64 (f : Int), .int .i64 (t : Int), .bool false, .int .u64 a] W fun e W' => e = .returned (pairV (narV f t false a, 0)) ∧ W' = W := by
  have CF := width_calls (f : Int)
  rw [isW_of hf] at CF
  have CF := hide CF
  have CT := width_calls (t : Int)
  rw [isW_of ht] at CT
  have CT := hide CT
  have FA := rfits_calls hf a
  rw [decide_eq_true (mo_ge ha)] at FA
  have FA := hide FA
  have D : decide (t < f) = true := by simp; omega
  have D2 : decide (f ≤ t) = false := by simp; omega
  have CA := hide (rworth_calls hf a ha)
  have CM := hide (@rmost_calls t ht)
  have mt : 0 ≤ mo t ∧ mo t < 9223372036854775808 := by
    rcases hf with rfl | rfl | rfl | rfl <;> rcases ht with rfl | rfl | rfl | rfl <;> first | omega | decide
  have E1 : wrap64 (mo t) = mo t := by unfold wrap64; omega
  have E2 : IntKind.u64.wrap (max 0 (min (mo t) (wo f a))) = narV f t false a := by
    unfold narV
    rw [if_neg (by decide), IntKind.wrap_u64]
    omega
  clear mt
  clear ha
  go_enter Tryd.func58, Tryd.ntmps58
  go_wp2_with (first | (with_reducible refine (CF.out _).mono ?_; rintro e w1 ⟨rfl, rfl⟩) | (with_reducible refine (CT.out _).mono ?_; rintro e w1 ⟨rfl, rfl⟩) | (with_reducible refine (FA.out _).mono ?_; rintro e w1 ⟨rfl, rfl⟩) | (with_reducible refine (CA.out _).mono ?_; rintro e w1 ⟨rfl, rfl⟩) | (with_reducible refine (CM.out _).mono ?_; rintro e w1 ⟨rfl, rfl⟩))
  refine bodyPost_ret (v := .tuple #[.int .u64 (narV f t false a), .int .i64 0]) (by simp [results, Tryd.results58, go_sem]) rfl ?_
  exact ⟨rfl, rfl⟩

set_option maxRecDepth 100000 in
set_option maxHeartbeats 2000000 in
theorem nar_order {f t : Nat} (hf : IsW f) (ht : IsW t) (a : Int) (ha : Of f a) (c : f ≤ t) (s : Bool) (W : World) (hT : WTabs W) :
    Calls Tryd.prog 57 #[.int .i64 (f : Int), .int .i64 (t : Int), .bool s, .int .u64 a] W fun e W' => e = .returned (pairV (0, 2)) ∧ Below W.heap.size W W' := by
  have F := fit1 f a W hT
  rw [ok1_of hf ha] at F
  have F := hide F
  have B := hide (below_two W (.cells #[.int .u64 a] 23))
  have hT' := hT.later (below_two W (.cells #[.int .u64 a] 23))
  have FT := fit0 t _ hT'
  rw [isW_of ht] at FT
  have FT := hide FT
  have D : decide (t < f) = false := by simp; omega
  have D2 : decide (f ≤ t) = true := by simp; omega
  clear ha hT hT'
  go_enter Tryd.func57, Tryd.ntmps57
  go_wp2_with (first | (with_reducible refine F.out.mono ?_; rintro e w1 ⟨rfl, rfl⟩) | (with_reducible refine FT.out.mono ?_; rintro e w1 ⟨rfl, rfl⟩))
  refine bodyPost_ret (v := .tuple #[.int .u64 0, .int .i64 2]) (by simp [results, Tryd.results57, go_sem]) rfl ?_
  exact ⟨rfl, B.out⟩

set_option maxRecDepth 100000 in
set_option maxHeartbeats 2000000 in
theorem rnar_order {f t : Nat} (hf : IsW f) (ht : IsW t) (a : Int) (ha : Of f a) (c : f ≤ t) (s : Bool) (W : World) :
    Calls Tryd.prog 58 #[.int .i64 (f : Int), .int .i64 (t : Int), .bool s, .int .u64 a] W fun e W' => e = .returned (pairV (0, 2)) ∧ W' = W := by
  have CF := width_calls (f : Int)
  rw [isW_of hf] at CF
  have CF := hide CF
  have CT := width_calls (t : Int)
  rw [isW_of ht] at CT
  have CT := hide CT
  have FA := rfits_calls hf a
  rw [decide_eq_true (mo_ge ha)] at FA
  have FA := hide FA
  have D : decide (t < f) = false := by simp; omega
  have D2 : decide (f ≤ t) = true := by simp; omega
  clear ha
  go_enter Tryd.func58, Tryd.ntmps58
  go_wp2_with (first | (with_reducible refine (CF.out _).mono ?_; rintro e w1 ⟨rfl, rfl⟩) | (with_reducible refine (CT.out _).mono ?_; rintro e w1 ⟨rfl, rfl⟩) | (with_reducible refine (FA.out _).mono ?_; rintro e w1 ⟨rfl, rfl⟩))
  refine bodyPost_ret (v := .tuple #[.int .u64 0, .int .i64 2]) (by simp [results, Tryd.results58, go_sem]) rfl ?_
  exact ⟨rfl, rfl⟩

set_option maxRecDepth 100000 in
set_option maxHeartbeats 2000000 in
theorem nar_bad (f t : Int) (s : Bool) (a : Int) (h : ok1 f a = false ∨ (ok1 f a = true ∧ isW t = false)) (W : World) (hT : WTabs W) :
    Calls Tryd.prog 57 #[.int .i64 f, .int .i64 t, .bool s, .int .u64 a] W fun e W' => e = .returned (pairV (0, 2)) ∧ Below W.heap.size W W' := by
  have F := fit1 f a W hT
  have B := hide (below_two W (.cells #[.int .u64 a] 23))
  have hT' := hT.later (below_two W (.cells #[.int .u64 a] 23))
  rcases h with h | ⟨h, h2⟩
  · rw [h] at F
    have F := hide F
    clear hT hT' h
    go_enter Tryd.func57, Tryd.ntmps57
    go_wp2_with (first | (with_reducible refine F.out.mono ?_; rintro e w1 ⟨rfl, rfl⟩))
    refine bodyPost_ret (v := .tuple #[.int .u64 0, .int .i64 2]) (by simp [results, Tryd.results57, go_sem]) rfl ?_
    exact ⟨rfl, B.out⟩
  · have FT := fit0 t _ hT'
    rw [h] at F
    rw [h2] at FT
    have F := hide F
    have FT := hide FT
    clear hT hT' h h2
    go_enter Tryd.func57, Tryd.ntmps57
    go_wp2_with (first | (with_reducible refine F.out.mono ?_; rintro e w1 ⟨rfl, rfl⟩) | (with_reducible refine FT.out.mono ?_; rintro e w1 ⟨rfl, rfl⟩))
    refine bodyPost_ret (v := .tuple #[.int .u64 0, .int .i64 2]) (by simp [results, Tryd.results57, go_sem]) rfl ?_
    exact ⟨rfl, B.out⟩

set_option maxRecDepth 100000 in
set_option maxHeartbeats 2000000 in
theorem rnar_width (f t : Int) (s : Bool) (a : Int) (h : isW f = false ∨ (isW f = true ∧ isW t = false)) (W : World) :
    Calls Tryd.prog 58 #[.int .i64 f, .int .i64 t, .bool s, .int .u64 a] W fun e W' => e = .returned (pairV (0, 2)) ∧ W' = W := by
  have CF := width_calls f
  have CT := width_calls t
  rcases h with h | ⟨h, h2⟩
  · rw [h] at CF
    have CF := hide CF
    clear CT h
    go_enter Tryd.func58, Tryd.ntmps58
    go_wp2_with (first | (with_reducible refine (CF.out _).mono ?_; rintro e w1 ⟨rfl, rfl⟩))
    refine bodyPost_ret (v := .tuple #[.int .u64 0, .int .i64 2]) (by simp [results, Tryd.results58, go_sem]) rfl ?_
    exact ⟨rfl, rfl⟩
  · rw [h] at CF
    rw [h2] at CT
    have CF := hide CF
    have CT := hide CT
    clear h h2
    go_enter Tryd.func58, Tryd.ntmps58
    go_wp2_with (first | (with_reducible refine (CF.out _).mono ?_; rintro e w1 ⟨rfl, rfl⟩) | (with_reducible refine (CT.out _).mono ?_; rintro e w1 ⟨rfl, rfl⟩))
    refine bodyPost_ret (v := .tuple #[.int .u64 0, .int .i64 2]) (by simp [results, Tryd.results58, go_sem]) rfl ?_
    exact ⟨rfl, rfl⟩

set_option maxRecDepth 100000 in
set_option maxHeartbeats 2000000 in
theorem rnar_big {f t : Nat} (hf : IsW f) (ht : IsW t) (a : Int) (ha : decide (a ≤ mo f) = false) (s : Bool) (W : World) :
    Calls Tryd.prog 58 #[.int .i64 (f : Int), .int .i64 (t : Int), .bool s, .int .u64 a] W fun e W' => e = .returned (pairV (0, 2)) ∧ W' = W := by
  have CF := width_calls (f : Int)
  rw [isW_of hf] at CF
  have CF := hide CF
  have CT := width_calls (t : Int)
  rw [isW_of ht] at CT
  have CT := hide CT
  have FA := rfits_calls hf a
  rw [ha] at FA
  have FA := hide FA
  clear ha
  by_cases c : t < f
  · have D : decide (t < f) = true := by simp; omega
    have D2 : decide (f ≤ t) = false := by simp; omega
    skip
    go_enter Tryd.func58, Tryd.ntmps58
    go_wp2_with (first | (with_reducible refine (CF.out _).mono ?_; rintro e w1 ⟨rfl, rfl⟩) | (with_reducible refine (CT.out _).mono ?_; rintro e w1 ⟨rfl, rfl⟩) | (with_reducible refine (FA.out _).mono ?_; rintro e w1 ⟨rfl, rfl⟩))
    refine bodyPost_ret (v := .tuple #[.int .u64 0, .int .i64 2]) (by simp [results, Tryd.results58, go_sem]) rfl ?_
    exact ⟨rfl, rfl⟩
  · have D : decide (t < f) = false := by simp; omega
    have D2 : decide (f ≤ t) = true := by simp; omega
    skip
    go_enter Tryd.func58, Tryd.ntmps58
    go_wp2_with (first | (with_reducible refine (CF.out _).mono ?_; rintro e w1 ⟨rfl, rfl⟩) | (with_reducible refine (CT.out _).mono ?_; rintro e w1 ⟨rfl, rfl⟩) | (with_reducible refine (FA.out _).mono ?_; rintro e w1 ⟨rfl, rfl⟩))
    refine bodyPost_ret (v := .tuple #[.int .u64 0, .int .i64 2]) (by simp [results, Tryd.results58, go_sem]) rfl ?_
    exact ⟨rfl, rfl⟩

/-- The answer, and the error's number. -/
def nar (f t : Int) (s : Bool) (a : Int) : Int × Int := if ok1 f a = true ∧ isW t = true ∧ t < f then (narV f.toNat t.toNat s a, 0) else (0, 2)

theorem Narrow_calls (f t : Int) (s : Bool) (a : Int) (h0 : 0 ≤ a) (W : World) (hT : WTabs W) :
    Calls Tryd.prog 57 #[.int .i64 f, .int .i64 t, .bool s, .int .u64 a] W fun e W' => e = .returned (pairV (nar f t s a)) ∧ Below W.heap.size W W' := by
  unfold nar
  cases ho : ok1 f a with
  | false => rw [if_neg (by simp)]; exact nar_bad f t s a (.inl ho) W hT
  | true =>
    cases hw : isW t with
    | false => rw [if_neg (by simp)]; exact nar_bad f t s a (.inr ⟨ho, hw⟩) W hT
    | true =>
      obtain ⟨n, rfl, hn, ha⟩ := of_ok1 h0 ho
      obtain ⟨m, rfl, hm⟩ := (isW_iff t).1 hw
      by_cases c : (m : Int) < (n : Int)
      · rw [if_pos ⟨rfl, rfl, c⟩]
        cases s
        · exact nar_false hn hm a ha (by omega) W hT
        · exact nar_true hn hm a ha (by omega) W hT
      · rw [if_neg (fun h => c h.2.2)]
        exact nar_order hn hm a ha (by omega) s W hT

theorem RNarrow_calls (f t : Int) (s : Bool) (a : Int) (h0 : 0 ≤ a) (W : World) :
    Calls Tryd.prog 58 #[.int .i64 f, .int .i64 t, .bool s, .int .u64 a] W fun e W' => e = .returned (pairV (nar f t s a)) ∧ W' = W := by
  unfold nar
  cases hf : isW f with
  | false => rw [if_neg (by unfold ok1; rw [hf]; simp)]; exact rnar_width f t s a (.inl hf) W
  | true =>
    cases hw : isW t with
    | false => rw [if_neg (by simp)]; exact rnar_width f t s a (.inr ⟨hf, hw⟩) W
    | true =>
      obtain ⟨n, rfl, hn⟩ := (isW_iff f).1 hf
      obtain ⟨m, rfl, hm⟩ := (isW_iff t).1 hw
      cases ho : ok1 (n : Int) a with
      | false =>
        rw [if_neg (by simp)]
        unfold ok1 at ho
        rw [hf, Bool.true_and, Int.toNat_natCast] at ho
        exact rnar_big hn hm a ho s W
      | true =>
        obtain ⟨n', hn', _, ha⟩ := of_ok1 h0 ho
        obtain rfl : n = n' := by omega
        by_cases c : (m : Int) < (n : Int)
        · rw [if_pos ⟨rfl, rfl, c⟩]
          cases s
          · exact rnar_false hn hm a ha (by omega) W
          · exact rnar_true hn hm a ha (by omega) W
        · rw [if_neg (fun h => c h.2.2)]
          exact rnar_order hn hm a ha (by omega) s W

end Go.Proofs.YtoihfmammmkloaaDoor.Z
