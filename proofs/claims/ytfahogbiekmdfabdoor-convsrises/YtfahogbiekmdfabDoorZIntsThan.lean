/-
  Than, and the document's (genthan.py wrote it).
-/
import Derived.Test.YtfahogbiekmdfabDoorZIntsROne
set_option linter.unusedVariables false
set_option linter.unusedSimpArgs false
namespace Go.Proofs.YtfahogbiekmdfabDoor.Z
open Go.RowKit Ints

/-- The answer, and the error's number. -/
def than (op : Nat) (w : Nat) (a b : Int) : Bool × Int :=
  match op with
  | 32 => ((a == b), 0)
  | 33 => ((a != b), 0)
  | 34 => ((decide (a < b)), 0)
  | 35 => ((decide (wo w a < wo w b)), 0)
  | 36 => ((decide (b < a)), 0)
  | 37 => ((decide (wo w b < wo w a)), 0)
  | 38 => ((decide (a ≤ b)), 0)
  | 39 => ((decide (wo w a ≤ wo w b)), 0)
  | 40 => ((decide (b ≤ a)), 0)
  | 41 => ((decide (wo w b ≤ wo w a)), 0)
  | _ => (false, 2)

def pairB (p : Bool × Int) : Value := .tuple #[.bool p.1, .int .i64 p.2]

theorem than_none {op : Nat} (h : op < 32 ∨ 41 < op) (w : Nat) (a b : Int) : than op w a b = (false, 2) := by
  unfold than
  split <;> first | omega | rfl

set_option maxRecDepth 100000 in
set_option maxHeartbeats 2000000 in
theorem than_32 {w : Nat} (hw : IsW w) (a b : Int) (ha : Of w a) (hb : Of w b) (W : World) (hT : WTabs W) :
    Calls Tryd.prog 7 #[.int .u8 32, .int .i64 (w : Int), .int .u64 a, .int .u64 b] W fun e W' => e = .returned (pairB (than 32 w a b)) ∧ Below W.heap.size W W' := by
  have F := fit2 w a b W hT
  rw [ok2_of hw ha hb] at F
  have F := hide F
  have B := hide (below_two W (.cells #[.int .u64 a, .int .u64 b] 22))
  have CA := hide (worth_calls hw a ha)
  have CB := hide (worth_calls hw b hb)
  clear ha hb hT
  go_enter Tryd.func7, Tryd.ntmps7
  go_wp2_with (first | (with_reducible refine F.out.mono ?_; rintro e w1 ⟨rfl, rfl⟩) | (with_reducible refine (CA.out _).mono ?_; rintro e w1 ⟨rfl, rfl⟩) | (with_reducible refine (CB.out _).mono ?_; rintro e w1 ⟨rfl, rfl⟩))
  refine bodyPost_ret (v := .tuple #[.bool (a == b), .int .i64 0]) (by simp [results, Tryd.results7, go_sem]) rfl ?_
  exact ⟨rfl, B.out⟩

set_option maxRecDepth 100000 in
set_option maxHeartbeats 2000000 in
theorem than_33 {w : Nat} (hw : IsW w) (a b : Int) (ha : Of w a) (hb : Of w b) (W : World) (hT : WTabs W) :
    Calls Tryd.prog 7 #[.int .u8 33, .int .i64 (w : Int), .int .u64 a, .int .u64 b] W fun e W' => e = .returned (pairB (than 33 w a b)) ∧ Below W.heap.size W W' := by
  have F := fit2 w a b W hT
  rw [ok2_of hw ha hb] at F
  have F := hide F
  have B := hide (below_two W (.cells #[.int .u64 a, .int .u64 b] 22))
  have CA := hide (worth_calls hw a ha)
  have CB := hide (worth_calls hw b hb)
  clear ha hb hT
  go_enter Tryd.func7, Tryd.ntmps7
  go_wp2_with (first | (with_reducible refine F.out.mono ?_; rintro e w1 ⟨rfl, rfl⟩) | (with_reducible refine (CA.out _).mono ?_; rintro e w1 ⟨rfl, rfl⟩) | (with_reducible refine (CB.out _).mono ?_; rintro e w1 ⟨rfl, rfl⟩))
  refine bodyPost_ret (v := .tuple #[.bool (a != b), .int .i64 0]) (by simp [results, Tryd.results7, go_sem]) rfl ?_
  exact ⟨rfl, B.out⟩

set_option maxRecDepth 100000 in
set_option maxHeartbeats 2000000 in
theorem than_34 {w : Nat} (hw : IsW w) (a b : Int) (ha : Of w a) (hb : Of w b) (W : World) (hT : WTabs W) :
    Calls Tryd.prog 7 #[.int .u8 34, .int .i64 (w : Int), .int .u64 a, .int .u64 b] W fun e W' => e = .returned (pairB (than 34 w a b)) ∧ Below W.heap.size W W' := by
  have F := fit2 w a b W hT
  rw [ok2_of hw ha hb] at F
  have F := hide F
  have B := hide (below_two W (.cells #[.int .u64 a, .int .u64 b] 22))
  have CA := hide (worth_calls hw a ha)
  have CB := hide (worth_calls hw b hb)
  clear ha hb hT
  go_enter Tryd.func7, Tryd.ntmps7
  go_wp2_with (first | (with_reducible refine F.out.mono ?_; rintro e w1 ⟨rfl, rfl⟩) | (with_reducible refine (CA.out _).mono ?_; rintro e w1 ⟨rfl, rfl⟩) | (with_reducible refine (CB.out _).mono ?_; rintro e w1 ⟨rfl, rfl⟩))
  refine bodyPost_ret (v := .tuple #[.bool (decide (a < b)), .int .i64 0]) (by simp [results, Tryd.results7, go_sem]) rfl ?_
  exact ⟨rfl, B.out⟩

set_option maxRecDepth 100000 in
set_option maxHeartbeats 2000000 in
theorem than_35 {w : Nat} (hw : IsW w) (a b : Int) (ha : Of w a) (hb : Of w b) (W : World) (hT : WTabs W) :
    Calls Tryd.prog 7 #[.int .u8 35, .int .i64 (w : Int), .int .u64 a, .int .u64 b] W fun e W' => e = .returned (pairB (than 35 w a b)) ∧ Below W.heap.size W W' := by
  have F := fit2 w a b W hT
  rw [ok2_of hw ha hb] at F
  have F := hide F
  have B := hide (below_two W (.cells #[.int .u64 a, .int .u64 b] 22))
  have CA := hide (worth_calls hw a ha)
  have CB := hide (worth_calls hw b hb)
  clear ha hb hT
  go_enter Tryd.func7, Tryd.ntmps7
  go_wp2_with (first | (with_reducible refine F.out.mono ?_; rintro e w1 ⟨rfl, rfl⟩) | (with_reducible refine (CA.out _).mono ?_; rintro e w1 ⟨rfl, rfl⟩) | (with_reducible refine (CB.out _).mono ?_; rintro e w1 ⟨rfl, rfl⟩))
  refine bodyPost_ret (v := .tuple #[.bool (decide (wo w a < wo w b)), .int .i64 0]) (by simp [results, Tryd.results7, go_sem]) rfl ?_
  exact ⟨rfl, B.out⟩

set_option maxRecDepth 100000 in
set_option maxHeartbeats 2000000 in
theorem than_36 {w : Nat} (hw : IsW w) (a b : Int) (ha : Of w a) (hb : Of w b) (W : World) (hT : WTabs W) :
    Calls Tryd.prog 7 #[.int .u8 36, .int .i64 (w : Int), .int .u64 a, .int .u64 b] W fun e W' => e = .returned (pairB (than 36 w a b)) ∧ Below W.heap.size W W' := by
  have F := fit2 w a b W hT
  rw [ok2_of hw ha hb] at F
  have F := hide F
  have B := hide (below_two W (.cells #[.int .u64 a, .int .u64 b] 22))
  have CA := hide (worth_calls hw a ha)
  have CB := hide (worth_calls hw b hb)
  clear ha hb hT
  go_enter Tryd.func7, Tryd.ntmps7
  go_wp2_with (first | (with_reducible refine F.out.mono ?_; rintro e w1 ⟨rfl, rfl⟩) | (with_reducible refine (CA.out _).mono ?_; rintro e w1 ⟨rfl, rfl⟩) | (with_reducible refine (CB.out _).mono ?_; rintro e w1 ⟨rfl, rfl⟩))
  refine bodyPost_ret (v := .tuple #[.bool (decide (b < a)), .int .i64 0]) (by simp [results, Tryd.results7, go_sem]) rfl ?_
  exact ⟨rfl, B.out⟩

set_option maxRecDepth 100000 in
set_option maxHeartbeats 2000000 in
theorem than_37 {w : Nat} (hw : IsW w) (a b : Int) (ha : Of w a) (hb : Of w b) (W : World) (hT : WTabs W) :
    Calls Tryd.prog 7 #[.int .u8 37, .int .i64 (w : Int), .int .u64 a, .int .u64 b] W fun e W' => e = .returned (pairB (than 37 w a b)) ∧ Below W.heap.size W W' := by
  have F := fit2 w a b W hT
  rw [ok2_of hw ha hb] at F
  have F := hide F
  have B := hide (below_two W (.cells #[.int .u64 a, .int .u64 b] 22))
  have CA := hide (worth_calls hw a ha)
  have CB := hide (worth_calls hw b hb)
  clear ha hb hT
  go_enter Tryd.func7, Tryd.ntmps7
  go_wp2_with (first | (with_reducible refine F.out.mono ?_; rintro e w1 ⟨rfl, rfl⟩) | (with_reducible refine (CA.out _).mono ?_; rintro e w1 ⟨rfl, rfl⟩) | (with_reducible refine (CB.out _).mono ?_; rintro e w1 ⟨rfl, rfl⟩))
  refine bodyPost_ret (v := .tuple #[.bool (decide (wo w b < wo w a)), .int .i64 0]) (by simp [results, Tryd.results7, go_sem]) rfl ?_
  exact ⟨rfl, B.out⟩

set_option maxRecDepth 100000 in
set_option maxHeartbeats 2000000 in
theorem than_38 {w : Nat} (hw : IsW w) (a b : Int) (ha : Of w a) (hb : Of w b) (W : World) (hT : WTabs W) :
    Calls Tryd.prog 7 #[.int .u8 38, .int .i64 (w : Int), .int .u64 a, .int .u64 b] W fun e W' => e = .returned (pairB (than 38 w a b)) ∧ Below W.heap.size W W' := by
  have F := fit2 w a b W hT
  rw [ok2_of hw ha hb] at F
  have F := hide F
  have B := hide (below_two W (.cells #[.int .u64 a, .int .u64 b] 22))
  have CA := hide (worth_calls hw a ha)
  have CB := hide (worth_calls hw b hb)
  clear ha hb hT
  go_enter Tryd.func7, Tryd.ntmps7
  go_wp2_with (first | (with_reducible refine F.out.mono ?_; rintro e w1 ⟨rfl, rfl⟩) | (with_reducible refine (CA.out _).mono ?_; rintro e w1 ⟨rfl, rfl⟩) | (with_reducible refine (CB.out _).mono ?_; rintro e w1 ⟨rfl, rfl⟩))
  refine bodyPost_ret (v := .tuple #[.bool (decide (a ≤ b)), .int .i64 0]) (by simp [results, Tryd.results7, go_sem]) rfl ?_
  exact ⟨rfl, B.out⟩

set_option maxRecDepth 100000 in
set_option maxHeartbeats 2000000 in
theorem than_39 {w : Nat} (hw : IsW w) (a b : Int) (ha : Of w a) (hb : Of w b) (W : World) (hT : WTabs W) :
    Calls Tryd.prog 7 #[.int .u8 39, .int .i64 (w : Int), .int .u64 a, .int .u64 b] W fun e W' => e = .returned (pairB (than 39 w a b)) ∧ Below W.heap.size W W' := by
  have F := fit2 w a b W hT
  rw [ok2_of hw ha hb] at F
  have F := hide F
  have B := hide (below_two W (.cells #[.int .u64 a, .int .u64 b] 22))
  have CA := hide (worth_calls hw a ha)
  have CB := hide (worth_calls hw b hb)
  clear ha hb hT
  go_enter Tryd.func7, Tryd.ntmps7
  go_wp2_with (first | (with_reducible refine F.out.mono ?_; rintro e w1 ⟨rfl, rfl⟩) | (with_reducible refine (CA.out _).mono ?_; rintro e w1 ⟨rfl, rfl⟩) | (with_reducible refine (CB.out _).mono ?_; rintro e w1 ⟨rfl, rfl⟩))
  refine bodyPost_ret (v := .tuple #[.bool (decide (wo w a ≤ wo w b)), .int .i64 0]) (by simp [results, Tryd.results7, go_sem]) rfl ?_
  exact ⟨rfl, B.out⟩

set_option maxRecDepth 100000 in
set_option maxHeartbeats 2000000 in
theorem than_40 {w : Nat} (hw : IsW w) (a b : Int) (ha : Of w a) (hb : Of w b) (W : World) (hT : WTabs W) :
    Calls Tryd.prog 7 #[.int .u8 40, .int .i64 (w : Int), .int .u64 a, .int .u64 b] W fun e W' => e = .returned (pairB (than 40 w a b)) ∧ Below W.heap.size W W' := by
  have F := fit2 w a b W hT
  rw [ok2_of hw ha hb] at F
  have F := hide F
  have B := hide (below_two W (.cells #[.int .u64 a, .int .u64 b] 22))
  have CA := hide (worth_calls hw a ha)
  have CB := hide (worth_calls hw b hb)
  clear ha hb hT
  go_enter Tryd.func7, Tryd.ntmps7
  go_wp2_with (first | (with_reducible refine F.out.mono ?_; rintro e w1 ⟨rfl, rfl⟩) | (with_reducible refine (CA.out _).mono ?_; rintro e w1 ⟨rfl, rfl⟩) | (with_reducible refine (CB.out _).mono ?_; rintro e w1 ⟨rfl, rfl⟩))
  refine bodyPost_ret (v := .tuple #[.bool (decide (b ≤ a)), .int .i64 0]) (by simp [results, Tryd.results7, go_sem]) rfl ?_
  exact ⟨rfl, B.out⟩

set_option maxRecDepth 100000 in
set_option maxHeartbeats 2000000 in
theorem than_41 {w : Nat} (hw : IsW w) (a b : Int) (ha : Of w a) (hb : Of w b) (W : World) (hT : WTabs W) :
    Calls Tryd.prog 7 #[.int .u8 41, .int .i64 (w : Int), .int .u64 a, .int .u64 b] W fun e W' => e = .returned (pairB (than 41 w a b)) ∧ Below W.heap.size W W' := by
  have F := fit2 w a b W hT
  rw [ok2_of hw ha hb] at F
  have F := hide F
  have B := hide (below_two W (.cells #[.int .u64 a, .int .u64 b] 22))
  have CA := hide (worth_calls hw a ha)
  have CB := hide (worth_calls hw b hb)
  clear ha hb hT
  go_enter Tryd.func7, Tryd.ntmps7
  go_wp2_with (first | (with_reducible refine F.out.mono ?_; rintro e w1 ⟨rfl, rfl⟩) | (with_reducible refine (CA.out _).mono ?_; rintro e w1 ⟨rfl, rfl⟩) | (with_reducible refine (CB.out _).mono ?_; rintro e w1 ⟨rfl, rfl⟩))
  refine bodyPost_ret (v := .tuple #[.bool (decide (wo w b ≤ wo w a)), .int .i64 0]) (by simp [results, Tryd.results7, go_sem]) rfl ?_
  exact ⟨rfl, B.out⟩

set_option maxRecDepth 100000 in
set_option maxHeartbeats 2000000 in
theorem than_else {w : Nat} (hw : IsW w) (op : Int) (a b : Int) (ho0 : 0 ≤ op) (ha : Of w a) (hb : Of w b) (ho : op < 32 ∨ 41 < op) (W : World) (hT : WTabs W) :
    Calls Tryd.prog 7 #[.int .u8 op, .int .i64 (w : Int), .int .u64 a, .int .u64 b] W fun e W' => e = .returned (pairB (than op.toNat w a b)) ∧ Below W.heap.size W W' := by
  rw [than_none (by omega)]
  have F := fit2 w a b W hT
  rw [ok2_of hw ha hb] at F
  have F := hide F
  have B := hide (below_two W (.cells #[.int .u64 a, .int .u64 b] 22))
  have CA := hide (worth_calls hw a ha)
  have CB := hide (worth_calls hw b hb)
  have n32 : (op == 32) = false := by simp; omega
  have n33 : (op == 33) = false := by simp; omega
  have n34 : (op == 34) = false := by simp; omega
  have n35 : (op == 35) = false := by simp; omega
  have n36 : (op == 36) = false := by simp; omega
  have n37 : (op == 37) = false := by simp; omega
  have n38 : (op == 38) = false := by simp; omega
  have n39 : (op == 39) = false := by simp; omega
  have n40 : (op == 40) = false := by simp; omega
  have n41 : (op == 41) = false := by simp; omega
  clear ha hb hT ho ho0
  go_enter Tryd.func7, Tryd.ntmps7
  go_wp2_with (first | (with_reducible refine F.out.mono ?_; rintro e w1 ⟨rfl, rfl⟩) | (with_reducible refine (CA.out _).mono ?_; rintro e w1 ⟨rfl, rfl⟩) | (with_reducible refine (CB.out _).mono ?_; rintro e w1 ⟨rfl, rfl⟩))
  refine bodyPost_ret (v := .tuple #[.bool false, .int .i64 2]) (by simp [results, Tryd.results7, go_sem]) rfl ?_
  exact ⟨rfl, B.out⟩

set_option maxRecDepth 100000 in
set_option maxHeartbeats 2000000 in
theorem than_bad (op w a b : Int) (h : ok2 w a b = false) (W : World) (hT : WTabs W) :
    Calls Tryd.prog 7 #[.int .u8 op, .int .i64 w, .int .u64 a, .int .u64 b] W fun e W' => e = .returned (pairB (false, 2)) ∧ Below W.heap.size W W' := by
  have F := fit2 w a b W hT
  rw [h] at F
  have F := hide F
  have B := hide (below_two W (.cells #[.int .u64 a, .int .u64 b] 22))
  clear hT
  go_enter Tryd.func7, Tryd.ntmps7
  go_wp2_with (with_reducible refine F.out.mono ?_; rintro e w1 ⟨rfl, rfl⟩)
  refine bodyPost_ret (v := .tuple #[.bool false, .int .i64 2]) (by simp [results, Tryd.results7, go_sem]) rfl ?_
  exact ⟨rfl, B.out⟩

theorem Than_calls {w : Nat} (hw : IsW w) (op a b : Int) (ho : 0 ≤ op) (ha : Of w a) (hb : Of w b) (W : World) (hT : WTabs W) :
    Calls Tryd.prog 7 #[.int .u8 op, .int .i64 (w : Int), .int .u64 a, .int .u64 b] W fun e W' => e = .returned (pairB (than op.toNat w a b)) ∧ Below W.heap.size W W' := by
  by_cases hk : op < 32 ∨ 41 < op
  · exact than_else hw op a b ho ha hb hk W hT
  · rcases (show op = 32 ∨ op = 33 ∨ op = 34 ∨ op = 35 ∨ op = 36 ∨ op = 37 ∨ op = 38 ∨ op = 39 ∨ op = 40 ∨ op = 41 by omega) with rfl | rfl | rfl | rfl | rfl | rfl | rfl | rfl | rfl | rfl
    · exact than_32 hw a b ha hb W hT
    · exact than_33 hw a b ha hb W hT
    · exact than_34 hw a b ha hb W hT
    · exact than_35 hw a b ha hb W hT
    · exact than_36 hw a b ha hb W hT
    · exact than_37 hw a b ha hb W hT
    · exact than_38 hw a b ha hb W hT
    · exact than_39 hw a b ha hb W hT
    · exact than_40 hw a b ha hb W hT
    · exact than_41 hw a b ha hb W hT

end Go.Proofs.YtfahogbiekmdfabDoor.Z
