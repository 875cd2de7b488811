/-
  The document's Two, Than and None (genflo.py wrote it).
-/
import Derived.Test.YtpeckiaimellmaaDoorFFloRefsP
import Derived.Test.YtpeckiaimellmaaDoorFFloThanP
set_option linter.unusedVariables false
set_option linter.unusedSimpArgs false
namespace Go.Proofs.YtpeckiaimellmaaDoor.F
open Go.RowKit Flo

def wdI (w : Int) : Bool := w == 32 || w == 64
def ftI (w : Int) (a : Nat) : Bool := w == 64 || decide (a ≤ 4294967295)
theorem okW_parts (w : Int) (a : Nat) : okW w a = (wdI w && ftI w a) := by
  unfold okW wdI ftI
  by_cases h : w = 32
  · subst h; rfl
  · by_cases h2 : w = 64
    · subst h2; rfl
    · have e1 : (w == 32) = false := by simp [h]
      have e2 : (w == 64) = false := by simp [h2]
      rw [e1, e2]; rfl

set_option maxRecDepth 100000 in
set_option maxHeartbeats 1000000 in
theorem rWidth_calls (w : Int) (W : World) :
    Calls Tryd.prog 29 #[.int .i64 w] W fun e W' => e = .returned (.bool (wdI w)) ∧ W' = W := by
  unfold wdI
  by_cases h : w = 32
  · subst h
    go_enter Tryd.func29, Tryd.ntmps29
    go_wp2
    go_ret
    exact ⟨rfl, rfl⟩
  · have e1 : (w == 32) = false := by simp [h]
    rw [e1]
    go_enter Tryd.func29, Tryd.ntmps29
    go_wp2
    go_ret
    first | exact ⟨rfl, rfl⟩ | exact ⟨by simp, rfl⟩

set_option maxRecDepth 100000 in
set_option maxHeartbeats 1000000 in
theorem rFits_calls (w : Int) (a : Nat) (W : World) :
    Calls Tryd.prog 68 #[.int .i64 w, .int .u64 (a : Int)] W fun e W' => e = .returned (.bool (ftI w a)) ∧ W' = W := by
  unfold ftI
  by_cases h : w = 64
  · subst h
    go_enter Tryd.func68, Tryd.ntmps68
    go_wp2
    go_ret
    exact ⟨rfl, rfl⟩
  · have e1 : (w == 64) = false := by simp [h]
    rw [e1]
    go_enter Tryd.func68, Tryd.ntmps68
    go_wp2
    go_ret
    refine ⟨?_, rfl⟩
    have Z : decide ((a : Int) ≤ 4294967295) = decide (a ≤ 4294967295) := by congr 1; apply propext; omega
    rw [← Z]; rfl

set_option maxRecDepth 100000 in
set_option maxHeartbeats 1000000 in
theorem rtwo32_1 {a b : Nat} (ha : a < 2 ^ 32) (hb : b < 2 ^ 32) (W : World) :
    Calls Tryd.prog 31 #[.int .u8 1, .int .i64 32, .int .u64 (a : Int), .int .u64 (b : Int)] W fun e W' => e = .returned (pairV (two 1 32 a b)) ∧ Below W.heap.size W W' := by
  have hw : IsW 32 := by simp [IsW]
  have Wd := rWidth_calls 32
  have Fa := rFits_calls 32 a
  have Fb := rFits_calls 32 b
  have ka := okW_of hw ha
  have kb := okW_of hw hb
  rw [okW_parts, Bool.and_eq_true] at ka kb
  simp only [show ((32 : Nat) : Int) = 32 from rfl] at ka kb
  rw [ka.1] at Wd
  rw [ka.2] at Fa
  rw [kb.2] at Fb
  have Wd := hide Wd
  have Fa := hide Fa
  have Fb := hide Fb
  clear ka kb
  have HB := hide (Below.refl W.heap.size W)
  have R := hide (rsmall_1 ha hb)
  clear ha hb hw
  go_enter Tryd.func31, Tryd.ntmps31
  go_wp2_with (first | ((with_reducible refine (Wd.out _).mono ?_); rintro e w1 ⟨rfl, rfl⟩) | ((with_reducible refine (Fa.out _).mono ?_); rintro e w1 ⟨rfl, rfl⟩) | ((with_reducible refine (Fb.out _).mono ?_); rintro e w1 ⟨rfl, rfl⟩) | ((with_reducible refine (R.out _).mono ?_); rintro e w1 ⟨rfl, hb⟩; have HB := hide (below_two HB.out hb); clear hb))
  refine bodyPost_ret (v := .tuple #[.int .u64 (arN 1 32 a b : Nat), .int .i64 0]) (by simp [results, Tryd.results31, go_sem]) rfl ?_
  exact ⟨rfl, HB.out⟩

set_option maxRecDepth 100000 in
set_option maxHeartbeats 1000000 in
theorem rtwo32_2 {a b : Nat} (ha : a < 2 ^ 32) (hb : b < 2 ^ 32) (W : World) :
    Calls Tryd.prog 31 #[.int .u8 2, .int .i64 32, .int .u64 (a : Int), .int .u64 (b : Int)] W fun e W' => e = .returned (pairV (two 2 32 a b)) ∧ Below W.heap.size W W' := by
  have hw : IsW 32 := by simp [IsW]
  have Wd := rWidth_calls 32
  have Fa := rFits_calls 32 a
  have Fb := rFits_calls 32 b
  have ka := okW_of hw ha
  have kb := okW_of hw hb
  rw [okW_parts, Bool.and_eq_true] at ka kb
  simp only [show ((32 : Nat) : Int) = 32 from rfl] at ka kb
  rw [ka.1] at Wd
  rw [ka.2] at Fa
  rw [kb.2] at Fb
  have Wd := hide Wd
  have Fa := hide Fa
  have Fb := hide Fb
  clear ka kb
  have HB := hide (Below.refl W.heap.size W)
  have R := hide (rsmall_2 ha hb)
  clear ha hb hw
  go_enter Tryd.func31, Tryd.ntmps31
  go_wp2_with (first | ((with_reducible refine (Wd.out _).mono ?_); rintro e w1 ⟨rfl, rfl⟩) | ((with_reducible refine (Fa.out _).mono ?_); rintro e w1 ⟨rfl, rfl⟩) | ((with_reducible refine (Fb.out _).mono ?_); rintro e w1 ⟨rfl, rfl⟩) | ((with_reducible refine (R.out _).mono ?_); rintro e w1 ⟨rfl, hb⟩; have HB := hide (below_two HB.out hb); clear hb))
  refine bodyPost_ret (v := .tuple #[.int .u64 (arN 2 32 a b : Nat), .int .i64 0]) (by simp [results, Tryd.results31, go_sem]) rfl ?_
  exact ⟨rfl, HB.out⟩

set_option maxRecDepth 100000 in
set_option maxHeartbeats 1000000 in
theorem rtwo32_3 {a b : Nat} (ha : a < 2 ^ 32) (hb : b < 2 ^ 32) (W : World) :
    Calls Tryd.prog 31 #[.int .u8 3, .int .i64 32, .int .u64 (a : Int), .int .u64 (b : Int)] W fun e W' => e = .returned (pairV (two 3 32 a b)) ∧ Below W.heap.size W W' := by
  have hw : IsW 32 := by simp [IsW]
  have Wd := rWidth_calls 32
  have Fa := rFits_calls 32 a
  have Fb := rFits_calls 32 b
  have ka := okW_of hw ha
  have kb := okW_of hw hb
  rw [okW_parts, Bool.and_eq_true] at ka kb
  simp only [show ((32 : Nat) : Int) = 32 from rfl] at ka kb
  rw [ka.1] at Wd
  rw [ka.2] at Fa
  rw [kb.2] at Fb
  have Wd := hide Wd
  have Fa := hide Fa
  have Fb := hide Fb
  clear ka kb
  have HB := hide (Below.refl W.heap.size W)
  have R := hide (rsmall_3 ha hb)
  clear ha hb hw
  go_enter Tryd.func31, Tryd.ntmps31
  go_wp2_with (first | ((with_reducible refine (Wd.out _).mono ?_); rintro e w1 ⟨rfl, rfl⟩) | ((with_reducible refine (Fa.out _).mono ?_); rintro e w1 ⟨rfl, rfl⟩) | ((with_reducible refine (Fb.out _).mono ?_); rintro e w1 ⟨rfl, rfl⟩) | ((with_reducible refine (R.out _).mono ?_); rintro e w1 ⟨rfl, hb⟩; have HB := hide (below_two HB.out hb); clear hb))
  refine bodyPost_ret (v := .tuple #[.int .u64 (arN 3 32 a b : Nat), .int .i64 0]) (by simp [results, Tryd.results31, go_sem]) rfl ?_
  exact ⟨rfl, HB.out⟩

set_option maxRecDepth 100000 in
set_option maxHeartbeats 1000000 in
theorem rtwo32_4 {a b : Nat} (ha : a < 2 ^ 32) (hb : b < 2 ^ 32) (W : World) :
    Calls Tryd.prog 31 #[.int .u8 4, .int .i64 32, .int .u64 (a : Int), .int .u64 (b : Int)] W fun e W' => e = .returned (pairV (two 4 32 a b)) ∧ Below W.heap.size W W' := by
  have hw : IsW 32 := by simp [IsW]
  have Wd := rWidth_calls 32
  have Fa := rFits_calls 32 a
  have Fb := rFits_calls 32 b
  have ka := okW_of hw ha
  have kb := okW_of hw hb
  rw [okW_parts, Bool.and_eq_true] at ka kb
  simp only [show ((32 : Nat) : Int) = 32 from rfl] at ka kb
  rw [ka.1] at Wd
  rw [ka.2] at Fa
  rw [kb.2] at Fb
  have Wd := hide Wd
  have Fa := hide Fa
  have Fb := hide Fb
  clear ka kb
  have HB := hide (Below.refl W.heap.size W)
  have R := hide (rsmall_4 ha hb)
  clear ha hb hw
  go_enter Tryd.func31, Tryd.ntmps31
  go_wp2_with (first | ((with_reducible refine (Wd.out _).mono ?_); rintro e w1 ⟨rfl, rfl⟩) | ((with_reducible refine (Fa.out _).mono ?_); rintro e w1 ⟨rfl, rfl⟩) | ((with_reducible refine (Fb.out _).mono ?_); rintro e w1 ⟨rfl, rfl⟩) | ((with_reducible refine (R.out _).mono ?_); rintro e w1 ⟨rfl, hb⟩; have HB := hide (below_two HB.out hb); clear hb))
  refine bodyPost_ret (v := .tuple #[.int .u64 (arN 4 32 a b : Nat), .int .i64 0]) (by simp [results, Tryd.results31, go_sem]) rfl ?_
  exact ⟨rfl, HB.out⟩

set_option maxRecDepth 100000 in
set_option maxHeartbeats 1000000 in
theorem rtwo64_1 {a b : Nat} (ha : a < 2 ^ 64) (hb : b < 2 ^ 64) (W : World) :
    Calls Tryd.prog 31 #[.int .u8 1, .int .i64 64, .int .u64 (a : Int), .int .u64 (b : Int)] W fun e W' => e = .returned (pairV (two 1 64 a b)) ∧ Below W.heap.size W W' := by
  have hw : IsW 64 := by simp [IsW]
  have Wd := rWidth_calls 64
  have Fa := rFits_calls 64 a
  have Fb := rFits_calls 64 b
  have ka := okW_of hw ha
  have kb := okW_of hw hb
  rw [okW_parts, Bool.and_eq_true] at ka kb
  simp only [show ((64 : Nat) : Int) = 64 from rfl] at ka kb
  rw [ka.1] at Wd
  rw [ka.2] at Fa
  rw [kb.2] at Fb
  have Wd := hide Wd
  have Fa := hide Fa
  have Fb := hide Fb
  clear ka kb
  have HB := hide (Below.refl W.heap.size W)
  have R := hide (rgreat_1 ha hb)
  clear ha hb hw
  go_enter Tryd.func31, Tryd.ntmps31
  go_wp2_with (first | ((with_reducible refine (Wd.out _).mono ?_); rintro e w1 ⟨rfl, rfl⟩) | ((with_reducible refine (Fa.out _).mono ?_); rintro e w1 ⟨rfl, rfl⟩) | ((with_reducible refine (Fb.out _).mono ?_); rintro e w1 ⟨rfl, rfl⟩) | ((with_reducible refine (R.out _).mono ?_); rintro e w1 ⟨rfl, hb⟩; have HB := hide (below_two HB.out hb); clear hb))
  refine bodyPost_ret (v := .tuple #[.int .u64 (arN 1 64 a b : Nat), .int .i64 0]) (by simp [results, Tryd.results31, go_sem]) rfl ?_
  exact ⟨rfl, HB.out⟩

set_option maxRecDepth 100000 in
set_option maxHeartbeats 1000000 in
theorem rtwo64_2 {a b : Nat} (ha : a < 2 ^ 64) (hb : b < 2 ^ 64) (W : World) :
    Calls Tryd.prog 31 #[.int .u8 2, .int .i64 64, .int .u64 (a : Int), .int .u64 (b : Int)] W fun e W' => e = .returned (pairV (two 2 64 a b)) ∧ Below W.heap.size W W' := by
  have hw : IsW 64 := by simp [IsW]
  have Wd := rWidth_calls 64
  have Fa := rFits_calls 64 a
  have Fb := rFits_calls 64 b
  have ka := okW_of hw ha
  have kb := okW_of hw hb
  rw [okW_parts, Bool.and_eq_true] at ka kb
  simp only [show ((64 : Nat) : Int) = 64 from rfl] at ka kb
  rw [ka.1] at Wd
  rw [ka.2] at Fa
  rw [kb.2] at Fb
  have Wd := hide Wd
  have Fa := hide Fa
  have Fb := hide Fb
  clear ka kb
  have HB := hide (Below.refl W.heap.size W)
  have R := hide (rgreat_2 ha hb)
  clear ha hb hw
  go_enter Tryd.func31, Tryd.ntmps31
  go_wp2_with (first | ((with_reducible refine (Wd.out _).mono ?_); rintro e w1 ⟨rfl, rfl⟩) | ((with_reducible refine (Fa.out _).mono ?_); rintro e w1 ⟨rfl, rfl⟩) | ((with_reducible refine (Fb.out _).mono ?_); rintro e w1 ⟨rfl, rfl⟩) | ((with_reducible refine (R.out _).mono ?_); rintro e w1 ⟨rfl, hb⟩; have HB := hide (below_two HB.out hb); clear hb))
  refine bodyPost_ret (v := .tuple #[.int .u64 (arN 2 64 a b : Nat), .int .i64 0]) (by simp [results, Tryd.results31, go_sem]) rfl ?_
  exact ⟨rfl, HB.out⟩

set_option maxRecDepth 100000 in
set_option maxHeartbeats 1000000 in
theorem rtwo64_3 {a b : Nat} (ha : a < 2 ^ 64) (hb : b < 2 ^ 64) (W : World) :
    Calls Tryd.prog 31 #[.int .u8 3, .int .i64 64, .int .u64 (a : Int), .int .u64 (b : Int)] W fun e W' => e = .returned (pairV (two 3 64 a b)) ∧ Below W.heap.size W W' := by
  have hw : IsW 64 := by simp [IsW]
  have Wd := rWidth_calls 64
  have Fa := rFits_calls 64 a
  have Fb := rFits_calls 64 b
  have ka := okW_of hw ha
  have kb := okW_of hw hb
  rw [okW_parts, Bool.and_eq_true] at ka kb
  simp only [show ((64 : Nat) : Int) = 64 from rfl] at ka kb
  rw [ka.1] at Wd
  rw [ka.2] at Fa
  rw [kb.2] at Fb
  have Wd := hide Wd
  have Fa := hide Fa
  have Fb := hide Fb
  clear ka kb
  have HB := hide (Below.refl W.heap.size W)
  have R := hide (rgreat_3 ha hb)
  clear ha hb hw
  go_enter Tryd.func31, Tryd.ntmps31
  go_wp2_with (first | ((with_reducible refine (Wd.out _).mono ?_); rintro e w1 ⟨rfl, rfl⟩) | ((with_reducible refine (Fa.out _).mono ?_); rintro e w1 ⟨rfl, rfl⟩) | ((with_reducible refine (Fb.out _).mono ?_); rintro e w1 ⟨rfl, rfl⟩) | ((with_reducible refine (R.out _).mono ?_); rintro e w1 ⟨rfl, hb⟩; have HB := hide (below_two HB.out hb); clear hb))
  refine bodyPost_ret (v := .tuple #[.int .u64 (arN 3 64 a b : Nat), .int .i64 0]) (by simp [results, Tryd.results31, go_sem]) rfl ?_
  exact ⟨rfl, HB.out⟩

set_option maxRecDepth 100000 in
set_option maxHeartbeats 1000000 in
theorem rtwo64_4 {a b : Nat} (ha : a < 2 ^ 64) (hb : b < 2 ^ 64) (W : World) :
    Calls Tryd.prog 31 #[.int .u8 4, .int .i64 64, .int .u64 (a : Int), .int .u64 (b : Int)] W fun e W' => e = .returned (pairV (two 4 64 a b)) ∧ Below W.heap.size W W' := by
  have hw : IsW 64 := by simp [IsW]
  have Wd := rWidth_calls 64
  have Fa := rFits_calls 64 a
  have Fb := rFits_calls 64 b
  have ka := okW_of hw ha
  have kb := okW_of hw hb
  rw [okW_parts, Bool.and_eq_true] at ka kb
  simp only [show ((64 : Nat) : Int) = 64 from rfl] at ka kb
  rw [ka.1] at Wd
  rw [ka.2] at Fa
  rw [kb.2] at Fb
  have Wd := hide Wd
  have Fa := hide Fa
  have Fb := hide Fb
  clear ka kb
  have HB := hide (Below.refl W.heap.size W)
  have R := hide (rgreat_4 ha hb)
  clear ha hb hw
  go_enter Tryd.func31, Tryd.ntmps31
  go_wp2_with (first | ((with_reducible refine (Wd.out _).mono ?_); rintro e w1 ⟨rfl, rfl⟩) | ((with_reducible refine (Fa.out _).mono ?_); rintro e w1 ⟨rfl, rfl⟩) | ((with_reducible refine (Fb.out _).mono ?_); rintro e w1 ⟨rfl, rfl⟩) | ((with_reducible refine (R.out _).mono ?_); rintro e w1 ⟨rfl, hb⟩; have HB := hide (below_two HB.out hb); clear hb))
  refine bodyPost_ret (v := .tuple #[.int .u64 (arN 4 64 a b : Nat), .int .i64 0]) (by simp [results, Tryd.results31, go_sem]) rfl ?_
  exact ⟨rfl, HB.out⟩

theorem rtwo_1 {w a b : Nat} (hw : IsW w) (ha : a < 2 ^ w) (hb : b < 2 ^ w) (W : World) :
    Calls Tryd.prog 31 #[.int .u8 1, .int .i64 (w : Int), .int .u64 (a : Int), .int .u64 (b : Int)] W fun e W' => e = .returned (pairV (two 1 w a b)) ∧ Below W.heap.size W W' := by
  rcases hw with rfl | rfl
  · exact rtwo32_1 ha hb W
  · exact rtwo64_1 ha hb W

theorem rtwo_2 {w a b : Nat} (hw : IsW w) (ha : a < 2 ^ w) (hb : b < 2 ^ w) (W : World) :
    Calls Tryd.prog 31 #[.int .u8 2, .int .i64 (w : Int), .int .u64 (a : Int), .int .u64 (b : Int)] W fun e W' => e = .returned (pairV (two 2 w a b)) ∧ Below W.heap.size W W' := by
  rcases hw with rfl | rfl
  · exact rtwo32_2 ha hb W
  · exact rtwo64_2 ha hb W

theorem rtwo_3 {w a b : Nat} (hw : IsW w) (ha : a < 2 ^ w) (hb : b < 2 ^ w) (W : World) :
    Calls Tryd.prog 31 #[.int .u8 3, .int .i64 (w : Int), .int .u64 (a : Int), .int .u64 (b : Int)] W fun e W' => e = .returned (pairV (two 3 w a b)) ∧ Below W.heap.size W W' := by
  rcases hw with rfl | rfl
  · exact rtwo32_3 ha hb W
  · exact rtwo64_3 ha hb W

theorem rtwo_4 {w a b : Nat} (hw : IsW w) (ha : a < 2 ^ w) (hb : b < 2 ^ w) (W : World) :
    Calls Tryd.prog 31 #[.int .u8 4, .int .i64 (w : Int), .int .u64 (a : Int), .int .u64 (b : Int)] W fun e W' => e = .returned (pairV (two 4 w a b)) ∧ Below W.heap.size W W' := by
  rcases hw with rfl | rfl
  · exact rtwo32_4 ha hb W
  · exact rtwo64_4 ha hb W

set_option maxRecDepth 100000 in
set_option maxHeartbeats 1000000 in
theorem rtwo_5 {w a b : Nat} (hw : IsW w) (ha : a < 2 ^ w) (hb : b < 2 ^ w) (W : World) :
    Calls Tryd.prog 31 #[.int .u8 5, .int .i64 (w : Int), .int .u64 (a : Int), .int .u64 (b : Int)] W fun e W' => e = .returned (pairV (two 5 w a b)) ∧ Below W.heap.size W W' := by
  have Wd := rWidth_calls w
  have Fa := rFits_calls w a
  have Fb := rFits_calls w b
  have ka := okW_of hw ha
  have kb := okW_of hw hb
  rw [okW_parts, Bool.and_eq_true] at ka kb
  rw [ka.1] at Wd
  rw [ka.2] at Fa
  rw [kb.2] at Fb
  have Wd := hide Wd
  have Fa := hide Fa
  have Fb := hide Fb
  clear ka kb
  have HB := hide (Below.refl W.heap.size W)
  have R := hide (rleast_5 hw ha hb)
  clear ha hb hw
  go_enter Tryd.func31, Tryd.ntmps31
  go_wp2_with (first | ((with_reducible refine (Wd.out _).mono ?_); rintro e w1 ⟨rfl, rfl⟩) | ((with_reducible refine (Fa.out _).mono ?_); rintro e w1 ⟨rfl, rfl⟩) | ((with_reducible refine (Fb.out _).mono ?_); rintro e w1 ⟨rfl, rfl⟩) | ((with_reducible refine (R.out _).mono ?_); rintro e w1 ⟨rfl, rfl⟩))
  refine bodyPost_ret (v := .tuple #[.int .u64 ((leastN true w a b) : Nat), .int .i64 0]) (by simp [results, Tryd.results31, go_sem]) rfl ?_
  exact ⟨rfl, HB.out⟩

set_option maxRecDepth 100000 in
set_option maxHeartbeats 1000000 in
theorem rtwo_6 {w a b : Nat} (hw : IsW w) (ha : a < 2 ^ w) (hb : b < 2 ^ w) (W : World) :
    Calls Tryd.prog 31 #[.int .u8 6, .int .i64 (w : Int), .int .u64 (a : Int), .int .u64 (b : Int)] W fun e W' => e = .returned (pairV (two 6 w a b)) ∧ Below W.heap.size W W' := by
  have Wd := rWidth_calls w
  have Fa := rFits_calls w a
  have Fb := rFits_calls w b
  have ka := okW_of hw ha
  have kb := okW_of hw hb
  rw [okW_parts, Bool.and_eq_true] at ka kb
  rw [ka.1] at Wd
  rw [ka.2] at Fa
  rw [kb.2] at Fb
  have Wd := hide Wd
  have Fa := hide Fa
  have Fb := hide Fb
  clear ka kb
  have HB := hide (Below.refl W.heap.size W)
  have R := hide (rleast_6 hw ha hb)
  clear ha hb hw
  go_enter Tryd.func31, Tryd.ntmps31
  go_wp2_with (first | ((with_reducible refine (Wd.out _).mono ?_); rintro e w1 ⟨rfl, rfl⟩) | ((with_reducible refine (Fa.out _).mono ?_); rintro e w1 ⟨rfl, rfl⟩) | ((with_reducible refine (Fb.out _).mono ?_); rintro e w1 ⟨rfl, rfl⟩) | ((with_reducible refine (R.out _).mono ?_); rintro e w1 ⟨rfl, rfl⟩))
  refine bodyPost_ret (v := .tuple #[.int .u64 ((leastN false w a b) : Nat), .int .i64 0]) (by simp [results, Tryd.results31, go_sem]) rfl ?_
  exact ⟨rfl, HB.out⟩

set_option maxRecDepth 100000 in
set_option maxHeartbeats 1000000 in
theorem rtwo_7 {w a b : Nat} (hw : IsW w) (ha : a < 2 ^ w) (hb : b < 2 ^ w) (W : World) :
    Calls Tryd.prog 31 #[.int .u8 7, .int .i64 (w : Int), .int .u64 (a : Int), .int .u64 (b : Int)] W fun e W' => e = .returned (pairV (two 7 w a b)) ∧ Below W.heap.size W W' := by
  have Wd := rWidth_calls w
  have Fa := rFits_calls w a
  have Fb := rFits_calls w b
  have ka := okW_of hw ha
  have kb := okW_of hw hb
  rw [okW_parts, Bool.and_eq_true] at ka kb
  rw [ka.1] at Wd
  rw [ka.2] at Fa
  rw [kb.2] at Fb
  have Wd := hide Wd
  have Fa := hide Fa
  have Fb := hide Fb
  clear ka kb
  have HB := hide (Below.refl W.heap.size W)
  have S := hide (rsign_calls hw)
  have E1 := bits_andNot_sign hw ha
  have E2 := bits_and_sign hw hb
  have E3 := bits_or_parts hw (signOf_cases w b) (rung_lt (fm w) a)
  clear ha hb hw
  go_enter Tryd.func31, Tryd.ntmps31
  go_wp2_with (first | ((with_reducible refine (Wd.out _).mono ?_); rintro e w1 ⟨rfl, rfl⟩) | ((with_reducible refine (Fa.out _).mono ?_); rintro e w1 ⟨rfl, rfl⟩) | ((with_reducible refine (Fb.out _).mono ?_); rintro e w1 ⟨rfl, rfl⟩) | ((with_reducible refine (S.out _).mono ?_); rintro e w1 ⟨rfl, rfl⟩))
  refine bodyPost_ret (v := .tuple #[.int .u64 ((signOf w b + rung (fm w) a) : Nat), .int .i64 0]) (by simp [results, Tryd.results31, go_sem]) rfl ?_
  exact ⟨rfl, HB.out⟩

set_option maxRecDepth 100000 in
set_option maxHeartbeats 1000000 in
theorem rtwo_8t {w a b : Nat} (hw : IsW w) (ha : a < 2 ^ w) (hb : b < 2 ^ w) (c : lessN w b a = true) (W : World) :
    Calls Tryd.prog 31 #[.int .u8 8, .int .i64 (w : Int), .int .u64 (a : Int), .int .u64 (b : Int)] W fun e W' => e = .returned (pairV (two 8 w a b)) ∧ Below W.heap.size W W' := by
  have Wd := rWidth_calls w
  have Fa := rFits_calls w a
  have Fb := rFits_calls w b
  have ka := okW_of hw ha
  have kb := okW_of hw hb
  rw [okW_parts, Bool.and_eq_true] at ka kb
  rw [ka.1] at Wd
  rw [ka.2] at Fa
  rw [kb.2] at Fb
  have Wd := hide Wd
  have Fa := hide Fa
  have Fb := hide Fb
  clear ka kb
  have HB := hide (Below.refl W.heap.size W)
  have L := rless_calls hw hb ha
  rw [c] at L
  have L := hide L
  have V : two 8 w a b = (b, 0) := by simp [two, c]
  have HV := hide V
  clear ha hb hw V c
  go_enter Tryd.func31, Tryd.ntmps31
  go_wp2_with (first | ((with_reducible refine (Wd.out _).mono ?_); rintro e w1 ⟨rfl, rfl⟩) | ((with_reducible refine (Fa.out _).mono ?_); rintro e w1 ⟨rfl, rfl⟩) | ((with_reducible refine (Fb.out _).mono ?_); rintro e w1 ⟨rfl, rfl⟩) | ((with_reducible refine (L.out _).mono ?_); rintro e w1 ⟨rfl, rfl⟩))
  refine bodyPost_ret (v := .tuple #[.int .u64 (b : Nat), .int .i64 0]) (by simp [results, Tryd.results31, go_sem]) rfl ?_
  exact ⟨by rw [HV.out]; rfl, HB.out⟩

set_option maxRecDepth 100000 in
set_option maxHeartbeats 1000000 in
theorem rtwo_8f {w a b : Nat} (hw : IsW w) (ha : a < 2 ^ w) (hb : b < 2 ^ w) (c : lessN w b a = false) (W : World) :
    Calls Tryd.prog 31 #[.int .u8 8, .int .i64 (w : Int), .int .u64 (a : Int), .int .u64 (b : Int)] W fun e W' => e = .returned (pairV (two 8 w a b)) ∧ Below W.heap.size W W' := by
  have Wd := rWidth_calls w
  have Fa := rFits_calls w a
  have Fb := rFits_calls w b
  have ka := okW_of hw ha
  have kb := okW_of hw hb
  rw [okW_parts, Bool.and_eq_true] at ka kb
  rw [ka.1] at Wd
  rw [ka.2] at Fa
  rw [kb.2] at Fb
  have Wd := hide Wd
  have Fa := hide Fa
  have Fb := hide Fb
  clear ka kb
  have HB := hide (Below.refl W.heap.size W)
  have L := rless_calls hw hb ha
  rw [c] at L
  have L := hide L
  have V : two 8 w a b = (a, 0) := by simp [two, c]
  have HV := hide V
  clear ha hb hw V c
  go_enter Tryd.func31, Tryd.ntmps31
  go_wp2_with (first | ((with_reducible refine (Wd.out _).mono ?_); rintro e w1 ⟨rfl, rfl⟩) | ((with_reducible refine (Fa.out _).mono ?_); rintro e w1 ⟨rfl, rfl⟩) | ((with_reducible refine (Fb.out _).mono ?_); rintro e w1 ⟨rfl, rfl⟩) | ((with_reducible refine (L.out _).mono ?_); rintro e w1 ⟨rfl, rfl⟩))
  refine bodyPost_ret (v := .tuple #[.int .u64 (a : Nat), .int .i64 0]) (by simp [results, Tryd.results31, go_sem]) rfl ?_
  exact ⟨by rw [HV.out]; rfl, HB.out⟩

set_option maxRecDepth 100000 in
set_option maxHeartbeats 1000000 in
theorem rtwo_9t {w a b : Nat} (hw : IsW w) (ha : a < 2 ^ w) (hb : b < 2 ^ w) (c : lessN w a b = true) (W : World) :
    Calls Tryd.prog 31 #[.int .u8 9, .int .i64 (w : Int), .int .u64 (a : Int), .int .u64 (b : Int)] W fun e W' => e = .returned (pairV (two 9 w a b)) ∧ Below W.heap.size W W' := by
  have Wd := rWidth_calls w
  have Fa := rFits_calls w a
  have Fb := rFits_calls w b
  have ka := okW_of hw ha
  have kb := okW_of hw hb
  rw [okW_parts, Bool.and_eq_true] at ka kb
  rw [ka.1] at Wd
  rw [ka.2] at Fa
  rw [kb.2] at Fb
  have Wd := hide Wd
  have Fa := hide Fa
  have Fb := hide Fb
  clear ka kb
  have HB := hide (Below.refl W.heap.size W)
  have L := rless_calls hw ha hb
  rw [c] at L
  have L := hide L
  have V : two 9 w a b = (b, 0) := by simp [two, c]
  have HV := hide V
  clear ha hb hw V c
  go_enter Tryd.func31, Tryd.ntmps31
  go_wp2_with (first | ((with_reducible refine (Wd.out _).mono ?_); rintro e w1 ⟨rfl, rfl⟩) | ((with_reducible refine (Fa.out _).mono ?_); rintro e w1 ⟨rfl, rfl⟩) | ((with_reducible refine (Fb.out _).mono ?_); rintro e w1 ⟨rfl, rfl⟩) | ((with_reducible refine (L.out _).mono ?_); rintro e w1 ⟨rfl, rfl⟩))
  refine bodyPost_ret (v := .tuple #[.int .u64 (b : Nat), .int .i64 0]) (by simp [results, Tryd.results31, go_sem]) rfl ?_
  exact ⟨by rw [HV.out]; rfl, HB.out⟩

set_option maxRecDepth 100000 in
set_option maxHeartbeats 1000000 in
theorem rtwo_9f {w a b : Nat} (hw : IsW w) (ha : a < 2 ^ w) (hb : b < 2 ^ w) (c : lessN w a b = false) (W : World) :
    Calls Tryd.prog 31 #[.int .u8 9, .int .i64 (w : Int), .int .u64 (a : Int), .int .u64 (b : Int)] W fun e W' => e = .returned (pairV (two 9 w a b)) ∧ Below W.heap.size W W' := by
  have Wd := rWidth_calls w
  have Fa := rFits_calls w a
  have Fb := rFits_calls w b
  have ka := okW_of hw ha
  have kb := okW_of hw hb
  rw [okW_parts, Bool.and_eq_true] at ka kb
  rw [ka.1] at Wd
  rw [ka.2] at Fa
  rw [kb.2] at Fb
  have Wd := hide Wd
  have Fa := hide Fa
  have Fb := hide Fb
  clear ka kb
  have HB := hide (Below.refl W.heap.size W)
  have L := rless_calls hw ha hb
  rw [c] at L
  have L := hide L
  have V : two 9 w a b = (a, 0) := by simp [two, c]
  have HV := hide V
  clear ha hb hw V c
  go_enter Tryd.func31, Tryd.ntmps31
  go_wp2_with (first | ((with_reducible refine (Wd.out _).mono ?_); rintro e w1 ⟨rfl, rfl⟩) | ((with_reducible refine (Fa.out _).mono ?_); rintro e w1 ⟨rfl, rfl⟩) | ((with_reducible refine (Fb.out _).mono ?_); rintro e w1 ⟨rfl, rfl⟩) | ((with_reducible refine (L.out _).mono ?_); rintro e w1 ⟨rfl, rfl⟩))
  refine bodyPost_ret (v := .tuple #[.int .u64 (a : Nat), .int .i64 0]) (by simp [results, Tryd.results31, go_sem]) rfl ?_
  exact ⟨by rw [HV.out]; rfl, HB.out⟩

set_option maxRecDepth 100000 in
set_option maxHeartbeats 1000000 in
theorem rtwo_else {w a b : Nat} (hw : IsW w) (op : Int) (ha : a < 2 ^ w) (hb : b < 2 ^ w) (h0 : 0 ≤ op) (ho : op < 1 ∨ 9 < op) (W : World) :
    Calls Tryd.prog 31 #[.int .u8 op, .int .i64 (w : Int), .int .u64 (a : Int), .int .u64 (b : Int)] W fun e W' => e = .returned (pairV (two op.toNat w a b)) ∧ W' = W := by
  rw [two_none (by omega)]
  have Wd := rWidth_calls w
  have Fa := rFits_calls w a
  have Fb := rFits_calls w b
  have ka := okW_of hw ha
  have kb := okW_of hw hb
  rw [okW_parts, Bool.and_eq_true] at ka kb
  rw [ka.1] at Wd
  rw [ka.2] at Fa
  rw [kb.2] at Fb
  have Wd := hide Wd
  have Fa := hide Fa
  have Fb := hide Fb
  clear ka kb
  have n1 : (op == 1) = false := by simp; omega
  have n2 : (op == 2) = false := by simp; omega
  have n3 : (op == 3) = false := by simp; omega
  have n4 : (op == 4) = false := by simp; omega
  have n5 : (op == 5) = false := by simp; omega
  have n6 : (op == 6) = false := by simp; omega
  have n7 : (op == 7) = false := by simp; omega
  have n8 : (op == 8) = false := by simp; omega
  have n9 : (op == 9) = false := by simp; omega
  clear ha hb hw ho h0
  go_enter Tryd.func31, Tryd.ntmps31
  go_wp2_with (first | ((with_reducible refine (Wd.out _).mono ?_); rintro e w1 ⟨rfl, rfl⟩) | ((with_reducible refine (Fa.out _).mono ?_); rintro e w1 ⟨rfl, rfl⟩) | ((with_reducible refine (Fb.out _).mono ?_); rintro e w1 ⟨rfl, rfl⟩))
  refine bodyPost_ret (v := .tuple #[.int .u64 0, .int .i64 2]) (by simp [results, Tryd.results31, go_sem]) rfl ?_
  exact ⟨rfl, rfl⟩

set_option maxRecDepth 100000 in
set_option maxHeartbeats 1000000 in
theorem rtwo_bad (op w : Int) (a b : Nat) (h : (okW w a && okW w b) = false) (W : World) :
    Calls Tryd.prog 31 #[.int .u8 op, .int .i64 w, .int .u64 (a : Int), .int .u64 (b : Int)] W fun e W' => e = .returned (pairV (0, 2)) ∧ W' = W := by
  rw [okW_parts, okW_parts] at h
  have Wd := rWidth_calls w
  have Fa := rFits_calls w a
  have Fb := rFits_calls w b
  generalize wdI w = x at *
  generalize ftI w a = y at *
  generalize ftI w b = z at *
  have Wd := hide Wd
  have Fa := hide Fa
  have Fb := hide Fb
  cases x <;> cases y <;> cases z <;> first | (exfalso; revert h; decide) | clear h
  all_goals
    go_enter Tryd.func31, Tryd.ntmps31
    go_wp2_with (first | ((with_reducible refine (Wd.out _).mono ?_); rintro e w1 ⟨rfl, rfl⟩) | ((with_reducible refine (Fa.out _).mono ?_); rintro e w1 ⟨rfl, rfl⟩) | ((with_reducible refine (Fb.out _).mono ?_); rintro e w1 ⟨rfl, rfl⟩))
    refine bodyPost_ret (v := .tuple #[.int .u64 0, .int .i64 2]) (by simp [results, Tryd.results31, go_sem]) rfl ?_
    exact ⟨rfl, rfl⟩

theorem RTwo_calls {w a b : Nat} (hw : IsW w) (op : Nat) (ha : a < 2 ^ w) (hb : b < 2 ^ w) (W : World) :
    Calls Tryd.prog 31 #[.int .u8 (op : Int), .int .i64 (w : Int), .int .u64 (a : Int), .int .u64 (b : Int)] W fun e W' => e = .returned (pairV (two op w a b)) ∧ Below W.heap.size W W' := by
  by_cases hk : op < 1 ∨ 9 < op
  · exact (rtwo_else hw (op : Int) ha hb (by omega) (by omega) W).mono fun e W' h => ⟨h.1, by rw [h.2]; exact Below.refl _ _⟩
  · rcases (show op = 1 ∨ op = 2 ∨ op = 3 ∨ op = 4 ∨ op = 5 ∨ op = 6 ∨ op = 7 ∨ op = 8 ∨ op = 9 by omega) with rfl | rfl | rfl | rfl | rfl | rfl | rfl | rfl | rfl
    · exact rtwo_1 hw ha hb W
    · exact rtwo_2 hw ha hb W
    · exact rtwo_3 hw ha hb W
    · exact rtwo_4 hw ha hb W
    · exact rtwo_5 hw ha hb W
    · exact rtwo_6 hw ha hb W
    · exact rtwo_7 hw ha hb W
    · cases c : lessN w b a with
      | true => exact rtwo_8t hw ha hb c W
      | false => exact rtwo_8f hw ha hb c W
    · cases c : lessN w a b with
      | true => exact rtwo_9t hw ha hb c W
      | false => exact rtwo_9f hw ha hb c W

set_option maxRecDepth 100000 in
set_option maxHeartbeats 1000000 in
theorem rthan_17 {w a b : Nat} (hw : IsW w) (ha : a < 2 ^ w) (hb : b < 2 ^ w) (W : World) :
    Calls Tryd.prog 40 #[.int .u8 17, .int .i64 (w : Int), .int .u64 (a : Int), .int .u64 (b : Int)] W fun e W' => e = .returned (pairB (than 17 w a b)) ∧ W' = W := by
  have Wd := rWidth_calls w
  have Fa := rFits_calls w a
  have Fb := rFits_calls w b
  have ka := okW_of hw ha
  have kb := okW_of hw hb
  rw [okW_parts, Bool.and_eq_true] at ka kb
  rw [ka.1] at Wd
  rw [ka.2] at Fa
  rw [kb.2] at Fb
  have Wd := hide Wd
  have Fa := hide Fa
  have Fb := hide Fb
  clear ka kb
  have S := rsame_calls hw ha hb
  have L := rless_calls hw ha hb
  have M := rless_calls hw hb ha
  simp only [than]
  generalize lessN w a b = l at *
  generalize lessN w b a = m at *
  generalize sameN w a b = s at *
  have S := hide S
  have L := hide L
  have M := hide M
  clear ha hb hw
  cases s
  all_goals
    go_enter Tryd.func40, Tryd.ntmps40
    go_wp2_with (first | ((with_reducible refine (Wd.out _).mono ?_); rintro e w1 ⟨rfl, rfl⟩) | ((with_reducible refine (Fa.out _).mono ?_); rintro e w1 ⟨rfl, rfl⟩) | ((with_reducible refine (Fb.out _).mono ?_); rintro e w1 ⟨rfl, rfl⟩) | ((with_reducible refine (S.out _).mono ?_); rintro e w1 ⟨rfl, rfl⟩) | ((with_reducible refine (L.out _).mono ?_); rintro e w1 ⟨rfl, rfl⟩) | ((with_reducible refine (M.out _).mono ?_); rintro e w1 ⟨rfl, rfl⟩))
    first
      | (refine bodyPost_ret (v := .tuple #[.bool true, .int .i64 0]) (by simp [results, Tryd.results40, go_sem]) rfl ?_
         exact ⟨rfl, rfl⟩)
      | (refine bodyPost_ret (v := .tuple #[.bool false, .int .i64 0]) (by simp [results, Tryd.results40, go_sem]) rfl ?_
         exact ⟨rfl, rfl⟩)

set_option maxRecDepth 100000 in
set_option maxHeartbeats 1000000 in
theorem rthan_18 {w a b : Nat} (hw : IsW w) (ha : a < 2 ^ w) (hb : b < 2 ^ w) (W : World) :
    Calls Tryd.prog 40 #[.int .u8 18, .int .i64 (w : Int), .int .u64 (a : Int), .int .u64 (b : Int)] W fun e W' => e = .returned (pairB (than 18 w a b)) ∧ W' = W := by
  have Wd := rWidth_calls w
  have Fa := rFits_calls w a
  have Fb := rFits_calls w b
  have ka := okW_of hw ha
  have kb := okW_of hw hb
  rw [okW_parts, Bool.and_eq_true] at ka kb
  rw [ka.1] at Wd
  rw [ka.2] at Fa
  rw [kb.2] at Fb
  have Wd := hide Wd
  have Fa := hide Fa
  have Fb := hide Fb
  clear ka kb
  have S := rsame_calls hw ha hb
  have L := rless_calls hw ha hb
  have M := rless_calls hw hb ha
  simp only [than]
  generalize lessN w a b = l at *
  generalize lessN w b a = m at *
  generalize sameN w a b = s at *
  have S := hide S
  have L := hide L
  have M := hide M
  clear ha hb hw
  cases s
  all_goals
    go_enter Tryd.func40, Tryd.ntmps40
    go_wp2_with (first | ((with_reducible refine (Wd.out _).mono ?_); rintro e w1 ⟨rfl, rfl⟩) | ((with_reducible refine (Fa.out _).mono ?_); rintro e w1 ⟨rfl, rfl⟩) | ((with_reducible refine (Fb.out _).mono ?_); rintro e w1 ⟨rfl, rfl⟩) | ((with_reducible refine (S.out _).mono ?_); rintro e w1 ⟨rfl, rfl⟩) | ((with_reducible refine (L.out _).mono ?_); rintro e w1 ⟨rfl, rfl⟩) | ((with_reducible refine (M.out _).mono ?_); rintro e w1 ⟨rfl, rfl⟩))
    first
      | (refine bodyPost_ret (v := .tuple #[.bool true, .int .i64 0]) (by simp [results, Tryd.results40, go_sem]) rfl ?_
         exact ⟨rfl, rfl⟩)
      | (refine bodyPost_ret (v := .tuple #[.bool false, .int .i64 0]) (by simp [results, Tryd.results40, go_sem]) rfl ?_
         exact ⟨rfl, rfl⟩)

set_option maxRecDepth 100000 in
set_option maxHeartbeats 1000000 in
theorem rthan_19 {w a b : Nat} (hw : IsW w) (ha : a < 2 ^ w) (hb : b < 2 ^ w) (W : World) :
    Calls Tryd.prog 40 #[.int .u8 19, .int .i64 (w : Int), .int .u64 (a : Int), .int .u64 (b : Int)] W fun e W' => e = .returned (pairB (than 19 w a b)) ∧ W' = W := by
  have Wd := rWidth_calls w
  have Fa := rFits_calls w a
  have Fb := rFits_calls w b
  have ka := okW_of hw ha
  have kb := okW_of hw hb
  rw [okW_parts, Bool.and_eq_true] at ka kb
  rw [ka.1] at Wd
  rw [ka.2] at Fa
  rw [kb.2] at Fb
  have Wd := hide Wd
  have Fa := hide Fa
  have Fb := hide Fb
  clear ka kb
  have S := rsame_calls hw ha hb
  have L := rless_calls hw ha hb
  have M := rless_calls hw hb ha
  simp only [than]
  generalize lessN w a b = l at *
  generalize lessN w b a = m at *
  generalize sameN w a b = s at *
  have S := hide S
  have L := hide L
  have M := hide M
  clear ha hb hw
  cases l
  all_goals
    go_enter Tryd.func40, Tryd.ntmps40
    go_wp2_with (first | ((with_reducible refine (Wd.out _).mono ?_); rintro e w1 ⟨rfl, rfl⟩) | ((with_reducible refine (Fa.out _).mono ?_); rintro e w1 ⟨rfl, rfl⟩) | ((with_reducible refine (Fb.out _).mono ?_); rintro e w1 ⟨rfl, rfl⟩) | ((with_reducible refine (S.out _).mono ?_); rintro e w1 ⟨rfl, rfl⟩) | ((with_reducible refine (L.out _).mono ?_); rintro e w1 ⟨rfl, rfl⟩) | ((with_reducible refine (M.out _).mono ?_); rintro e w1 ⟨rfl, rfl⟩))
    first
      | (refine bodyPost_ret (v := .tuple #[.bool true, .int .i64 0]) (by simp [results, Tryd.results40, go_sem]) rfl ?_
         exact ⟨rfl, rfl⟩)
      | (refine bodyPost_ret (v := .tuple #[.bool false, .int .i64 0]) (by simp [results, Tryd.results40, go_sem]) rfl ?_
         exact ⟨rfl, rfl⟩)

set_option maxRecDepth 100000 in
set_option maxHeartbeats 1000000 in
theorem rthan_20 {w a b : Nat} (hw : IsW w) (ha : a < 2 ^ w) (hb : b < 2 ^ w) (W : World) :
    Calls Tryd.prog 40 #[.int .u8 20, .int .i64 (w : Int), .int .u64 (a : Int), .int .u64 (b : Int)] W fun e W' => e = .returned (pairB (than 20 w a b)) ∧ W' = W := by
  have Wd := rWidth_calls w
  have Fa := rFits_calls w a
  have Fb := rFits_calls w b
  have ka := okW_of hw ha
  have kb := okW_of hw hb
  rw [okW_parts, Bool.and_eq_true] at ka kb
  rw [ka.1] at Wd
  rw [ka.2] at Fa
  rw [kb.2] at Fb
  have Wd := hide Wd
  have Fa := hide Fa
  have Fb := hide Fb
  clear ka kb
  have S := rsame_calls hw ha hb
  have L := rless_calls hw ha hb
  have M := rless_calls hw hb ha
  simp only [than]
  generalize lessN w a b = l at *
  generalize lessN w b a = m at *
  generalize sameN w a b = s at *
  have S := hide S
  have L := hide L
  have M := hide M
  clear ha hb hw
  cases m
  all_goals
    go_enter Tryd.func40, Tryd.ntmps40
    go_wp2_with (first | ((with_reducible refine (Wd.out _).mono ?_); rintro e w1 ⟨rfl, rfl⟩) | ((with_reducible refine (Fa.out _).mono ?_); rintro e w1 ⟨rfl, rfl⟩) | ((with_reducible refine (Fb.out _).mono ?_); rintro e w1 ⟨rfl, rfl⟩) | ((with_reducible refine (S.out _).mono ?_); rintro e w1 ⟨rfl, rfl⟩) | ((with_reducible refine (L.out _).mono ?_); rintro e w1 ⟨rfl, rfl⟩) | ((with_reducible refine (M.out _).mono ?_); rintro e w1 ⟨rfl, rfl⟩))
    first
      | (refine bodyPost_ret (v := .tuple #[.bool true, .int .i64 0]) (by simp [results, Tryd.results40, go_sem]) rfl ?_
         exact ⟨rfl, rfl⟩)
      | (refine bodyPost_ret (v := .tuple #[.bool false, .int .i64 0]) (by simp [results, Tryd.results40, go_sem]) rfl ?_
         exact ⟨rfl, rfl⟩)

set_option maxRecDepth 100000 in
set_option maxHeartbeats 1000000 in
theorem rthan_21 {w a b : Nat} (hw : IsW w) (ha : a < 2 ^ w) (hb : b < 2 ^ w) (W : World) :
    Calls Tryd.prog 40 #[.int .u8 21, .int .i64 (w : Int), .int .u64 (a : Int), .int .u64 (b : Int)] W fun e W' => e = .returned (pairB (than 21 w a b)) ∧ W' = W := by
  have Wd := rWidth_calls w
  have Fa := rFits_calls w a
  have Fb := rFits_calls w b
  have ka := okW_of hw ha
  have kb := okW_of hw hb
  rw [okW_parts, Bool.and_eq_true] at ka kb
  rw [ka.1] at Wd
  rw [ka.2] at Fa
  rw [kb.2] at Fb
  have Wd := hide Wd
  have Fa := hide Fa
  have Fb := hide Fb
  clear ka kb
  have S := rsame_calls hw ha hb
  have L := rless_calls hw ha hb
  have M := rless_calls hw hb ha
  simp only [than]
  generalize lessN w a b = l at *
  generalize lessN w b a = m at *
  generalize sameN w a b = s at *
  have S := hide S
  have L := hide L
  have M := hide M
  clear ha hb hw
  cases l <;> cases s
  all_goals
    go_enter Tryd.func40, Tryd.ntmps40
    go_wp2_with (first | ((with_reducible refine (Wd.out _).mono ?_); rintro e w1 ⟨rfl, rfl⟩) | ((with_reducible refine (Fa.out _).mono ?_); rintro e w1 ⟨rfl, rfl⟩) | ((with_reducible refine (Fb.out _).mono ?_); rintro e w1 ⟨rfl, rfl⟩) | ((with_reducible refine (S.out _).mono ?_); rintro e w1 ⟨rfl, rfl⟩) | ((with_reducible refine (L.out _).mono ?_); rintro e w1 ⟨rfl, rfl⟩) | ((with_reducible refine (M.out _).mono ?_); rintro e w1 ⟨rfl, rfl⟩))
    first
      | (refine bodyPost_ret (v := .tuple #[.bool true, .int .i64 0]) (by simp [results, Tryd.results40, go_sem]) rfl ?_
         exact ⟨rfl, rfl⟩)
      | (refine bodyPost_ret (v := .tuple #[.bool false, .int .i64 0]) (by simp [results, Tryd.results40, go_sem]) rfl ?_
         exact ⟨rfl, rfl⟩)

set_option maxRecDepth 100000 in
set_option maxHeartbeats 1000000 in
theorem rthan_22 {w a b : Nat} (hw : IsW w) (ha : a < 2 ^ w) (hb : b < 2 ^ w) (W : World) :
    Calls Tryd.prog 40 #[.int .u8 22, .int .i64 (w : Int), .int .u64 (a : Int), .int .u64 (b : Int)] W fun e W' => e = .returned (pairB (than 22 w a b)) ∧ W' = W := by
  have Wd := rWidth_calls w
  have Fa := rFits_calls w a
  have Fb := rFits_calls w b
  have ka := okW_of hw ha
  have kb := okW_of hw hb
  rw [okW_parts, Bool.and_eq_true] at ka kb
  rw [ka.1] at Wd
  rw [ka.2] at Fa
  rw [kb.2] at Fb
  have Wd := hide Wd
  have Fa := hide Fa
  have Fb := hide Fb
  clear ka kb
  have S := rsame_calls hw ha hb
  have L := rless_calls hw ha hb
  have M := rless_calls hw hb ha
  simp only [than]
  generalize lessN w a b = l at *
  generalize lessN w b a = m at *
  generalize sameN w a b = s at *
  have S := hide S
  have L := hide L
  have M := hide M
  clear ha hb hw
  cases m <;> cases s
  all_goals
    go_enter Tryd.func40, Tryd.ntmps40
    go_wp2_with (first | ((with_reducible refine (Wd.out _).mono ?_); rintro e w1 ⟨rfl, rfl⟩) | ((with_reducible refine (Fa.out _).mono ?_); rintro e w1 ⟨rfl, rfl⟩) | ((with_reducible refine (Fb.out _).mono ?_); rintro e w1 ⟨rfl, rfl⟩) | ((with_reducible refine (S.out _).mono ?_); rintro e w1 ⟨rfl, rfl⟩) | ((with_reducible refine (L.out _).mono ?_); rintro e w1 ⟨rfl, rfl⟩) | ((with_reducible refine (M.out _).mono ?_); rintro e w1 ⟨rfl, rfl⟩))
    first
      | (refine bodyPost_ret (v := .tuple #[.bool true, .int .i64 0]) (by simp [results, Tryd.results40, go_sem]) rfl ?_
         exact ⟨rfl, rfl⟩)
      | (refine bodyPost_ret (v := .tuple #[.bool false, .int .i64 0]) (by simp [results, Tryd.results40, go_sem]) rfl ?_
         exact ⟨rfl, rfl⟩)

set_option maxRecDepth 100000 in
set_option maxHeartbeats 1000000 in
theorem rthan_else {w a b : Nat} (hw : IsW w) (op : Int) (ha : a < 2 ^ w) (hb : b < 2 ^ w) (h0 : 0 ≤ op) (ho : op < 17 ∨ 22 < op) (W : World) :
    Calls Tryd.prog 40 #[.int .u8 op, .int .i64 (w : Int), .int .u64 (a : Int), .int .u64 (b : Int)] W fun e W' => e = .returned (pairB (than op.toNat w a b)) ∧ W' = W := by
  rw [than_none (by omega)]
  have Wd := rWidth_calls w
  have Fa := rFits_calls w a
  have Fb := rFits_calls w b
  have ka := okW_of hw ha
  have kb := okW_of hw hb
  rw [okW_parts, Bool.and_eq_true] at ka kb
  rw [ka.1] at Wd
  rw [ka.2] at Fa
  rw [kb.2] at Fb
  have Wd := hide Wd
  have Fa := hide Fa
  have Fb := hide Fb
  clear ka kb
  have n17 : (op == 17) = false := by simp; omega
  have n18 : (op == 18) = false := by simp; omega
  have n19 : (op == 19) = false := by simp; omega
  have n20 : (op == 20) = false := by simp; omega
  have n21 : (op == 21) = false := by simp; omega
  have n22 : (op == 22) = false := by simp; omega
  clear ha hb hw ho h0
  go_enter Tryd.func40, Tryd.ntmps40
  go_wp2_with (first | ((with_reducible refine (Wd.out _).mono ?_); rintro e w1 ⟨rfl, rfl⟩) | ((with_reducible refine (Fa.out _).mono ?_); rintro e w1 ⟨rfl, rfl⟩) | ((with_reducible refine (Fb.out _).mono ?_); rintro e w1 ⟨rfl, rfl⟩))
  refine bodyPost_ret (v := .tuple #[.bool false, .int .i64 2]) (by simp [results, Tryd.results40, go_sem]) rfl ?_
  exact ⟨rfl, rfl⟩

set_option maxRecDepth 100000 in
set_option maxHeartbeats 1000000 in
theorem rthan_bad (op w : Int) (a b : Nat) (h : (okW w a && okW w b) = false) (W : World) :
    Calls Tryd.prog 40 #[.int .u8 op, .int .i64 w, .int .u64 (a : Int), .int .u64 (b : Int)] W fun e W' => e = .returned (pairB (false, 2)) ∧ W' = W := by
  rw [okW_parts, okW_parts] at h
  have Wd := rWidth_calls w
  have Fa := rFits_calls w a
  have Fb := rFits_calls w b
  generalize wdI w = x at *
  generalize ftI w a = y at *
  generalize ftI w b = z at *
  have Wd := hide Wd
  have Fa := hide Fa
  have Fb := hide Fb
  cases x <;> cases y <;> cases z <;> first | (exfalso; revert h; decide) | clear h
  all_goals
    go_enter Tryd.func40, Tryd.ntmps40
    go_wp2_with (first | ((with_reducible refine (Wd.out _).mono ?_); rintro e w1 ⟨rfl, rfl⟩) | ((with_reducible refine (Fa.out _).mono ?_); rintro e w1 ⟨rfl, rfl⟩) | ((with_reducible refine (Fb.out _).mono ?_); rintro e w1 ⟨rfl, rfl⟩))
    refine bodyPost_ret (v := .tuple #[.bool false, .int .i64 2]) (by simp [results, Tryd.results40, go_sem]) rfl ?_
    exact ⟨rfl, rfl⟩

theorem RThan_calls {w a b : Nat} (hw : IsW w) (ha : a < 2 ^ w) (hb : b < 2 ^ w) (op : Nat) (W : World) :
    Calls Tryd.prog 40 #[.int .u8 (op : Int), .int .i64 (w : Int), .int .u64 (a : Int), .int .u64 (b : Int)] W fun e W' => e = .returned (pairB (than op w a b)) ∧ W' = W := by
  by_cases hk : op < 17 ∨ 22 < op
  · exact rthan_else hw (op : Int) ha hb (by omega) (by omega) W
  · rcases (show op = 17 ∨ op = 18 ∨ op = 19 ∨ op = 20 ∨ op = 21 ∨ op = 22 by omega) with rfl | rfl | rfl | rfl | rfl | rfl
    · exact rthan_17 hw ha hb W
    · exact rthan_18 hw ha hb W
    · exact rthan_19 hw ha hb W
    · exact rthan_20 hw ha hb W
    · exact rthan_21 hw ha hb W
    · exact rthan_22 hw ha hb W

end Go.Proofs.YtpeckiaimellmaaDoor.F
