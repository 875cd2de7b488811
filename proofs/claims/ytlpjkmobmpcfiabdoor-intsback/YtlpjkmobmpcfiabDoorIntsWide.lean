/-
  Extend, Narrow, and the document's (genthan.py wrote it).
-/
import Derived.Test.YtlpjkmobmpcfiabDoorIntsROne
set_option linter.unusedVariables false
set_option linter.unusedSimpArgs false
namespace Go.Proofs.YtlpjkmobmpcfiabDoor
open Go.RowKit Ints

def extV (f t : Nat) (s : Bool) (a : Int) : Int := if s then cutI t (wo f a) else a
def narV (f t : Nat) (s : Bool) (a : Int) : Int := if s then cutI t (min (max (wo f a) (lo t)) (hi t)) else min (max (wo f a) 0) (mo t)

set_option maxRecDepth 100000 in
set_option maxHeartbeats 2000000 in
theorem ext_true {f t : Nat} (hf : IsW f) (ht : IsW t) (a : Int) (ha : Of f a) (c : f ≤ t) (W : World) (hT : Tabs W) :
    Calls Tryd.prog 13 #[.int .i64 (f : Int), .int .i64 (t : Int), .bool true, .int .u64 a] W fun e W' => e = .returned (pairV (extV f t true a, 0)) ∧ Below W.heap.size W W' := by
  have F := fit1 f a W hT
  rw [ok1_of hf ha] at F
  have F := hide F
  have B := hide (below_two W (.cells #[.int .u64 a] 22))
  have hT' := hT.later (below_two W (.cells #[.int .u64 a] 22))
  have FT := fit0 t _ hT'
  rw [isW_of ht] at FT
  have FT := hide FT
  have D : decide (t < f) = false := by simp; omega
  have D2 : decide (f ≤ t) = true := by simp; omega
  have CA := hide (worth_calls hf a ha)
  have CC := hide (@cutw_calls t ht)
  clear ha hT hT'
  go_enter Tryd.func13, Tryd.ntmps13
  go_wp2_with (first | (with_reducible refine F.out.mono ?_; rintro e w1 ⟨rfl, rfl⟩) | (with_reducible refine FT.out.mono ?_; rintro e w1 ⟨rfl, rfl⟩) | (with_reducible refine (CA.out _).mono ?_; rintro e w1 ⟨rfl, rfl⟩) | (with_reducible refine (CC.out _ _).mono ?_; rintro e w1 ⟨rfl, rfl⟩))
  refine bodyPost_ret (v := .tuple #[.int .u64 (cutI t (wo f a)), .int .i64 0]) (by simp [results, Tryd.results13, go_sem]) rfl ?_
  exact ⟨rfl, B.out⟩

set_option maxRecDepth 100000 in
set_option maxHeartbeats 2000000 in
theorem ext_false {f t : Nat} (hf : IsW f) (ht : IsW t) (a : Int) (ha : Of f a) (c : f ≤ t) (W : World) (hT : Tabs W) :
    Calls Tryd.prog 13 #[.int .i64 (f : Int), .int .i64 (t : Int), .bool false, .int .u64 a] W fun e W' => e = .returned (pairV (extV f t false a, 0)) ∧ Below W.heap.size W W' := by
  have F := fit1 f a W hT
  rw [ok1_of hf ha] at F
  have F := hide F
  have B := hide (below_two W (.cells #[.int .u64 a] 22))
  have hT' := hT.later (below_two W (.cells #[.int .u64 a] 22))
  have FT := fit0 t _ hT'
  rw [isW_of ht] at FT
  have FT := hide FT
  have D : decide (t < f) = false := by simp; omega
  have D2 : decide (f ≤ t) = true := by simp; omega
  clear ha hT hT'
  go_enter Tryd.func13, Tryd.ntmps13
  go_wp2_with (first | (with_reducible refine F.out.mono ?_; rintro e w1 ⟨rfl, rfl⟩) | (with_reducible refine FT.out.mono ?_; rintro e w1 ⟨rfl, rfl⟩))
  refine bodyPost_ret (v := .tuple #[.int .u64 a, .int .i64 0]) (by simp [results, Tryd.results13, go_sem]) rfl ?_
  exact ⟨rfl, B.out⟩

set_option maxRecDepth 100000 in
set_option maxHeartbeats 2000000 in
theorem ext_order {f t : Nat} (hf : IsW f) (ht : IsW t) (a : Int) (ha : Of f a) (c : t < f) (s : Bool) (W : World) (hT : Tabs W) :
    Calls Tryd.prog 13 #[.int .i64 (f : Int), .int .i64 (t : Int), .bool s, .int .u64 a] W fun e W' => e = .returned (pairV (0, 2)) ∧ Below W.heap.size W W' := by
  have F := fit1 f a W hT
  rw [ok1_of hf ha] at F
  have F := hide F
  have B := hide (below_two W (.cells #[.int .u64 a] 22))
  have hT' := hT.later (below_two W (.cells #[.int .u64 a] 22))
  have FT := fit0 t _ hT'
  rw [isW_of ht] at FT
  have FT := hide FT
  have D : decide (t < f) = true := by simp; omega
  have D2 : decide (f ≤ t) = false := by simp; omega
  clear ha hT hT'
  go_enter Tryd.func13, Tryd.ntmps13
  go_wp2_with (first | (with_reducible refine F.out.mono ?_; rintro e w1 ⟨rfl, rfl⟩) | (with_reducible refine FT.out.mono ?_; rintro e w1 ⟨rfl, rfl⟩))
  refine bodyPost_ret (v := .tuple #[.int .u64 0, .int .i64 2]) (by simp [results, Tryd.results13, go_sem]) rfl ?_
  exact ⟨rfl, B.out⟩

set_option maxRecDepth 100000 in
set_option maxHeartbeats 2000000 in
theorem ext_bad (f t : Int) (s : Bool) (a : Int) (h : ok1 f a = false ∨ (ok1 f a = true ∧ isW t = false)) (W : World) (hT : Tabs W) :
    Calls Tryd.prog 13 #[.int .i64 f, .int .i64 t, .bool s, .int .u64 a] W fun e W' => e = .returned (pairV (0, 2)) ∧ Below W.heap.size W W' := by
  have F := fit1 f a W hT
  have B := hide (below_two W (.cells #[.int .u64 a] 22))
  have hT' := hT.later (below_two W (.cells #[.int .u64 a] 22))
  rcases h with h | ⟨h, h2⟩
  · rw [h] at F
    have F := hide F
    clear hT hT' h
    go_enter Tryd.func13, Tryd.ntmps13
    go_wp2_with (first | (with_reducible refine F.out.mono ?_; rintro e w1 ⟨rfl, rfl⟩))
    refine bodyPost_ret (v := .tuple #[.int .u64 0, .int .i64 2]) (by simp [results, Tryd.results13, go_sem]) rfl ?_
    exact ⟨rfl, B.out⟩
  · have FT := fit0 t _ hT'
    rw [h] at F
    rw [h2] at FT
    have F := hide F
    have FT := hide FT
    clear hT hT' h h2
    go_enter Tryd.func13, Tryd.ntmps13
    go_wp2_with (first | (with_reducible refine F.out.mono ?_; rintro e w1 ⟨rfl, rfl⟩) | (with_reducible refine FT.out.mono ?_; rintro e w1 ⟨rfl, rfl⟩))
    refine bodyPost_ret (v := .tuple #[.int .u64 0, .int .i64 2]) (by simp [results, Tryd.results13, go_sem]) rfl ?_
    exact ⟨rfl, B.out⟩

/-- The answer, and the error's number. -/
def ext (f t : Int) (s : Bool) (a : Int) : Int × Int := if ok1 f a = true ∧ isW t = true ∧ f ≤ t then (extV f.toNat t.toNat s a, 0) else (0, 2)

theorem Extend_calls (f t : Int) (s : Bool) (a : Int) (h0 : 0 ≤ a) (W : World) (hT : Tabs W) :
    Calls Tryd.prog 13 #[.int .i64 f, .int .i64 t, .bool s, .int .u64 a] W fun e W' => e = .returned (pairV (ext f t s a)) ∧ Below W.heap.size W W' := by
  unfold ext
  cases ho : ok1 f a with
  | false => rw [if_neg (by simp)]; exact ext_bad f t s a (.inl ho) W hT
  | true =>
    cases hw : isW t with
    | false => rw [if_neg (by simp)]; exact ext_bad f t s a (.inr ⟨ho, hw⟩) W hT
    | true =>
      obtain ⟨n, rfl, hn, ha⟩ := of_ok1 h0 ho
      obtain ⟨m, rfl, hm⟩ := (isW_iff t).1 hw
      by_cases c : (n : Int) ≤ (m : Int)
      · rw [if_pos ⟨rfl, rfl, c⟩]
        cases s
        · exact ext_false hn hm a ha (by omega) W hT
        · exact ext_true hn hm a ha (by omega) W hT
      · rw [if_neg (fun h => c h.2.2)]
        exact ext_order hn hm a ha (by omega) s W hT

set_option maxRecDepth 100000 in
set_option maxHeartbeats 2000000 in
theorem nar_true {f t : Nat} (hf : IsW f) (ht : IsW t) (a : Int) (ha : Of f a) (c : t < f) (W : World) (hT : Tabs W) :
    Calls Tryd.prog 14 #[.int .i64 (f : Int), .int .i64 (t : Int), .bool true, .int .u64 a] W fun e W' => e = .returned (pairV (narV f t true a, 0)) ∧ Below W.heap.size W W' := by
  have F := fit1 f a W hT
  rw [ok1_of hf ha] at F
  have F := hide F
  have B := hide (below_two W (.cells #[.int .u64 a] 22))
  have hT' := hT.later (below_two W (.cells #[.int .u64 a] 22))
  have FT := fit0 t _ hT'
  rw [isW_of ht] at FT
  have FT := hide FT
  have D : decide (t < f) = true := by simp; omega
  have D2 : decide (f ≤ t) = false := by simp; omega
  have CA := hide (worth_calls hf a ha)
  have CC := hide (@cutw_calls t ht)
  have CL := hide (@least_calls t ht)
  have CG := hide (@greatest_calls t ht)
  have CH := hide hold_calls
  clear ha hT hT'
  go_enter Tryd.func14, Tryd.ntmps14
  go_wp2_with (first | (with_reducible refine F.out.mono ?_; rintro e w1 ⟨rfl, rfl⟩) | (with_reducible refine FT.out.mono ?_; rintro e w1 ⟨rfl, rfl⟩) | (with_reducible refine (CA.out _).mono ?_; rintro e w1 ⟨rfl, rfl⟩) | (with_reducible refine (CL.out _).mono ?_; rintro e w1 ⟨rfl, rfl⟩) | (with_reducible refine (CG.out _).mono ?_; rintro e w1 ⟨rfl, rfl⟩) | (with_reducible refine (CH.out _ _ _ _).mono ?_; rintro e w1 ⟨rfl, rfl⟩) | (with_reducible refine (CC.out _ _).mono ?_; rintro e w1 ⟨rfl, rfl⟩))
  refine bodyPost_ret (v := .tuple #[.int .u64 (cutI t (holdI (wo f a) (lo t) (hi t))), .int .i64 0]) (by simp [results, Tryd.results14, go_sem]) rfl ?_
  exact ⟨rfl, B.out⟩

set_option maxRecDepth 100000 in
set_option maxHeartbeats 2000000 in
theorem nar_false {f t : Nat} (hf : IsW f) (ht : IsW t) (a : Int) (ha : Of f a) (c : t < f) (W : World) (hT : Tabs W) :
    Calls Tryd.prog 14 #[.int .i64 (f : Int), .int .i64 (t : Int), .bool false, .int .u64 a] W fun e W' => e = .returned (pairV (narV f t false a, 0)) ∧ Below W.heap.size W W' := by
  have F := fit1 f a W hT
  rw [ok1_of hf ha] at F
  have F := hide F
  have B := hide (below_two W (.cells #[.int .u64 a] 22))
  have hT' := hT.later (below_two W (.cells #[.int .u64 a] 22))
  have FT := fit0 t _ hT'
  rw [isW_of ht] at FT
  have FT := hide FT
  have D : decide (t < f) = true := by simp; omega
  have D2 : decide (f ≤ t) = false := by simp; omega
  have CA := hide (worth_calls hf a ha)
  have CM := hide (@most_calls t ht)
  have CH := hide hold_calls
  have mt : 0 ≤ mo t ∧ mo t < 9223372036854775808 := by
    rcases hf with rfl | rfl | rfl | rfl <;> rcases ht with rfl | rfl | rfl | rfl <;> first | omega | decide
  have E1 : wrap64 (mo t) = mo t := by unfold wrap64; omega
  have E2 : IntKind.u64.wrap (holdI (wo f a) 0 (mo t)) = narV f t false a := by
    unfold narV holdI
    rw [if_neg (by decide), IntKind.wrap_u64]
    omega
  clear mt
  clear ha hT hT'
  go_enter Tryd.func14, Tryd.ntmps14
  go_wp2_with (first | (with_reducible refine F.out.mono ?_; rintro e w1 ⟨rfl, rfl⟩) | (with_reducible refine FT.out.mono ?_; rintro e w1 ⟨rfl, rfl⟩) | (with_reducible refine (CA.out _).mono ?_; rintro e w1 ⟨rfl, rfl⟩) | (with_reducible refine (CM.out _).mono ?_; rintro e w1 ⟨rfl, rfl⟩) | (with_reducible refine (CH.out _ _ _ _).mono ?_; rintro e w1 ⟨rfl, rfl⟩))
  refine bodyPost_ret (v := .tuple #[.int .u64 (narV f t false a), .int .i64 0]) (by simp [results, Tryd.results14, go_sem]) rfl ?_
  exact ⟨rfl, B.out⟩

set_option maxRecDepth 100000 in
set_option maxHeartbeats 2000000 in
theorem nar_order {f t : Nat} (hf : IsW f) (ht : IsW t) (a : Int) (ha : Of f a) (c : f ≤ t) (s : Bool) (W : World) (hT : Tabs W) :
    Calls Tryd.prog 14 #[.int .i64 (f : Int), .int .i64 (t : Int), .bool s, .int .u64 a] W fun e W' => e = .returned (pairV (0, 2)) ∧ Below W.heap.size W W' := by
  have F := fit1 f a W hT
  rw [ok1_of hf ha] at F
  have F := hide F
  have B := hide (below_two W (.cells #[.int .u64 a] 22))
  have hT' := hT.later (below_two W (.cells #[.int .u64 a] 22))
  have FT := fit0 t _ hT'
  rw [isW_of ht] at FT
  have FT := hide FT
  have D : decide (t < f) = false := by simp; omega
  have D2 : decide (f ≤ t) = true := by simp; omega
  clear ha hT hT'
  go_enter Tryd.func14, Tryd.ntmps14
  go_wp2_with (first | (with_reducible refine F.out.mono ?_; rintro e w1 ⟨rfl, rfl⟩) | (with_reducible refine FT.out.mono ?_; rintro e w1 ⟨rfl, rfl⟩))
  refine bodyPost_ret (v := .tuple #[.int .u64 0, .int .i64 2]) (by simp [results, Tryd.results14, go_sem]) rfl ?_
  exact ⟨rfl, B.out⟩

set_option maxRecDepth 100000 in
set_option maxHeartbeats 2000000 in
theorem nar_bad (f t : Int) (s : Bool) (a : Int) (h : ok1 f a = false ∨ (ok1 f a = true ∧ isW t = false)) (W : World) (hT : Tabs W) :
    Calls Tryd.prog 14 #[.int .i64 f, .int .i64 t, .bool s, .int .u64 a] W fun e W' => e = .returned (pairV (0, 2)) ∧ Below W.heap.size W W' := by
  have F := fit1 f a W hT
  have B := hide (below_two W (.cells #[.int .u64 a] 22))
  have hT' := hT.later (below_two W (.cells #[.int .u64 a] 22))
  rcases h with h | ⟨h, h2⟩
  · rw [h] at F
    have F := hide F
    clear hT hT' h
    go_enter Tryd.func14, Tryd.ntmps14
    go_wp2_with (first | (with_reducible refine F.out.mono ?_; rintro e w1 ⟨rfl, rfl⟩))
    refine bodyPost_ret (v := .tuple #[.int .u64 0, .int .i64 2]) (by simp [results, Tryd.results14, go_sem]) rfl ?_
    exact ⟨rfl, B.out⟩
  · have FT := fit0 t _ hT'
    rw [h] at F
    rw [h2] at FT
    have F := hide F
    have FT := hide FT
    clear hT hT' h h2
    go_enter Tryd.func14, Tryd.ntmps14
    go_wp2_with (first | (with_reducible refine F.out.mono ?_; rintro e w1 ⟨rfl, rfl⟩) | (with_reducible refine FT.out.mono ?_; rintro e w1 ⟨rfl, rfl⟩))
    refine bodyPost_ret (v := .tuple #[.int .u64 0, .int .i64 2]) (by simp [results, Tryd.results14, go_sem]) rfl ?_
    exact ⟨rfl, B.out⟩

/-- The answer, and the error's number. -/
def nar (f t : Int) (s : Bool) (a : Int) : Int × Int := if ok1 f a = true ∧ isW t = true ∧ t < f then (narV f.toNat t.toNat s a, 0) else (0, 2)

theorem Narrow_calls (f t : Int) (s : Bool) (a : Int) (h0 : 0 ≤ a) (W : World) (hT : Tabs W) :
    Calls Tryd.prog 14 #[.int .i64 f, .int .i64 t, .bool s, .int .u64 a] W fun e W' => e = .returned (pairV (nar f t s a)) ∧ Below W.heap.size W W' := by
  unfold nar
  cases ho : ok1 f a with
  | false => rw [if_neg (by simp)]; exact nar_bad f t s a (.inl ho) W hT
  | true =>
    cases hw : isW t with
    | false => rw [if_neg (by simp)]; exact nar_bad f t s a (.inr ⟨ho, hw⟩) W hT
    | true =>
      obtain ⟨n, rfl, hn, ha⟩ := of_ok1 h0 ho
      obtain ⟨m, rfl, hm⟩ := (isW_iff t).1 hw
      by_cases c : (m : Int) < (n : Int)
      · rw [if_pos ⟨rfl, rfl, c⟩]
        cases s
        · exact nar_false hn hm a ha (by omega) W hT
        · exact nar_true hn hm a ha (by omega) W hT
      · rw [if_neg (fun h => c h.2.2)]
        exact nar_order hn hm a ha (by omega) s W hT

end Go.Proofs.YtlpjkmobmpcfiabDoor
