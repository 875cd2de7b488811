/-
  convs.hold, Cut, CutHeld.
-/
import Derived.Test.YtpeckiaimellmaaDoorFConvSmallP
set_option linter.unusedVariables false
set_option linter.unusedSimpArgs false
namespace Go.Proofs.YtpeckiaimellmaaDoor.F.C
open Go.RowKit Flo

theorem fin_of_end {to y : Nat} {sg : Bool} (hw : IsW to) (hn : na 64 y = false) (h : trI y < endI to sg) (h' : lowI to sg ≤ trI y) : rung Ieee.double y < Ieee.double.infRung := by
  have h1 : rung Ieee.double y ≤ Ieee.double.infRung := na_false hn
  rcases Nat.lt_or_ge (rung Ieee.double y) Ieee.double.infRung with c | c
  · exact c
  · exfalso
    have ht := tr_inf (x := y) (by omega)
    unfold trI sgn at h h'
    have e1 : endI to sg ≤ 18446744073709551616 := by rcases hw with rfl | rfl <;> cases sg <;> decide
    have e2 : -18446744073709551616 ≤ lowI to sg := by rcases hw with rfl | rfl <;> cases sg <;> decide
    split at h
    · rename_i c; rw [if_pos c] at h'; omega
    · omega

theorem low_whole {to : Nat} (hw : IsW to) (sg : Bool) : rung Ieee.double (lowW to sg) < Ieee.double.infRung ∧ lowI to sg ≤ trI (lowW to sg) ∧ trI (lowW to sg) < endI to sg := by
  have e := (low_is hw sg).2
  refine ⟨?_, by omega, ?_⟩
  · rcases hw with rfl | rfl <;> cases sg <;> decide +kernel
  · rw [e]; rcases hw with rfl | rfl <;> cases sg <;> decide

theorem most_least {to : Nat} (hw : IsW to) (sg : Bool) : bits .xor .u64 (mostN to : Int) (wholeN to (lowI to sg) : Int) = (((endI to sg - 1).toNat : Nat) : Int) := by
  rcases hw with rfl | rfl <;> cases sg <;> decide +kernel

theorem cmpI_lt {a b : Int} : (some (compare a b) == some Ordering.lt) = decide (a < b) := cmp_lt_iff
theorem cmpI_ge {a b : Int} : (some (compare a b) == some Ordering.gt || some (compare a b) == some Ordering.eq) = decide (b ≤ a) := by
  rw [cmp_gt_iff, cmp_eq_iff]
  by_cases h : b ≤ a
  · rcases (show b < a ∨ a = b by omega) with c | c
    · simp [c, h]
    · subst c; simp
  · rw [decide_eq_false h, decide_eq_false (by omega), decide_eq_false (by omega)]; rfl

def HoldPost (to : Nat) (sg : Bool) (x : Nat) (W : World) (e : Ending) (W' : World) : Prop :=
  e = .returned (.tuple #[.int .u64 ((holdN to sg x).1 : Int), .bool (holdN to sg x).2]) ∧ Below W.heap.size W W'

set_option maxHeartbeats 1000000 in
theorem hold_calls {to x : Nat} (hw : IsW to) (sg : Bool) (hx : x < 2 ^ 64) (W : World) :
    Calls Tryd.prog 87 #[.int .i64 (to : Int), .bool sg, .float .f64 x] W (HoldPost to sg x W) := by
  have N := hide (IsNaN_calls hx)
  cases hn : na 64 x with
  | true =>
    rw [hn] at N
    have E : holdN to sg x = (0, false) := by unfold holdN; rw [hn]; rfl
    have E := hide E
    clear hn
    go_enter Tryd.func87, Tryd.ntmps87
    go_wp2_with ((with_reducible refine (N.out _).mono ?_); rintro e w1 ⟨rfl, rfl⟩)
    refine bodyPost_ret (v := .tuple #[.int .u64 0, .bool false]) (by simp [results, Tryd.results87, go_sem]) rfl ?_
    refine ⟨?_, Below.refl _ _⟩
    rw [E.out]
    rfl
  | false =>
    rw [hn] at N
    have T := hide (Trunc_calls hx)
    have B := hide (bounds_calls hw sg)
    obtain ⟨l1, l2, l3⟩ := low_whole hw sg
    have L := hide (whole_calls hw sg l1 l2 l3)
    rw [(low_is hw sg).2] at L
    have M := hide (most_calls hw)
    have MX := most_least hw sg
    have O := hide (fun (y : Nat) (h : Wh y) => (show FloatKind.f64.format.order y (lowW to sg) = _ from (order_whole h (low_is hw sg).1)))
    have O' := hide (fun (y : Nat) (h : Wh y) => (show FloatKind.f64.format.order y (endW to sg) = _ from (order_whole h (end_is hw sg).1)))
    rw [(low_is hw sg).2] at O
    rw [(end_is hw sg).2] at O'
    have Y := hide (fun (y : Nat) (h : Whl .zero x y) => tr_round hn h)
    have C := hide (fun (y : Nat) (hr) (h1) (h2) => whole_calls (x := y) hw sg hr h1 h2)
    have FE := hide (fun (y : Nat) (h) (h1) (h2) => fin_of_end (y := y) (sg := sg) hw h h1 h2)
    have E : holdN to sg x = holdV to sg (trI x) := by unfold holdN; rw [hn]; rfl
    have E := hide E
    clear hn l1 l2 l3
    generalize lowW to sg = lw at *
    generalize endW to sg = ew at *
    by_cases c1 : trI x < lowI to sg
    · have E2 := hide (show holdV to sg (trI x) = (wholeN to (lowI to sg), false) by unfold holdV; rw [if_pos c1]; rfl)
      have d1 := hide c1
      clear c1
      generalize wholeN to (lowI to sg) = ls at *
      go_enter Tryd.func87, Tryd.ntmps87
      go_wp2_with (first | ((with_reducible refine (N.out _).mono ?_); rintro e w1 ⟨rfl, rfl⟩) | ((with_reducible refine (T.out _).mono ?_); rintro e w1 ⟨y, rfl, hy, hb⟩; have HY := hide (Y.out y hy); have HB := hide hb; clear hb hy; have F1 : (FloatKind.f64.format.order y lw == some .lt) = true := by { rw [O.out y HY.out.1, cmpI_lt, HY.out.2]; exact decide_eq_true (by have := d1.out; omega) }) | ((with_reducible refine (B.out _).mono ?_); rintro e w1 ⟨rfl, rfl⟩) | ((with_reducible refine (L.out _).mono ?_); rintro e w1 ⟨rfl, rfl⟩))
      refine bodyPost_ret (v := .tuple #[.int .u64 (ls : Int), .bool false]) (by simp [results, Tryd.results87, go_sem]) rfl ?_
      refine ⟨?_, HB.out⟩
      rw [E.out, E2.out]
    · by_cases c2 : endI to sg ≤ trI x
      · have E2 := hide (show holdV to sg (trI x) = ((endI to sg - 1).toNat, false) by unfold holdV; rw [if_neg c1, if_pos c2])
        have d1 := hide c1
        have d2 := hide c2
        clear c1 c2
        generalize wholeN to (lowI to sg) = ls at *
        generalize (endI to sg - 1).toNat = gr at *
        generalize mostN to = mm at *
        go_enter Tryd.func87, Tryd.ntmps87
        go_wp2_with (first | ((with_reducible refine (N.out _).mono ?_); rintro e w1 ⟨rfl, rfl⟩) | ((with_reducible refine (T.out _).mono ?_); rintro e w1 ⟨y, rfl, hy, hb⟩; have HY := hide (Y.out y hy); have HB := hide hb; clear hb hy; have F1 : (FloatKind.f64.format.order y lw == some .lt) = false := by { rw [O.out y HY.out.1, cmpI_lt, HY.out.2]; exact decide_eq_false (by have := d1.out; omega) }; have F2 : (FloatKind.f64.format.order y ew == some .gt || FloatKind.f64.format.order y ew == some .eq) = true := by { rw [O'.out y HY.out.1, cmpI_ge, HY.out.2]; exact decide_eq_true (by have := d2.out; omega) }) | ((with_reducible refine (B.out _).mono ?_); rintro e w1 ⟨rfl, rfl⟩) | ((with_reducible refine (L.out _).mono ?_); rintro e w1 ⟨rfl, rfl⟩) | ((with_reducible refine (M.out _).mono ?_); rintro e w1 ⟨rfl, rfl⟩))
        refine bodyPost_ret (v := .tuple #[.int .u64 (gr : Int), .bool false]) (by simp [results, Tryd.results87, go_sem]) rfl ?_
        refine ⟨?_, HB.out⟩
        rw [E.out, E2.out]
      · have E2 := hide (show holdV to sg (trI x) = (wholeN to (trI x), true) by unfold holdV; rw [if_neg c1, if_neg c2]; rfl)
        have d1 := hide c1
        have d2 := hide c2
        clear c1 c2
        generalize wholeN to (lowI to sg) = ls at *
        go_enter Tryd.func87, Tryd.ntmps87
        go_wp2_with (first | ((with_reducible refine (N.out _).mono ?_); rintro e w1 ⟨rfl, rfl⟩) | ((with_reducible refine (T.out _).mono ?_); rintro e w1 ⟨y, rfl, hy, hb⟩; have HY := hide (Y.out y hy); have HB := hide hb; clear hb hy; have F1 : (FloatKind.f64.format.order y lw == some .lt) = false := by { rw [O.out y HY.out.1, cmpI_lt, HY.out.2]; exact decide_eq_false (by have := d1.out; omega) }; have F2 : (FloatKind.f64.format.order y ew == some .gt || FloatKind.f64.format.order y ew == some .eq) = false := by { rw [O'.out y HY.out.1, cmpI_ge, HY.out.2]; exact decide_eq_false (by have := d2.out; omega) }; have C := hide (C.out y (FE.out y HY.out.1.num (by rw [HY.out.2]; have := d2.out; omega) (by rw [HY.out.2]; have := d1.out; omega)) (by rw [HY.out.2]; have := d1.out; omega) (by rw [HY.out.2]; have := d2.out; omega)); rw [HY.out.2] at C) | ((with_reducible refine (B.out _).mono ?_); rintro e w1 ⟨rfl, rfl⟩) | ((with_reducible refine (L.out _).mono ?_); rintro e w1 ⟨rfl, rfl⟩) | ((with_reducible refine (C.out _).mono ?_); rintro e w1 ⟨rfl, rfl⟩))
        refine bodyPost_ret (v := .tuple #[.int .u64 (wholeN to (trI x) : Int), .bool true]) (by simp [results, Tryd.results87, go_sem]) rfl ?_
        refine ⟨?_, HB.out⟩
        rw [E.out, E2.out]

theorem hold_from {to x : Nat} (hw : IsW to) (sg : Bool) (hx : x < 2 ^ 64) {r1 : Nat} {r2 : Bool} (hr : holdN to sg x = (r1, r2)) (W : World) :
    Calls Tryd.prog 87 #[.int .i64 (to : Int), .bool sg, .float .f64 x] W fun e W' => e = .returned (.tuple #[.int .u64 (r1 : Int), .bool r2]) ∧ Below W.heap.size W W' := by
  refine (hold_calls hw sg hx W).mono ?_
  rintro e W' ⟨rfl, hb⟩
  rw [hr]
  exact ⟨rfl, hb⟩
end Go.Proofs.YtpeckiaimellmaaDoor.F.C
