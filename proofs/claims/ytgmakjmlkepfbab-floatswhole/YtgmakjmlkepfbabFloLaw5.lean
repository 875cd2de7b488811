/-
  FloatsWhole (genflo.py wrote it).
-/
import Derived.Test.YtgmakjmlkepfbabFloLaw4
import Derived.Deep.RegionWith
import Derived.WalkSpells
import Derived.Deep.CutBlock
import Derived.Deep.DeepCutAuto
import Derived.Deep.DeepMust
set_option linter.unusedVariables false
set_option linter.unusedSimpArgs false
namespace Go.Proofs.Ytgmakjmlkepfbab
open Go.RowKit Flo

theorem up_true (f : Ieee.Format) (r : Nat) : roundF f .up true r = (wholeF f r).1 ∧ roundF f .down false r = (wholeF f r).1 ∧ (∀ s, roundF f .zero s r = (wholeF f r).1) ∧ roundF f .down true r = roundF f .up false r := by
  refine ⟨rfl, rfl, fun s => rfl, rfl⟩
theorem even_goes {f : Ieee.Format} (g : Flo.Good f) {s : Bool} {r : Nat} (h : goesF f .even s r = true) : roundF f .even s r = roundF f .up false r := by
  have hu := unit_pos f
  have hx : (wholeF f r).2.1 = false := by
    rw [wholeF_exact g]
    by_cases c : mval f r % unit f = 0
    · exfalso
      unfold goesF at h
      simp only [wholeF_more g, wholeF_half g, c] at h
      simp at h
      omega
    · simp [c]
  unfold roundF
  rw [h]
  have : goesF f .up false r = true := by unfold goesF; rw [hx]; rfl
  rw [this]
theorem even_stays {f : Ieee.Format} {s : Bool} {r : Nat} (h : goesF f .even s r = false) : roundF f .even s r = (wholeF f r).1 := by
  unfold roundF; rw [h]; rfl
theorem same_self {w a : Nat} (h : na w a = false) : sameN w a a = true := by unfold sameN; rw [h]; simp
theorem rnd_na {w a : Nat} (way : Ieee.Toward) (h : na w a = false) : na w (rndN way w a) = false := by
  rw [rndN_num way h]; exact na_sum (round_rung_le way _ h)
theorem rnd_again {w a : Nat} (way way' : Ieee.Toward) (h : na w a = false) : rndN way' w (rndN way w a) = rndN way w a := by
  have h1 := rnd_na way h
  rw [rndN_num way' h1, rndN_num way h]
  have hl := round_lt_sign way (neg (fm w) a) h
  have es : signOf w (signOf w a + roundF (fm w) way (neg (fm w) a) (rung (fm w) a)) = signOf w a := by
    unfold signOf
    have := negSign (w := w) a hl
    unfold signOf at this
    rw [this]
  rw [rungSign a hl, es, round_round (good w)]
theorem rnd_place {w a : Nat} (way : Ieee.Toward) (h : na w a = false) : place (fm w) (rndN way w a) = sgn (neg (fm w) a) (roundF (fm w) way (neg (fm w) a) (rung (fm w) a)) := by
  have hl := round_lt_sign way (neg (fm w) a) h
  rw [rndN_num way h]
  unfold place
  rw [rungSign a hl, negSign a hl]
theorem down_le {w a : Nat} (h : na w a = false) : (lessN w (rndN .down w a) a || sameN w (rndN .down w a) a) = true := by
  rw [le_place (rnd_na _ h) h, rnd_place _ h]
  apply decide_eq_true
  have h1 := whole_le (good w) (rung (fm w) a)
  have h2 := le_away (good w) (rung (fm w) a)
  unfold place sgn
  cases neg (fm w) a
  · rw [(up_true _ _).2.1]; simp; omega
  · rw [(up_true _ _).2.2.2]; simp; omega
theorem up_ge {w a : Nat} (h : na w a = false) : (lessN w a (rndN .up w a) || sameN w (rndN .up w a) a) = true := by
  rw [ge_place (rnd_na _ h) h, rnd_place _ h]
  apply decide_eq_true
  have h1 := whole_le (good w) (rung (fm w) a)
  have h2 := le_away (good w) (rung (fm w) a)
  unfold place sgn
  cases neg (fm w) a
  · simp; omega
  · rw [(up_true _ _).1]; simp; omega
theorem in_either {w a : Nat} (h : na w a = false) : rndN .zero w a = rndN .up w a ∨ rndN .zero w a = rndN .down w a := by
  rw [rndN_num _ h, rndN_num _ h, rndN_num _ h]
  cases c : neg (fm w) a
  · right; rw [(up_true _ _).2.1, (up_true _ _).2.2.1]
  · left; rw [(up_true _ _).1, (up_true _ _).2.2.1]
theorem near_either {w a : Nat} (h : na w a = false) : rndN .even w a = rndN .up w a ∨ rndN .even w a = rndN .down w a := by
  rw [rndN_num _ h, rndN_num _ h, rndN_num _ h]
  cases c : neg (fm w) a
  · cases g : goesF (fm w) .even false (rung (fm w) a)
    · right; rw [even_stays g, (up_true _ _).2.1]
    · left; rw [even_goes (good w) g]
  · cases g : goesF (fm w) .even true (rung (fm w) a)
    · left; rw [even_stays g, (up_true _ _).1]
    · right; rw [even_goes (good w) g, (up_true _ _).2.2.2]
theorem cellK {W0 W : World} {v : Value} {t : TypeId} (h : Below (W0.alloc (.cells #[v] t)).heap.size (W0.alloc (.cells #[v] t)) W) : W.cell? ⟨W0.heap.size, 0, none⟩ = some v :=
  cell_later h (by simp)

set_option maxRecDepth 100000 in
set_option maxHeartbeats 1000000 in
theorem wsame_calls {W0 : World} {w x y : Nat} (hw : IsW w) (hx : x < 2 ^ w) (hy : y < 2 ^ w) {r : Bool} (hr : sameN w x y = r) (g : Nat) (W : World) (hB : Below W0.heap.size W0 W) (hc : W.cell? ⟨g, 0, none⟩ = some (.int .i64 (w : Int))) :
    Calls Try.prog 14 #[.int .u64 (x : Int), .int .u64 (y : Int), .pointer (some ⟨g, 0, none⟩)] W fun e W' => e = .returned (.bool r) ∧ Below W0.heap.size W0 W' := by
  have C := hide (@lthan_calls W0 w x y hw 17 (o := 17) rfl hx hy r 0 (congrArg (·, 0) hr))
  have HB := hide hB
  clear hw hx hy hr hB
  go_enter Try.func14, Try.ntmps14
  go_wp2_with ((with_reducible refine (C.out _ HB.out).mono ?_); rintro e w1 ⟨rfl, hb⟩; have HB := hide hb; clear hb)
  go_ret
  exact ⟨rfl, HB.out⟩

set_option maxRecDepth 100000 in
set_option maxHeartbeats 1000000 in
theorem whole_all {w A U D T N : Nat} (n a : Int) (hw : IsW w) (oa : A < 2 ^ w) (eU : one 13 w A = (U, 0)) (eD : one 14 w A = (D, 0)) (eT : one 15 w A = (T, 0)) (eN : one 16 w A = (N, 0)) (lU : U < 2 ^ w) (lD : D < 2 ^ w) (lT : T < 2 ^ w) (lN : N < 2 ^ w) (again : ∀ x, x = U ∨ x = D ∨ x = T ∨ x = N → one 13 w x = (x, 0) ∧ one 14 w x = (x, 0) ∧ one 15 w x = (x, 0) ∧ one 16 w x = (x, 0)) {nA b21 b22 s1 s2 s3 s4 : Bool} (hA : na w A = nA) (nU : na w U = nA) (nD : na w D = nA) (nT : na w T = nA) (nN : na w N = nA) (h21 : (lessN w D A || sameN w D A) = b21) (h22 : (lessN w A U || sameN w U A) = b22) (h1 : sameN w T U = s1) (h2 : sameN w T D = s2) (h3 : sameN w N U = s3) (h4 : sameN w N D = s4) (hend : nA = true ∨ (nA = false ∧ b21 = true ∧ b22 = true ∧ (s1 = true ∨ (s1 = false ∧ s2 = true)) ∧ (s3 = true ∨ (s3 = false ∧ s4 = true)))) (W : World)
    (CW : Hide (∀ W : World, Calls Try.prog 7 #[.int .u8 n] W fun e W' => e = .returned (.int .i64 (w : Int)) ∧ W' = W))
    (Oa : Hide (∀ W : World, Calls Try.prog 8 #[.int .i64 (w : Int), .int .u64 a] W fun e W' => e = .returned (.int .u64 (A : Int)) ∧ W' = W)) :
    Calls Try.prog 4 #[.int .u8 n, .int .u64 a] W fun e W' => e = .returned (.bool true) ∧ Below W.heap.size W W' := by
  have C1 := hide (@lone_calls (W.alloc (.cells #[.int .i64 (w : Int)] 3)) w A hw 13 (o := 13) rfl oa U 0 (eU))
  have C2 := hide (@lone_calls (W.alloc (.cells #[.int .i64 (w : Int)] 3)) w A hw 14 (o := 14) rfl oa D 0 (eD))
  have C3 := hide (@lone_calls (W.alloc (.cells #[.int .i64 (w : Int)] 3)) w A hw 15 (o := 15) rfl oa T 0 (eT))
  have C4 := hide (@lone_calls (W.alloc (.cells #[.int .i64 (w : Int)] 3)) w A hw 16 (o := 16) rfl oa N 0 (eN))
  have CU13 := hide (@lone_calls (W.alloc (.cells #[.int .i64 (w : Int)] 3)) w U hw 13 (o := 13) rfl lU U 0 ((again U (by simp)).1))
  have CU14 := hide (@lone_calls (W.alloc (.cells #[.int .i64 (w : Int)] 3)) w U hw 14 (o := 14) rfl lU U 0 ((again U (by simp)).2.1))
  have CU15 := hide (@lone_calls (W.alloc (.cells #[.int .i64 (w : Int)] 3)) w U hw 15 (o := 15) rfl lU U 0 ((again U (by simp)).2.2.1))
  have CU16 := hide (@lone_calls (W.alloc (.cells #[.int .i64 (w : Int)] 3)) w U hw 16 (o := 16) rfl lU U 0 ((again U (by simp)).2.2.2))
  have CD13 := hide (@lone_calls (W.alloc (.cells #[.int .i64 (w : Int)] 3)) w D hw 13 (o := 13) rfl lD D 0 ((again D (by simp)).1))
  have CD14 := hide (@lone_calls (W.alloc (.cells #[.int .i64 (w : Int)] 3)) w D hw 14 (o := 14) rfl lD D 0 ((again D (by simp)).2.1))
  have CD15 := hide (@lone_calls (W.alloc (.cells #[.int .i64 (w : Int)] 3)) w D hw 15 (o := 15) rfl lD D 0 ((again D (by simp)).2.2.1))
  have CD16 := hide (@lone_calls (W.alloc (.cells #[.int .i64 (w : Int)] 3)) w D hw 16 (o := 16) rfl lD D 0 ((again D (by simp)).2.2.2))
  have CT13 := hide (@lone_calls (W.alloc (.cells #[.int .i64 (w : Int)] 3)) w T hw 13 (o := 13) rfl lT T 0 ((again T (by simp)).1))
  have CT14 := hide (@lone_calls (W.alloc (.cells #[.int .i64 (w : Int)] 3)) w T hw 14 (o := 14) rfl lT T 0 ((again T (by simp)).2.1))
  have CT15 := hide (@lone_calls (W.alloc (.cells #[.int .i64 (w : Int)] 3)) w T hw 15 (o := 15) rfl lT T 0 ((again T (by simp)).2.2.1))
  have CT16 := hide (@lone_calls (W.alloc (.cells #[.int .i64 (w : Int)] 3)) w T hw 16 (o := 16) rfl lT T 0 ((again T (by simp)).2.2.2))
  have CN13 := hide (@lone_calls (W.alloc (.cells #[.int .i64 (w : Int)] 3)) w N hw 13 (o := 13) rfl lN N 0 ((again N (by simp)).1))
  have CN14 := hide (@lone_calls (W.alloc (.cells #[.int .i64 (w : Int)] 3)) w N hw 14 (o := 14) rfl lN N 0 ((again N (by simp)).2.1))
  have CN15 := hide (@lone_calls (W.alloc (.cells #[.int .i64 (w : Int)] 3)) w N hw 15 (o := 15) rfl lN N 0 ((again N (by simp)).2.2.1))
  have CN16 := hide (@lone_calls (W.alloc (.cells #[.int .i64 (w : Int)] 3)) w N hw 16 (o := 16) rfl lN N 0 ((again N (by simp)).2.2.2))
  have HB := hide (Below.refl (W.alloc (.cells #[.int .i64 (w : Int)] 3)).heap.size (W.alloc (.cells #[.int .i64 (w : Int)] 3)))
  have hc : (W.alloc (.cells #[.int .i64 (w : Int)] 3)).cell? ⟨W.heap.size, 0, none⟩ = some (.int .i64 (w : Int)) := by simp
  have HX := hide (below_one W (.cells #[.int .i64 (w : Int)] 3))
  have K := hide (@works_calls (W.alloc (.cells #[.int .i64 (w : Int)] 3)))
  have i0 : ∀ w : World, (Instr.index 32 (.agg #[.int .u64 (U : Int), .int .u64 (D : Int), .int .u64 (T : Int), .int .u64 (N : Int)]) (.int .i64 0)).run Try.prog w = .ok (.int .u64 (U : Int)) w := fun _ => by kernel_rfl
  have i1 : ∀ w : World, (Instr.index 32 (.agg #[.int .u64 (U : Int), .int .u64 (D : Int), .int .u64 (T : Int), .int .u64 (N : Int)]) (.int .i64 1)).run Try.prog w = .ok (.int .u64 (D : Int)) w := fun _ => by kernel_rfl
  have i2 : ∀ w : World, (Instr.index 32 (.agg #[.int .u64 (U : Int), .int .u64 (D : Int), .int .u64 (T : Int), .int .u64 (N : Int)]) (.int .i64 2)).run Try.prog w = .ok (.int .u64 (T : Int)) w := fun _ => by kernel_rfl
  have i3 : ∀ w : World, (Instr.index 32 (.agg #[.int .u64 (U : Int), .int .u64 (D : Int), .int .u64 (T : Int), .int .u64 (N : Int)]) (.int .i64 3)).run Try.prog w = .ok (.int .u64 (N : Int)) w := fun _ => by kernel_rfl
  have NA := hide (@lnone_calls (W.alloc (.cells #[.int .i64 (w : Int)] 3)) w A hw oa nA (hA))
  have NU := hide (@lnone_calls (W.alloc (.cells #[.int .i64 (w : Int)] 3)) w U hw lU nA (nU))
  have ND := hide (@lnone_calls (W.alloc (.cells #[.int .i64 (w : Int)] 3)) w D hw lD nA (nD))
  have NT := hide (@lnone_calls (W.alloc (.cells #[.int .i64 (w : Int)] 3)) w T hw lT nA (nT))
  have NN := hide (@lnone_calls (W.alloc (.cells #[.int .i64 (w : Int)] 3)) w N hw lN nA (nN))
  have H21 := hide (@lthan_calls (W.alloc (.cells #[.int .i64 (w : Int)] 3)) w D A hw 21 (o := 21) rfl lD oa b21 0 (congrArg (·, 0) h21))
  have H22 := hide (@lthan_calls (W.alloc (.cells #[.int .i64 (w : Int)] 3)) w U A hw 22 (o := 22) rfl lU oa b22 0 (congrArg (·, 0) h22))
  have S1 := hide (@wsame_calls (W.alloc (.cells #[.int .i64 (w : Int)] 3)) w T U hw lT lU s1 h1)
  have S2 := hide (@wsame_calls (W.alloc (.cells #[.int .i64 (w : Int)] 3)) w T D hw lT lD s2 h2)
  have S3 := hide (@wsame_calls (W.alloc (.cells #[.int .i64 (w : Int)] 3)) w N U hw lN lU s3 h3)
  have S4 := hide (@wsame_calls (W.alloc (.cells #[.int .i64 (w : Int)] 3)) w N D hw lN lD s4 h4)
  have M := mkFunc
  have HE := hide hend
  clear hw oa eU eD eT eN again lU lD lT lN hA nU nD nT nN h21 h22 h1 h2 h3 h4 hend
  go_enter Try.func4, Try.ntmps4
  go_upto_region 3 with (first | ((with_reducible refine (CW.out _).mono ?_); rintro e w1 ⟨rfl, rfl⟩) | ((with_reducible refine (Oa.out _).mono ?_); rintro e w1 ⟨rfl, rfl⟩))
  generalize (w1.alloc (.cells #[.int .i64 (w : Int)] 3)) = wa at *
  generalize w1.heap.size = g at hc ⊢
  have HC := hide hc
  go_cut [6, 7] from 18 to 23 (fun x y wx => x = .int .u64 (U : Int) ∧ y = .int .u64 (D : Int) ∧ Below wa.heap.size wa wx)
  case first =>
    go_region_with (first | ((with_reducible refine (C1.out _ HB.out).mono ?_); rintro e w2 ⟨rfl, hb⟩; have hc := cell_later hb HC.out; have HB := hide hb; clear hb) | ((with_reducible refine (C1.out _ HB.out.drew).mono ?_); rintro e w2 ⟨rfl, hb⟩; have hc := cell_later hb HC.out; have HB := hide hb; clear hb) | ((with_reducible refine (C1.out _ (below_drewN HB.out _)).mono ?_); rintro e w2 ⟨rfl, hb⟩; have hc := cell_later hb HC.out; have HB := hide hb; clear hb) | ((with_reducible refine (C2.out _ HB.out).mono ?_); rintro e w2 ⟨rfl, hb⟩; have hc := cell_later hb HC.out; have HB := hide hb; clear hb) | ((with_reducible refine (C2.out _ HB.out.drew).mono ?_); rintro e w2 ⟨rfl, hb⟩; have hc := cell_later hb HC.out; have HB := hide hb; clear hb) | ((with_reducible refine (C2.out _ (below_drewN HB.out _)).mono ?_); rintro e w2 ⟨rfl, hb⟩; have hc := cell_later hb HC.out; have HB := hide hb; clear hb))
    all_goals
      go_wp2_with fail
      go_meet
      exact ⟨rfl, rfl, by first | exact HB.out | exact HB.out.drew | exact below_drewN HB.out _⟩
  case rest =>
  obtain ⟨rfl, rfl, hb⟩ := hcut
  have hc := cell_later hb HC.out
  have HB := hide hb
  clear hb
  go_upto_region 4 with fail
  go_cut [8, 9] from 24 to 29 (fun x y wx => x = .int .u64 (T : Int) ∧ y = .int .u64 (N : Int) ∧ Below wa.heap.size wa wx)
  case first =>
    go_region_with (first | ((with_reducible refine (C3.out _ HB.out).mono ?_); rintro e w2 ⟨rfl, hb⟩; have hc := cell_later hb HC.out; have HB := hide hb; clear hb) | ((with_reducible refine (C3.out _ HB.out.drew).mono ?_); rintro e w2 ⟨rfl, hb⟩; have hc := cell_later hb HC.out; have HB := hide hb; clear hb) | ((with_reducible refine (C3.out _ (below_drewN HB.out _)).mono ?_); rintro e w2 ⟨rfl, hb⟩; have hc := cell_later hb HC.out; have HB := hide hb; clear hb) | ((with_reducible refine (C4.out _ HB.out).mono ?_); rintro e w2 ⟨rfl, hb⟩; have hc := cell_later hb HC.out; have HB := hide hb; clear hb) | ((with_reducible refine (C4.out _ HB.out.drew).mono ?_); rintro e w2 ⟨rfl, hb⟩; have hc := cell_later hb HC.out; have HB := hide hb; clear hb) | ((with_reducible refine (C4.out _ (below_drewN HB.out _)).mono ?_); rintro e w2 ⟨rfl, hb⟩; have hc := cell_later hb HC.out; have HB := hide hb; clear hb))
    all_goals
      go_wp2_with fail
      go_meet
      exact ⟨rfl, rfl, by first | exact HB.out | exact HB.out.drew | exact below_drewN HB.out _⟩
  case rest =>
  obtain ⟨rfl, rfl, hb⟩ := hcut
  have hc := cell_later hb HC.out
  have HB := hide hb
  clear hb
  go_wp2_with fail
  go_loopw [35] (fun x wr => ∃ k : Nat, x = .int .i64 (k : Int) ∧ k ≤ 4 ∧ Below wa.heap.size wa wr) (fun x _ => (4 - (intOf x).toNat))
  case atStart => exact ⟨0, rfl, by omega, HB.out⟩
  case round =>
    obtain ⟨k, rfl, hk, hb⟩ := hrel
    have hc := cell_later hb HC.out
    have HB := hide hb
    clear hb
    rcases (show k = 0 ∨ k = 1 ∨ k = 2 ∨ k = 3 ∨ k = 4 by omega) with rfl | rfl | rfl | rfl | rfl
    · go_wp2_with (first | ((with_reducible refine (CU13.out _ HB.out).mono ?_); rintro e w2 ⟨rfl, hb⟩; have hc := cell_later hb HC.out; have HB := hide hb; clear hb) | ((with_reducible refine (CU14.out _ HB.out).mono ?_); rintro e w2 ⟨rfl, hb⟩; have hc := cell_later hb HC.out; have HB := hide hb; clear hb) | ((with_reducible refine (CU15.out _ HB.out).mono ?_); rintro e w2 ⟨rfl, hb⟩; have hc := cell_later hb HC.out; have HB := hide hb; clear hb) | ((with_reducible refine (CU16.out _ HB.out).mono ?_); rintro e w2 ⟨rfl, hb⟩; have hc := cell_later hb HC.out; have HB := hide hb; clear hb))
      exact ⟨⟨1, rfl, by omega, HB.out⟩, by simp [intOf]⟩
    · go_wp2_with (first | ((with_reducible refine (CD13.out _ HB.out).mono ?_); rintro e w2 ⟨rfl, hb⟩; have hc := cell_later hb HC.out; have HB := hide hb; clear hb) | ((with_reducible refine (CD14.out _ HB.out).mono ?_); rintro e w2 ⟨rfl, hb⟩; have hc := cell_later hb HC.out; have HB := hide hb; clear hb) | ((with_reducible refine (CD15.out _ HB.out).mono ?_); rintro e w2 ⟨rfl, hb⟩; have hc := cell_later hb HC.out; have HB := hide hb; clear hb) | ((with_reducible refine (CD16.out _ HB.out).mono ?_); rintro e w2 ⟨rfl, hb⟩; have hc := cell_later hb HC.out; have HB := hide hb; clear hb))
      exact ⟨⟨2, rfl, by omega, HB.out⟩, by simp [intOf]⟩
    · go_wp2_with (first | ((with_reducible refine (CT13.out _ HB.out).mono ?_); rintro e w2 ⟨rfl, hb⟩; have hc := cell_later hb HC.out; have HB := hide hb; clear hb) | ((with_reducible refine (CT14.out _ HB.out).mono ?_); rintro e w2 ⟨rfl, hb⟩; have hc := cell_later hb HC.out; have HB := hide hb; clear hb) | ((with_reducible refine (CT15.out _ HB.out).mono ?_); rintro e w2 ⟨rfl, hb⟩; have hc := cell_later hb HC.out; have HB := hide hb; clear hb) | ((with_reducible refine (CT16.out _ HB.out).mono ?_); rintro e w2 ⟨rfl, hb⟩; have hc := cell_later hb HC.out; have HB := hide hb; clear hb))
      exact ⟨⟨3, rfl, by omega, HB.out⟩, by simp [intOf]⟩
    · go_wp2_with (first | ((with_reducible refine (CN13.out _ HB.out).mono ?_); rintro e w2 ⟨rfl, hb⟩; have hc := cell_later hb HC.out; have HB := hide hb; clear hb) | ((with_reducible refine (CN14.out _ HB.out).mono ?_); rintro e w2 ⟨rfl, hb⟩; have hc := cell_later hb HC.out; have HB := hide hb; clear hb) | ((with_reducible refine (CN15.out _ HB.out).mono ?_); rintro e w2 ⟨rfl, hb⟩; have hc := cell_later hb HC.out; have HB := hide hb; clear hb) | ((with_reducible refine (CN16.out _ HB.out).mono ?_); rintro e w2 ⟨rfl, hb⟩; have hc := cell_later hb HC.out; have HB := hide hb; clear hb))
      exact ⟨⟨4, rfl, by omega, HB.out⟩, by simp [intOf]⟩
    · rcases HE.out with rfl | ⟨rfl, rfl, rfl, h5, h6⟩
      · go_wp2_with (first | ((with_reducible refine (NA.out _ HB.out).mono ?_); rintro e w2 ⟨rfl, hb⟩; have hc := cell_later hb HC.out; have HB := hide hb; clear hb) | ((with_reducible refine (NU.out _ HB.out).mono ?_); rintro e w2 ⟨rfl, hb⟩; have hc := cell_later hb HC.out; have HB := hide hb; clear hb) | ((with_reducible refine (ND.out _ HB.out).mono ?_); rintro e w2 ⟨rfl, hb⟩; have hc := cell_later hb HC.out; have HB := hide hb; clear hb) | ((with_reducible refine (NT.out _ HB.out).mono ?_); rintro e w2 ⟨rfl, hb⟩; have hc := cell_later hb HC.out; have HB := hide hb; clear hb) | ((with_reducible refine (NN.out _ HB.out).mono ?_); rintro e w2 ⟨rfl, hb⟩; have hc := cell_later hb HC.out; have HB := hide hb; clear hb) | ((with_reducible refine (K.out _ HB.out).mono ?_); rintro e w2 ⟨rfl, hb⟩; have hc := cell_later hb HC.out; have HB := hide hb; clear hb))
        go_ret
        exact ⟨rfl, below_two HX.out HB.out⟩
      · rcases h5 with rfl | ⟨rfl, rfl⟩ <;> rcases h6 with rfl | ⟨rfl, rfl⟩
        all_goals
          go_wp2_with (first | ((with_reducible refine (NA.out _ HB.out).mono ?_); rintro e w2 ⟨rfl, hb⟩; have hc := cell_later hb HC.out; have HB := hide hb; clear hb) | ((with_reducible refine (H21.out _ HB.out).mono ?_); rintro e w2 ⟨rfl, hb⟩; have hc := cell_later hb HC.out; have HB := hide hb; clear hb) | ((with_reducible refine (H22.out _ HB.out).mono ?_); rintro e w2 ⟨rfl, hb⟩; have hc := cell_later hb HC.out; have HB := hide hb; clear hb) | ((with_reducible refine (S1.out _ _ HB.out hc).mono ?_); rintro e w2 ⟨rfl, hb⟩; have hc := cell_later hb HC.out; have HB := hide hb; clear hb) | ((with_reducible refine (S2.out _ _ HB.out hc).mono ?_); rintro e w2 ⟨rfl, hb⟩; have hc := cell_later hb HC.out; have HB := hide hb; clear hb) | ((with_reducible refine (S3.out _ _ HB.out hc).mono ?_); rintro e w2 ⟨rfl, hb⟩; have hc := cell_later hb HC.out; have HB := hide hb; clear hb) | ((with_reducible refine (S4.out _ _ HB.out hc).mono ?_); rintro e w2 ⟨rfl, hb⟩; have hc := cell_later hb HC.out; have HB := hide hb; clear hb) | ((with_reducible refine (K.out _ HB.out).mono ?_); rintro e w2 ⟨rfl, hb⟩; have hc := cell_later hb HC.out; have HB := hide hb; clear hb))
          go_ret
          exact ⟨rfl, below_two HX.out HB.out⟩

set_option maxRecDepth 100000 in
set_option maxHeartbeats 1000000 in
theorem FloatsWhole_calls (n a : Int) (w0 : (Lit.int .u8 n).wf = true) (w1 : (Lit.int .u64 a).wf = true) (W : World) :
    Calls Try.prog 4 #[.int .u8 n, .int .u64 a] W fun e W' => e = .returned (.bool true) ∧ Below W.heap.size W W' := by
  obtain ⟨n, rfl⟩ := wf8 w0
  obtain ⟨a, rfl, ha⟩ := wf64 w1
  have hw := wd_isW n
  have CW := hide (lwidth_calls n)
  generalize wd n = w at *
  have Oa := hide (lof_calls hw a ha)
  have oa := cut_lt w a
  generalize a % 2 ^ w = A at *
  clear w0 w1 ha
  have fU := @rndN_fine w A .up hw
  have fD := @rndN_fine w A .down hw
  have fT := @rndN_fine w A .zero hw
  have fN := @rndN_fine w A .even hw
  have ag : ∀ x, x = rndN .up w A ∨ x = rndN .down w A ∨ x = rndN .zero w A ∨ x = rndN .even w A → one 13 w x = (x, 0) ∧ one 14 w x = (x, 0) ∧ one 15 w x = (x, 0) ∧ one 16 w x = (x, 0) := by
    have key : ∀ way way', rndN way' w (rndN way w A) = rndN way w A := fun way way' => by
      cases hA : na w A with
      | true => rw [rndN_nan way hA, rndN_nan way' (na_nan hw)]
      | false => exact rnd_again way way' hA
    rintro x (rfl | rfl | rfl | rfl) <;> exact ⟨congrArg (·, 0) (key _ _), congrArg (·, 0) (key _ _), congrArg (·, 0) (key _ _), congrArg (·, 0) (key _ _)⟩
  refine whole_all _ _ hw oa rfl rfl rfl rfl fU.1 fD.1 fT.1 fN.1 ag rfl fU.2.1 fD.2.1 fT.2.1 fN.2.1 rfl rfl rfl rfl rfl rfl ?_ W CW Oa
  cases hA : na w A with
  | true => exact .inl rfl
  | false =>
    refine .inr ⟨rfl, down_le hA, up_ge hA, ?_, ?_⟩
    · cases h : sameN w (rndN .zero w A) (rndN .up w A) with
      | true => exact .inl rfl
      | false =>
        refine .inr ⟨rfl, ?_⟩
        rcases in_either hA with e | e
        · rw [← e, same_self (rnd_na _ hA)] at h; cases h
        · rw [← e, same_self (rnd_na _ hA)]
    · cases h : sameN w (rndN .even w A) (rndN .up w A) with
      | true => exact .inl rfl
      | false =>
        refine .inr ⟨rfl, ?_⟩
        rcases near_either hA with e | e
        · rw [← e, same_self (rnd_na _ hA)] at h; cases h
        · rw [← e, same_self (rnd_na _ hA)]

end Go.Proofs.Ytgmakjmlkepfbab
