/-
  vfloats' seven functions: what they answer.
-/
import Derived.Test.YtpeckiaimellmaaDoorVfOpsP
import Derived.Test.YtpeckiaimellmaaDoorVfLawsP
import Derived.Test.YtpeckiaimellmaaDoorVfRefsP
import Derived.Test.YtpeckiaimellmaaDoorFConvCodeP
import Derived.Test.YtpeckiaimellmaaDoorFConvFactsP
import Derived.Test.YtpeckiaimellmaaDoorFFloOneP
import Derived.Test.YtpeckiaimellmaaDoorFFloTwoP
set_option linter.unusedVariables false
set_option linter.unusedSimpArgs false
namespace Go.Proofs.YtpeckiaimellmaaDoor
open Go.RowKit Lan

theorem vlanes_congr {w : Nat} {f g : Nat → Nat} (h : ∀ i, i < 128 / w → f i = g i) : vlanes w f = vlanes w g := by
  unfold vlanes
  congr 1
  apply List.map_congr_left
  intro i hi
  exact h i (by simpa using hi)

theorem lane64 {v : Nat × Nat} (hv : Vok v) : laneN v 64 0 = v.1 ∧ laneN v 64 1 = v.2 := by
  obtain ⟨h1, h2⟩ := hv
  constructor
  · show v.1 / 2 ^ (0 * 64) % 2 ^ 64 = v.1
    rw [Nat.zero_mul, Nat.pow_zero, Nat.div_one]
    exact Nat.mod_eq_of_lt h1
  · show v.2 / 2 ^ (1 * 64 - 64) % 2 ^ 64 = v.2
    rw [show 1 * 64 - 64 = 0 from rfl, Nat.pow_zero, Nat.div_one]
    exact Nat.mod_eq_of_lt h2
theorem vlanes64 {f : Nat → Nat} (h : ∀ i, i < 2 → f i < 2 ^ 64) : vlanes 64 f = (f 0, f 1) := by
  have hw : IsW 64 := .inr (.inr (.inr rfl))
  have ok := vlanes_ok hw (f := f) h
  have e0 := lane_at hw (f := f) h 0 (by decide)
  have e1 := lane_at hw (f := f) h 1 (by decide)
  rw [(lane64 ok).1] at e0
  rw [(lane64 ok).2] at e1
  exact Prod.ext e0 e1

/-- What both asks of its function value. -/
def LaneFn (g : Nat) (lb : Array Value) (n : Nat) (f1 f2 : Nat → Nat) (R : Nat → Nat) (E : Int) (W : World) : Prop :=
  ∀ (W' : World) (i : Nat), i < n → Below W.heap.size W W' → Calls Tryd.prog g (#[.int .u64 (f1 i : Int), .int .u64 (f2 i : Int)] ++ lb) W' fun e W'' => e = .returned (.tuple #[.int .u64 (R i : Int), .int .i64 E]) ∧ Below W'.heap.size W' W''
theorem LaneFn.fun2 {g : Nat} {lb : Array Value} {n c : Nat} {f1 f2 : Nat → Nat} {R : Nat → Nat} {E : Int} {W : World} (h : LaneFn g lb n f1 f2 R E W) (hn : n ≤ c) (hc : c ≤ 4) : Fun2 g lb n (fillC 4 f1 c) (fillC 4 f2 c) R E W := by
  intro W' i hi hb
  rw [at_fill f1 c i (by omega) hc, at_fill f2 c i (by omega) hc]
  exact h W' i hi hb

theorem fboth_ok {fr to : Nat} (hf : F.IsW fr) (ht : F.IsW to) (a b : Nat × Nat) (ha : Vok a) (hb : Vok b) (g : Nat) (lb : Array Value) (eg : Enters g) (n : Nat) (hn : n = min (128 / fr) (128 / to)) (R : Nat → Nat) (hR : ∀ i, i < n → R i < 2 ^ to)
    (W : World) (hT : WTabs W) (hF : LaneFn g lb n (laneN a fr) (laneN b fr) R 0 W) :
    Calls Tryd.prog 26 #[.int .i64 (fr : Int), .int .i64 (to : Int), vecV a, vecV b, .func (.func g) #[] lb] W fun e W' => e = .returned (vecE (vlanes to (fun i => if i < n then R i else 0), 0)) ∧ Below W.heap.size W W' := by
  have c1 := f_c4 hf rfl
  have c2 := f_c4 ht rfl
  have HO : ∀ W', Below W.heap.size W W' → Calls Tryd.prog 60 #[.int .i64 (to : Int), rowV (mixC 4 R (at0 (fillC 4 (laneN a fr) (128 / fr))) n)] W' fun e W'' => e = .returned (vecV (vlanes to (fun i => if i < n then R i else 0))) ∧ Below W'.heap.size W' W'' := fun W' hb' => by
    refine vecOf_calls ht rfl _ (fun i hi => ?_) _ (mix_length _ _ _ _) (fun i hi => ?_) W' (hT.later hb')
    · have := Nat.two_pow_pos to
      split
      · exact hR i (by assumption)
      · exact this
    · rw [mix_at 4 R _ n i (by omega)]
      by_cases h : i < n
      · rw [if_pos h, if_pos h]
      · rw [if_neg h, if_neg h]
        simp [at0, fillC, List.getElem?_range (show i < 4 by omega), show ¬ i < 128 / fr by omega]
  generalize vlanes to (fun i => if i < n then R i else 0) = V at HO ⊢
  obtain ⟨rp, rq⟩ := V
  have n0 : 0 < n := by rcases hf with rfl | rfl <;> rcases ht with rfl | rfl <;> omega
  exact fboth_ok_walk (fr : Int) (to : Int) (128 / fr) (128 / to) n a b g lb eg _ _ (fillC_length _ _ _) (fillC_length _ _ _) rp rq (by omega) (by omega) n0 R W
    (fun W' => by have := fisWidth_calls (fr : Int) W'; rwa [show isF (fr : Int) = true by rcases hf with rfl | rfl <;> rfl] at this)
    (fun W' => by have := fisWidth_calls (to : Int) W'; rwa [show isF (to : Int) = true by rcases ht with rfl | rfl <;> rfl] at this)
    (fun W' hb' => rowOf_calls hf rfl a ha W' (hT.later hb')) (fun W' hb' => rowOf_calls hf rfl b hb W' (hT.later hb')) (fun W' => fcount_calls hf rfl W') (fun W' => fcount_calls ht rfl W')
    (hF.fun2 (by omega) c1) HO

theorem fboth_bad {fr to : Nat} (hf : F.IsW fr) (ht : F.IsW to) (a b : Nat × Nat) (ha : Vok a) (hb : Vok b) (g : Nat) (lb : Array Value) (eg : Enters g) (n : Nat) (hn : n = min (128 / fr) (128 / to)) (R : Nat → Nat)
    (W : World) (hT : WTabs W) (hF : LaneFn g lb n (laneN a fr) (laneN b fr) R 2 W) :
    Calls Tryd.prog 26 #[.int .i64 (fr : Int), .int .i64 (to : Int), vecV a, vecV b, .func (.func g) #[] lb] W fun e W' => e = .returned (vecE bad2) ∧ Below W.heap.size W W' := by
  have c1 := f_c4 hf rfl
  have c2 := f_c4 ht rfl
  have n0 : 0 < n := by rcases hf with rfl | rfl <;> rcases ht with rfl | rfl <;> omega
  exact fboth_bad_walk (fr : Int) (to : Int) (128 / fr) (128 / to) n a b g lb eg _ _ (fillC_length _ _ _) (fillC_length _ _ _) (by omega) (by omega) n0 R W
    (fun W' => by have := fisWidth_calls (fr : Int) W'; rwa [show isF (fr : Int) = true by rcases hf with rfl | rfl <;> rfl] at this)
    (fun W' => by have := fisWidth_calls (to : Int) W'; rwa [show isF (to : Int) = true by rcases ht with rfl | rfl <;> rfl] at this)
    (fun W' hb' => rowOf_calls hf rfl a ha W' (hT.later hb')) (fun W' hb' => rowOf_calls hf rfl b hb W' (hT.later hb')) (fun W' => fcount_calls hf rfl W') (fun W' => fcount_calls ht rfl W')
    (hF.fun2 (by omega) c1)

/-- each's function value, lane by lane. -/
theorem each_lane {g : Nat} {lb : Array Value} (eg : Enters g) {n : Nat} {f R : Nat → Nat} {E : Int} {q : Nat} {W : World} (hq : W.cell? ⟨q, 0, none⟩ = some (.func (.func g) #[] lb))
    (h : ∀ (W' : World) (i : Nat), i < n → Below W.heap.size W W' → Calls Tryd.prog g (#[.int .u64 (f i : Int)] ++ lb) W' fun e W'' => e = .returned (.tuple #[.int .u64 (R i : Int), .int .i64 E]) ∧ Below W'.heap.size W' W'') :
    LaneFn 77 #[.pointer (some ⟨q, 0, none⟩)] n f f R E W :=
  fun W' i hi hb => feach1_calls g lb eg _ _ _ _ q W' (cell_later hb hq (Nat.le_refl _)) (h W' i hi hb)

theorem later8 {W1 W2 W3 : World} (h : Below W1.heap.size W1 W2) (k : Below W2.heap.size W2 W3) : Below W1.heap.size W1 W3 := h.trans (k.mono h.size)

theorem same_lanes {m : Nat} (f : Nat → Nat) : vlanes m (fun i => if i < min (128 / m) (128 / m) then f i else 0) = vlanes m f :=
  vlanes_congr fun i hi => by rw [if_pos (by omega)]

theorem ftwo_code : FTwoOK WTabs := by
  intro op w a b ho ha hb W hT
  obtain ⟨o, rfl⟩ := Int.eq_ofNat_of_zero_le ho
  unfold vf2
  refine ftwo_r (o : Int) w a b _ W fun W' q0 q1 hB h0 h1 => ?_
  have hT' := hT.later hB
  cases h : isF w with
  | false => rw [Bool.false_and, if_neg (by simp)]; exact fboth_refuse w w a b _ _ (.inl h) W'
  | true =>
    obtain ⟨m, rfl, hm⟩ := isF_nat h
    simp only [Int.toNat_natCast, Bool.true_and]
    have CT := fun i W => F.Two_calls hm o (laneN_lt a m i) (laneN_lt b m i) W
    unfold F.pairV at CT
    cases ht : top2 o with
    | true =>
      rw [if_pos rfl, ← same_lanes (vf2N o m a b)]
      have ok := fun i => two_ok ht hm (laneN_lt a m i) (laneN_lt b m i)
      refine fboth_ok hm hm a b ha hb _ _ ftwo1_enters _ rfl (vf2N o m a b) (fun i _ => (ok i).1) W' hT' fun V i hi hV => ?_
      have C := CT i V
      rw [(ok i).2] at C
      exact ftwo1_walk o m _ _ _ _ false q0 q1 V (cell_later hV h0 (Nat.le_refl _)) (cell_later hV h1 (Nat.le_refl _)) C
    | false =>
      rw [if_neg (by simp)]
      refine fboth_bad hm hm a b ha hb _ _ ftwo1_enters _ rfl (fun _ => 0) W' hT' fun V i hi hV => ?_
      have C := CT i V
      rw [two_bad ht] at C
      exact ftwo1_walk o m _ _ _ _ false q0 q1 V (cell_later hV h0 (Nat.le_refl _)) (cell_later hV h1 (Nat.le_refl _)) C

theorem fone_code : FOneOK WTabs := by
  intro op w a ho ha W hT
  obtain ⟨o, rfl⟩ := Int.eq_ofNat_of_zero_le ho
  unfold vf1
  refine fone_r (o : Int) w a _ W fun W' q0 q1 hB h0 h1 => ?_
  have hT' := hT.later hB
  refine feach_r w w a _ _ _ W' fun W2 q hB2 hq => ?_
  have hT2 := hT'.later hB2
  cases h : isF w with
  | false => rw [Bool.false_and, if_neg (by simp)]; exact fboth_refuse w w a a _ _ (.inl h) W2
  | true =>
    obtain ⟨m, rfl, hm⟩ := isF_nat h
    simp only [Int.toNat_natCast, Bool.true_and]
    have CT := fun i W => F.One_calls hm o (laneN_lt a m i) W
    unfold F.pairV at CT
    cases ht : top1 o with
    | true =>
      rw [if_pos rfl, ← same_lanes (vf1N o m a)]
      have ok := fun i => one_ok ht hm (laneN_lt a m i)
      refine fboth_ok hm hm a a ha ha _ _ feach1_enters _ rfl (vf1N o m a) (fun i _ => (ok i).1) W2 hT2 (each_lane fone1_enters hq fun V i hi hV => ?_)
      have C := CT i V
      rw [(ok i).2] at C
      have hV' := later8 hB2 hV
      exact fone1_walk o m _ 0 _ _ false q0 q1 V (cell_later hV' h0 (Nat.le_refl _)) (cell_later hV' h1 (Nat.le_refl _)) C
    | false =>
      rw [if_neg (by simp)]
      refine fboth_bad hm hm a a ha ha _ _ feach1_enters _ rfl (fun _ => 0) W2 hT2 (each_lane fone1_enters hq fun V i hi hV => ?_)
      have C := CT i V
      rw [one_bad ht] at C
      have hV' := later8 hB2 hV
      exact fone1_walk o m _ 0 _ _ false q0 q1 V (cell_later hV' h0 (Nat.le_refl _)) (cell_later hV' h1 (Nat.le_refl _)) C

theorem fthan_code : FThanOK WTabs := by
  intro op w a b ho ha hb W hT
  obtain ⟨o, rfl⟩ := Int.eq_ofNat_of_zero_le ho
  unfold vft
  refine fthan_r (o : Int) w a b _ W fun W' q0 q1 hB h0 h1 => ?_
  have hT' := hT.later hB
  cases h : isF w with
  | false => rw [Bool.false_and, if_neg (by simp)]; exact fboth_refuse w w a b _ _ (.inl h) W'
  | true =>
    obtain ⟨m, rfl, hm⟩ := isF_nat h
    simp only [Int.toNat_natCast, Bool.true_and]
    have CT := fun i W => F.Than_calls hm o (laneN_lt a m i) (laneN_lt b m i) W
    unfold F.pairB at CT
    cases ht : topt o with
    | true =>
      rw [if_pos rfl, ← same_lanes (vftN o m a b)]
      refine fboth_ok hm hm a b ha hb _ _ fthan1_enters _ rfl (vftN o m a b) (fun i _ => ?_) W' hT' fun V i hi hV => ?_
      · unfold vftN
        have := Nat.two_pow_pos m
        split <;> omega
      · have C := CT i V
        rw [than_ok ht] at C
        have h0' := cell_later hV h0 (Nat.le_refl _)
        have h1' := cell_later hV h1 (Nat.le_refl _)
        unfold vftN
        cases hx : (F.than o m (laneN a m i) (laneN b m i)).1 with
        | true =>
          rw [hx] at C
          rw [if_pos rfl]
          rcases hm with rfl | rfl
          · exact fthan1_t32 o _ _ q0 q1 V h0' h1' C
          · exact fthan1_t64 o _ _ q0 q1 V h0' h1' C
        | false =>
          rw [hx] at C
          rw [if_neg (by simp)]
          rcases hm with rfl | rfl
          · exact fthan1_f32 o _ _ q0 q1 V h0' h1' C
          · exact fthan1_f64 o _ _ q0 q1 V h0' h1' C
    | false =>
      rw [if_neg (by simp)]
      refine fboth_bad hm hm a b ha hb _ _ fthan1_enters _ rfl (fun _ => 0) W' hT' fun V i hi hV => ?_
      have C := CT i V
      rw [than_bad ht] at C
      have h0' := cell_later hV h0 (Nat.le_refl _)
      have h1' := cell_later hV h1 (Nat.le_refl _)
      rcases hm with rfl | rfl
      · exact fthan1_b32 o _ _ q0 q1 V h0' h1' C
      · exact fthan1_b64 o _ _ q0 q1 V h0' h1' C

theorem fheld_code : FHeldOK WTabs := by
  intro w s a ha W hT
  unfold vfh
  refine fheld_r w s a _ W fun W' q0 q1 hB h0 h1 => ?_
  have hT' := hT.later hB
  refine feach_r w 32 a _ _ _ W' fun W2 q hB2 hq => ?_
  have hT2 := hT'.later hB2
  cases h : isF w with
  | false => rw [if_neg (by simp)]; exact fboth_refuse w 32 a a _ _ (.inl h) W2
  | true =>
    obtain ⟨m, rfl, hm⟩ := isF_nat h
    simp only [Int.toNat_natCast, if_true]
    have c1 := f_c4 hm rfl
    rw [show vecN 32 (mixC 4 (vfhN m s a) (fun _ => 0) (128 / m)) = vlanes 32 (fun i => if i < 128 / m then vfhN m s a i else 0) from rfl]
    refine fboth_ok hm (.inl rfl) a a ha ha _ _ feach1_enters (128 / m) (by omega) (vfhN m s a) (fun i _ => held_lt32 m s a i) W2 hT2 (each_lane fheld1_enters hq fun V i hi hV => ?_)
    have C := F.C.CutHeld_calls (m : Int) 32 s (laneN a m i) (F.lt64 hm (laneN_lt a m i)) V
    rw [show (32 : Int) = ((32 : Nat) : Int) from rfl, F.C.heldF_of hm (.inl rfl) (laneN_lt a m i)] at C
    have hV' := later8 hB2 hV
    exact fheld1_walk 0 m _ 0 _ _ s q0 q1 V (cell_later hV' h0 (Nat.le_refl _)) (cell_later hV' h1 (Nat.le_refl _)) C

theorem fflt_code : FFltOK WTabs := by
  intro w s a ha W hT
  unfold vff
  refine fflt_r w s a _ W fun W' q0 q1 hB h0 h1 => ?_
  have hT' := hT.later hB
  refine feach_r 32 w a _ _ _ W' fun W2 q hB2 hq => ?_
  have hT2 := hT'.later hB2
  cases h : isF w with
  | false => rw [if_neg (by simp)]; exact fboth_refuse 32 w a a _ _ (.inr ⟨rfl, h⟩) W2
  | true =>
    obtain ⟨m, rfl, hm⟩ := isF_nat h
    simp only [Int.toNat_natCast, if_true]
    have c1 := f_c4 hm rfl
    rw [show vlanes m (vffN m s a) = vlanes m (fun i => if i < 128 / m then vffN m s a i else 0) from vlanes_congr fun i hi => by rw [if_pos hi]]
    refine fboth_ok (fr := 32) (.inl rfl) hm a a ha ha _ _ feach1_enters (128 / m) (by omega) (vffN m s a) (fun i _ => F.C.flt_lt hm _ _ _) W2 hT2 (each_lane fflt1_enters hq fun V i hi hV => ?_)
    have C := F.C.Float_calls 32 (m : Int) s (laneN a 32 i) (Nat.lt_trans (laneN_lt a 32 i) (by decide)) V
    rw [show (32 : Int) = ((32 : Nat) : Int) from rfl, F.C.fltF_of (.inl rfl) hm (laneN_lt a 32 i)] at C
    have hV' := later8 hB2 hV
    exact fflt1_walk 0 m _ 0 _ _ s q0 q1 V (cell_later hV' h0 (Nat.le_refl _)) (cell_later hV' h1 (Nat.le_refl _)) (C.mono fun e W' ⟨he, hw⟩ => ⟨he, by rw [hw]; exact Below.refl _ _⟩)

theorem prom_lt8 (a : Nat) : F.C.promN a < 2 ^ 64 := by
  unfold F.C.promN
  cases h : F.na 32 a with
  | true => rw [if_pos rfl]; decide
  | false => rw [if_neg (by simp)]; exact F.C.worth_lt h

theorem fprom_code : FPromOK WTabs := by
  intro a ha W hT
  have key := fPromote_r a (vlanes 64 (fun i => if i < 2 then F.C.promN (laneN a 32 i) else 0), 0) W fun W' hB => by
    have hT' := hT.later hB
    refine feach_r 32 64 a _ _ _ W' fun W2 q hB2 hq => ?_
    refine fboth_ok (fr := 32) (to := 64) (.inl rfl) (.inr rfl) a a ha ha _ _ feach1_enters 2 (by decide) (fun i => F.C.promN (laneN a 32 i)) (fun i _ => prom_lt8 _) W2 (hT'.later hB2) (each_lane fprom_enters hq fun V i hi hV => ?_)
    have C := F.C.Promote_calls (laneN a 32 i) (Nat.lt_trans (laneN_lt a 32 i) (by decide)) V
    unfold F.C.promF at C
    rw [if_pos (by have := laneN_lt a 32 i; omega)] at C
    exact C
  rw [vlanes64 (fun i hi => by rw [if_pos hi]; exact prom_lt8 _)] at key
  exact key

theorem fdem_code : FDemOK WTabs := by
  intro a ha W hT
  have key := fDemote_r a (vlanes 32 (fun i => if i < 2 then F.C.demN (laneN a 64 i) else 0), 0) W fun W' hB => by
    have hT' := hT.later hB
    refine feach_r 64 32 a _ _ _ W' fun W2 q hB2 hq => ?_
    refine fboth_ok (fr := 64) (to := 32) (.inr rfl) (.inl rfl) a a ha ha _ _ feach1_enters 2 (by decide) (fun i => F.C.demN (laneN a 64 i)) (fun i _ => dem_lt _) W2 (hT'.later hB2) (each_lane fdem_enters hq fun V i hi hV => ?_)
    exact (F.C.Demote_calls (laneN a 64 i) (laneN_lt a 64 i) V).mono fun e W' ⟨he, hw⟩ => ⟨he, by rw [hw]; exact Below.refl _ _⟩
  have e : vlanes 32 (fun i => if i < 2 then F.C.demN (laneN a 64 i) else 0) = vfd a := by
    unfold vfd vlanes
    rw [← (lane64 ha).1, ← (lane64 ha).2]
    have h0 := (lane64 ha).1
    have h1 := (lane64 ha).2
    simp only [h0, h1]
    rw [show (List.range (128 / 32)).map (fun i => if i < 2 then F.C.demN (laneN a 64 i) else 0) = [F.C.demN (laneN a 64 0), F.C.demN (laneN a 64 1), 0, 0] from rfl, h0, h1]
  rw [e] at key
  exact key
end Go.Proofs.YtpeckiaimellmaaDoor
