/-
  The document's functions of lanes of floats: all of them.
-/
import Derived.Test.YtpeckiaimellmaaDoorVfSpecP
import Derived.Test.YtpeckiaimellmaaDoorPkVf
set_option linter.unusedVariables false
set_option linter.unusedSimpArgs false
namespace Go.Proofs.YtpeckiaimellmaaDoor
open Go.RowKit Lan

theorem vlanes_zero {w : Nat} (hw : IsW w) : vlanes w (fun _ => 0) = (0, 0) := by
  rcases hw with rfl | rfl | rfl | rfl <;> decide

theorem rf2_calls (op w : Int) (h0 : 0 ≤ op) (a b : Nat × Nat) (W : World) :
    Calls Tryd.prog 10 #[.int .u8 op, .int .i64 w, vecV a, vecV b] W fun e W' => e = .returned (vecE (vf2 op w a b)) ∧ Below W.heap.size W W' := by
  obtain ⟨n, rfl⟩ := Int.eq_ofNat_of_zero_le h0
  unfold vf2
  simp only [Int.toNat_natCast]
  cases hw : isF w with
  | false => exact rf2_nowidth (n : Int) a b w (hide (fwidth_false hw)) W
  | true =>
    obtain ⟨m, rfl, hm⟩ := isF_nat hw
    have hl := lan_of hm
    simp only [Int.toNat_natCast, Bool.true_and]
    obtain ⟨c, hc, hc16, hc2⟩ := f_c hm
    have CT := fun i W => F.RTwo_calls hm n (laneN_lt a m i) (laneN_lt b m i) W
    unfold F.pairV at CT
    cases ht : top2 n with
    | true =>
      rw [if_pos rfl]
      have ok := fun i => two_ok ht hm (laneN_lt a m i) (laneN_lt b m i)
      have CV := fun W g cap h => vec_call hl hc (f := vf2N n m a b) (fun i _ => (ok i).1) W g cap h
      obtain ⟨⟨p, q⟩, hF⟩ : ∃ X, vlanes m (vf2N n m a b) = X := ⟨_, rfl⟩
      rw [hF] at CV ⊢
      refine rf2_ok n m c a.1 a.2 b.1 b.2 p q (laneN a m) (laneN b m) (vf2N n m a b) hc16 hc2 (hide (fwidth_true hm)) (hide (list_call hl hc a)) (hide (list_call hl hc b)) (hide fun i hi W => ?_) (hide CV) W
      have := CT i W
      rw [(ok i).2] at this
      exact this
    | false =>
      rw [if_neg (by simp)]
      refine rf2_bad n m c a.1 a.2 b.1 b.2 0 0 (laneN a m) (laneN b m) (fun _ => 0) hc16 hc2 (hide (fwidth_true hm)) (hide (list_call hl hc a)) (hide (list_call hl hc b)) (hide fun i hi W => ?_) (hide fun W g cap h => ?_) W
      · have := CT i W
        rw [two_bad ht] at this
        exact this
      · have := vec_call hl hc (f := fun _ => 0) (fun i _ => Nat.two_pow_pos m) W g cap h
        rwa [vlanes_zero hl] at this

theorem rf1_calls (op w : Int) (h0 : 0 ≤ op) (a : Nat × Nat) (W : World) :
    Calls Tryd.prog 13 #[.int .u8 op, .int .i64 w, vecV a] W fun e W' => e = .returned (vecE (vf1 op w a)) ∧ Below W.heap.size W W' := by
  obtain ⟨n, rfl⟩ := Int.eq_ofNat_of_zero_le h0
  unfold vf1
  simp only [Int.toNat_natCast]
  cases hw : isF w with
  | false => exact rf1_nowidth (n : Int) a w (hide (fwidth_false hw)) W
  | true =>
    obtain ⟨m, rfl, hm⟩ := isF_nat hw
    have hl := lan_of hm
    simp only [Int.toNat_natCast, Bool.true_and]
    obtain ⟨c, hc, hc16, hc2⟩ := f_c hm
    have CT := fun i W => F.ROne_calls hm (laneN_lt a m i) n W
    unfold F.pairV at CT
    cases ht : top1 n with
    | true =>
      rw [if_pos rfl]
      have ok := fun i => one_ok ht hm (laneN_lt a m i)
      have CV := fun W g cap h => vec_call hl hc (f := vf1N n m a) (fun i _ => (ok i).1) W g cap h
      obtain ⟨⟨p, q⟩, hF⟩ : ∃ X, vlanes m (vf1N n m a) = X := ⟨_, rfl⟩
      rw [hF] at CV ⊢
      refine rf1_ok n m c a.1 a.2 p q (laneN a m) (vf1N n m a) hc16 hc2 (hide (fwidth_true hm)) (hide (list_call hl hc a)) (hide fun i hi W => ?_) (hide CV) W
      have := CT i W
      rw [(ok i).2] at this
      exact this
    | false =>
      rw [if_neg (by simp)]
      refine rf1_bad n m c a.1 a.2 0 0 (laneN a m) (fun _ => 0) hc16 hc2 (hide (fwidth_true hm)) (hide (list_call hl hc a)) (hide fun i hi W => ?_) (hide fun W g cap h => ?_) W
      · have := CT i W
        rw [one_bad ht] at this
        exact this
      · have := vec_call hl hc (f := fun _ => 0) (fun i _ => Nat.two_pow_pos m) W g cap h
        rwa [vlanes_zero hl] at this

theorem fmost_call {m : Nat} (hm : F.IsW m) (W : World) : Calls Tryd.prog 41 #[.int .i64 (m : Int)] W fun e W' => e = .returned (.int .u64 ((2 ^ m - 1 : Nat) : Int)) ∧ W' = W := by
  have := rmost_calls (lan_of hm) W
  rwa [mo_nat] at this

theorem rft_calls (op w : Int) (h0 : 0 ≤ op) (a b : Nat × Nat) (W : World) :
    Calls Tryd.prog 15 #[.int .u8 op, .int .i64 w, vecV a, vecV b] W fun e W' => e = .returned (vecE (vft op w a b)) ∧ Below W.heap.size W W' := by
  obtain ⟨n, rfl⟩ := Int.eq_ofNat_of_zero_le h0
  unfold vft
  simp only [Int.toNat_natCast]
  cases hw : isF w with
  | false => exact rft_nowidth (n : Int) a b w (hide (fwidth_false hw)) W
  | true =>
    obtain ⟨m, rfl, hm⟩ := isF_nat hw
    have hl := lan_of hm
    simp only [Int.toNat_natCast, Bool.true_and]
    obtain ⟨c, hc, hc16, hc2⟩ := f_c hm
    have CT := fun i W => F.RThan_calls hm (laneN_lt a m i) (laneN_lt b m i) n W
    unfold F.pairB at CT
    cases ht : topt n with
    | true =>
      rw [if_pos rfl]
      have hf : ∀ i, i < c → vftN n m a b i < 2 ^ m := fun i _ => by
        unfold vftN
        have := Nat.two_pow_pos m
        split <;> omega
      have CV := fun W g cap h => vec_call hl hc (f := vftN n m a b) hf W g cap h
      obtain ⟨⟨p, q⟩, hF⟩ : ∃ X, vlanes m (vftN n m a b) = X := ⟨_, rfl⟩
      rw [hF] at CV ⊢
      refine rft_ok n m c a.1 a.2 b.1 b.2 p q (laneN a m) (laneN b m) (vftN n m a b) hc16 hc2 (fun i => (F.than n m (laneN a m i) (laneN b m i)).1) (2 ^ m - 1) (hide fun i => rfl) (hide (fmost_call hm)) (hide (fwidth_true hm)) (hide (list_call hl hc a)) (hide (list_call hl hc b)) (hide fun i hi W => ?_) (hide CV) W
      have := CT i W
      rw [than_ok ht] at this
      exact this
    | false =>
      rw [if_neg (by simp)]
      refine rft_bad n m c a.1 a.2 b.1 b.2 0 0 (laneN a m) (laneN b m) (fun _ => 0) hc16 hc2 (fun _ => false) (2 ^ m - 1) (hide fun i => rfl) (hide (fmost_call hm)) (hide (fwidth_true hm)) (hide (list_call hl hc a)) (hide (list_call hl hc b)) (hide fun i hi W => ?_) (hide fun W g cap h => ?_) W
      · have := CT i W
        rw [than_bad ht] at this
        exact this
      · have := vec_call hl hc (f := fun _ => 0) (fun i _ => Nat.two_pow_pos m) W g cap h
        rwa [vlanes_zero hl] at this

theorem held_lt32 (w : Nat) (s : Bool) (a : Nat × Nat) (i : Nat) : vfhN w s a i < 2 ^ 32 := F.C.cut_lt2 (to := 32) (.inl rfl)
theorem mix_lanes {c k w : Nat} {f : Nat → Nat} (h : ∀ i, f i < 2 ^ w) : Lanes w (mixC c f (fun _ => 0) k) := by
  unfold mixC
  refine map_lanes (fun i _ => ?_)
  have := Nat.two_pow_pos w
  split
  · exact h i
  · exact this
theorem vec_mix {f : Nat → Nat} (h : ∀ i, f i < 2 ^ 32) (k : Nat) (W : World) (g cap : Nat) (hx : XBlk W g 4 (mixC 4 f (fun _ => 0) k)) :
    Calls Tryd.prog 32 #[.int .i64 32, .slice (some ⟨g, 0, none⟩) 4 cap] W fun e W' => e = .returned (vecV (vecN 32 (mixC 4 f (fun _ => 0) k))) ∧ Below W.heap.size W W' :=
  rvec_calls (w := 32) (c := 4) (.inr (.inr (.inl rfl))) rfl g 0 cap _ (mix_lanes h) W (fun i hi => by rw [Nat.zero_add]; exact hx.cell i hi)

theorem held_call {m : Nat} (hm : F.IsW m) (s : Bool) (n : Nat) (hn : n < 2 ^ m) (W : World) :
    Calls Tryd.prog 44 #[.int .i64 (m : Int), .int .i64 32, .bool s, .int .u64 (n : Int)] W fun e W' => e = .returned (.tuple #[.int .u64 ((F.C.cutN m 32 s n).1 : Int), .int .i64 0]) ∧ Below W.heap.size W W' := by
  have := F.C.rCutHeld_calls (m : Int) 32 s n (F.lt64 hm hn) W
  rw [show (32 : Int) = ((32 : Nat) : Int) from rfl, F.C.heldF_of hm (.inl rfl) hn] at this
  exact this.mono fun e W' ⟨he, hw⟩ => ⟨he, by rw [hw]; exact Below.refl _ _⟩
theorem float_call {m : Nat} (hm : F.IsW m) (s : Bool) (n : Nat) (hn : n < 2 ^ 32) (W : World) :
    Calls Tryd.prog 46 #[.int .i64 32, .int .i64 (m : Int), .bool s, .int .u64 (n : Int)] W fun e W' => e = .returned (.tuple #[.int .u64 (F.C.fltN 32 m s n : Int), .int .i64 0]) ∧ Below W.heap.size W W' := by
  have := F.C.rFloat_calls 32 (m : Int) s n (by omega) W
  rw [show (32 : Int) = ((32 : Nat) : Int) from rfl, F.C.fltF_of (.inl rfl) hm hn] at this
  exact this.mono fun e W' ⟨he, hw⟩ => ⟨he, by rw [hw]; exact Below.refl _ _⟩

theorem rfh_calls (w : Int) (s : Bool) (a : Nat × Nat) (W : World) :
    Calls Tryd.prog 17 #[.int .i64 w, .bool s, vecV a] W fun e W' => e = .returned (vecE (vfh w s a)) ∧ Below W.heap.size W W' := by
  unfold vfh
  cases hw : isF w with
  | false => exact rfh_nowidth s a w (hide (fwidth_false hw)) W
  | true =>
    rw [if_pos rfl]
    rcases isF_iff hw with rfl | rfl
    · have CV := fun W g cap h => vec_mix (f := vfhN 32 s a) (held_lt32 32 s a) 4 W g cap h
      show Calls _ _ _ _ fun e W' => e = .returned (vecE (vecN 32 (mixC 4 (vfhN 32 s a) (fun _ => 0) 4), 0)) ∧ _
      obtain ⟨⟨p, q⟩, hF⟩ : ∃ X, vecN 32 (mixC 4 (vfhN 32 s a) (fun _ => 0) 4) = X := ⟨_, rfl⟩
      rw [hF] at CV ⊢
      exact rfh_32 s a.1 a.2 p q (laneN a 32) (vfhN 32 s a) (hide (fwidth_true (w := 32) (.inl rfl))) (hide (list_call (w := 32) (c := 4) (.inr (.inr (.inl rfl))) rfl a)) (hide fun i _ W => held_call (m := 32) (.inl rfl) s _ (laneN_lt a 32 i) W) (hide CV) W
    · have CV := fun W g cap h => vec_mix (f := vfhN 64 s a) (held_lt32 64 s a) 2 W g cap h
      show Calls _ _ _ _ fun e W' => e = .returned (vecE (vecN 32 (mixC 4 (vfhN 64 s a) (fun _ => 0) 2), 0)) ∧ _
      obtain ⟨⟨p, q⟩, hF⟩ : ∃ X, vecN 32 (mixC 4 (vfhN 64 s a) (fun _ => 0) 2) = X := ⟨_, rfl⟩
      rw [hF] at CV ⊢
      exact rfh_64 s a.1 a.2 p q (laneN a 64) (vfhN 64 s a) (hide (fwidth_true (w := 64) (.inr rfl))) (hide (list_call (w := 64) (c := 2) (.inr (.inr (.inr rfl))) rfl a)) (hide fun i _ W => held_call (m := 64) (.inr rfl) s _ (laneN_lt a 64 i) W) (hide CV) W

theorem rff_calls (w : Int) (s : Bool) (a : Nat × Nat) (W : World) :
    Calls Tryd.prog 19 #[.int .i64 w, .bool s, vecV a] W fun e W' => e = .returned (vecE (vff w s a)) ∧ Below W.heap.size W W' := by
  unfold vff
  cases hw : isF w with
  | false => exact rff_nowidth s a w (hide (fwidth_false hw)) W
  | true =>
    rw [if_pos rfl]
    rcases isF_iff hw with rfl | rfl
    · have CV := fun W g cap h => vec_call (w := 32) (c := 4) (.inr (.inr (.inl rfl))) rfl (f := vffN 32 s a) (fun i _ => F.C.flt_lt (.inl rfl) _ _ _) W g cap h
      show Calls _ _ _ _ fun e W' => e = .returned (vecE (vlanes 32 (vffN 32 s a), 0)) ∧ _
      obtain ⟨⟨p, q⟩, hF⟩ : ∃ X, vlanes 32 (vffN 32 s a) = X := ⟨_, rfl⟩
      rw [hF] at CV ⊢
      exact rff_32 s a.1 a.2 p q (laneN a 32) (vffN 32 s a) (hide (fwidth_true (w := 32) (.inl rfl))) (hide (list_call (w := 32) (c := 4) (.inr (.inr (.inl rfl))) rfl a)) (hide fun i _ W => float_call (m := 32) (.inl rfl) s _ (laneN_lt a 32 i) W) (hide CV) W
    · have CV := fun W g cap h => vec_call (w := 64) (c := 2) (.inr (.inr (.inr rfl))) rfl (f := vffN 64 s a) (fun i _ => F.C.flt_lt (.inr rfl) _ _ _) W g cap h
      show Calls _ _ _ _ fun e W' => e = .returned (vecE (vlanes 64 (vffN 64 s a), 0)) ∧ _
      obtain ⟨⟨p, q⟩, hF⟩ : ∃ X, vlanes 64 (vffN 64 s a) = X := ⟨_, rfl⟩
      rw [hF] at CV ⊢
      exact rff_64 s a.1 a.2 p q (laneN a 32) (vffN 64 s a) (hide (fwidth_true (w := 64) (.inr rfl))) (hide (list_call (w := 32) (c := 4) (.inr (.inr (.inl rfl))) rfl a)) (hide fun i _ W => float_call (m := 64) (.inr rfl) s _ (laneN_lt a 32 i) W) (hide CV) W

theorem prom_call (n : Nat) (hn : n < 2 ^ 32) (W : World) :
    Calls Tryd.prog 48 #[.int .u64 (n : Int)] W fun e W' => e = .returned (.tuple #[.int .u64 (F.C.promN n : Int), .int .i64 0]) ∧ Below W.heap.size W W' := by
  have := F.C.rPromote_calls n (by omega) W
  unfold F.C.promF at this
  rw [if_pos (by omega)] at this
  exact this.mono fun e W' ⟨he, hw⟩ => ⟨he, by rw [hw]; exact Below.refl _ _⟩
theorem dem_call (n : Nat) (hn : n < 2 ^ 64) (W : World) :
    Calls Tryd.prog 50 #[.int .u64 (n : Int)] W fun e W' => e = .returned (.tuple #[.int .u64 (F.C.demN n : Int), .int .i64 0]) ∧ Below W.heap.size W W' :=
  (F.C.rDemote_calls n hn W).mono fun e W' ⟨he, hw⟩ => ⟨he, by rw [hw]; exact Below.refl _ _⟩
theorem dem_lt (n : Nat) : F.C.demN n < 2 ^ 32 := by
  unfold F.C.demN
  split
  · decide
  · exact F.back_lt n
theorem dem_lanes (m n : Nat) : Lanes 32 [F.C.demN m, F.C.demN n, 0, 0] := by
  have e : [F.C.demN m, F.C.demN n, 0, 0] = (List.range 4).map (fun i => if i = 0 then F.C.demN m else if i = 1 then F.C.demN n else 0) := rfl
  rw [e]
  refine map_lanes (fun i _ => ?_)
  split
  · exact dem_lt m
  · split
    · exact dem_lt n
    · decide

theorem rfp_calls (a : Nat × Nat) (W : World) :
    Calls Tryd.prog 21 #[vecV a] W fun e W' => e = .returned (vecV (vfp a)) ∧ Below W.heap.size W W' :=
  rfp_walk a.1 a.2 _ _ (laneN a 32) (hide (list_call (w := 32) (c := 4) (.inr (.inr (.inl rfl))) rfl a)) (hide (prom_call _ (laneN_lt a 32 0))) (hide (prom_call _ (laneN_lt a 32 1))) W
theorem rfd_calls (a : Nat × Nat) (ha : Vok a) (W : World) :
    Calls Tryd.prog 23 #[vecV a] W fun e W' => e = .returned (vecV (vfd a)) ∧ Below W.heap.size W W' := by
  unfold vfd
  have CV := fun (W : World) (g cap : Nat) (h : XBlk W g 4 [F.C.demN a.1, F.C.demN a.2, 0, 0]) => rvec_calls (w := 32) (c := 4) (.inr (.inr (.inl rfl))) rfl g 0 cap _ (dem_lanes a.1 a.2) W (fun i hi => by rw [Nat.zero_add]; exact h.cell i hi)
  obtain ⟨⟨p, q⟩, hF⟩ : ∃ X, vecN 32 [F.C.demN a.1, F.C.demN a.2, 0, 0] = X := ⟨_, rfl⟩
  rw [hF] at CV ⊢
  exact rfd_walk a.1 a.2 _ _ p q (hide (dem_call _ ha.1)) (hide (dem_call _ ha.2)) (hide CV) W
end Go.Proofs.YtpeckiaimellmaaDoor
