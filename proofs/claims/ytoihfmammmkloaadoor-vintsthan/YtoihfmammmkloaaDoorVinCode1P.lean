/-
  vints.Two, One, Shift, Than: what they answer.
-/
import Derived.Test.YtoihfmammmkloaaDoorPkCode
import Derived.Test.YtoihfmammmkloaaDoorVinLawsP
import Derived.Test.YtoihfmammmkloaaDoorPkVinA
set_option linter.unusedVariables false
set_option linter.unusedSimpArgs false
namespace Go.Proofs.YtoihfmammmkloaaDoor
open Go.RowKit Lan

theorem c_pos {m : Nat} (hm : IsW m) : 0 < 128 / m := by rcases hm with rfl | rfl | rfl | rfl <;> decide
theorem c_16 {m : Nat} (hm : IsW m) : 128 / m ≤ 16 := by rcases hm with rfl | rfl | rfl | rfl <;> decide
theorem later2 {W1 W2 W3 : World} (h : Below W1.heap.size W1 W2) (k : Below W2.heap.size W2 W3) : Below W1.heap.size W1 W3 := h.trans (k.mono h.size)

theorem vtwo_code : VTwoOK WTabs := by
  intro op w a b ho ha hb W hT
  unfold vtwo
  cases hr : refused op.toNat with
  | true =>
    have : op = 4 ∨ op = 5 ∨ op = 6 ∨ op = 7 ∨ op = 11 ∨ op = 12 ∨ op = 13 ∨ op = 14 ∨ op = 15 := by
      unfold refused at hr
      simp at hr
      omega
    rcases this with rfl | rfl | rfl | rfl | rfl | rfl | rfl | rfl | rfl
    · exact vtwo4_refuse w a b W
    · exact vtwo5_refuse w a b W
    · exact vtwo6_refuse w a b W
    · exact vtwo7_refuse w a b W
    · exact vtwo11_refuse w a b W
    · exact vtwo12_refuse w a b W
    · exact vtwo13_refuse w a b W
    · exact vtwo14_refuse w a b W
    · exact vtwo15_refuse w a b W
  | false =>
    have hne : ∀ v : Int, 4 ≤ v ∧ v ≤ 7 ∨ 11 ≤ v ∧ v ≤ 15 → (op == v) = false := by
      intro v hv
      have : op ≠ v := by
        rintro rfl
        unfold refused at hr
        simp at hr
        omega
      simp [this]
    rw [if_neg (by simp)]
    refine vtwo_r op w a b _ (hne 4 (by decide)) (hne 5 (by decide)) (hne 6 (by decide)) (hne 7 (by decide)) (hne 11 (by decide)) (hne 12 (by decide)) (hne 13 (by decide)) (hne 14 (by decide)) (hne 15 (by decide)) W fun W' q0 q1 hB h0 h1 => ?_
    have hT' := hT.later hB
    cases h : isW w with
    | false => rw [if_neg (by simp)]; exact two_width w a b _ h W' hT'
    | true =>
      obtain ⟨m, rfl, hm⟩ := (isW_iff w).1 h
      rw [if_pos rfl, Int.toNat_natCast]
      refine two_r hm rfl a b ha hb _ _ W' hT' fun W2 bl bm hB2 hL hM => ?_
      have hT2 := hT'.later hB2
      cases ht : tok op.toNat m with
      | true =>
        rw [if_pos rfl]
        have hk := fun i => two_ok ht (zof (laneN_lt a m i)) (zof (laneN_lt b m i))
        refine both_ok hm rfl _ _ two1_enters bl 0 _ bm 0 _ _ _ (vtwoN op.toNat m a b) (fun i hi => (zlt (hk i).1).1) W2 hT2 hL hM ?_
        intro V i hi hV
        have C := Z.Two_calls (zw hm) op (laneN a m i) (laneN b m i) ho (zof (laneN_lt a m i)) (zof (laneN_lt b m i)) V (hT2.later hV)
        have e1 : Z.two op.toNat m (laneN a m i : Int) (laneN b m i : Int) = ((vtwoN op.toNat m a b i : Int), 0) := Prod.ext (zlt (hk i).1).2.symm (hk i).2
        rw [e1] at C
        rw [at_list _ _ _ hi, at_list _ _ _ hi]
        exact two1_walk op m _ _ _ _ q0 q1 V (cell_later (later2 hB2 hV) h0 (Nat.le_refl _)) (cell_later (later2 hB2 hV) h1 (Nat.le_refl _)) C
      | false =>
        rw [if_neg (by simp)]
        refine both_bad (c_pos hm) (c_16 hm) _ _ two1_enters bl 0 _ bm 0 _ _ _ (fun _ => 0) W2 hL hM ?_
        intro V i hi hV
        have C := Z.Two_calls (zw hm) op (laneN a m i) (laneN b m i) ho (zof (laneN_lt a m i)) (zof (laneN_lt b m i)) V (hT2.later hV)
        rw [two_bad ht hr] at C
        rw [at_list _ _ _ hi, at_list _ _ _ hi]
        exact two1_walk op m _ _ _ _ q0 q1 V (cell_later (later2 hB2 hV) h0 (Nat.le_refl _)) (cell_later (later2 hB2 hV) h1 (Nat.le_refl _)) C

theorem vone_each {m : Nat} (hm : IsW m) (op : Int) (ho : 0 ≤ op) (hk : ook op.toNat = true) (a : Nat × Nat) (ha : Vok a) (q0 q1 : Nat) (W : World) (hT : Tabs W)
    (h0 : W.cell? ⟨q0, 0, none⟩ = some (.int .u8 op)) (h1 : W.cell? ⟨q1, 0, none⟩ = some (.int .i64 (m : Int))) :
    Calls Tryd.prog 42 #[.int .i64 (m : Int), vecV a, .func (.func 43) #[] #[.pointer (some ⟨q0, 0, none⟩), .pointer (some ⟨q1, 0, none⟩)]] W fun e W' =>
      e = .returned (vecE (vlanes m (voneN op.toNat m a), 0)) ∧ Below W.heap.size W W' := by
  refine one_r hm rfl a ha _ _ W hT.toWTabs fun W2 bl hB2 hL => ?_
  have hT2 := hT.later hB2
  have ho1 := fun i => one_ok hm hk (zof (laneN_lt a m i))
  refine each_ok hm rfl _ _ one1_enters bl 0 _ _ (voneN op.toNat m a) (fun i hi => (zlt (ho1 i).1).1) W2 hT2.toWTabs hL ?_
  intro V i hi hV
  have C := Z.One_calls (zw hm) op (laneN a m i) ho (zof (laneN_lt a m i)) V (hT2.later hV)
  have e1 : Z.one op.toNat m (laneN a m i : Int) = ((voneN op.toNat m a i : Int), 0) := Prod.ext (zlt (ho1 i).1).2.symm (ho1 i).2
  rw [e1] at C
  rw [at_list _ _ _ hi]
  exact one1_walk op m _ _ _ q0 q1 V (cell_later (later2 hB2 hV) h0 (Nat.le_refl _)) (cell_later (later2 hB2 hV) h1 (Nat.le_refl _)) C

theorem vone_code : VOneOK Tabs := by
  intro op w a ho ha W hT
  unfold vone
  cases hk : ook op.toNat with
  | false =>
    have hne : ∀ v : Int, 28 ≤ v ∧ v ≤ 31 → (op == v) = false := by
      intro v hv
      have : op ≠ v := by
        rintro rfl
        unfold ook at hk
        simp at hk
        omega
      simp [this]
    rw [Bool.and_false, if_neg (by simp)]
    exact vone_refuse op w a (hne 29 (by decide)) (hne 30 (by decide)) (hne 28 (by decide)) (hne 31 (by decide)) W
  | true =>
    rw [Bool.and_true]
    have key : ∀ (W' : World) (q0 q1 : Nat), Below W.heap.size W W' → W'.cell? ⟨q0, 0, none⟩ = some (.int .u8 op) → W'.cell? ⟨q1, 0, none⟩ = some (.int .i64 w) →
        Calls Tryd.prog 42 #[.int .i64 w, vecV a, .func (.func 43) #[] #[.pointer (some ⟨q0, 0, none⟩), .pointer (some ⟨q1, 0, none⟩)]] W' fun e W'' =>
          e = .returned (vecE (if isW w = true then (vlanes w.toNat (voneN op.toNat w.toNat a), 0) else bad2)) ∧ Below W'.heap.size W' W'' := by
      intro W' q0 q1 hB h0 h1
      have hT' := hT.later hB
      cases h : isW w with
      | false => rw [if_neg (by simp)]; exact one_width w a _ h W' hT'.toWTabs
      | true =>
        obtain ⟨m, rfl, hm⟩ := (isW_iff w).1 h
        rw [if_pos rfl, Int.toNat_natCast]
        exact vone_each hm op ho hk a ha q0 q1 W' hT' h0 h1
    have : op = 28 ∨ op = 29 ∨ op = 30 ∨ op = 31 := by
      unfold ook at hk
      simp at hk
      omega
    rcases this with rfl | rfl | rfl | rfl
    · exact vone28_r w a _ W key
    · exact vone29_r w a _ W key
    · exact vone30_r w a _ W key
    · exact vone31_r w a _ W key

theorem mod_of {m : Nat} (hm : IsW m) (n : Nat) : Z.Of m ((n % m : Nat) : Int) := by
  refine zof (Nat.lt_of_lt_of_le (Nat.mod_lt n hm.pos) ?_)
  rcases hm with rfl | rfl | rfl | rfl <;> decide

theorem vshift_each {m : Nat} (hm : IsW m) (op : Int) (ho : 0 ≤ op) (hk : sok op.toNat = true) (a : Nat × Nat) (ha : Vok a) (n : Nat) (q0 q1 q2 : Nat) (W : World) (hT : WTabs W)
    (h0 : W.cell? ⟨q0, 0, none⟩ = some (.int .u8 op)) (h1 : W.cell? ⟨q1, 0, none⟩ = some (.int .i64 (m : Int))) (h2 : W.cell? ⟨q2, 0, none⟩ = some (.int .u64 (n : Int))) :
    Calls Tryd.prog 42 #[.int .i64 (m : Int), vecV a, .func (.func 46) #[] #[.pointer (some ⟨q0, 0, none⟩), .pointer (some ⟨q1, 0, none⟩), .pointer (some ⟨q2, 0, none⟩)]] W fun e W' =>
      e = .returned (vecE (vlanes m (vshiftN op.toNat m a n), 0)) ∧ Below W.heap.size W W' := by
  refine one_r hm rfl a ha _ _ W hT fun W2 bl hB2 hL => ?_
  have hT2 := hT.later hB2
  have ho1 := fun i => shift_ok (b := ((n % m : Nat) : Int)) hk (zof (laneN_lt a m i))
  refine each_ok hm rfl _ _ shift1_enters bl 0 _ _ (vshiftN op.toNat m a n) (fun i hi => (zlt (ho1 i).1).1) W2 hT2 hL ?_
  intro V i hi hV
  have C := fun W1 (hW1 : Below V.heap.size V W1) => Z.Two_calls (zw hm) op (laneN a m i) ((n % m : Nat) : Int) ho (zof (laneN_lt a m i)) (mod_of hm n) W1 ((hT2.later hV).later hW1)
  have e1 : Z.two op.toNat m (laneN a m i : Int) ((n % m : Nat) : Int) = ((vshiftN op.toNat m a n i : Int), 0) := Prod.ext (zlt (ho1 i).1).2.symm (ho1 i).2
  rw [e1] at C
  rw [at_list _ _ _ hi]
  have hb := later2 hB2 hV
  refine shift1_walk op m _ _ (n : Int) 0 q0 q1 q2 V (cell_later hb h0 (Nat.le_refl _)) (cell_later hb h1 (Nat.le_refl _)) (cell_later hb h2 (Nat.le_refl _)) ?_ ?_ rfl _ _ C
  · rcases hm with rfl | rfl | rfl | rfl <;> rfl
  · have := hm.pos; omega

theorem vshift_code : VShiftOK WTabs := by
  intro op w a n ho ha hn W hT
  unfold vshift
  cases hk : sok op.toNat with
  | false =>
    have hne : ∀ v : Int, 11 ≤ v ∧ v ≤ 13 → (op == v) = false := by
      intro v hv
      have : op ≠ v := by
        rintro rfl
        unfold sok at hk
        simp at hk
        omega
      simp [this]
    rw [Bool.and_false, if_neg (by simp)]
    exact vshift_refuse op w a n (hne 11 (by decide)) (hne 12 (by decide)) (hne 13 (by decide)) W
  | true =>
    rw [Bool.and_true]
    have key : ∀ (W' : World) (q0 q1 q2 : Nat), Below W.heap.size W W' → W'.cell? ⟨q0, 0, none⟩ = some (.int .u8 op) → W'.cell? ⟨q1, 0, none⟩ = some (.int .i64 w) → W'.cell? ⟨q2, 0, none⟩ = some (.int .u64 (n : Int)) →
        Calls Tryd.prog 42 #[.int .i64 w, vecV a, .func (.func 46) #[] #[.pointer (some ⟨q0, 0, none⟩), .pointer (some ⟨q1, 0, none⟩), .pointer (some ⟨q2, 0, none⟩)]] W' fun e W'' =>
          e = .returned (vecE (if isW w = true then (vlanes w.toNat (vshiftN op.toNat w.toNat a n), 0) else bad2)) ∧ Below W'.heap.size W' W'' := by
      intro W' q0 q1 q2 hB h0 h1 h2
      have hT' := hT.later hB
      cases h : isW w with
      | false => rw [if_neg (by simp)]; exact one_width w a _ h W' hT'
      | true =>
        obtain ⟨m, rfl, hm⟩ := (isW_iff w).1 h
        rw [if_pos rfl, Int.toNat_natCast]
        exact vshift_each hm op ho hk a ha n q0 q1 q2 W' hT' h0 h1 h2
    have : op = 11 ∨ op = 12 ∨ op = 13 := by
      unfold sok at hk
      simp at hk
      omega
    rcases this with rfl | rfl | rfl
    · exact vshift11_r w a n _ W key
    · exact vshift12_r w a n _ W key
    · exact vshift13_r w a n _ W key

theorem vthan_code : VThanOK Tabs := by
  intro op w a b ho ha hb W hT
  unfold vthan
  refine vthan_r op w a b _ W fun W' q0 q1 hB h0 h1 => ?_
  have hT' := hT.later hB
  cases h : isW w with
  | false => rw [Bool.false_and, if_neg (by simp)]; exact two_width w a b _ h W' hT'.toWTabs
  | true =>
    obtain ⟨m, rfl, hm⟩ := (isW_iff w).1 h
    rw [Bool.true_and, Int.toNat_natCast]
    refine two_r hm rfl a b ha hb _ _ W' hT'.toWTabs fun W2 bl bm hB2 hL hM => ?_
    have hT2 := hT'.later hB2
    cases hk : hok op.toNat with
    | true =>
      rw [if_pos rfl]
      have hlt : ∀ i, vthanN op.toNat m a b i < 2 ^ m := fun i => by
        unfold vthanN
        have := Nat.two_pow_pos m
        split <;> omega
      refine both_ok hm rfl _ _ than1_enters bl 0 _ bm 0 _ _ _ (vthanN op.toNat m a b) (fun i hi => hlt i) W2 hT2.toWTabs hL hM ?_
      intro V i hi hV
      have hTV := hT2.later hV
      have C := Z.Than_calls (zw hm) op (laneN a m i) (laneN b m i) ho (zof (laneN_lt a m i)) (zof (laneN_lt b m i)) V hTV.toWTabs
      have e0 := than_ok (w := m) hk (laneN a m i : Int) (laneN b m i : Int)
      rw [at_list _ _ _ hi, at_list _ _ _ hi]
      have hb := later2 hB2 hV
      cases ht : (Z.than op.toNat m (laneN a m i : Int) (laneN b m i : Int)).1 with
      | true =>
        rw [show Z.than op.toNat m (laneN a m i : Int) (laneN b m i : Int) = (true, 0) from Prod.ext ht e0] at C
        have D := fun W1 (hW1 : Below V.heap.size V W1) => Z.One_calls (zw hm) 31 0 (by decide) (zof (n := 0) (Nat.two_pow_pos m)) W1 (hTV.later hW1)
        have e1 : Z.one (31 : Int).toNat m 0 = ((vthanN op.toNat m a b i : Int), 0) := by
          unfold vthanN
          rw [ht, if_pos rfl]
          show (Z.mo m - 0, (0 : Int)) = _
          have := Nat.two_pow_pos m
          have h2 : ((2 ^ m : Nat) : Int) = (2 : Int) ^ m := by simp
          refine Prod.ext ?_ rfl
          show (2 : Int) ^ m - 1 - 0 = ((2 ^ m - 1 : Nat) : Int)
          omega
        rw [e1] at D
        exact than1_true op m _ _ _ _ q0 q1 V (cell_later hb h0 (Nat.le_refl _)) (cell_later hb h1 (Nat.le_refl _)) C D
      | false =>
        rw [show Z.than op.toNat m (laneN a m i : Int) (laneN b m i : Int) = (false, 0) from Prod.ext ht e0] at C
        have e1 : vthanN op.toNat m a b i = 0 := by
          unfold vthanN
          rw [ht]; rfl
        rw [e1]
        exact than1_false op m _ _ _ q0 q1 (.inl rfl) V (cell_later hb h0 (Nat.le_refl _)) (cell_later hb h1 (Nat.le_refl _)) C
    | false =>
      rw [if_neg (by simp)]
      refine both_bad (c_pos hm) (c_16 hm) _ _ than1_enters bl 0 _ bm 0 _ _ _ (fun _ => 0) W2 hL hM ?_
      intro V i hi hV
      have hTV := hT2.later hV
      have C := Z.Than_calls (zw hm) op (laneN a m i) (laneN b m i) ho (zof (laneN_lt a m i)) (zof (laneN_lt b m i)) V hTV.toWTabs
      have hn : op.toNat < 32 ∨ 41 < op.toNat := by
        unfold hok at hk
        simp at hk
        omega
      rw [Z.than_none hn] at C
      rw [at_list _ _ _ hi, at_list _ _ _ hi]
      have hb := later2 hB2 hV
      exact than1_false op m _ _ _ q0 q1 (.inr rfl) V (cell_later hb h0 (Nat.le_refl _)) (cell_later hb h1 (Nat.le_refl _)) C
end Go.Proofs.YtoihfmammmkloaaDoor
