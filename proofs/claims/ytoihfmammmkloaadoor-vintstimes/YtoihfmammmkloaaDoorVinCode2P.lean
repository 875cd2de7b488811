/-
  vints.All, Mask: what they answer.
-/
import Derived.Test.YtoihfmammmkloaaDoorPkCode
import Derived.Test.YtoihfmammmkloaaDoorVinLawsP
import Derived.Laws.Bits64b
set_option linter.unusedVariables false
set_option linter.unusedSimpArgs false
namespace Go.Proofs.YtoihfmammmkloaaDoor
open Go.RowKit Lan

theorem or_top {x k : Nat} (hx : x < 2 ^ k) (hk : k < 64) : bits .or .u64 (x : Int) (IntKind.u64.wrap (2 ^ k)) = ((x + 2 ^ k : Nat) : Int) := by
  have h1 : 2 ^ k < 18446744073709551616 := Nat.pow_lt_pow_right (m := k) (n := 64) (by decide) hk
  have h2 : ((2 ^ k : Nat) : Int) = (2 : Int) ^ k := by simp
  have h3 : IntKind.u64.wrap ((2 : Int) ^ k) = ((2 ^ k : Nat) : Int) := by
    rw [← h2, IntKind.wrap_u64]
    omega
  have h4 := Nat.two_pow_add_eq_or_of_lt hx 1
  rw [Nat.mul_one] at h4
  rw [h3, bits_or_u64_nat _ _ (by omega) h1, Nat.or_comm, ← h4]
  congr 1
  omega

set_option maxHeartbeats 1000000 in
theorem vmask_bad (w : Int) (a : Nat × Nat) (h : isW w = false) (W : World) (hT : WTabs W) :
    Calls Tryd.prog 20 #[.int .i64 w, vecV a] W fun e W' => e = .returned (.tuple #[.int .u64 0, .int .i64 2]) ∧ Below W.heap.size W W' := by
  have BA : Hide (Below W.heap.size W (W.alloc (.cells #[.int .u64 (a.1 : Int), .int .u64 (a.2 : Int)] 25))) := hide (below_two _ _)
  have CA := hide (lall_bad a w h _ (hT.later BA.out))
  clear hT h
  obtain ⟨p, q⟩ := a
  unfold vecV at *
  simp only at *
  go_enter Tryd.func20, Tryd.ntmps20
  go_wp2_with fail
  refine CA.out.mono ?_
  rintro e w2 ⟨rfl, hb⟩
  have K2 : Hide (Below W.heap.size W w2) := hide (BA.out.trans (hb.mono BA.out.size))
  clear hb
  go_wp2
  refine bodyPost_ret (v := .tuple #[.int .u64 0, .int .i64 2]) (by simp [results, Tryd.results20, go_sem]) rfl ?_
  exact ⟨rfl, K2.out⟩

set_option maxHeartbeats 1000000 in
theorem vall_bad (w : Int) (a : Nat × Nat) (h : isW w = false) (W : World) (hT : WTabs W) :
    Calls Tryd.prog 18 #[.int .i64 w, vecV a] W fun e W' => e = .returned (.tuple #[.bool false, .int .i64 2]) ∧ Below W.heap.size W W' := by
  have BA : Hide (Below W.heap.size W (W.alloc (.cells #[.int .u64 (a.1 : Int), .int .u64 (a.2 : Int)] 25))) := hide (below_two _ _)
  have CA := hide (lall_bad a w h _ (hT.later BA.out))
  clear hT h
  obtain ⟨p, q⟩ := a
  unfold vecV at *
  simp only at *
  go_enter Tryd.func18, Tryd.ntmps18
  go_wp2_with fail
  refine CA.out.mono ?_
  rintro e w2 ⟨rfl, hb⟩
  have K2 : Hide (Below W.heap.size W w2) := hide (BA.out.trans (hb.mono BA.out.size))
  clear hb
  go_wp2
  refine bodyPost_ret (v := .tuple #[.bool false, .int .i64 2]) (by simp [results, Tryd.results18, go_sem]) rfl ?_
  exact ⟨rfl, K2.out⟩

set_option maxHeartbeats 1000000 in
theorem vmask_ok {w c : Nat} (hw : IsW w) (hc : 128 / w = c) (a : Nat × Nat) (ha : Vok a) (f : Nat → Bool) (M : Nat → Nat) (hM0 : M 0 = 0) (hM : ∀ k, k < c → M (k + 1) = if f k then M k + 2 ^ k else M k)
    (hlt : ∀ k, k ≤ c → M k < 2 ^ k) (W : World) (hT : WTabs W)
    (hC : ∀ k, k < c → ∀ W', WTabs W' → Calls Tryd.prog 48 #[.int .u8 35, .int .i64 (w : Int), .int .u64 (laneN a w k : Int), .int .u64 0] W' fun e W'' => e = .returned (.tuple #[.bool (f k), .int .i64 0]) ∧ Below W'.heap.size W' W'') :
    Calls Tryd.prog 20 #[.int .i64 (w : Int), vecV a] W fun e W' => e = .returned (.tuple #[.int .u64 (M c : Int), .int .i64 0]) ∧ Below W.heap.size W W' := by
  have BA : Hide (Below W.heap.size W (W.alloc (.cells #[.int .u64 (a.1 : Int), .int .u64 (a.2 : Int)] 25))) := hide (below_two _ _)
  have CA := hide (lall_ok hw hc a ha _ (hT.later BA.out))
  have HLA : Hide ((listN a w).length = c) := hide (by rw [listN_length, hc])
  have HAT : Hide (∀ k, k < c → at0 (listN a w) k = laneN a w k) := hide (fun k hk => at_list a w k (by omega))
  have hc16 : c ≤ 16 := by rw [← hc]; rcases hw with rfl | rfl | rfl | rfl <;> decide
  have HC := hide hC
  have HM := hide hM
  have HLT := hide hlt
  have HT := hide hT
  clear hT hw hc ha hC hM hlt
  generalize listN a w = LA at *
  generalize laneN a w = fl at *
  obtain ⟨p, q⟩ := a
  unfold vecV at *
  simp only at *
  go_enter Tryd.func20, Tryd.ntmps20
  go_wp2_with fail
  refine CA.out.mono ?_
  rintro e w1 ⟨g, hg, rfl, hWa, hb⟩
  have K2 : Hide (Below W.heap.size W w1) := hide (BA.out.trans (hb.mono BA.out.size))
  have KA := hide (hWa.words HLA.out)
  clear hb hWa hg CA
  go_wp2_with fail
  go_loopw [24, 8] (fun x n wr => ∃ k : Nat, x = .int .i64 (k : Int) ∧ k ≤ c ∧ n = .int .u64 (M k : Int) ∧ Below w1.heap.size w1 wr) (fun x _ _ => c - (intOf x).toNat)
  case atStart => exact ⟨0, rfl, by omega, by rw [hM0]; rfl, Below.refl _ _⟩
  case round =>
    obtain ⟨k, rfl, hk, rfl, hr⟩ := hrel
    by_cases c0 : k < c
    · have c1 : (k : Int) < (c : Int) := by omega
      have c2 : (k : Int) < 16 := by omega
      have hcell := cell_later hr (KA.out k c0) (Nat.le_refl _)
      rw [HAT.out k c0, Nat.zero_add] at hcell
      have BW := hide (K2.out.trans (hr.mono K2.out.size))
      have CK := HC.out k c0 wr (HT.out.later BW.out)
      have EQ := HM.out k c0
      have LT := hide (HLT.out k hk)
      have H := hide hr
      have HCK := hide c0
      clear hr HC
      generalize fl k = x at *
      cases hf : f k with
      | true =>
        rw [hf] at CK EQ
        rw [if_pos rfl] at EQ
        have CK := hide CK
        have HE := hide EQ
        clear EQ hf
        go_wp2_with fail
        refine CK.out.mono ?_
        rintro e w2 ⟨rfl, hb⟩
        have H2 := hide (H.out.trans (hb.mono H.out.size))
        clear hb hcell CK
        go_wp2
        go_roundw
        case rel => exact ⟨k + 1, by go_num, HCK.out, by rw [HE.out, or_top LT.out (by omega)], H2.out⟩
        case measure => have := HCK.out; simp [intOf]; omega
      | false =>
        rw [hf] at CK EQ
        rw [if_neg (by simp)] at EQ
        have CK := hide CK
        have HE := hide EQ
        clear EQ hf
        go_wp2_with fail
        refine CK.out.mono ?_
        rintro e w2 ⟨rfl, hb⟩
        have H2 := hide (H.out.trans (hb.mono H.out.size))
        clear hb hcell CK
        go_wp2
        go_roundw
        case rel => exact ⟨k + 1, by go_num, HCK.out, by rw [HE.out], H2.out⟩
        case measure => have := HCK.out; simp [intOf]; omega
    · obtain rfl : k = c := by omega
      have H := hide hr
      clear hr HC
      go_wp2
      refine bodyPost_ret (v := .tuple #[.int .u64 (M k : Int), .int .i64 0]) (by simp [results, Tryd.results20, go_sem]) rfl ?_
      exact ⟨rfl, K2.out.trans (H.out.mono K2.out.size)⟩

theorem vmask_code : VMaskOK WTabs := by
  intro w a ha W hT
  unfold vmask
  cases h : isW w with
  | false => rw [if_neg (by simp)]; exact vmask_bad w a h W hT
  | true =>
    obtain ⟨m, rfl, hm⟩ := (isW_iff w).1 h
    rw [if_pos rfl, Int.toNat_natCast]
    have hp := Nat.two_pow_pos m
    refine vmask_ok hm rfl a ha (fun k => !decide (laneN a m k < 2 ^ (m - 1))) (vmaskN m a) rfl (fun k hk => ?_) (fun k hk => ?_) W hT (fun k hk W' hT' => ?_)
    · show vmaskN m a k + _ = _
      by_cases d : laneN a m k < 2 ^ (m - 1)
      · rw [if_pos d, if_neg (by simp [d])]; omega
      · rw [if_neg d, if_pos (by simp [d])]
    · have := mask_le m a k
      have := Nat.two_pow_pos k
      omega
    · have C := Z.Than_calls (zw hm) 35 (laneN a m k) 0 (by decide) (zof (laneN_lt a m k)) (zof (n := 0) hp) W' hT'
      have e : Z.than (35 : Int).toNat m (laneN a m k : Int) 0 = (!decide (laneN a m k < 2 ^ (m - 1)), 0) := by
        show (decide (Ints.wo m (laneN a m k : Int) < Ints.wo m 0), (0 : Int)) = _
        refine Prod.ext ?_ rfl
        have h0 : Ints.wo m 0 = 0 := by
          unfold Ints.wo
          rw [if_pos (by have := Nat.two_pow_pos (m - 1); exact_mod_cast this)]
        have hl := laneN_lt a m k
        have hl' : (laneN a m k : Int) < (2 : Int) ^ m := by exact_mod_cast hl
        rw [h0]
        unfold Ints.wo
        by_cases d : laneN a m k < 2 ^ (m - 1)
        · have d' : (laneN a m k : Int) < (2 : Int) ^ (m - 1) := by exact_mod_cast d
          rw [if_pos d']
          simp [d]
        · have d' : ¬ (laneN a m k : Int) < (2 : Int) ^ (m - 1) := by
            intro x; apply d; exact_mod_cast x
          rw [if_neg d']
          simp [d]
          omega
      rw [e] at C
      exact C

/-- Index's answer: below 0, if there is none. -/
def IdxPost (W : World) (b : Bool) (e : Ending) (W' : World) : Prop := ∃ r : Int, e = .returned (.int .i64 r) ∧ decide (0 ≤ r) = b ∧ W' = W
def has0 (c : Nat) (L : List Nat) : Bool := (List.range c).any fun i => at0 L i == 0

set_option maxHeartbeats 1000000 in
theorem index_calls (b o c cap : Nat) (L : List Nat) (W : World) (hc : c ≤ 16) (hL : Words W b o c L) :
    Calls Tryd.prog 93 #[.slice (some ⟨b, o, none⟩) c cap, .int .u64 0] W fun e W' => IdxPost W (has0 c L) e W' := by
  have HL := hide hL
  clear hL
  go_enter Tryd.func93, Tryd.ntmps93
  go_wp2
  go_loopw [8] (fun x wr => ∃ k : Nat, x = .int .i64 (k : Int) ∧ k ≤ c ∧ (∀ j, j < k → at0 L j ≠ 0) ∧ wr = W) (fun x _ => c - (intOf x).toNat)
  case atStart => exact ⟨0, rfl, by omega, fun j hj => by omega, rfl⟩
  case round =>
    obtain ⟨k, rfl, hk, hn, rfl⟩ := hrel
    have HN := hide hn
    clear hn
    by_cases c0 : k < c
    · have c1 : (k : Int) < (c : Int) := by omega
      have c2 : (k : Int) < 16 := by omega
      have hcell := HL.out k c0
      have HX : Hide (at0 L k = 0 → has0 c L = true) := hide (fun h => by
        unfold has0
        rw [List.any_eq_true]
        exact ⟨k, List.mem_range.2 c0, by simp [h]⟩)
      have HCK := hide c0
      have HZ : Hide (at0 L k ≠ 0 → ∀ j, j < k + 1 → at0 L j ≠ 0) := hide (fun h j hj => by
        by_cases e : j = k
        · subst e; exact h
        · exact HN.out j (by omega))
      generalize at0 L k = x at *
      by_cases d : x = 0
      · subst d
        have hb := HX.out rfl
        have HBB := hide hb
        clear hb
        go_wp2
        refine bodyPost_ret (v := .int .i64 (k : Int)) (by simp [results, Tryd.results93, go_sem]) rfl ?_
        exact ⟨k, rfl, by rw [HBB.out]; simp, rfl⟩
      · have d1 : ((0 : Int) == (x : Int)) = false := by simp; omega
        have HD := hide (HZ.out d)
        clear d
        go_wp2
        go_roundw
        case rel => exact ⟨k + 1, by go_num, HCK.out, HD.out, by trivial⟩
        case measure => have := HCK.out; simp [intOf]; omega
    · obtain rfl : k = c := by omega
      have HBB : Hide (has0 k L = false) := hide (by
        unfold has0
        rw [List.any_eq_false]
        intro j hj
        simp [HN.out j (List.mem_range.1 hj)])
      go_wp2
      refine bodyPost_ret (v := .int .i64 (-1)) (by simp [results, Tryd.results93, go_sem]) rfl ?_
      exact ⟨-1, rfl, by rw [HBB.out]; rfl, rfl⟩

set_option maxHeartbeats 1000000 in
theorem contains_calls (b o c cap : Nat) (L : List Nat) (W : World) (hc : c ≤ 16) (hL : Words W b o c L) :
    Calls Tryd.prog 52 #[.slice (some ⟨b, o, none⟩) c cap, .int .u64 0] W fun e W' => e = .returned (.bool (has0 c L)) ∧ W' = W := by
  have C := hide (index_calls b o c cap L W hc hL)
  clear hL
  go_enter Tryd.func52, Tryd.ntmps52
  go_wp2_with fail
  refine C.out.mono ?_
  rintro e w1 ⟨r, rfl, hr, hw⟩
  subst hw
  have HR := hide hr
  clear hr
  go_wp2
  refine bodyPost_ret (v := .bool (decide (0 ≤ r))) (by simp [results, Tryd.results52, go_sem]) rfl ?_
  exact ⟨by rw [HR.out], rfl⟩

set_option maxHeartbeats 1000000 in
theorem vall_ok {w c : Nat} (hw : IsW w) (hc : 128 / w = c) (a : Nat × Nat) (ha : Vok a) (W : World) (hT : WTabs W) :
    Calls Tryd.prog 18 #[.int .i64 (w : Int), vecV a] W fun e W' => e = .returned (.tuple #[.bool (!has0 c (listN a w)), .int .i64 0]) ∧ Below W.heap.size W W' := by
  have BA : Hide (Below W.heap.size W (W.alloc (.cells #[.int .u64 (a.1 : Int), .int .u64 (a.2 : Int)] 25))) := hide (below_two _ _)
  have CA := hide (lall_ok hw hc a ha _ (hT.later BA.out))
  have HLA : Hide ((listN a w).length = c) := hide (by rw [listN_length, hc])
  have hc16 : c ≤ 16 := by rw [← hc]; rcases hw with rfl | rfl | rfl | rfl <;> decide
  have CC := hide (fun b W' hL => contains_calls b 0 c c (listN a w) W' hc16 hL)
  clear hT hw hc ha
  generalize listN a w = LA at *
  generalize has0 c LA = bb at *
  obtain ⟨p, q⟩ := a
  unfold vecV at *
  simp only at *
  go_enter Tryd.func18, Tryd.ntmps18
  go_wp2_with fail
  refine CA.out.mono ?_
  rintro e w1 ⟨g, hg, rfl, hWa, hb⟩
  have K2 : Hide (Below W.heap.size W w1) := hide (BA.out.trans (hb.mono BA.out.size))
  have C2 := hide (CC.out g w1 (hWa.words HLA.out))
  clear hb hWa hg CA CC
  go_wp2_with fail
  refine C2.out.mono ?_
  rintro e w2 ⟨rfl, h2⟩
  subst h2
  go_wp2
  refine bodyPost_ret (v := .tuple #[.bool (!bb), .int .i64 0]) (by simp [results, Tryd.results18, go_sem]) rfl ?_
  exact ⟨rfl, K2.out⟩

theorem vall_code : VAllOK WTabs := by
  intro w a ha W hT
  unfold vall
  cases h : isW w with
  | false => rw [if_neg (by simp)]; exact vall_bad w a h W hT
  | true =>
    obtain ⟨m, rfl, hm⟩ := (isW_iff w).1 h
    rw [if_pos rfl, Int.toNat_natCast]
    have e : vallB m a = !has0 (128 / m) (listN a m) := by
      unfold vallB has0
      rw [List.not_any_eq_all_not]
      apply Bool.eq_iff_iff.2
      simp only [List.all_eq_true]
      constructor
      · intro h i hi
        have := h i hi
        rw [at_list _ _ _ (List.mem_range.1 hi)]
        simpa using this
      · intro h i hi
        have := h i hi
        rw [at_list _ _ _ (List.mem_range.1 hi)] at this
        simpa using this
    rw [e]
    exact vall_ok hm rfl a ha W hT
end Go.Proofs.YtoihfmammmkloaaDoor
