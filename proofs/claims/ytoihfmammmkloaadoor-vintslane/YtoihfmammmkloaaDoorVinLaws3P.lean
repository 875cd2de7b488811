/-
  VintsLane over what is asked of vints.
-/
import Derived.Test.YtoihfmammmkloaaDoorVinLawsP
import Derived.Test.YtoihfmammmkloaaDoorVinWidP
set_option linter.unusedVariables false
set_option linter.unusedSimpArgs false
namespace Go.Proofs.YtoihfmammmkloaaDoor
open Go.RowKit Lan

theorem vlane_8 {T : World → Prop} (TL : TabsLike T) (h2 : VTwoOK T) (hm : VMaskOK T) (op n : Nat) (hn : lwd7 n = 8) (a : Nat × Nat) (ha : Vok a) (b : Nat × Nat) (hb : Vok b) (i : Int) (W : World) (hT : T W) :
    Calls Tryd.prog 8 #[.int .u8 (op : Int), .int .u8 (n : Int), vecV a, vecV b, .int .i64 i] W fun e W' => e = .returned (.bool true) ∧ Below W.heap.size W W' := by
  have hw : IsW 8 := (.inl rfl)
  have CD := fun W => wid7_calls n W
  rw [hn] at CD
  have CW := hide fun W hT => vworks TL h2 hm W hT
  by_cases i0 : i < 0
  · exact vlane_lo_8 T (hide TL.later) op i n a.1 a.2 b.1 b.2 (by simpa using i0) (hide CD) CW W (hide hT)
  · have d0 : decide (i < 0) = false := by simpa using i0
    by_cases i1 : 16 ≤ i
    · exact vlane_hi_8 T (hide TL.later) op i n a.1 a.2 b.1 b.2 d0 (by simpa using i1) (hide CD) CW W (hide hT)
    · have d1 : decide (i ≥ 16) = false := by simpa using i1
      obtain ⟨m, rfl⟩ := Int.eq_ofNat_of_zero_le (show 0 ≤ i by omega)
      have hm' : m < 128 / 8 := by omega
      have C0 := fun W hT => h2 op 8 a b (by omega) ha hb W hT
      by_cases ht : refused op = false ∧ tok op 8 = true
      · have e : vtwo op 8 a b = (vlanes 8 (vtwoN op 8 a b), 0) := by
          unfold vtwo
          simp only [Int.toNat_natCast, ht.1, Bool.false_eq_true, if_false]
          rw [show isW 8 = true from rfl, if_pos rfl, show (8 : Int).toNat = 8 from rfl, ht.2, if_pos rfl]
        have la := zof (laneN_lt a 8 m)
        have lb := zof (laneN_lt b 8 m)
        have hf : ∀ i, i < 128 / 8 → vtwoN op 8 a b i < 2 ^ 8 := fun i _ => (zlt (two_ok ht.2 (zof (laneN_lt a 8 i)) (zof (laneN_lt b 8 i))).1).1
        rw [e] at C0
        have C4 := fun W hT => get_at hw hm' (vlanes 8 (vtwoN op 8 a b)) (vlanes_ok hw hf) W (TL.widths W hT)
        rw [lane_at hw hf m hm'] at C4
        have C3 := fun W hT => Z.Two_calls (zw hw) (op : Int) (laneN a 8 m : Int) (laneN b 8 m : Int) (by omega) la lb W (TL.widths W hT)
        unfold Z.pairV at C3
        simp only [Int.toNat_natCast] at C3
        rw [(two_ok ht.2 la lb).2, ← (zlt (two_ok ht.2 la lb).1).2] at C3
        obtain ⟨⟨p, q⟩, hF⟩ : ∃ F, vlanes 8 (vtwoN op 8 a b) = F := ⟨_, rfl⟩
        rw [hF] at C0 C4
        exact vlane_ok_8 T (hide TL.later) op m n a.1 a.2 b.1 b.2 p q (laneN a 8 m) (laneN b 8 m) (vtwoN op 8 a b m) d0 d1 (hide CD) (hide C0) (hide fun W hT => get_at hw hm' a ha W (TL.widths W hT)) (hide fun W hT => get_at hw hm' b hb W (TL.widths W hT)) (hide C3) (hide C4) CW W (hide hT)
      · have e : vtwo op 8 a b = ((0, 0), 2) := by
          unfold vtwo
          simp only [Int.toNat_natCast]
          rw [show isW 8 = true from rfl, if_pos rfl, show (8 : Int).toNat = 8 from rfl]
          cases hr : refused op with
          | true => rfl
          | false =>
            cases hk : tok op 8 with
            | true => exact absurd ⟨hr, hk⟩ ht
            | false => rfl
        rw [e] at C0
        exact vlane_bad_8 T (hide TL.later) op m n a.1 a.2 b.1 b.2 d0 d1 (hide CD) (hide C0) CW W (hide hT)

theorem vlane_16 {T : World → Prop} (TL : TabsLike T) (h2 : VTwoOK T) (hm : VMaskOK T) (op n : Nat) (hn : lwd7 n = 16) (a : Nat × Nat) (ha : Vok a) (b : Nat × Nat) (hb : Vok b) (i : Int) (W : World) (hT : T W) :
    Calls Tryd.prog 8 #[.int .u8 (op : Int), .int .u8 (n : Int), vecV a, vecV b, .int .i64 i] W fun e W' => e = .returned (.bool true) ∧ Below W.heap.size W W' := by
  have hw : IsW 16 := (.inr (.inl rfl))
  have CD := fun W => wid7_calls n W
  rw [hn] at CD
  have CW := hide fun W hT => vworks TL h2 hm W hT
  by_cases i0 : i < 0
  · exact vlane_lo_16 T (hide TL.later) op i n a.1 a.2 b.1 b.2 (by simpa using i0) (hide CD) CW W (hide hT)
  · have d0 : decide (i < 0) = false := by simpa using i0
    by_cases i1 : 8 ≤ i
    · exact vlane_hi_16 T (hide TL.later) op i n a.1 a.2 b.1 b.2 d0 (by simpa using i1) (hide CD) CW W (hide hT)
    · have d1 : decide (i ≥ 8) = false := by simpa using i1
      obtain ⟨m, rfl⟩ := Int.eq_ofNat_of_zero_le (show 0 ≤ i by omega)
      have hm' : m < 128 / 16 := by omega
      have C0 := fun W hT => h2 op 16 a b (by omega) ha hb W hT
      by_cases ht : refused op = false ∧ tok op 16 = true
      · have e : vtwo op 16 a b = (vlanes 16 (vtwoN op 16 a b), 0) := by
          unfold vtwo
          simp only [Int.toNat_natCast, ht.1, Bool.false_eq_true, if_false]
          rw [show isW 16 = true from rfl, if_pos rfl, show (16 : Int).toNat = 16 from rfl, ht.2, if_pos rfl]
        have la := zof (laneN_lt a 16 m)
        have lb := zof (laneN_lt b 16 m)
        have hf : ∀ i, i < 128 / 16 → vtwoN op 16 a b i < 2 ^ 16 := fun i _ => (zlt (two_ok ht.2 (zof (laneN_lt a 16 i)) (zof (laneN_lt b 16 i))).1).1
        rw [e] at C0
        have C4 := fun W hT => get_at hw hm' (vlanes 16 (vtwoN op 16 a b)) (vlanes_ok hw hf) W (TL.widths W hT)
        rw [lane_at hw hf m hm'] at C4
        have C3 := fun W hT => Z.Two_calls (zw hw) (op : Int) (laneN a 16 m : Int) (laneN b 16 m : Int) (by omega) la lb W (TL.widths W hT)
        unfold Z.pairV at C3
        simp only [Int.toNat_natCast] at C3
        rw [(two_ok ht.2 la lb).2, ← (zlt (two_ok ht.2 la lb).1).2] at C3
        obtain ⟨⟨p, q⟩, hF⟩ : ∃ F, vlanes 16 (vtwoN op 16 a b) = F := ⟨_, rfl⟩
        rw [hF] at C0 C4
        exact vlane_ok_16 T (hide TL.later) op m n a.1 a.2 b.1 b.2 p q (laneN a 16 m) (laneN b 16 m) (vtwoN op 16 a b m) d0 d1 (hide CD) (hide C0) (hide fun W hT => get_at hw hm' a ha W (TL.widths W hT)) (hide fun W hT => get_at hw hm' b hb W (TL.widths W hT)) (hide C3) (hide C4) CW W (hide hT)
      · have e : vtwo op 16 a b = ((0, 0), 2) := by
          unfold vtwo
          simp only [Int.toNat_natCast]
          rw [show isW 16 = true from rfl, if_pos rfl, show (16 : Int).toNat = 16 from rfl]
          cases hr : refused op with
          | true => rfl
          | false =>
            cases hk : tok op 16 with
            | true => exact absurd ⟨hr, hk⟩ ht
            | false => rfl
        rw [e] at C0
        exact vlane_bad_16 T (hide TL.later) op m n a.1 a.2 b.1 b.2 d0 d1 (hide CD) (hide C0) CW W (hide hT)

theorem vlane_32 {T : World → Prop} (TL : TabsLike T) (h2 : VTwoOK T) (hm : VMaskOK T) (op n : Nat) (hn : lwd7 n = 32) (a : Nat × Nat) (ha : Vok a) (b : Nat × Nat) (hb : Vok b) (i : Int) (W : World) (hT : T W) :
    Calls Tryd.prog 8 #[.int .u8 (op : Int), .int .u8 (n : Int), vecV a, vecV b, .int .i64 i] W fun e W' => e = .returned (.bool true) ∧ Below W.heap.size W W' := by
  have hw : IsW 32 := (.inr (.inr (.inl rfl)))
  have CD := fun W => wid7_calls n W
  rw [hn] at CD
  have CW := hide fun W hT => vworks TL h2 hm W hT
  by_cases i0 : i < 0
  · exact vlane_lo_32 T (hide TL.later) op i n a.1 a.2 b.1 b.2 (by simpa using i0) (hide CD) CW W (hide hT)
  · have d0 : decide (i < 0) = false := by simpa using i0
    by_cases i1 : 4 ≤ i
    · exact vlane_hi_32 T (hide TL.later) op i n a.1 a.2 b.1 b.2 d0 (by simpa using i1) (hide CD) CW W (hide hT)
    · have d1 : decide (i ≥ 4) = false := by simpa using i1
      obtain ⟨m, rfl⟩ := Int.eq_ofNat_of_zero_le (show 0 ≤ i by omega)
      have hm' : m < 128 / 32 := by omega
      have C0 := fun W hT => h2 op 32 a b (by omega) ha hb W hT
      by_cases ht : refused op = false ∧ tok op 32 = true
      · have e : vtwo op 32 a b = (vlanes 32 (vtwoN op 32 a b), 0) := by
          unfold vtwo
          simp only [Int.toNat_natCast, ht.1, Bool.false_eq_true, if_false]
          rw [show isW 32 = true from rfl, if_pos rfl, show (32 : Int).toNat = 32 from rfl, ht.2, if_pos rfl]
        have la := zof (laneN_lt a 32 m)
        have lb := zof (laneN_lt b 32 m)
        have hf : ∀ i, i < 128 / 32 → vtwoN op 32 a b i < 2 ^ 32 := fun i _ => (zlt (two_ok ht.2 (zof (laneN_lt a 32 i)) (zof (laneN_lt b 32 i))).1).1
        rw [e] at C0
        have C4 := fun W hT => get_at hw hm' (vlanes 32 (vtwoN op 32 a b)) (vlanes_ok hw hf) W (TL.widths W hT)
        rw [lane_at hw hf m hm'] at C4
        have C3 := fun W hT => Z.Two_calls (zw hw) (op : Int) (laneN a 32 m : Int) (laneN b 32 m : Int) (by omega) la lb W (TL.widths W hT)
        unfold Z.pairV at C3
        simp only [Int.toNat_natCast] at C3
        rw [(two_ok ht.2 la lb).2, ← (zlt (two_ok ht.2 la lb).1).2] at C3
        obtain ⟨⟨p, q⟩, hF⟩ : ∃ F, vlanes 32 (vtwoN op 32 a b) = F := ⟨_, rfl⟩
        rw [hF] at C0 C4
        exact vlane_ok_32 T (hide TL.later) op m n a.1 a.2 b.1 b.2 p q (laneN a 32 m) (laneN b 32 m) (vtwoN op 32 a b m) d0 d1 (hide CD) (hide C0) (hide fun W hT => get_at hw hm' a ha W (TL.widths W hT)) (hide fun W hT => get_at hw hm' b hb W (TL.widths W hT)) (hide C3) (hide C4) CW W (hide hT)
      · have e : vtwo op 32 a b = ((0, 0), 2) := by
          unfold vtwo
          simp only [Int.toNat_natCast]
          rw [show isW 32 = true from rfl, if_pos rfl, show (32 : Int).toNat = 32 from rfl]
          cases hr : refused op with
          | true => rfl
          | false =>
            cases hk : tok op 32 with
            | true => exact absurd ⟨hr, hk⟩ ht
            | false => rfl
        rw [e] at C0
        exact vlane_bad_32 T (hide TL.later) op m n a.1 a.2 b.1 b.2 d0 d1 (hide CD) (hide C0) CW W (hide hT)

theorem vlane_64 {T : World → Prop} (TL : TabsLike T) (h2 : VTwoOK T) (hm : VMaskOK T) (op n : Nat) (hn : lwd7 n = 64) (a : Nat × Nat) (ha : Vok a) (b : Nat × Nat) (hb : Vok b) (i : Int) (W : World) (hT : T W) :
    Calls Tryd.prog 8 #[.int .u8 (op : Int), .int .u8 (n : Int), vecV a, vecV b, .int .i64 i] W fun e W' => e = .returned (.bool true) ∧ Below W.heap.size W W' := by
  have hw : IsW 64 := (.inr (.inr (.inr rfl)))
  have CD := fun W => wid7_calls n W
  rw [hn] at CD
  have CW := hide fun W hT => vworks TL h2 hm W hT
  by_cases i0 : i < 0
  · exact vlane_lo_64 T (hide TL.later) op i n a.1 a.2 b.1 b.2 (by simpa using i0) (hide CD) CW W (hide hT)
  · have d0 : decide (i < 0) = false := by simpa using i0
    by_cases i1 : 2 ≤ i
    · exact vlane_hi_64 T (hide TL.later) op i n a.1 a.2 b.1 b.2 d0 (by simpa using i1) (hide CD) CW W (hide hT)
    · have d1 : decide (i ≥ 2) = false := by simpa using i1
      obtain ⟨m, rfl⟩ := Int.eq_ofNat_of_zero_le (show 0 ≤ i by omega)
      have hm' : m < 128 / 64 := by omega
      have C0 := fun W hT => h2 op 64 a b (by omega) ha hb W hT
      by_cases ht : refused op = false ∧ tok op 64 = true
      · have e : vtwo op 64 a b = (vlanes 64 (vtwoN op 64 a b), 0) := by
          unfold vtwo
          simp only [Int.toNat_natCast, ht.1, Bool.false_eq_true, if_false]
          rw [show isW 64 = true from rfl, if_pos rfl, show (64 : Int).toNat = 64 from rfl, ht.2, if_pos rfl]
        have la := zof (laneN_lt a 64 m)
        have lb := zof (laneN_lt b 64 m)
        have hf : ∀ i, i < 128 / 64 → vtwoN op 64 a b i < 2 ^ 64 := fun i _ => (zlt (two_ok ht.2 (zof (laneN_lt a 64 i)) (zof (laneN_lt b 64 i))).1).1
        rw [e] at C0
        have C4 := fun W hT => get_at hw hm' (vlanes 64 (vtwoN op 64 a b)) (vlanes_ok hw hf) W (TL.widths W hT)
        rw [lane_at hw hf m hm'] at C4
        have C3 := fun W hT => Z.Two_calls (zw hw) (op : Int) (laneN a 64 m : Int) (laneN b 64 m : Int) (by omega) la lb W (TL.widths W hT)
        unfold Z.pairV at C3
        simp only [Int.toNat_natCast] at C3
        rw [(two_ok ht.2 la lb).2, ← (zlt (two_ok ht.2 la lb).1).2] at C3
        obtain ⟨⟨p, q⟩, hF⟩ : ∃ F, vlanes 64 (vtwoN op 64 a b) = F := ⟨_, rfl⟩
        rw [hF] at C0 C4
        exact vlane_ok_64 T (hide TL.later) op m n a.1 a.2 b.1 b.2 p q (laneN a 64 m) (laneN b 64 m) (vtwoN op 64 a b m) d0 d1 (hide CD) (hide C0) (hide fun W hT => get_at hw hm' a ha W (TL.widths W hT)) (hide fun W hT => get_at hw hm' b hb W (TL.widths W hT)) (hide C3) (hide C4) CW W (hide hT)
      · have e : vtwo op 64 a b = ((0, 0), 2) := by
          unfold vtwo
          simp only [Int.toNat_natCast]
          rw [show isW 64 = true from rfl, if_pos rfl, show (64 : Int).toNat = 64 from rfl]
          cases hr : refused op with
          | true => rfl
          | false =>
            cases hk : tok op 64 with
            | true => exact absurd ⟨hr, hk⟩ ht
            | false => rfl
        rw [e] at C0
        exact vlane_bad_64 T (hide TL.later) op m n a.1 a.2 b.1 b.2 d0 d1 (hide CD) (hide C0) CW W (hide hT)

theorem vintsLane_law {T : World → Prop} (TL : TabsLike T) (h2 : VTwoOK T) (hm : VMaskOK T) (op n : Nat) (a : Nat × Nat) (ha : Vok a) (b : Nat × Nat) (hb : Vok b) (i : Int) (W : World) (hT : T W) :
    Calls Tryd.prog 8 #[.int .u8 (op : Int), .int .u8 (n : Int), vecV a, vecV b, .int .i64 i] W fun e W' => e = .returned (.bool true) ∧ Below W.heap.size W W' := by
  rcases lwd7_cases n with h | h | h | h
  · exact vlane_8 TL h2 hm op n h a ha b hb i W hT
  · exact vlane_16 TL h2 hm op n h a ha b hb i W hT
  · exact vlane_32 TL h2 hm op n h a ha b hb i W hT
  · exact vlane_64 TL h2 hm op n h a ha b hb i W hT
end Go.Proofs.YtoihfmammmkloaaDoor
