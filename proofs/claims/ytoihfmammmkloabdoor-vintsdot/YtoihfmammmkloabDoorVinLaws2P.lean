/-
  VintsBack, VintsMasks, VintsDot, VintsSums over what is asked of vints.
-/
import Derived.Test.YtoihfmammmkloabDoorVinLawsP
import Derived.Test.YtoihfmammmkloabDoorVinWidP
import Derived.Test.YtoihfmammmkloabDoorVinLaw3P
import Derived.Test.YtoihfmammmkloabDoorVinLaw4P
set_option linter.unusedVariables false
set_option linter.unusedSimpArgs false
namespace Go.Proofs.YtoihfmammmkloabDoor
open Go.RowKit Lan

theorem vback_law_8 {T : World → Prop} (TL : TabsLike T) (h2 : VTwoOK T) (hm : VMaskOK T) (hn : VNarOK T) (hw : VWideOK T) (n : Nat) (E1 : Int.tmod (n : Int) 2 = 0) (E2 : (n : Int) % 2 = 0) (a : Nat × Nat) (ha : Vok a) (W : World) (hT : T W) :
    Calls Tryd.prog 3 #[.int .u8 (n : Int), vecV a] W fun e W' => e = .returned (.bool true) ∧ Below W.heap.size W W' := by
  have hW2 : IsW 16 := (.inr (.inl rfl))
  have vok : ∀ s h, Vok (vlanes 16 (vwideN 8 s h a)) := fun s h => vlanes_ok hW2 (fun i _ => (extv_lt (by decide) s (laneN_lt _ _ _)).1)
  have X := fun s h W hT => hw 8 s h a ha W hT
  have e1 : ∀ s h, vwide 8 s h a = (vlanes 16 (vwideN 8 s h a), 0) := fun s h => rfl
  have Y := fun s W hT => hn 16 s (vlanes 16 (vwideN 8 s false a)) (vlanes 16 (vwideN 8 s true a)) (vok s false) (vok s true) W hT
  have e2 : ∀ s, vnar 16 s (vlanes 16 (vwideN 8 s false a)) (vlanes 16 (vwideN 8 s true a)) = (a, 0) := fun s => by
    have := vback2 (w := 8) (w2 := 16) (by decide) rfl s ha
    show (vlanes 8 (vnarN 16 s (vlanes 16 (vwideN 8 s false a)) (vlanes 16 (vwideN 8 s true a))), (0 : Int)) = (a, 0)
    rw [this]
  simp only [e1] at X
  simp only [e2] at Y
  obtain ⟨⟨l0, l1⟩, h1⟩ : ∃ F, vlanes 16 (vwideN 8 true false a) = F := ⟨_, rfl⟩
  obtain ⟨⟨h0, h1'⟩, h2'⟩ : ∃ F, vlanes 16 (vwideN 8 true true a) = F := ⟨_, rfl⟩
  obtain ⟨⟨m0, m1⟩, h3⟩ : ∃ F, vlanes 16 (vwideN 8 false false a) = F := ⟨_, rfl⟩
  obtain ⟨⟨k0, k1⟩, h4⟩ : ∃ F, vlanes 16 (vwideN 8 false true a) = F := ⟨_, rfl⟩
  have X1 := X true false
  have X2 := X true true
  have X3 := X false false
  have X4 := X false true
  have Y1 := Y true
  have Y2 := Y false
  rw [h1] at X1 Y1
  rw [h2'] at X2 Y1
  rw [h3] at X3 Y2
  rw [h4] at X4 Y2
  exact vback_8 T (hide TL.later) n a.1 a.2 l0 l1 h0 h1' m0 m1 k0 k1 E1 E2 (hide X1) (hide X2) (hide Y1) (hide X3) (hide X4) (hide Y2) (hide fun W hT => vworks TL h2 hm W hT) W (hide hT)

theorem vback_law_16 {T : World → Prop} (TL : TabsLike T) (h2 : VTwoOK T) (hm : VMaskOK T) (hn : VNarOK T) (hw : VWideOK T) (n : Nat) (E1 : Int.tmod (n : Int) 2 = 1) (E2 : (n : Int) % 2 = 1) (a : Nat × Nat) (ha : Vok a) (W : World) (hT : T W) :
    Calls Tryd.prog 3 #[.int .u8 (n : Int), vecV a] W fun e W' => e = .returned (.bool true) ∧ Below W.heap.size W W' := by
  have hW2 : IsW 32 := (.inr (.inr (.inl rfl)))
  have vok : ∀ s h, Vok (vlanes 32 (vwideN 16 s h a)) := fun s h => vlanes_ok hW2 (fun i _ => (extv_lt (by decide) s (laneN_lt _ _ _)).1)
  have X := fun s h W hT => hw 16 s h a ha W hT
  have e1 : ∀ s h, vwide 16 s h a = (vlanes 32 (vwideN 16 s h a), 0) := fun s h => rfl
  have Y := fun s W hT => hn 32 s (vlanes 32 (vwideN 16 s false a)) (vlanes 32 (vwideN 16 s true a)) (vok s false) (vok s true) W hT
  have e2 : ∀ s, vnar 32 s (vlanes 32 (vwideN 16 s false a)) (vlanes 32 (vwideN 16 s true a)) = (a, 0) := fun s => by
    have := vback2 (w := 16) (w2 := 32) (by decide) rfl s ha
    show (vlanes 16 (vnarN 32 s (vlanes 32 (vwideN 16 s false a)) (vlanes 32 (vwideN 16 s true a))), (0 : Int)) = (a, 0)
    rw [this]
  simp only [e1] at X
  simp only [e2] at Y
  obtain ⟨⟨l0, l1⟩, h1⟩ : ∃ F, vlanes 32 (vwideN 16 true false a) = F := ⟨_, rfl⟩
  obtain ⟨⟨h0, h1'⟩, h2'⟩ : ∃ F, vlanes 32 (vwideN 16 true true a) = F := ⟨_, rfl⟩
  obtain ⟨⟨m0, m1⟩, h3⟩ : ∃ F, vlanes 32 (vwideN 16 false false a) = F := ⟨_, rfl⟩
  obtain ⟨⟨k0, k1⟩, h4⟩ : ∃ F, vlanes 32 (vwideN 16 false true a) = F := ⟨_, rfl⟩
  have X1 := X true false
  have X2 := X true true
  have X3 := X false false
  have X4 := X false true
  have Y1 := Y true
  have Y2 := Y false
  rw [h1] at X1 Y1
  rw [h2'] at X2 Y1
  rw [h3] at X3 Y2
  rw [h4] at X4 Y2
  exact vback_16 T (hide TL.later) n a.1 a.2 l0 l1 h0 h1' m0 m1 k0 k1 E1 E2 (hide X1) (hide X2) (hide Y1) (hide X3) (hide X4) (hide Y2) (hide fun W hT => vworks TL h2 hm W hT) W (hide hT)

theorem vintsBack_law {T : World → Prop} (TL : TabsLike T) (h2 : VTwoOK T) (hm : VMaskOK T) (hn : VNarOK T) (hw : VWideOK T) (n : Nat) (a : Nat × Nat) (ha : Vok a) (W : World) (hT : T W) :
    Calls Tryd.prog 3 #[.int .u8 (n : Int), vecV a] W fun e W' => e = .returned (.bool true) ∧ Below W.heap.size W W' := by
  have E : Int.tmod (n : Int) 2 = ((n % 2 : Nat) : Int) := (Int.ofNat_tmod n 2).symm
  rcases (show n % 2 = 0 ∨ n % 2 = 1 by omega) with h | h
  · exact vback_law_8 TL h2 hm hn hw n (by rw [E, h]; rfl) (by omega) a ha W hT
  · exact vback_law_16 TL h2 hm hn hw n (by rw [E, h]; rfl) (by omega) a ha W hT

theorem vmasks_law_8 {T : World → Prop} (TL : TabsLike T) (h2 : VTwoOK T) (hm : VMaskOK T) (ht : VThanOK T) (hA : VAllOK T) (n : Nat) (hn : lwd7 n = 8) (a : Nat × Nat) (ha : Vok a) (b : Nat × Nat) (hb : Vok b) (W : World) (hT : T W) :
    Calls Tryd.prog 4 #[.int .u8 (n : Int), vecV a, vecV b] W fun e W' => e = .returned (.bool true) ∧ Below W.heap.size W W' := by
  have hw : IsW 8 := (.inl rfl)
  have CD := fun W => wid7_calls n W
  rw [hn] at CD
  have CW := hide fun W hT => vworks TL h2 hm W hT
  have vok : ∀ x y, Vok (vlanes 8 (vthanN 32 8 x y)) := fun x y => vlanes_ok hw (fun i _ => than_lt x y i)
  have C0 := fun W hT => ht 32 8 a a (by decide) ha ha W hT
  have e0 : vthan 32 8 a a = (vlanes 8 (vthanN 32 8 a a), 0) := rfl
  have C1 := fun W hT => hm 8 (vlanes 8 (vthanN 32 8 a a)) (vok a a) W hT
  have e1 : vmask 8 (vlanes 8 (vthanN 32 8 a a)) = (65535, 0) := by
    show ((vmaskN 8 (vlanes 8 (vthanN 32 8 a a)) (128 / 8) : Int), (0 : Int)) = _
    rw [masks_same hw a]; rfl
  rw [e0] at C0
  rw [e1] at C1
  obtain ⟨⟨p, q⟩, hp⟩ : ∃ F, vlanes 8 (vthanN 32 8 a a) = F := ⟨_, rfl⟩
  by_cases he : a = b
  · subst he
    have C4 := fun W hT => hA 8 (vlanes 8 (vthanN 32 8 a a)) (vok a a) W hT
    have e4 : vall 8 (vlanes 8 (vthanN 32 8 a a)) = (true, 0) := by
      show (vallB 8 (vlanes 8 (vthanN 32 8 a a)), (0 : Int)) = _
      rw [all_same hw a]
    rw [e4] at C4
    rw [hp] at C0 C1 C4
    exact vmasks_8_same T (hide TL.later) n a.1 a.2 p q p q (hide CD) (hide C0) (hide C1) (hide C0) (hide C1) (hide C4) CW W (hide hT)
  · have C2 := fun W hT => ht 32 8 a b (by decide) ha hb W hT
    have e2 : vthan 32 8 a b = (vlanes 8 (vthanN 32 8 a b), 0) := rfl
    have C3 := fun W hT => hm 8 (vlanes 8 (vthanN 32 8 a b)) (vok a b) W hT
    have e3 : vmask 8 (vlanes 8 (vthanN 32 8 a b)) = ((vmaskN 8 (vlanes 8 (vthanN 32 8 a b)) (128 / 8) : Int), 0) := rfl
    have hk : (((vmaskN 8 (vlanes 8 (vthanN 32 8 a b)) (128 / 8) : Nat) : Int) == 65535) = false := by
      have := masks_other hw ha hb he
      have e : 2 ^ (128 / 8) - 1 = 65535 := by decide
      rw [e] at this
      generalize vmaskN 8 (vlanes 8 (vthanN 32 8 a b)) (128 / 8) = z at this ⊢
      simp
      omega
    have C4 := fun W hT => hA 8 (vlanes 8 (vthanN 32 8 a b)) (vok a b) W hT
    have e4 : vall 8 (vlanes 8 (vthanN 32 8 a b)) = (false, 0) := by
      show (vallB 8 (vlanes 8 (vthanN 32 8 a b)), (0 : Int)) = _
      rw [all_other hw ha hb he]
    rw [e2] at C2
    rw [e3] at C3
    rw [e4] at C4
    generalize (vmaskN 8 (vlanes 8 (vthanN 32 8 a b)) (128 / 8) : Int) = k at *
    obtain ⟨⟨r, s⟩, hr⟩ : ∃ F, vlanes 8 (vthanN 32 8 a b) = F := ⟨_, rfl⟩
    rw [hp] at C0 C1
    rw [hr] at C2 C3 C4
    obtain ⟨a0, a1⟩ := a
    obtain ⟨b0, b1⟩ := b
    by_cases h0 : a0 = b0
    · subst h0
      have h1 : ¬ a1 = b1 := fun e => he (by rw [e])
      exact vmasks_8_other2 T (hide TL.later) n a0 a1 b1 p q r s k hk (by simp; omega) (by omega) h1 (hide CD) (hide C0) (hide C1) (hide C2) (hide C3) (hide C4) CW W (hide hT)
    · exact vmasks_8_other1 T (hide TL.later) n a0 a1 b0 b1 p q r s k hk (by simp; omega) (by omega) h0 (hide CD) (hide C0) (hide C1) (hide C2) (hide C3) (hide C4) CW W (hide hT)

theorem vmasks_law_16 {T : World → Prop} (TL : TabsLike T) (h2 : VTwoOK T) (hm : VMaskOK T) (ht : VThanOK T) (hA : VAllOK T) (n : Nat) (hn : lwd7 n = 16) (a : Nat × Nat) (ha : Vok a) (b : Nat × Nat) (hb : Vok b) (W : World) (hT : T W) :
    Calls Tryd.prog 4 #[.int .u8 (n : Int), vecV a, vecV b] W fun e W' => e = .returned (.bool true) ∧ Below W.heap.size W W' := by
  have hw : IsW 16 := (.inr (.inl rfl))
  have CD := fun W => wid7_calls n W
  rw [hn] at CD
  have CW := hide fun W hT => vworks TL h2 hm W hT
  have vok : ∀ x y, Vok (vlanes 16 (vthanN 32 16 x y)) := fun x y => vlanes_ok hw (fun i _ => than_lt x y i)
  have C0 := fun W hT => ht 32 16 a a (by decide) ha ha W hT
  have e0 : vthan 32 16 a a = (vlanes 16 (vthanN 32 16 a a), 0) := rfl
  have C1 := fun W hT => hm 16 (vlanes 16 (vthanN 32 16 a a)) (vok a a) W hT
  have e1 : vmask 16 (vlanes 16 (vthanN 32 16 a a)) = (255, 0) := by
    show ((vmaskN 16 (vlanes 16 (vthanN 32 16 a a)) (128 / 16) : Int), (0 : Int)) = _
    rw [masks_same hw a]; rfl
  rw [e0] at C0
  rw [e1] at C1
  obtain ⟨⟨p, q⟩, hp⟩ : ∃ F, vlanes 16 (vthanN 32 16 a a) = F := ⟨_, rfl⟩
  by_cases he : a = b
  · subst he
    have C4 := fun W hT => hA 16 (vlanes 16 (vthanN 32 16 a a)) (vok a a) W hT
    have e4 : vall 16 (vlanes 16 (vthanN 32 16 a a)) = (true, 0) := by
      show (vallB 16 (vlanes 16 (vthanN 32 16 a a)), (0 : Int)) = _
      rw [all_same hw a]
    rw [e4] at C4
    rw [hp] at C0 C1 C4
    exact vmasks_16_same T (hide TL.later) n a.1 a.2 p q p q (hide CD) (hide C0) (hide C1) (hide C0) (hide C1) (hide C4) CW W (hide hT)
  · have C2 := fun W hT => ht 32 16 a b (by decide) ha hb W hT
    have e2 : vthan 32 16 a b = (vlanes 16 (vthanN 32 16 a b), 0) := rfl
    have C3 := fun W hT => hm 16 (vlanes 16 (vthanN 32 16 a b)) (vok a b) W hT
    have e3 : vmask 16 (vlanes 16 (vthanN 32 16 a b)) = ((vmaskN 16 (vlanes 16 (vthanN 32 16 a b)) (128 / 16) : Int), 0) := rfl
    have hk : (((vmaskN 16 (vlanes 16 (vthanN 32 16 a b)) (128 / 16) : Nat) : Int) == 255) = false := by
      have := masks_other hw ha hb he
      have e : 2 ^ (128 / 16) - 1 = 255 := by decide
      rw [e] at this
      generalize vmaskN 16 (vlanes 16 (vthanN 32 16 a b)) (128 / 16) = z at this ⊢
      simp
      omega
    have C4 := fun W hT => hA 16 (vlanes 16 (vthanN 32 16 a b)) (vok a b) W hT
    have e4 : vall 16 (vlanes 16 (vthanN 32 16 a b)) = (false, 0) := by
      show (vallB 16 (vlanes 16 (vthanN 32 16 a b)), (0 : Int)) = _
      rw [all_other hw ha hb he]
    rw [e2] at C2
    rw [e3] at C3
    rw [e4] at C4
    generalize (vmaskN 16 (vlanes 16 (vthanN 32 16 a b)) (128 / 16) : Int) = k at *
    obtain ⟨⟨r, s⟩, hr⟩ : ∃ F, vlanes 16 (vthanN 32 16 a b) = F := ⟨_, rfl⟩
    rw [hp] at C0 C1
    rw [hr] at C2 C3 C4
    obtain ⟨a0, a1⟩ := a
    obtain ⟨b0, b1⟩ := b
    by_cases h0 : a0 = b0
    · subst h0
      have h1 : ¬ a1 = b1 := fun e => he (by rw [e])
      exact vmasks_16_other2 T (hide TL.later) n a0 a1 b1 p q r s k hk (by simp; omega) (by omega) h1 (hide CD) (hide C0) (hide C1) (hide C2) (hide C3) (hide C4) CW W (hide hT)
    · exact vmasks_16_other1 T (hide TL.later) n a0 a1 b0 b1 p q r s k hk (by simp; omega) (by omega) h0 (hide CD) (hide C0) (hide C1) (hide C2) (hide C3) (hide C4) CW W (hide hT)

theorem vmasks_law_32 {T : World → Prop} (TL : TabsLike T) (h2 : VTwoOK T) (hm : VMaskOK T) (ht : VThanOK T) (hA : VAllOK T) (n : Nat) (hn : lwd7 n = 32) (a : Nat × Nat) (ha : Vok a) (b : Nat × Nat) (hb : Vok b) (W : World) (hT : T W) :
    Calls Tryd.prog 4 #[.int .u8 (n : Int), vecV a, vecV b] W fun e W' => e = .returned (.bool true) ∧ Below W.heap.size W W' := by
  have hw : IsW 32 := (.inr (.inr (.inl rfl)))
  have CD := fun W => wid7_calls n W
  rw [hn] at CD
  have CW := hide fun W hT => vworks TL h2 hm W hT
  have vok : ∀ x y, Vok (vlanes 32 (vthanN 32 32 x y)) := fun x y => vlanes_ok hw (fun i _ => than_lt x y i)
  have C0 := fun W hT => ht 32 32 a a (by decide) ha ha W hT
  have e0 : vthan 32 32 a a = (vlanes 32 (vthanN 32 32 a a), 0) := rfl
  have C1 := fun W hT => hm 32 (vlanes 32 (vthanN 32 32 a a)) (vok a a) W hT
  have e1 : vmask 32 (vlanes 32 (vthanN 32 32 a a)) = (15, 0) := by
    show ((vmaskN 32 (vlanes 32 (vthanN 32 32 a a)) (128 / 32) : Int), (0 : Int)) = _
    rw [masks_same hw a]; rfl
  rw [e0] at C0
  rw [e1] at C1
  obtain ⟨⟨p, q⟩, hp⟩ : ∃ F, vlanes 32 (vthanN 32 32 a a) = F := ⟨_, rfl⟩
  by_cases he : a = b
  · subst he
    have C4 := fun W hT => hA 32 (vlanes 32 (vthanN 32 32 a a)) (vok a a) W hT
    have e4 : vall 32 (vlanes 32 (vthanN 32 32 a a)) = (true, 0) := by
      show (vallB 32 (vlanes 32 (vthanN 32 32 a a)), (0 : Int)) = _
      rw [all_same hw a]
    rw [e4] at C4
    rw [hp] at C0 C1 C4
    exact vmasks_32_same T (hide TL.later) n a.1 a.2 p q p q (hide CD) (hide C0) (hide C1) (hide C0) (hide C1) (hide C4) CW W (hide hT)
  · have C2 := fun W hT => ht 32 32 a b (by decide) ha hb W hT
    have e2 : vthan 32 32 a b = (vlanes 32 (vthanN 32 32 a b), 0) := rfl
    have C3 := fun W hT => hm 32 (vlanes 32 (vthanN 32 32 a b)) (vok a b) W hT
    have e3 : vmask 32 (vlanes 32 (vthanN 32 32 a b)) = ((vmaskN 32 (vlanes 32 (vthanN 32 32 a b)) (128 / 32) : Int), 0) := rfl
    have hk : (((vmaskN 32 (vlanes 32 (vthanN 32 32 a b)) (128 / 32) : Nat) : Int) == 15) = false := by
      have := masks_other hw ha hb he
      have e : 2 ^ (128 / 32) - 1 = 15 := by decide
      rw [e] at this
      generalize vmaskN 32 (vlanes 32 (vthanN 32 32 a b)) (128 / 32) = z at this ⊢
      simp
      omega
    have C4 := fun W hT => hA 32 (vlanes 32 (vthanN 32 32 a b)) (vok a b) W hT
    have e4 : vall 32 (vlanes 32 (vthanN 32 32 a b)) = (false, 0) := by
      show (vallB 32 (vlanes 32 (vthanN 32 32 a b)), (0 : Int)) = _
      rw [all_other hw ha hb he]
    rw [e2] at C2
    rw [e3] at C3
    rw [e4] at C4
    generalize (vmaskN 32 (vlanes 32 (vthanN 32 32 a b)) (128 / 32) : Int) = k at *
    obtain ⟨⟨r, s⟩, hr⟩ : ∃ F, vlanes 32 (vthanN 32 32 a b) = F := ⟨_, rfl⟩
    rw [hp] at C0 C1
    rw [hr] at C2 C3 C4
    obtain ⟨a0, a1⟩ := a
    obtain ⟨b0, b1⟩ := b
    by_cases h0 : a0 = b0
    · subst h0
      have h1 : ¬ a1 = b1 := fun e => he (by rw [e])
      exact vmasks_32_other2 T (hide TL.later) n a0 a1 b1 p q r s k hk (by simp; omega) (by omega) h1 (hide CD) (hide C0) (hide C1) (hide C2) (hide C3) (hide C4) CW W (hide hT)
    · exact vmasks_32_other1 T (hide TL.later) n a0 a1 b0 b1 p q r s k hk (by simp; omega) (by omega) h0 (hide CD) (hide C0) (hide C1) (hide C2) (hide C3) (hide C4) CW W (hide hT)

theorem vmasks_law_64 {T : World → Prop} (TL : TabsLike T) (h2 : VTwoOK T) (hm : VMaskOK T) (ht : VThanOK T) (hA : VAllOK T) (n : Nat) (hn : lwd7 n = 64) (a : Nat × Nat) (ha : Vok a) (b : Nat × Nat) (hb : Vok b) (W : World) (hT : T W) :
    Calls Tryd.prog 4 #[.int .u8 (n : Int), vecV a, vecV b] W fun e W' => e = .returned (.bool true) ∧ Below W.heap.size W W' := by
  have hw : IsW 64 := (.inr (.inr (.inr rfl)))
  have CD := fun W => wid7_calls n W
  rw [hn] at CD
  have CW := hide fun W hT => vworks TL h2 hm W hT
  have vok : ∀ x y, Vok (vlanes 64 (vthanN 32 64 x y)) := fun x y => vlanes_ok hw (fun i _ => than_lt x y i)
  have C0 := fun W hT => ht 32 64 a a (by decide) ha ha W hT
  have e0 : vthan 32 64 a a = (vlanes 64 (vthanN 32 64 a a), 0) := rfl
  have C1 := fun W hT => hm 64 (vlanes 64 (vthanN 32 64 a a)) (vok a a) W hT
  have e1 : vmask 64 (vlanes 64 (vthanN 32 64 a a)) = (3, 0) := by
    show ((vmaskN 64 (vlanes 64 (vthanN 32 64 a a)) (128 / 64) : Int), (0 : Int)) = _
    rw [masks_same hw a]; rfl
  rw [e0] at C0
  rw [e1] at C1
  obtain ⟨⟨p, q⟩, hp⟩ : ∃ F, vlanes 64 (vthanN 32 64 a a) = F := ⟨_, rfl⟩
  by_cases he : a = b
  · subst he
    have C4 := fun W hT => hA 64 (vlanes 64 (vthanN 32 64 a a)) (vok a a) W hT
    have e4 : vall 64 (vlanes 64 (vthanN 32 64 a a)) = (true, 0) := by
      show (vallB 64 (vlanes 64 (vthanN 32 64 a a)), (0 : Int)) = _
      rw [all_same hw a]
    rw [e4] at C4
    rw [hp] at C0 C1 C4
    exact vmasks_64_same T (hide TL.later) n a.1 a.2 p q p q (hide CD) (hide C0) (hide C1) (hide C0) (hide C1) (hide C4) CW W (hide hT)
  · have C2 := fun W hT => ht 32 64 a b (by decide) ha hb W hT
    have e2 : vthan 32 64 a b = (vlanes 64 (vthanN 32 64 a b), 0) := rfl
    have C3 := fun W hT => hm 64 (vlanes 64 (vthanN 32 64 a b)) (vok a b) W hT
    have e3 : vmask 64 (vlanes 64 (vthanN 32 64 a b)) = ((vmaskN 64 (vlanes 64 (vthanN 32 64 a b)) (128 / 64) : Int), 0) := rfl
    have hk : (((vmaskN 64 (vlanes 64 (vthanN 32 64 a b)) (128 / 64) : Nat) : Int) == 3) = false := by
      have := masks_other hw ha hb he
      have e : 2 ^ (128 / 64) - 1 = 3 := by decide
      rw [e] at this
      generalize vmaskN 64 (vlanes 64 (vthanN 32 64 a b)) (128 / 64) = z at this ⊢
      simp
      omega
    have C4 := fun W hT => hA 64 (vlanes 64 (vthanN 32 64 a b)) (vok a b) W hT
    have e4 : vall 64 (vlanes 64 (vthanN 32 64 a b)) = (false, 0) := by
      show (vallB 64 (vlanes 64 (vthanN 32 64 a b)), (0 : Int)) = _
      rw [all_other hw ha hb he]
    rw [e2] at C2
    rw [e3] at C3
    rw [e4] at C4
    generalize (vmaskN 64 (vlanes 64 (vthanN 32 64 a b)) (128 / 64) : Int) = k at *
    obtain ⟨⟨r, s⟩, hr⟩ : ∃ F, vlanes 64 (vthanN 32 64 a b) = F := ⟨_, rfl⟩
    rw [hp] at C0 C1
    rw [hr] at C2 C3 C4
    obtain ⟨a0, a1⟩ := a
    obtain ⟨b0, b1⟩ := b
    by_cases h0 : a0 = b0
    · subst h0
      have h1 : ¬ a1 = b1 := fun e => he (by rw [e])
      exact vmasks_64_other2 T (hide TL.later) n a0 a1 b1 p q r s k hk (by simp; omega) (by omega) h1 (hide CD) (hide C0) (hide C1) (hide C2) (hide C3) (hide C4) CW W (hide hT)
    · exact vmasks_64_other1 T (hide TL.later) n a0 a1 b0 b1 p q r s k hk (by simp; omega) (by omega) h0 (hide CD) (hide C0) (hide C1) (hide C2) (hide C3) (hide C4) CW W (hide hT)

theorem vintsMasks_law {T : World → Prop} (TL : TabsLike T) (h2 : VTwoOK T) (hm : VMaskOK T) (ht : VThanOK T) (hA : VAllOK T) (n : Nat) (a : Nat × Nat) (ha : Vok a) (b : Nat × Nat) (hb : Vok b) (W : World) (hT : T W) :
    Calls Tryd.prog 4 #[.int .u8 (n : Int), vecV a, vecV b] W fun e W' => e = .returned (.bool true) ∧ Below W.heap.size W W' := by
  rcases lwd7_cases n with h | h | h | h
  · exact vmasks_law_8 TL h2 hm ht hA n h a ha b hb W hT
  · exact vmasks_law_16 TL h2 hm ht hA n h a ha b hb W hT
  · exact vmasks_law_32 TL h2 hm ht hA n h a ha b hb W hT
  · exact vmasks_law_64 TL h2 hm ht hA n h a ha b hb W hT

theorem add_at {x y z : Nat} (hx : x < 2 ^ 32) (hy : y < 2 ^ 32) (h : Z.cutI 32 ((x : Int) + (y : Int)) = (z : Int)) (W : World) (hT : WTabs W) :
    Calls Tryd.prog 17 #[.int .u8 1, .int .i64 32, .int .u64 (x : Int), .int .u64 (y : Int)] W fun e W' => e = .returned (.tuple #[.int .u64 (z : Int), .int .i64 0]) ∧ Below W.heap.size W W' := by
  have := Z.Two_calls (w := 32) (.inr (.inr (.inl rfl))) 1 (x : Int) (y : Int) (by decide) (zof hx) (zof hy) W hT
  unfold Z.pairV at this
  rw [← h]
  exact this
theorem times_lt (h : Bool) (a b : Nat × Nat) (i : Nat) : vtimesN 16 true h a b i < 2 ^ 32 := Nat.mod_lt _ (by decide)
theorem dot_add (h : Bool) (a b : Nat × Nat) (i j : Nat) (h1 : (if h then j + 64 / 16 else j) = 2 * i) (h2 : (if h then j + 1 + 64 / 16 else j + 1) = 2 * i + 1) :
    Z.cutI 32 ((vtimesN 16 true h a b j : Int) + (vtimesN 16 true h a b (j + 1) : Int)) = (vdotN a b i : Int) := by
  have e := dot_lane (laneN_lt a 16 (2 * i)) (laneN_lt b 16 (2 * i)) (laneN_lt a 16 (2 * i + 1)) (laneN_lt b 16 (2 * i + 1))
  unfold vdotN
  rw [(zlt (cut_of 32 _)).2, ← e]
  unfold vtimesN vwideN
  rw [h1, h2]

theorem vintsDot_law {T : World → Prop} (TL : TabsLike T) (h2 : VTwoOK T) (hm : VMaskOK T) (hx : VTimesOK T) (hd : VDotOK T) (a : Nat × Nat) (ha : Vok a) (b : Nat × Nat) (hb : Vok b) (W : World) (hT : T W) :
    Calls Tryd.prog 5 #[vecV a, vecV b] W fun e W' => e = .returned (.bool true) ∧ Below W.heap.size W W' := by
  have hw : IsW 32 := .inr (.inr (.inl rfl))
  have C0 := fun W hT => hx 16 true false a b ha hb W hT
  have C1 := fun W hT => hx 16 true true a b ha hb W hT
  have C2 := fun W hT => hd a b ha hb W hT
  have e0 : ∀ h, vtimes 16 true h a b = (vlanes 32 (vtimesN 16 true h a b), 0) := fun h => rfl
  have e2 : vdot a b = (vlanes 32 (vdotN a b), 0) := rfl
  rw [e0] at C0 C1
  rw [e2] at C2
  have vt : ∀ h, Vok (vlanes 32 (vtimesN 16 true h a b)) := fun h => vlanes_ok hw (fun i _ => times_lt h a b i)
  have dl : ∀ i, i < 128 / 32 → vdotN a b i < 2 ^ 32 := fun i _ => (zlt (cut_of 32 _)).1
  have GX : ∀ (h : Bool) (j : Nat), j < 128 / 32 → ∀ W : World, T W → Calls Tryd.prog 16 #[vecV (vlanes 32 (vtimesN 16 true h a b)), .int .i64 32, .int .i64 (j : Int)] W fun e W' => e = .returned (.tuple #[.int .u64 (vtimesN 16 true h a b j : Int), .int .i64 0]) ∧ Below W.heap.size W W' := fun h j hj W hT => by
    have := get_at hw hj (vlanes 32 (vtimesN 16 true h a b)) (vt h) W (TL.widths W hT)
    rwa [lane_at hw (fun i _ => times_lt h a b i) j hj] at this
  have GD : ∀ j : Nat, j < 128 / 32 → ∀ W : World, T W → Calls Tryd.prog 16 #[vecV (vlanes 32 (vdotN a b)), .int .i64 32, .int .i64 (j : Int)] W fun e W' => e = .returned (.tuple #[.int .u64 (vdotN a b j : Int), .int .i64 0]) ∧ Below W.heap.size W W' := fun j hj W hT => by
    have := get_at hw hj (vlanes 32 (vdotN a b)) (vlanes_ok hw dl) W (TL.widths W hT)
    rwa [lane_at hw dl j hj] at this
  have A0 := fun W hT => add_at (times_lt false a b 0) (times_lt false a b 1) (dot_add false a b 0 0 rfl rfl) W (TL.widths W hT)
  have A1 := fun W hT => add_at (times_lt false a b 2) (times_lt false a b 3) (dot_add false a b 1 2 rfl rfl) W (TL.widths W hT)
  have A2 := fun W hT => add_at (times_lt true a b 0) (times_lt true a b 1) (dot_add true a b 2 0 rfl rfl) W (TL.widths W hT)
  have A3 := fun W hT => add_at (times_lt true a b 2) (times_lt true a b 3) (dot_add true a b 3 2 rfl rfl) W (TL.widths W hT)
  have X0 := fun W hT => GX false 0 (by decide) W hT
  have Y0 := fun W hT => GX false 1 (by decide) W hT
  have X1 := fun W hT => GX false 2 (by decide) W hT
  have Y1 := fun W hT => GX false 3 (by decide) W hT
  have X2 := fun W hT => GX true 0 (by decide) W hT
  have Y2 := fun W hT => GX true 1 (by decide) W hT
  have X3 := fun W hT => GX true 2 (by decide) W hT
  have Y3 := fun W hT => GX true 3 (by decide) W hT
  have D0 := fun W hT => GD 0 (by decide) W hT
  have D1 := fun W hT => GD 1 (by decide) W hT
  have D2 := fun W hT => GD 2 (by decide) W hT
  have D3 := fun W hT => GD 3 (by decide) W hT
  obtain ⟨⟨l0, l1⟩, h1⟩ : ∃ F, vlanes 32 (vtimesN 16 true false a b) = F := ⟨_, rfl⟩
  obtain ⟨⟨h0, h1'⟩, h2'⟩ : ∃ F, vlanes 32 (vtimesN 16 true true a b) = F := ⟨_, rfl⟩
  obtain ⟨⟨d0, d1⟩, h3⟩ : ∃ F, vlanes 32 (vdotN a b) = F := ⟨_, rfl⟩
  rw [h1] at C0 X0 Y0 X1 Y1
  rw [h2'] at C1 X2 Y2 X3 Y3
  rw [h3] at C2 D0 D1 D2 D3
  generalize vtimesN 16 true false a b = ft at *
  generalize vtimesN 16 true true a b = fu at *
  generalize vdotN a b = fd at *
  clear GX GD dl vt e0 e2 h1 h2' h3
  exact vdot_walk T (hide TL.later) a.1 a.2 b.1 b.2 l0 l1 h0 h1' d0 d1 (ft 0) (ft 2) (fu 0) (fu 2) (ft 1) (ft 3) (fu 1) (fu 3) (fd 0) (fd 1) (fd 2) (fd 3) (hide C0) (hide C1) (hide C2) (hide X0) (hide Y0) (hide A0) (hide D0) (hide X1) (hide Y1) (hide A1) (hide D1) (hide X2) (hide Y2) (hide A2) (hide D2) (hide X3) (hide Y3) (hide A3) (hide D3) (hide fun W hT => vworks TL h2 hm W hT) W (hide hT)

/-- The rest of VintsSums, whatever the width. -/
theorem vsums_rest {T : World → Prop} (TL : TabsLike T) (h2 : VTwoOK T) (hm : VMaskOK T) (hp : VPairsOK T) (a : Nat × Nat) (ha : Vok a) (b s : Nat × Nat) (nv wv : Value)
    (K : ∀ (p q r0 r1 s0 s1 tot : Nat) (fs : Nat → Nat) (L : List Nat),
      Hide (∀ W : World, T W → Calls Tryd.prog 18 #[.int .u8 1, wv, vecV (a.1, a.2), vecV (b.1, b.2)] W fun e W' => e = .returned (vecE ((p, q), 0)) ∧ Below W.heap.size W W') →
      Hide (∀ W : World, T W → Calls Tryd.prog 18 #[.int .u8 2, wv, vecV (p, q), vecV (b.1, b.2)] W fun e W' => e = .returned (vecE ((a.1, a.2), 0)) ∧ Below W.heap.size W W') →
      Hide (∀ W : World, T W → Calls Tryd.prog 19 #[.int .i64 8, .bool false, vecV (a.1, a.2)] W fun e W' => e = .returned (vecE ((r0, r1), 0)) ∧ Below W.heap.size W W') →
      Hide (∀ W : World, T W → Calls Tryd.prog 19 #[.int .i64 16, .bool false, vecV (r0, r1)] W fun e W' => e = .returned (vecE ((s0, s1), 0)) ∧ Below W.heap.size W W') →
      Hide (∀ W : World, Calls Tryd.prog 20 #[vecV (s0, s1), .int .i64 32] W fun e W' => ListPost W 4 ((List.range 4).map fs) e W') →
      Hide (∀ W : World, Calls Tryd.prog 21 #[vecV (a.1, a.2)] W fun e W' => e = .returned (.agg (cellsB L)) ∧ Below W.heap.size W W') →
      L.length = 16 → Hide (∀ i, at0 L i < 2 ^ 8) → ∀ S U : Nat → Nat, Hide (S 0 = 0 ∧ S 4 = tot ∧ ∀ k, k < 4 → IntKind.u64.wrap ((S k : Int) + (fs k : Int)) = (S (k + 1) : Int)) → Hide (U 0 = 0 ∧ U 16 = tot ∧ ∀ k, k < 16 → IntKind.u64.wrap ((U k : Int) + (at0 L k : Int)) = (U (k + 1) : Int)) →
      ∀ W : World, Hide (T W) → Calls Tryd.prog 6 #[nv, vecV (a.1, a.2), vecV (b.1, b.2)] W fun e W' => e = .returned (.bool true) ∧ Below W.heap.size W W')
    (C0 : ∀ W : World, T W → Calls Tryd.prog 18 #[.int .u8 1, wv, vecV a, vecV b] W fun e W' => e = .returned (vecE (s, 0)) ∧ Below W.heap.size W W')
    (C1 : ∀ W : World, T W → Calls Tryd.prog 18 #[.int .u8 2, wv, vecV s, vecV b] W fun e W' => e = .returned (vecE (a, 0)) ∧ Below W.heap.size W W') (W : World) (hT : T W) :
    Calls Tryd.prog 6 #[nv, vecV a, vecV b] W fun e W' => e = .returned (.bool true) ∧ Below W.heap.size W W' := by
  have w16 : IsW 16 := .inr (.inl rfl)
  have w32 : IsW 32 := .inr (.inr (.inl rfl))
  have f8 : ∀ i, i < 128 / 16 → vpairsN 8 false a i < 2 ^ 16 := fun i _ => Nat.mod_lt _ (by decide)
  have C2 := fun W hT => hp 8 false a ha W hT
  have e2 : vpairs 8 false a = (vlanes 16 (vpairsN 8 false a), 0) := rfl
  rw [e2] at C2
  have C3 := fun W hT => hp 16 false (vlanes 16 (vpairsN 8 false a)) (vlanes_ok w16 f8) W hT
  have e3 : vpairs 16 false (vlanes 16 (vpairsN 8 false a)) = (vlanes 32 (vpairsN 16 false (vlanes 16 (vpairsN 8 false a))), 0) := rfl
  rw [e3] at C3
  have C4 := fun W => rlist_calls (w := 32) (c := 4) w32 rfl (vlanes 32 (vpairsN 16 false (vlanes 16 (vpairsN 8 false a)))) W
  have C5 := fun W => lbytes_calls a ha W
  have hS := sums_all a
  have bS := sum_lt (f := laneN (vlanes 32 (vpairsN 16 false (vlanes 16 (vpairsN 8 false a)))) 32) (w := 32) (fun i => laneN_lt _ _ _)
  have bs : ∀ i, laneN (vlanes 32 (vpairsN 16 false (vlanes 16 (vpairsN 8 false a)))) 32 i < 2 ^ 32 := fun i => laneN_lt _ _ _
  have bU := sum_lt (f := laneN a 8) (w := 8) (fun i => laneN_lt _ _ _)
  have bu : ∀ i, laneN a 8 i < 2 ^ 8 := fun i => laneN_lt _ _ _
  have hat : ∀ k, k < 16 → at0 (listN a 8) k = laneN a 8 k := fun k hk => at_list a 8 k hk
  have hlen := listN_length a 8
  have hlan := list_lanes a 8
  have el : listN (vlanes 32 (vpairsN 16 false (vlanes 16 (vpairsN 8 false a)))) 32 = (List.range 4).map (laneN (vlanes 32 (vpairsN 16 false (vlanes 16 (vpairsN 8 false a)))) 32) := rfl
  rw [el] at C4
  obtain ⟨⟨s0, s1⟩, h1⟩ : ∃ F, vlanes 32 (vpairsN 16 false (vlanes 16 (vpairsN 8 false a))) = F := ⟨_, rfl⟩
  rw [h1] at C3 C4 hS bS bs
  obtain ⟨⟨r0, r1⟩, h2'⟩ : ∃ F, vlanes 16 (vpairsN 8 false a) = F := ⟨_, rfl⟩
  rw [h2'] at C2 C3
  unfold arrV at C5
  refine K s.1 s.2 r0 r1 s0 s1 (sumN (laneN a 8) 16) (laneN (s0, s1) 32) (listN a 8) (hide C0) (hide C1) (hide C2) (hide C3) (hide C4) (hide C5) hlen (hide hlan) (sumN (laneN (s0, s1) 32)) (sumN (laneN a 8)) (hide ⟨rfl, hS, fun k hk => ?_⟩) (hide ⟨rfl, rfl, fun k hk => ?_⟩) W (hide hT)
  · have := bS k
    have := bs k
    rw [IntKind.wrap_u64]
    simp only [sumN]
    omega
  · have := bU k
    have := bu k
    rw [hat k hk, IntKind.wrap_u64]
    simp only [sumN]
    omega

theorem vsums_law_8 {T : World → Prop} (TL : TabsLike T) (h2 : VTwoOK T) (hm : VMaskOK T) (hp : VPairsOK T) (n : Nat) (hn : lwd7 n = 8) (a : Nat × Nat) (ha : Vok a) (b : Nat × Nat) (hb : Vok b) (W : World) (hT : T W) :
    Calls Tryd.prog 6 #[.int .u8 (n : Int), vecV a, vecV b] W fun e W' => e = .returned (.bool true) ∧ Below W.heap.size W W' := by
  have hw : IsW 8 := (.inl rfl)
  have CD := fun W => wid7_calls n W
  rw [hn] at CD
  have t1 : tok 1 8 = true := by decide
  have hf : ∀ i, i < 128 / 8 → vtwoN 1 8 a b i < 2 ^ 8 := fun i _ => (zlt (two_ok t1 (zof (laneN_lt a 8 i)) (zof (laneN_lt b 8 i))).1).1
  have C0 := fun W hT => h2 1 8 a b (by decide) ha hb W hT
  have e0 : vtwo 1 8 a b = (vlanes 8 (vtwoN 1 8 a b), 0) := rfl
  rw [e0] at C0
  have C1 := fun W hT => h2 2 8 (vlanes 8 (vtwoN 1 8 a b)) b (by decide) (vlanes_ok hw hf) hb W hT
  have e1 : vtwo 2 8 (vlanes 8 (vtwoN 1 8 a b)) b = (a, 0) := by
    show (vlanes 8 (vtwoN 2 8 (vlanes 8 (vtwoN 1 8 a b)) b), (0 : Int)) = _
    rw [sums_back hw ha]
  rw [e1] at C1
  exact vsums_rest TL h2 hm hp a ha b (vlanes 8 (vtwoN 1 8 a b)) (.int .u8 (n : Int)) (.int .i64 8) (fun p q r0 r1 s0 s1 tot fs L C0 C1 C2 C3 C4 C5 hL LB S U HS HV W hT => vsums_8 T (hide TL.later) n a.1 a.2 b.1 b.2 p q r0 r1 s0 s1 tot fs L (hide CD) C0 C1 C2 C3 C4 C5 hL LB S U HS HV (hide fun W hT => vworks TL h2 hm W hT) W hT) C0 C1 W hT

theorem vsums_law_16 {T : World → Prop} (TL : TabsLike T) (h2 : VTwoOK T) (hm : VMaskOK T) (hp : VPairsOK T) (n : Nat) (hn : lwd7 n = 16) (a : Nat × Nat) (ha : Vok a) (b : Nat × Nat) (hb : Vok b) (W : World) (hT : T W) :
    Calls Tryd.prog 6 #[.int .u8 (n : Int), vecV a, vecV b] W fun e W' => e = .returned (.bool true) ∧ Below W.heap.size W W' := by
  have hw : IsW 16 := (.inr (.inl rfl))
  have CD := fun W => wid7_calls n W
  rw [hn] at CD
  have t1 : tok 1 16 = true := by decide
  have hf : ∀ i, i < 128 / 16 → vtwoN 1 16 a b i < 2 ^ 16 := fun i _ => (zlt (two_ok t1 (zof (laneN_lt a 16 i)) (zof (laneN_lt b 16 i))).1).1
  have C0 := fun W hT => h2 1 16 a b (by decide) ha hb W hT
  have e0 : vtwo 1 16 a b = (vlanes 16 (vtwoN 1 16 a b), 0) := rfl
  rw [e0] at C0
  have C1 := fun W hT => h2 2 16 (vlanes 16 (vtwoN 1 16 a b)) b (by decide) (vlanes_ok hw hf) hb W hT
  have e1 : vtwo 2 16 (vlanes 16 (vtwoN 1 16 a b)) b = (a, 0) := by
    show (vlanes 16 (vtwoN 2 16 (vlanes 16 (vtwoN 1 16 a b)) b), (0 : Int)) = _
    rw [sums_back hw ha]
  rw [e1] at C1
  exact vsums_rest TL h2 hm hp a ha b (vlanes 16 (vtwoN 1 16 a b)) (.int .u8 (n : Int)) (.int .i64 16) (fun p q r0 r1 s0 s1 tot fs L C0 C1 C2 C3 C4 C5 hL LB S U HS HV W hT => vsums_16 T (hide TL.later) n a.1 a.2 b.1 b.2 p q r0 r1 s0 s1 tot fs L (hide CD) C0 C1 C2 C3 C4 C5 hL LB S U HS HV (hide fun W hT => vworks TL h2 hm W hT) W hT) C0 C1 W hT

theorem vsums_law_32 {T : World → Prop} (TL : TabsLike T) (h2 : VTwoOK T) (hm : VMaskOK T) (hp : VPairsOK T) (n : Nat) (hn : lwd7 n = 32) (a : Nat × Nat) (ha : Vok a) (b : Nat × Nat) (hb : Vok b) (W : World) (hT : T W) :
    Calls Tryd.prog 6 #[.int .u8 (n : Int), vecV a, vecV b] W fun e W' => e = .returned (.bool true) ∧ Below W.heap.size W W' := by
  have hw : IsW 32 := (.inr (.inr (.inl rfl)))
  have CD := fun W => wid7_calls n W
  rw [hn] at CD
  have t1 : tok 1 32 = true := by decide
  have hf : ∀ i, i < 128 / 32 → vtwoN 1 32 a b i < 2 ^ 32 := fun i _ => (zlt (two_ok t1 (zof (laneN_lt a 32 i)) (zof (laneN_lt b 32 i))).1).1
  have C0 := fun W hT => h2 1 32 a b (by decide) ha hb W hT
  have e0 : vtwo 1 32 a b = (vlanes 32 (vtwoN 1 32 a b), 0) := rfl
  rw [e0] at C0
  have C1 := fun W hT => h2 2 32 (vlanes 32 (vtwoN 1 32 a b)) b (by decide) (vlanes_ok hw hf) hb W hT
  have e1 : vtwo 2 32 (vlanes 32 (vtwoN 1 32 a b)) b = (a, 0) := by
    show (vlanes 32 (vtwoN 2 32 (vlanes 32 (vtwoN 1 32 a b)) b), (0 : Int)) = _
    rw [sums_back hw ha]
  rw [e1] at C1
  exact vsums_rest TL h2 hm hp a ha b (vlanes 32 (vtwoN 1 32 a b)) (.int .u8 (n : Int)) (.int .i64 32) (fun p q r0 r1 s0 s1 tot fs L C0 C1 C2 C3 C4 C5 hL LB S U HS HV W hT => vsums_32 T (hide TL.later) n a.1 a.2 b.1 b.2 p q r0 r1 s0 s1 tot fs L (hide CD) C0 C1 C2 C3 C4 C5 hL LB S U HS HV (hide fun W hT => vworks TL h2 hm W hT) W hT) C0 C1 W hT

theorem vsums_law_64 {T : World → Prop} (TL : TabsLike T) (h2 : VTwoOK T) (hm : VMaskOK T) (hp : VPairsOK T) (n : Nat) (hn : lwd7 n = 64) (a : Nat × Nat) (ha : Vok a) (b : Nat × Nat) (hb : Vok b) (W : World) (hT : T W) :
    Calls Tryd.prog 6 #[.int .u8 (n : Int), vecV a, vecV b] W fun e W' => e = .returned (.bool true) ∧ Below W.heap.size W W' := by
  have hw : IsW 64 := (.inr (.inr (.inr rfl)))
  have CD := fun W => wid7_calls n W
  rw [hn] at CD
  have t1 : tok 1 64 = true := by decide
  have hf : ∀ i, i < 128 / 64 → vtwoN 1 64 a b i < 2 ^ 64 := fun i _ => (zlt (two_ok t1 (zof (laneN_lt a 64 i)) (zof (laneN_lt b 64 i))).1).1
  have C0 := fun W hT => h2 1 64 a b (by decide) ha hb W hT
  have e0 : vtwo 1 64 a b = (vlanes 64 (vtwoN 1 64 a b), 0) := rfl
  rw [e0] at C0
  have C1 := fun W hT => h2 2 64 (vlanes 64 (vtwoN 1 64 a b)) b (by decide) (vlanes_ok hw hf) hb W hT
  have e1 : vtwo 2 64 (vlanes 64 (vtwoN 1 64 a b)) b = (a, 0) := by
    show (vlanes 64 (vtwoN 2 64 (vlanes 64 (vtwoN 1 64 a b)) b), (0 : Int)) = _
    rw [sums_back hw ha]
  rw [e1] at C1
  exact vsums_rest TL h2 hm hp a ha b (vlanes 64 (vtwoN 1 64 a b)) (.int .u8 (n : Int)) (.int .i64 64) (fun p q r0 r1 s0 s1 tot fs L C0 C1 C2 C3 C4 C5 hL LB S U HS HV W hT => vsums_64 T (hide TL.later) n a.1 a.2 b.1 b.2 p q r0 r1 s0 s1 tot fs L (hide CD) C0 C1 C2 C3 C4 C5 hL LB S U HS HV (hide fun W hT => vworks TL h2 hm W hT) W hT) C0 C1 W hT

theorem vintsSums_law {T : World → Prop} (TL : TabsLike T) (h2 : VTwoOK T) (hm : VMaskOK T) (hp : VPairsOK T) (n : Nat) (a : Nat × Nat) (ha : Vok a) (b : Nat × Nat) (hb : Vok b) (W : World) (hT : T W) :
    Calls Tryd.prog 6 #[.int .u8 (n : Int), vecV a, vecV b] W fun e W' => e = .returned (.bool true) ∧ Below W.heap.size W W' := by
  rcases lwd7_cases n with h | h | h | h
  · exact vsums_law_8 TL h2 hm hp n h a ha b hb W hT
  · exact vsums_law_16 TL h2 hm hp n h a ha b hb W hT
  · exact vsums_law_32 TL h2 hm hp n h a ha b hb W hT
  · exact vsums_law_64 TL h2 hm hp n h a ha b hb W hT
end Go.Proofs.YtoihfmammmkloabDoor
