/-
  The walk of NameOne.
-/
import Derived.Test.YthillphedjjhjabDoorNameLaws1
import Derived.Test.YthillphedjjhjabDoorNameJoinMath
set_option linter.unusedVariables false
namespace Go.Proofs.YthillphedjjhjabDoor
open Go.RowKit

theorem one_row (w : World) (x0 x1 x2 x3 : Int) (hb : Leb.Bytes [x0, x1, x2, x3]) (k : Nat) (hk : k ≤ 4) :
    Row (w.alloc (.cells #[.int .u8 x0, .int .u8 x1, .int .u8 x2, .int .u8 x3] 22)) (some ⟨w.heap.size, 0, none⟩) k 4 ([x0, x1, x2, x3].take k) := by
  refine ⟨by simp; omega, hk, by unfold maxLen; omega, ?_, (fun h => by cases h), fun _ => ⟨_, 0, rfl, fun i hi => ?_⟩⟩
  · intro i; rw [List.getElem?_take]; split
    · exact hb i
    · simp
  · rw [List.getElem?_take, if_pos hi, Nat.zero_add]
    rcases (show i = 0 ∨ i = 1 ∨ i = 2 ∨ i = 3 by omega) with rfl | rfl | rfl | rfl <;> simp

theorem one_under : Tryd.prog.underlying 22 = some (.array (Tryd.prog.arrayLen 22) (Tryd.prog.elem 22)) := by kernel_rfl
theorem one_len : Tryd.prog.arrayLen 22 = 4 := by kernel_rfl
theorem one_elem : Tryd.prog.elem 22 = 5 := by kernel_rfl

theorem one_slice (g k : Nat) (hk : k ≤ 3) (W : World) : (Instr.sliceAt 22 (.pointer (some ⟨g, 0, none⟩)) none (some (.int .i64 (1 + (k : Int)))) none).run Tryd.prog W = .ok (.slice (some ⟨g, 0, none⟩) (1 + k) 4) W := by
  rw [run_sliceAt_array_h W 22 ⟨g, 0, none⟩ one_under .i64 (1 + (k : Int)) (by omega) (by rw [one_len]; omega), one_elem, one_len]
  have e : (1 + (k : Int)).toNat = 1 + k := by omega
  obtain ⟨i0, hi, hz0, hz1, hz2⟩ := info_parts Tryd.infoByte
  simp [slicedAt, e, sizeOf, go_sem]

theorem one_text (R : List Int) (hb : Leb.Bytes R) (h1 : Utf.isText R = true) (h2 : (lets R).length = 1) : ∃ r, lets R = [r] ∧ Utf.letter r = true ∧ puts [r] = R ∧ perr [r] = 0 := by
  obtain ⟨ks, hk1, hk2⟩ := Utf.isText_some hb h1
  have e2 : lets R = ks := by unfold lets; rw [hk2, Utf.letters_text ks hk1]; rfl
  rw [e2] at h2 ⊢
  match ks, h2 with
  | [r], _ =>
    refine ⟨r, rfl, ?_, ?_, ?_⟩
    · simpa [Utf.allLetters] using hk1
    · unfold puts; rw [hk1]; exact hk2.symm
    · unfold perr; rw [hk1]; rfl

set_option maxHeartbeats 2000000 in
theorem nameOne_calls (x0 x1 x2 x3 : Int) (N : Nat) (w : World) (hb : Leb.Bytes [x0, x1, x2, x3]) (hN : N ≤ 255) (hT : Tabs w) :
    Calls Tryd.prog 3 #[.agg #[.int .u8 x0, .int .u8 x1, .int .u8 x2, .int .u8 x3], .int .u8 N] w fun e w' => e = .returned (.bool true) ∧ Below w.heap.size w w' := by
  have HT := hide hT
  have hmod : ((N : Int)).tmod 4 = ((N % 4 : Nat) : Int) := (Int.ofNat_tmod N 4).symm
  obtain ⟨k, hk⟩ : ∃ k, N % 4 = k := ⟨_, rfl⟩
  rw [hk] at hmod
  have hk3 : k ≤ 3 := by omega
  have hkz : (k : Int) ≤ 3 := by omega
  have hsl := one_slice w.heap.size k hk3
  have ROW := hide (one_row w x0 x1 x2 x3 hb (1 + k) (by omega))
  have BW : Hid (Below w.heap.size w (w.alloc (.cells #[.int .u8 x0, .int .u8 x1, .int .u8 x2, .int .u8 x3] 22))) := (Below.refl _ _).alloc (Nat.le_refl _) _
  clear hT hb hk
  go_enter Tryd.func3, Tryd.ntmps3
  go_wp2_with fail
  generalize (w.alloc (.cells #[.int .u8 x0, .int .u8 x1, .int .u8 x2, .int .u8 x3] 22)) = w0 at ROW BW ⊢
  generalize [x0, x1, x2, x3].take (1 + k) = R at ROW
  have HRL := hide ROW.out.1
  have HRB := hide ROW.out.2.2.2.1
  clear hsl
  generalize (some (⟨w.heap.size, 0, none⟩ : Addr)) = ar at ROW ⊢
  generalize hkk : 1 + k = q at ROW HRL ⊢
  have hq : q * 4 ≤ 140737488355328 := by omega
  have HQ := hide hq
  clear hkk hq
  refine (Letters_calls ar q 4 R w0 ROW.out (HT.out.later BW.out) HQ.out).mono ?_
  intro e w1 hp
  obtain ⟨hb1, a1, c1, rfl, hr1, _⟩ := hp.one HRB.out
  have B1 := hide (BW.out.trans (hb1.mono BW.out.size))
  have R1 := hide hr1
  have RR := hide (ROW.out.later hb1)
  clear hp hb1 hr1 ROW BW
  by_cases hone : Utf.isText R = true ∧ (lets R).length = 1
  · obtain ⟨r, h1, h2, h3, h4⟩ := one_text R HRB.out hone.1 hone.2
    have e1 : lerr R = 0 := by unfold lerr; rw [hone.1]; rfl
    rw [e1]
    rw [h1] at R1 ⊢
    have hrl := letter_true h2
    have H3 := hide h3
    have H4 := hide h4
    clear hone h1 h2 h3 h4 e1
    simp only [List.length_cons, List.length_nil, Nat.zero_add] at R1 ⊢
    go_wp2_with fail
    refine (Put_calls a1 1 c1 [r] w1 R1.out (by decide)).mono ?_
    intro e w2 hp
    obtain ⟨hb2, a2, c2, rfl, hr2, _⟩ := hp.one
    rw [H4.out]
    rw [H3.out, HRL.out] at hr2 ⊢
    have B2 := hide (B1.out.trans (hb2.mono B1.out.size))
    have S2 := hide hr2
    have RR2 := hide (RR.out.later hb2)
    have R2 := hide (R1.out.later hb2)
    clear hp hb2 hr2 RR R1 B1
    go_wp2_with fail
    refine (same_calls' a2 ar c2 4 q R w2 S2.out RR2.out).mono ?_
    rintro e w3 ⟨rfl, n3, rfl⟩
    have B3 := hide (below_drewNq B2.out n3)
    have R3 : Hid (RowR (w2.drewN n3) a1 1 c1 [r]) := R2.out
    generalize w2.drewN n3 = w3 at B3 R3 ⊢
    clear S2 RR2 R2 B2
    obtain ⟨bb, oo, haa, hcc⟩ := R3.out.2.2.2.2.2 (by decide)
    subst haa
    have hc0 : w3.cell? ⟨bb, oo, none⟩ = some (.int .i32 r) := by simpa using hcc 0 (by decide)
    clear hcc R3
    have u1 : decide (0 ≤ r) = true := by simp; omega
    have u2 : decide (r ≤ 1114111) = true := by simp; omega
    by_cases g : r < 55296
    · have u3 : decide (r < 55296) = true := by simp; omega
      go_wp2_with fail
      refine (works_calls w3 (HT.out.later B3.out)).mono ?_
      rintro e w4 ⟨rfl, hb4⟩
      have B4 := hide (B3.out.trans (hb4.mono B3.out.size))
      clear hb4
      go_wp2
      go_ret
      exact ⟨rfl, B4.out⟩
    · have u3 : decide (r < 55296) = false := by simp; omega
      have u4 : decide (57343 < r) = true := by simp; omega
      go_wp2_with fail
      refine (works_calls w3 (HT.out.later B3.out)).mono ?_
      rintro e w4 ⟨rfl, hb4⟩
      have B4 := hide (B3.out.trans (hb4.mono B3.out.size))
      clear hb4
      go_wp2
      go_ret
      exact ⟨rfl, B4.out⟩
  · by_cases h1 : Utf.isText R = true
    · have e1 : lerr R = 0 := by unfold lerr; rw [h1]; rfl
      have h2 : ¬ (lets R).length = 1 := fun h => hone ⟨h1, h⟩
      rw [e1]
      obtain ⟨M, hM⟩ : ∃ M, (lets R).length = M := ⟨_, rfl⟩
      rw [hM] at h2 ⊢
      have u1 : ((M : Int) != 1) = true := by simp; omega
      have u2 : ¬ ((M : Int) = 1) := by omega
      clear hone h1 e1 hM R1 RR
      go_wp2_with fail
      refine (works_calls w1 (HT.out.later B1.out)).mono ?_
      rintro e w4 ⟨rfl, hb4⟩
      have B4 := hide (B1.out.trans (hb4.mono B1.out.size))
      clear hb4
      go_wp2
      go_ret
      exact ⟨rfl, B4.out⟩
    · have e1 : lerr R = 4 := by unfold lerr; rw [if_neg h1]
      rw [e1]
      generalize (lets R).length = M
      clear hone h1 e1 R1 RR
      go_wp2_with fail
      refine (works_calls w1 (HT.out.later B1.out)).mono ?_
      rintro e w4 ⟨rfl, hb4⟩
      have B4 := hide (B1.out.trans (hb4.mono B1.out.size))
      clear hb4
      go_wp2
      go_ret
      exact ⟨rfl, B4.out⟩

end Go.Proofs.YthillphedjjhjabDoor
