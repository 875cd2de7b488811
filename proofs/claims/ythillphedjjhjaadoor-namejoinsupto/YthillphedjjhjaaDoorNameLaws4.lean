/-
  The walks of NameBack and NameJoins.
-/
import Derived.Test.YthillphedjjhjaaDoorNameLaws1
import Derived.Test.YthillphedjjhjaaDoorNameJoinMath
set_option linter.unusedVariables false
namespace Go.Proofs.YthillphedjjhjaaDoor
open Go.RowKit

theorem puts_len (ls : List Int) : (puts ls).length ≤ 4 * ls.length := by
  unfold puts
  split
  · exact (Utf.text_len ls).2
  · simp

set_option maxHeartbeats 2000000 in
theorem nameBack_calls (a a1 : Option Addr) (len cap len1 cap1 : Nat) (l b : List Int) (w : World) (H : RowR w a len cap l) (H1 : Row w a1 len1 cap1 b) (hT : Tabs w) (nb : len + len1 ≤ 1048576) :
    Calls Tryd.prog 7 #[.slice a len cap, .slice a1 len1 cap1] w fun e w' => e = .returned (.bool true) ∧ Below w.heap.size w w' := by
  have HH := hide H
  have HB := hide H1
  have HT := hide hT
  have HBY := hide H1.2.2.2.1
  have HLB := hide H1.1
  have HLL := hide H.1
  have LA : Hid (len * 4 ≤ 140737488355328) := by show _ ≤ _; omega
  have LB : Hid (len1 * 4 ≤ 140737488355328) := by show _ ≤ _; omega
  have NB := hide nb
  clear H H1 hT nb
  go_enter Tryd.func7, Tryd.ntmps7
  go_wp2_with fail
  refine (Put_calls a len cap l w HH.out LA.out).mono ?_
  intro e w1 hp
  obtain ⟨hb1, av, cv, rfl, hr1, _⟩ := hp.one
  have BC1 := hide hb1
  have R1 := hide hr1
  clear hp hb1 hr1
  cases hal : Utf.allLetters l with
  | true =>
    have e1 : perr l = 0 := by unfold perr; rw [hal]; rfl
    have e2 : lets (puts l) = l := by unfold lets puts; rw [hal]; simp only [if_true]; rw [Utf.letters_text l hal]; rfl
    have e3 : Utf.isText (puts l) = true := by unfold puts; rw [hal]; exact Utf.isText_of_text l hal
    have e4 : lerr (puts l) = 0 := by unfold lerr; rw [e3]; rfl
    have hpl := puts_len l
    rw [HLL.out] at hpl
    have LP : Hid ((puts l).length * 4 ≤ 140737488355328) := by show _ ≤ _; have := NB.out; omega
    rw [e1]
    have E2 := hide e2
    have E3 := hide e3
    have E4 := hide e4
    clear e1 e2 e3 e4 hpl hal
    have HPB := hide R1.out.2.2.2.1
    generalize hpp : puts l = pl at R1 LP E2 E3 E4 HPB ⊢
    clear hpp
    obtain ⟨M, hM⟩ : ∃ M, pl.length = M := ⟨_, rfl⟩
    rw [hM] at R1 LP ⊢
    clear hM
    go_wp2_with fail
    refine (Letters_calls av M cv pl w1 R1.out (HT.out.later BC1.out) LP.out).mono ?_
    intro e w2 hp
    obtain ⟨hb2, a2, c2, rfl, hr2, _⟩ := hp.one HPB.out
    rw [E4.out]
    rw [E2.out, HLL.out] at hr2 ⊢
    have BC2 := hide (BC1.out.trans (hb2.mono BC1.out.size))
    have R2 := hide hr2
    have R1' := hide (R1.out.later hb2)
    clear hp hb2 hr2 R1 BC1
    have RL := hide (HH.out.later BC2.out)
    go_wp2_with fail
    refine (runes_calls' a a2 cap c2 len l w2 RL.out R2.out).mono ?_
    rintro e w3 ⟨rfl, n3, rfl⟩
    have BC3 := hide (below_drewNq BC2.out n3)
    have R3 := hide (Row.drewN R1'.out n3)
    generalize w2.drewN n3 = w3 at BC3 R3 ⊢
    clear R1' R2 RL BC2
    go_wp2_with fail
    refine (Is_calls av M cv pl w3 R3.out (HT.out.later BC3.out)).mono ?_
    rintro e wc ⟨rfl, hbc⟩
    rw [E3.out]
    have BC := hide (BC3.out.trans (hbc.mono BC3.out.size))
    clear hbc BC3 R3
    go_wp2_with fail
    refine (Letters_calls a1 len1 cap1 b wc (HB.out.later BC.out) (HT.out.later BC.out) LB.out).mono ?_
    intro e w4 hp
    obtain ⟨hb4, a4, c4, rfl, hr4, _⟩ := hp.one HBY.out
    have B4 := hide (BC.out.trans (hb4.mono BC.out.size))
    have R4 := hide hr4
    clear hp hb4 hr4 BC
    cases hib : Utf.isText b with
    | false =>
      have e1 : lerr b = 4 := by unfold lerr; rw [hib]; rfl
      have e2 : lets b = [] := by
        unfold lets; unfold Utf.isText at hib
        cases hx : Utf.letters b with
        | none => rfl
        | some x => rw [hx] at hib; simp at hib
      rw [e1, e2]
      have HI := hide hib
      clear e1 e2 hib R4
      simp only [List.length_nil]
      go_wp2_with fail
      refine (Is_calls a1 len1 cap1 b w4 (HB.out.later B4.out) (HT.out.later B4.out)).mono ?_
      rintro e w5 ⟨rfl, hb5⟩
      rw [HI.out]
      have B5 := hide (B4.out.trans (hb5.mono B4.out.size))
      clear hb5 B4
      go_wp2_with fail
      refine (works_calls w5 (HT.out.later B5.out)).mono ?_
      rintro e w6 ⟨rfl, hb6⟩
      have B6 := hide (B5.out.trans (hb6.mono B5.out.size))
      clear hb6 B5
      go_wp2
      go_ret
      exact ⟨rfl, B6.out⟩
    | true =>
      have e1 : lerr b = 0 := by unfold lerr; rw [hib]; rfl
      obtain ⟨ks, hk1, hk2⟩ := Utf.isText_some HBY.out hib
      have e2 : lets b = ks := by unfold lets; rw [hk2, Utf.letters_text ks hk1]; rfl
      have e3 : puts ks = b := by unfold puts; rw [hk1]; exact hk2.symm
      have e4 : perr ks = 0 := by unfold perr; rw [hk1]; rfl
      have hkl := (Utf.text_len ks).1
      rw [← hk2, HLB.out] at hkl
      have LK : Hid (ks.length * 4 ≤ 140737488355328) := by show _ ≤ _; have := NB.out; omega
      rw [e1, e2]
      rw [e2] at R4
      have HI := hide hib
      have E3 := hide e3
      have E4 := hide e4
      clear e1 e2 e3 e4 hib hk2 hkl
      obtain ⟨K, hK⟩ : ∃ K, ks.length = K := ⟨_, rfl⟩
      rw [hK] at R4 LK ⊢
      have HK := hide hK
      clear hK
      go_wp2_with fail
      refine (Put_calls a4 K c4 ks w4 R4.out LK.out).mono ?_
      intro e w5 hp
      obtain ⟨hb5, a5, c5, rfl, hr5, _⟩ := hp.one
      rw [E4.out]
      rw [E3.out] at hr5 ⊢
      have B5 := hide (B4.out.trans (hb5.mono B4.out.size))
      rw [HLB.out] at hr5 ⊢
      have R5 := hide hr5
      clear hp hb5 hr5 R4 B4
      have RB := hide (HB.out.later B5.out)
      go_wp2_with fail
      refine (same_calls' a5 a1 c5 cap1 len1 b w5 R5.out RB.out).mono ?_
      rintro e w6 ⟨rfl, n6, rfl⟩
      have B6 := hide (below_drewNq B5.out n6)
      generalize w5.drewN n6 = w6 at B6 ⊢
      clear R5 RB B5
      go_wp2_with fail
      refine (Is_calls a1 len1 cap1 b w6 (HB.out.later B6.out) (HT.out.later B6.out)).mono ?_
      rintro e w7 ⟨rfl, hb7⟩
      rw [HI.out]
      have B7 := hide (B6.out.trans (hb7.mono B6.out.size))
      clear hb7 B6
      go_wp2_with fail
      refine (works_calls w7 (HT.out.later B7.out)).mono ?_
      rintro e w8 ⟨rfl, hb8⟩
      have B8 := hide (B7.out.trans (hb8.mono B7.out.size))
      clear hb8 B7
      go_wp2
      go_ret
      exact ⟨rfl, B8.out⟩
  | false =>
    have e1 : perr l = 2 := by unfold perr; rw [hal]; rfl
    have e2 : puts l = [] := by unfold puts; rw [hal]; rfl
    rw [e1, e2]
    clear e1 e2 hal R1
    have BC := BC1
    clear BC1
    generalize w1 = wc at BC ⊢
    go_wp2_with fail
    refine (Letters_calls a1 len1 cap1 b wc (HB.out.later BC.out) (HT.out.later BC.out) LB.out).mono ?_
    intro e w4 hp
    obtain ⟨hb4, a4, c4, rfl, hr4, _⟩ := hp.one HBY.out
    have B4 := hide (BC.out.trans (hb4.mono BC.out.size))
    have R4 := hide hr4
    clear hp hb4 hr4 BC
    cases hib : Utf.isText b with
    | false =>
      have e1 : lerr b = 4 := by unfold lerr; rw [hib]; rfl
      have e2 : lets b = [] := by
        unfold lets; unfold Utf.isText at hib
        cases hx : Utf.letters b with
        | none => rfl
        | some x => rw [hx] at hib; simp at hib
      rw [e1, e2]
      have HI := hide hib
      clear e1 e2 hib R4
      simp only [List.length_nil]
      go_wp2_with fail
      refine (Is_calls a1 len1 cap1 b w4 (HB.out.later B4.out) (HT.out.later B4.out)).mono ?_
      rintro e w5 ⟨rfl, hb5⟩
      rw [HI.out]
      have B5 := hide (B4.out.trans (hb5.mono B4.out.size))
      clear hb5 B4
      go_wp2_with fail
      refine (works_calls w5 (HT.out.later B5.out)).mono ?_
      rintro e w6 ⟨rfl, hb6⟩
      have B6 := hide (B5.out.trans (hb6.mono B5.out.size))
      clear hb6 B5
      go_wp2
      go_ret
      exact ⟨rfl, B6.out⟩
    | true =>
      have e1 : lerr b = 0 := by unfold lerr; rw [hib]; rfl
      obtain ⟨ks, hk1, hk2⟩ := Utf.isText_some HBY.out hib
      have e2 : lets b = ks := by unfold lets; rw [hk2, Utf.letters_text ks hk1]; rfl
      have e3 : puts ks = b := by unfold puts; rw [hk1]; exact hk2.symm
      have e4 : perr ks = 0 := by unfold perr; rw [hk1]; rfl
      have hkl := (Utf.text_len ks).1
      rw [← hk2, HLB.out] at hkl
      have LK : Hid (ks.length * 4 ≤ 140737488355328) := by show _ ≤ _; have := NB.out; omega
      rw [e1, e2]
      rw [e2] at R4
      have HI := hide hib
      have E3 := hide e3
      have E4 := hide e4
      clear e1 e2 e3 e4 hib hk2 hkl
      obtain ⟨K, hK⟩ : ∃ K, ks.length = K := ⟨_, rfl⟩
      rw [hK] at R4 LK ⊢
      have HK := hide hK
      clear hK
      go_wp2_with fail
      refine (Put_calls a4 K c4 ks w4 R4.out LK.out).mono ?_
      intro e w5 hp
      obtain ⟨hb5, a5, c5, rfl, hr5, _⟩ := hp.one
      rw [E4.out]
      rw [E3.out] at hr5 ⊢
      have B5 := hide (B4.out.trans (hb5.mono B4.out.size))
      rw [HLB.out] at hr5 ⊢
      have R5 := hide hr5
      clear hp hb5 hr5 R4 B4
      have RB := hide (HB.out.later B5.out)
      go_wp2_with fail
      refine (same_calls' a5 a1 c5 cap1 len1 b w5 R5.out RB.out).mono ?_
      rintro e w6 ⟨rfl, n6, rfl⟩
      have B6 := hide (below_drewNq B5.out n6)
      generalize w5.drewN n6 = w6 at B6 ⊢
      clear R5 RB B5
      go_wp2_with fail
      refine (Is_calls a1 len1 cap1 b w6 (HB.out.later B6.out) (HT.out.later B6.out)).mono ?_
      rintro e w7 ⟨rfl, hb7⟩
      rw [HI.out]
      have B7 := hide (B6.out.trans (hb7.mono B6.out.size))
      clear hb7 B6
      go_wp2_with fail
      refine (works_calls w7 (HT.out.later B7.out)).mono ?_
      rintro e w8 ⟨rfl, hb8⟩
      have B8 := hide (B7.out.trans (hb8.mono B7.out.size))
      clear hb8 B7
      go_wp2
      go_ret
      exact ⟨rfl, B8.out⟩

end Go.Proofs.YthillphedjjhjaaDoor
