/-
  The walk of NameJoins.
-/
import Derived.Test.YthillphedjjhjaaDoorNameLaws4
set_option linter.unusedVariables false
namespace Go.Proofs.YthillphedjjhjaaDoor
open Go.RowKit

theorem append_rowR {w : World} {ops : Array Oper} {rest : List Oper} {o : Oper} {a : Act} {Q : Exit → Act → World → Prop} (hgd : o.guard = none) (s x : Operand)
    (ho : o.op = .call { callee := .builtin .append, args := #[s, x], argTypes := #[23, 23] })
    (base : Nat) (v : Value) (n : Nat) (xs : List Value) (hs : a.eval s = v) (hown : w.ownsRow base 21 1 v n xs)
    (ad : Option Addr) (m c : Nat) (l : List Int) (hx : a.eval x = .slice ad m c) (H : RowR w ad m c l) (h63 : n + m ≤ 35184372088832) (hbase : base ≤ w.heap.size)
    (h : ∀ v' w', w'.ownsRow base 21 1 v' (n + m) (xs ++ l.map (Value.int .i32)) → w.grownBy w' v.ownBlock → wpList Tryd.prog ops Q rest (a.put o.dst v') w') :
    wpList Tryd.prog ops Q (o :: rest) a w := by
  obtain ⟨i0, hi, hz0, hz1, hz2⟩ := info_parts Tryd.infoRune
  obtain ⟨hl, hcap, hcm, hb, ha, hc⟩ := H
  cases ad with
  | none =>
    obtain rfl := ha rfl
    obtain rfl : m = 0 := by omega
    have hl0 : l = [] := List.eq_nil_of_length_eq_zero hl
    subst hl0
    refine wpList_append_own_none hgd s x 23 ho base 21 i0 1 Tryd.underlying23 hi v n xs hs hown hx ?_
    exact h v w (by simpa using hown) (World.grownBy.refl _ _)
  | some ad =>
    refine wpList_append_own w hgd s x 23 ho base 21 i0 (.int .i32 0) 1 4 Tryd.underlying23 hi hz0 hz1 hz2 rfl (by decide) v n xs hs hown ad m c (l.map (Value.int .i32)) hx (by simp [hl]) ?_ (ints_oneCell .i32 l) (by unfold maxLen; omega) (by omega) hbase (fun v' w' h1 h2 _ => h v' w' h1 h2)
    intro j u hj
    rw [List.getElem?_map] at hj
    by_cases hjm : j < m
    · obtain ⟨b, off, e, hcell⟩ := hc (by omega)
      simp only [Option.some.injEq] at e
      subst e
      have hg := hcell j hjm
      rw [List.getElem?_eq_getElem (by omega)] at hj hg
      simp only [Option.map_some, Option.some.injEq] at hj
      subst hj
      simp only [Option.getD_some] at hg
      by_cases h0 : j = 0
      · subst h0; simpa [Addr.add] using hg
      · simpa [Addr.add, h0] using hg
    · rw [List.getElem?_eq_none (by omega)] at hj
      simp at hj

theorem puts_letters {ls : List Int} (h : Utf.allLetters ls = true) : puts ls = Utf.text ls ∧ perr ls = 0 := by
  unfold puts perr; rw [h]; exact ⟨rfl, rfl⟩
theorem lets_text {ls : List Int} (h : Utf.allLetters ls = true) : lets (Utf.text ls) = ls ∧ lerr (Utf.text ls) = 0 := by
  unfold lets lerr; rw [Utf.isText_of_text ls h, Utf.letters_text ls h]; exact ⟨rfl, rfl⟩

set_option maxHeartbeats 1000000 in
theorem joins_no (a a1 : Option Addr) (len cap len1 cap1 K : Nat) (l m : List Int) (w : World) (H : RowR w a len cap l) (H1 : RowR w a1 len1 cap1 m) (hT : Tabs w) (nb : len + len1 ≤ 1048576)
    (hno : ¬ (Utf.allLetters l = true ∧ Utf.allLetters m = true)) :
    Calls Tryd.prog 8 #[.slice a len cap, .slice a1 len1 cap1, .int .u8 K] w fun e w' => e = .returned (.bool true) ∧ Below w.heap.size w w' := by
  have HH := hide H
  have HH1 := hide H1
  have HT := hide hT
  have LA : Hid (len * 4 ≤ 140737488355328) := by show _ ≤ _; omega
  have LB : Hid (len1 * 4 ≤ 140737488355328) := by show _ ≤ _; omega
  have HN := hide hno
  clear H H1 hT nb hno
  go_enter Tryd.func8, Tryd.ntmps8
  go_wp2_with fail
  refine (Put_calls a len cap l w HH.out LA.out).mono ?_
  intro e w1 hp
  obtain ⟨hb1, av, cv, rfl, hr1, _⟩ := hp.one
  have B1 := hide hb1
  clear hp hb1 hr1
  go_wp2_with fail
  refine (Put_calls a1 len1 cap1 m w1 (HH1.out.later B1.out) LB.out).mono ?_
  intro e w2 hp
  obtain ⟨hb2, av2, cv2, rfl, hr2, _⟩ := hp.one
  have B2 := hide (B1.out.trans (hb2.mono B1.out.size))
  clear hp hb2 hr2 B1
  generalize (puts l).length = P1
  generalize (puts m).length = P2
  cases hal : Utf.allLetters l with
  | false =>
    have e1 : perr l = 2 := by unfold perr; rw [hal]; rfl
    rw [e1]
    generalize perr m = q
    clear e1 hal
    go_wp2_with fail
    refine (works_calls w2 (HT.out.later B2.out)).mono ?_
    rintro e w3 ⟨rfl, hb3⟩
    have B3 := hide (B2.out.trans (hb3.mono B2.out.size))
    clear hb3
    go_wp2
    go_ret
    exact ⟨rfl, B3.out⟩
  | true =>
    have ham : Utf.allLetters m = false := by
      cases h : Utf.allLetters m with
      | false => rfl
      | true => exact absurd ⟨hal, h⟩ HN.out
    have e1 : perr l = 0 := (puts_letters hal).2
    have e2 : perr m = 2 := by unfold perr; rw [ham]; rfl
    rw [e1, e2]
    clear e1 e2 hal ham
    go_wp2_with fail
    refine (works_calls w2 (HT.out.later B2.out)).mono ?_
    rintro e w3 ⟨rfl, hb3⟩
    have B3 := hide (B2.out.trans (hb3.mono B2.out.size))
    clear hb3
    go_wp2
    go_ret
    exact ⟨rfl, B3.out⟩

theorem own_rowG {w : World} {base : Nat} {v : Value} {l : List Int} (h : w.ownsRow base 5 1 v l.length (l.map (Value.int .u8))) (hb : Leb.Bytes l) :
    ∃ a cap, v = .slice a l.length cap ∧ Row w a l.length cap l ∧ (a = none ∨ ∃ g, a = some ⟨g, 0, none⟩) := by
  obtain ⟨_, ⟨rfl, h0⟩ | ⟨g, cap, cur, rfl, hbase, hblk, hn, hm, hsz, htake⟩⟩ := id h
  · refine ⟨none, 0, by rw [h0], ⟨rfl, by omega, by unfold maxLen; omega, hb, fun _ => rfl, fun h => by omega⟩, .inl rfl⟩
  · refine ⟨_, cap, rfl, ⟨rfl, hn, hm, hb, (fun h => by cases h), fun _ => ⟨g, 0, rfl, fun i hi => ?_⟩⟩, .inr ⟨g, rfl⟩⟩
    have hc := h.cellAt i (by omega)
    rw [Nat.zero_add, hc, List.getElem?_map, List.getElem?_eq_getElem hi]
    simp

theorem row_take {w : World} {a : Option Addr} {len cap : Nat} {l : List Int} (H : Row w a len cap l) (k : Nat) (hk : k ≤ len) : Row w a k cap (l.take k) := by
  obtain ⟨h1, h2, h3, h4, h5, h6⟩ := H
  refine ⟨by simp; omega, by omega, h3, ?_, h5, fun h0 => ?_⟩
  · intro i; rw [List.getElem?_take]; split
    · exact h4 i
    · simp
  · obtain ⟨b, off, rfl, hc⟩ := h6 (by omega)
    exact ⟨b, off, rfl, fun i hi => by rw [List.getElem?_take, if_pos hi]; exact hc i (by omega)⟩

theorem row_drop {w : World} {b off len cap : Nat} {l : List Int} (H : Row w (some ⟨b, off, none⟩) len cap l) (k : Nat) (hk : k ≤ len) (o c : Nat) (ho : k < len → o = off + k) (hc1 : len - k ≤ c) (hc2 : c ≤ maxLen) : Row w (some ⟨b, o, none⟩) (len - k) c (l.drop k) := by
  obtain ⟨h1, h2, h3, h4, h5, h6⟩ := H
  refine ⟨by simp; omega, hc1, hc2, Utf.bytes_dropU h4 k, (fun h => by cases h), fun h0 => ?_⟩
  obtain ⟨b', off', he, hc⟩ := h6 (by omega)
  simp only [Option.some.injEq, Addr.mk.injEq] at he
  obtain ⟨rfl, rfl, _⟩ := he
  obtain rfl := ho (by omega)
  exact ⟨b, off + k, rfl, fun i hi => by rw [List.getElem?_drop, Nat.add_assoc]; exact hc (k + i) (by omega)⟩

set_option maxHeartbeats 2000000 in
theorem joins_yes (a a1 : Option Addr) (len cap len1 cap1 K : Nat) (l m : List Int) (w : World) (H : RowR w a len cap l) (H1 : RowR w a1 len1 cap1 m) (hT : Tabs w) (nb : len + len1 ≤ 1048576) (hK : K ≤ 255)
    (hal : Utf.allLetters l = true) (ham : Utf.allLetters m = true) :
    Calls Tryd.prog 8 #[.slice a len cap, .slice a1 len1 cap1, .int .u8 K] w fun e w' => e = .returned (.bool true) ∧ Below w.heap.size w w' := by
  have HH := hide H
  have HH1 := hide H1
  have HT := hide hT
  have LA : Hid (len * 4 ≤ 140737488355328) := by show _ ≤ _; omega
  have LB : Hid (len1 * 4 ≤ 140737488355328) := by show _ ≤ _; omega
  have hl := H.1
  have hl1 := H1.1
  have hlm : Utf.allLetters (l ++ m) = true := by rw [Utf.all_append, hal, ham]; rfl
  have htx := Utf.text_append l m
  have hcut := Utf.join_cut (l ++ m) hlm
  have hTL := Utf.text_len (l ++ m)
  have hLT := lets_text hlm
  have hTB := Utf.text_bytes (l ++ m) hlm
  obtain ⟨p1, q1⟩ := puts_letters hal
  obtain ⟨p2, q2⟩ := puts_letters ham
  rw [List.length_append] at hTL
  have HTX := hide htx
  have HCUT := hide hcut
  have HLT := hide hLT
  have HTB := hide hTB
  have P1 := hide p1
  have P2 := hide p2
  have Q1 := hide q1
  have Q2 := hide q2
  have HL := hide hl
  have HL1 := hide hl1
  clear H H1 hT hlm htx hcut hLT hTB p1 p2 q1 q2 hal ham
  obtain ⟨tl, htl⟩ : ∃ tl, (Utf.text l).length = tl := ⟨_, rfl⟩
  obtain ⟨tm, htm⟩ : ∃ tm, (Utf.text m).length = tm := ⟨_, rfl⟩
  have hsum : (Utf.text (l ++ m)).length = tl + tm := by rw [HTX.out, List.length_append, htl, htm]
  rw [hsum, hl, hl1] at hTL
  have HTL := hide htl
  have HTM := hide htm
  have HSUM := hide hsum
  have K1 : Hid (0 + tl ≤ 140737488355328) := by show _ ≤ _; omega
  have K2 : Hid (tl + tm ≤ 140737488355328) := by show _ ≤ _; omega
  have K3 : Hid (0 + len ≤ 35184372088832) := by show _ ≤ _; omega
  have K4 : Hid (len + len1 ≤ 35184372088832) := by show _ ≤ _; omega
  have K5 : Hid ((tl + tm) * 4 ≤ 140737488355328) := by show _ ≤ _; omega
  have hbnd : tl + tm ≤ 4194304 := by omega
  clear htl htm hsum hTL hl hl1 nb
  go_enter Tryd.func8, Tryd.ntmps8
  go_wp2_with fail
  refine (Put_calls a len cap l w HH.out LA.out).mono ?_
  intro e w1 hp
  obtain ⟨hb1, av, cv, rfl, hr1, _⟩ := hp.one
  rw [Q1.out]
  rw [P1.out, HTL.out] at hr1 ⊢
  have B1 := hide hb1
  have R1 := hide hr1
  clear hp hb1 hr1
  go_wp2_with fail
  refine (Put_calls a1 len1 cap1 m w1 (HH1.out.later B1.out) LB.out).mono ?_
  intro e w2 hp
  obtain ⟨hb2, av2, cv2, rfl, hr2, _⟩ := hp.one
  rw [Q2.out]
  rw [P2.out, HTM.out] at hr2 ⊢
  have B2 := hide (B1.out.trans (hb2.mono B1.out.size))
  have R2 := hide hr2
  have R1' := hide (R1.out.later hb2)
  clear hp hb2 hr2 B1 R1
  go_wp2_with (at_builtin; go_must (refine append_rowB rfl _ _ rfl w2.heap.size _ 0 [] rfl (World.ownsRow_nil _ _ _ _) av tl cv (Utf.text l) rfl R1'.out K1.out (Nat.le_refl _) ?_))
  intro v3 w3 hown3 hgrow3
  have hb3 : Below w2.heap.size w2 w3 := (Below.refl _ _).grown hgrow3 (Nat.le_refl _) (fun j hj => by simp [Value.ownBlock] at hj)
  have O3 : Hid (w3.ownsRow w2.heap.size 5 1 v3 tl ((Utf.text l).map (Value.int .u8))) := by show World.ownsRow _ _ _ _ _ _ _; simpa using hown3
  have B3 := hide hb3
  have R3 := hide (R2.out.later hb3)
  clear hown3 hgrow3 hb3 R1' R2
  go_wp2_with (at_builtin; go_must (refine append_rowB rfl _ _ rfl w2.heap.size _ _ _ rfl O3.out av2 tm cv2 (Utf.text m) rfl R3.out K2.out B3.out.size ?_))
  intro v4 w4 hown4 hgrow4
  have hb4 : Below w2.heap.size w2 w4 := B3.out.grown hgrow4 B3.out.size (fun j hj => (O3.out.lt j hj).1)
  have hown5 : w4.ownsRow w2.heap.size 5 1 v4 (Utf.text (l ++ m)).length ((Utf.text (l ++ m)).map (Value.int .u8)) := by
    rw [HSUM.out, HTX.out, List.map_append]; exact hown4
  obtain ⟨a5, c5, hv, hr5, hg5⟩ := own_rowG hown5 HTB.out
  have HG5 := hide hg5
  clear hg5
  subst hv
  rw [HSUM.out] at hr5 ⊢
  have B4 := hide (B2.out.trans (hb4.mono B2.out.size))
  have R5 := hide hr5
  clear hown4 hgrow4 hb4 hown5 hr5 O3 B3 R3
  obtain ⟨all, hall⟩ : ∃ all, Utf.text (l ++ m) = all := ⟨_, rfl⟩
  rw [hall] at R5 HCUT HLT HTB HSUM
  clear hall
  obtain ⟨L, hLe⟩ : ∃ L, tl + tm = L := ⟨_, rfl⟩
  rw [hLe] at R5 HSUM K5 hbnd ⊢
  clear hLe K1 K2
  go_wp2_with fail
  refine (Letters_calls a5 L c5 all w4 R5.out (HT.out.later B4.out) K5.out).mono ?_
  intro e w6 hp
  obtain ⟨hb6, a6, c6, rfl, hr6, _⟩ := hp.one HTB.out
  rw [HLT.out.2]
  rw [HLT.out.1] at hr6 ⊢
  have hlmL : (l ++ m).length = len + len1 := by rw [List.length_append, HL.out, HL1.out]
  rw [hlmL] at hr6 ⊢
  have HLML := hide hlmL
  have B6 := hide (B4.out.trans (hb6.mono B4.out.size))
  have R6 := hide hr6
  have R7 := hide (R5.out.later hb6)
  clear hp hb6 hr6 B4 R5 hlmL
  have S1 := hide (HH.out.later B6.out)
  go_wp2_with (at_builtin; go_must (refine append_rowR rfl _ _ rfl w6.heap.size _ 0 [] rfl (World.ownsRow_nil _ _ _ _) a len cap l rfl S1.out K3.out (Nat.le_refl _) ?_))
  intro v7 w7 hown7 hgrow7
  have hb7 : Below w6.heap.size w6 w7 := (Below.refl _ _).grown hgrow7 (Nat.le_refl _) (fun j hj => by simp [Value.ownBlock] at hj)
  have O7 : Hid (w7.ownsRow w6.heap.size 21 1 v7 len (l.map (Value.int .i32))) := by show World.ownsRow _ _ _ _ _ _ _; simpa using hown7
  have B7 := hide hb7
  have S2 := hide (HH1.out.later (B6.out.trans (hb7.mono B6.out.size)))
  clear hown7 hgrow7 hb7 S1
  go_wp2_with (at_builtin; go_must (refine append_rowR rfl _ _ rfl w6.heap.size _ _ _ rfl O7.out a1 len1 cap1 m rfl S2.out K4.out B7.out.size ?_))
  intro v8 w8 hown8 hgrow8
  have hb8 : Below w6.heap.size w6 w8 := B7.out.grown hgrow8 B7.out.size (fun j hj => (O7.out.lt j hj).1)
  have hown9 : w8.ownsRow w6.heap.size 21 1 v8 (l ++ m).length ((l ++ m).map (Value.int .i32)) := by
    rw [HLML.out, List.map_append]; exact hown8
  obtain ⟨a9, c9, hv, hr9⟩ := own_rowR hown9 (R6.out.2.2.2.1)
  subst hv
  rw [HLML.out] at hr9 ⊢
  have B8 := hide (B6.out.trans (hb8.mono B6.out.size))
  have R8 := hide (R6.out.later hb8)
  have R9 := hide hr9
  have RA := hide (R7.out.later hb8)
  clear hown8 hgrow8 hb8 hown9 hr9 O7 B7 S2 B6 R6 R7
  go_wp2_with fail
  refine (runes_calls' a6 a9 c6 c9 (len + len1) (l ++ m) w8 R8.out R9.out).mono ?_
  rintro e w10 ⟨rfl, n10, rfl⟩
  have B10 := hide (below_drewNq B8.out n10)
  have RB := hide (Row.drewN RA.out n10)
  generalize w8.drewN n10 = w10 at B10 RB ⊢
  clear R8 R9 RA B8
  obtain ⟨k, hk⟩ : ∃ k, K % (L + 1) = k := ⟨_, rfl⟩
  have hkL : k ≤ L := by rw [← hk]; have := Nat.mod_lt K (show 0 < L + 1 by omega); omega
  have hmod : ((K : Int)).tmod ((L : Int) + 1) = (k : Int) := by
    rw [← hk]; exact (Int.ofNat_tmod K (L + 1)).symm
  have hne : ¬ ((L : Int) + 1 = 0) := by omega
  have hneb : (((L : Int) + 1) == 0) = false := by simp; omega
  have HC := hide (HCUT.out k (by rw [HSUM.out]; exact hkL))
  have hkz : (k : Int) ≤ (L : Int) := by omega
  have hLc : (L : Int) ≤ (c5 : Int) := by have := RB.out.2.1; omega
  have hkc : (k : Int) ≤ (c5 : Int) := by omega
  have RT := hide (row_take RB.out k hkL)
  have hcap := RB.out.2.1
  have hcm := RB.out.2.2.1
  clear hk HCUT
  rcases HG5.out with rfl | ⟨g, rfl⟩
  · obtain rfl := RB.out.2.2.2.2.1 rfl
    obtain rfl : L = 0 := by omega
    obtain rfl : k = 0 := by omega
    have hall0 : all = [] := List.eq_nil_of_length_eq_zero HSUM.out
    subst hall0
    go_wp2_with fail
    refine (Is_calls none 0 0 [] w10 (row_nil _) (HT.out.later B10.out)).mono ?_
    rintro e w11 ⟨rfl, hb11⟩
    have B11 := hide (B10.out.trans (hb11.mono B10.out.size))
    clear hb11
    go_wp2_with fail
    refine (Is_calls none 0 0 [] w11 (row_nil _) (HT.out.later B11.out)).mono ?_
    rintro e w12 ⟨rfl, hb12⟩
    have B12 := hide (B11.out.trans (hb12.mono B11.out.size))
    clear hb12
    go_wp2_with fail
    refine (works_calls w12 (HT.out.later B12.out)).mono ?_
    rintro e w13 ⟨rfl, hb13⟩
    have B13 := hide (B12.out.trans (hb13.mono B12.out.size))
    clear hb13
    go_wp2
    go_ret
    exact ⟨rfl, B13.out⟩
  · by_cases hkc5 : k = c5
    · subst hkc5
      have hkL2 : k = L := by omega
      subst hkL2
      go_wp2_with fail
      refine (Is_calls (some ⟨g, 0, none⟩) k k (all.take k) w10 RT.out (HT.out.later B10.out)).mono ?_
      rintro e w11 ⟨rfl, hb11⟩
      have B11 := hide (B10.out.trans (hb11.mono B10.out.size))
      have RD := hide (row_drop (RB.out.later hb11) k hkL 0 0 (fun h => by omega) (by omega) (by omega))
      clear hb11
      go_wp2_with fail
      refine (Is_calls (some ⟨g, 0, none⟩) 0 0 (all.drop k) w11 (by have := RD.out; rwa [Nat.sub_self] at this) (HT.out.later B11.out)).mono ?_
      rintro e w12 ⟨rfl, hb12⟩
      have B12 := hide (B11.out.trans (hb12.mono B11.out.size))
      rw [HC.out]
      clear hb12
      go_wp2_with fail
      refine (works_calls w12 (HT.out.later B12.out)).mono ?_
      rintro e w13 ⟨rfl, hb13⟩
      have B13 := hide (B12.out.trans (hb13.mono B12.out.size))
      clear hb13
      go_wp2
      go_ret
      exact ⟨rfl, B13.out⟩
    · have hnz : ¬ ((c5 : Int) - (k : Int) = 0) := by omega
      have hnz2 : ¬ (c5 - k = 0) := by omega
      go_wp2_with fail
      refine (Is_calls (some ⟨g, 0, none⟩) k c5 (all.take k) w10 RT.out (HT.out.later B10.out)).mono ?_
      rintro e w11 ⟨rfl, hb11⟩
      have B11 := hide (B10.out.trans (hb11.mono B10.out.size))
      have RD := hide (row_drop (RB.out.later hb11) k hkL k (c5 - k) (fun h => by omega) (by omega) (by omega))
      clear hb11
      go_wp2_with fail
      refine (Is_calls (some ⟨g, k, none⟩) (L - k) (c5 - k) (all.drop k) w11 RD.out (HT.out.later B11.out)).mono ?_
      rintro e w12 ⟨rfl, hb12⟩
      have B12 := hide (B11.out.trans (hb12.mono B11.out.size))
      rw [HC.out]
      clear hb12
      go_wp2_with fail
      refine (works_calls w12 (HT.out.later B12.out)).mono ?_
      rintro e w13 ⟨rfl, hb13⟩
      have B13 := hide (B12.out.trans (hb13.mono B12.out.size))
      clear hb13
      go_wp2
      go_ret
      exact ⟨rfl, B13.out⟩

theorem nameJoins_calls (a a1 : Option Addr) (len cap len1 cap1 : Nat) (x : Int) (l m : List Int) (w : World) (H : RowR w a len cap l) (H1 : RowR w a1 len1 cap1 m) (hT : Tabs w) (nb : len + len1 ≤ 1048576) (hx : (Lit.int .u8 x).wf = true) :
    Calls Tryd.prog 8 #[.slice a len cap, .slice a1 len1 cap1, .int .u8 x] w fun e w' => e = .returned (.bool true) ∧ Below w.heap.size w w' := by
  have hx2 : 0 ≤ x ∧ x ≤ 255 := by simp [Lit.wf, IntKind.min, IntKind.max, IntKind.bits, IntKind.signed] at hx; omega
  obtain ⟨K, rfl⟩ : ∃ K : Nat, x = K := ⟨x.toNat, by omega⟩
  by_cases h : Utf.allLetters l = true ∧ Utf.allLetters m = true
  · exact joins_yes a a1 len cap len1 cap1 K l m w H H1 hT nb (by omega) h.1 h.2
  · exact joins_no a a1 len cap len1 cap1 K l m w H H1 hT nb h

end Go.Proofs.YthillphedjjhjaaDoor
