/-
  The landed types.alike, Same.
-/
import Derived.Test.YteacjhmbamcegabTypSame
set_option linter.unusedVariables false
set_option linter.unusedSimpArgs false
namespace Go.Proofs.Yteacjhmbamcegab
open Go.RowKit Typ

set_option maxHeartbeats 1000000 in
theorem alike_some (b1 o1 c1 b2 o2 c2 : Nat) (l m : List Int) (w : World) (hlm : m.length = l.length) (hm : l.length ≤ 2 ^ 63 - 1)
    (h1 : ∀ i, i < l.length → w.cell? ⟨b1, o1 + i, none⟩ = some (.int .u8 (l[i]?.getD 0))) (h2 : ∀ i, i < l.length → w.cell? ⟨b2, o2 + i, none⟩ = some (.int .u8 (m[i]?.getD 0))) :
    Calls Try.prog 22 #[.slice (some ⟨b1, o1, none⟩) l.length c1, .slice (some ⟨b2, o2, none⟩) l.length c2] w fun e w' => e = .returned (.bool (l == m)) ∧ Below w.heap.size w w' := by
  have YES : Hid ((∀ i, i < l.length → l[i]?.getD 0 = m[i]?.getD 0) → (l == m) = true) := hideT (fun h => by
    rw [beq_iff_eq]
    refine List.ext_getElem hlm.symm fun i hi hj => ?_
    have := h i hi
    rw [List.getElem?_eq_getElem hi, List.getElem?_eq_getElem hj] at this
    exact this)
  have NO : Hid (∀ i, i < l.length → l[i]?.getD 0 ≠ m[i]?.getD 0 → (l == m) = false) := hideT (fun i hi h => by
    cases e : l == m with
    | false => rfl
    | true => exact absurd (by rw [eq_of_beq e]) h)
  generalize hL : l.length = len at *
  generalize (l == m) = r at *
  clear hlm hL
  go_enter Try.func22, Try.ntmps22
  go_wp2
  go_loopw [14] (fun x wr => ∃ k : Nat, x = .int .i64 k ∧ k ≤ len ∧ (∀ i, i < k → l[i]?.getD 0 = m[i]?.getD 0) ∧ Below w.heap.size w wr) (fun x _ => len - (intOf x).toNat)
  case atStart => exact ⟨0, rfl, Nat.zero_le _, fun i hi => by omega, Below.refl _ _⟩
  case round =>
    obtain ⟨k, rfl, hk, hall, hr0⟩ := hrel
    have HR := hideT hr0
    by_cases hlt : k < len
    · have g1 := cell_later HR.out (h1 k hlt)
      have g2 := cell_later HR.out (h2 k hlt)
      have NK := hideT (NO.out k hlt)
      have YK := hideT (show l[k]?.getD 0 = m[k]?.getD 0 → ∀ i, i < k + 1 → l[i]?.getD 0 = m[i]?.getD 0 from fun he i hi => by
        by_cases e : i = k
        · subst e; exact he
        · exact hall i (by omega))
      clear h1 h2 YES NO hall hr0
      generalize l[k]?.getD 0 = c at *
      generalize m[k]?.getD 0 = d at *
      by_cases e : c = d
      · have YK2 := hideT (YK.out e)
        subst e
        clear NK YK
        go_wp2
        go_roundw
        case rel => exact ⟨k + 1, by go_num, by omega, YK2.out, HR.out⟩
        case measure => simp [intOf]; omega
      · have hr := NK.out e
        subst hr
        have t1 : (c != d) = true := by simp [e]
        clear NK YK e
        go_wp2
        go_ret
        exact ⟨rfl, HR.out⟩
    · obtain rfl : k = len := by omega
      have hr := YES.out hall
      subst hr
      clear YES NO hall h1 h2 hr0
      go_wp2
      go_ret
      exact ⟨rfl, HR.out⟩

set_option maxHeartbeats 1000000 in
theorem alike_empty (a1 a2 : Option Addr) (c1 c2 : Nat) (w : World) :
    Calls Try.prog 22 #[.slice a1 0 c1, .slice a2 0 c2] w fun e w' => e = .returned (.bool true) ∧ Below w.heap.size w w' := by
  go_enter Try.func22, Try.ntmps22
  go_wp2
  go_loop [14] (fun x => x = .int .i64 0) (fun _ => 0)
  case atStart => exact rfl
  case round =>
    obtain rfl := hrel
    go_wp2
    go_ret
    exact ⟨rfl, Below.refl _ _⟩

set_option maxHeartbeats 1000000 in
theorem alike_len (a1 a2 : Option Addr) (n1 n2 c1 c2 : Nat) (h : n1 ≠ n2) (w : World) :
    Calls Try.prog 22 #[.slice a1 n1 c1, .slice a2 n2 c2] w fun e w' => e = .returned (.bool false) ∧ Below w.heap.size w w' := by
  have t1 : ((n1 : Int) != (n2 : Int)) = true := by simp; omega
  clear h
  go_enter Try.func22, Try.ntmps22
  go_wp2
  go_ret
  exact ⟨rfl, Below.refl _ _⟩

theorem alike_calls (v1 v2 : Value) (l m : List Int) (w : World) (H1 : RowT w v1 l) (H2 : RowT w v2 m) :
    Calls Try.prog 22 #[v1, v2] w fun e w' => e = .returned (.bool (l == m)) ∧ Below w.heap.size w w' := by
  obtain ⟨a1, c1, rfl, g1, g2, g3⟩ := H1
  obtain ⟨a2, c2, rfl, k1, k2, k3⟩ := H2
  by_cases hl : l.length = m.length
  · by_cases h0 : 0 < l.length
    · obtain ⟨b1, o1, rfl, x1⟩ := g3 h0
      obtain ⟨b2, o2, rfl, x2⟩ := k3 (by omega)
      rw [← hl]
      unfold maxLen at g2
      exact alike_some b1 o1 c1 b2 o2 c2 l m w hl.symm (by omega) x1 (fun i hi => x2 i (by omega))
    · have e1 : l = [] := List.eq_nil_of_length_eq_zero (by omega)
      have e2 : m = [] := List.eq_nil_of_length_eq_zero (by omega)
      subst e1; subst e2
      exact alike_empty a1 a2 c1 c2 w
  · have e : (l == m) = false := by
      cases h : l == m with
      | false => rfl
      | true => exact absurd (by rw [eq_of_beq h]) hl
    rw [e]
    exact alike_len a1 a2 _ _ c1 c2 hl w

set_option maxHeartbeats 2000000 in
theorem tSame_calls (v1 v2 u1 u2 : Value) (l1 l2 m1 m2 : List Int) (w : World) (H1 : RowT w v1 l1) (H2 : RowT w v2 l2) (G1 : RowT w u1 m1) (G2 : RowT w u2 m2) :
    Calls Try.prog 8 #[funcV v1 v2, funcV u1 u2] w fun e w' => e = .returned (.bool (l1 == m1 && l2 == m2)) ∧ Below w.heap.size w w' := by
  unfold funcV
  obtain ⟨wa, hwa⟩ : ∃ wa, (w.alloc (.cells #[v1, v2] 33)).alloc (.cells #[u1, u2] 33) = wa := ⟨_, rfl⟩
  have BA : Hid (Below w.heap.size w wa) := hideT (by rw [← hwa]; exact ((Below.refl _ _).alloc (Nat.le_refl _) _).alloc (by simp) _)
  have C1 := alike_calls v1 u1 l1 m1 wa (H1.later BA.out) (G1.later BA.out)
  have C2 := hideT (fun V hV => alike_calls v2 u2 l2 m2 V (H2.later (w' := V) hV) (G2.later (w' := V) hV))
  obtain ⟨a1, c1, rfl, _⟩ := H1
  obtain ⟨a2, c2, rfl, _⟩ := H2
  obtain ⟨a3, c3, rfl, _⟩ := G1
  obtain ⟨a4, c4, rfl, _⟩ := G2
  have K0 : SBlk wa w.heap.size 33 #[.slice a1 l1.length c1, .slice a2 l2.length c2] := by
    rw [← hwa]
    exact (heap_alloc_old _ _ (by simp)).trans (sblk_new _ _ _)
  have K1 : SBlk wa (w.heap.size + 1) 33 #[.slice a3 m1.length c3, .slice a4 m2.length c4] := by
    rw [← hwa]
    have := sblk_new (w.alloc (.cells #[.slice a1 l1.length c1, .slice a2 l2.length c2] 33)) 33 #[.slice a3 m1.length c3, .slice a4 m2.length c4]
    simpa using this
  have HWA := hideT hwa
  clear hwa
  cases h : l1 == m1 with
  | false =>
    rw [h] at C1
    have C1 := hideT C1
    clear h C2 K0 K1
    go_enter Try.func8, Try.ntmps8
    go_wp2_with fail
    rw [HWA.out]
    refine C1.out.mono ?_
    rintro e w1 ⟨rfl, hb1⟩
    have B1 := hideT (BA.out.trans (hb1.mono BA.out.size))
    clear hb1
    go_wp2
    go_ret
    exact ⟨rfl, B1.out⟩
  | true =>
    rw [h] at C1
    have C1 := hideT C1
    have KK := hideT K0
    have KL := hideT K1
    have C3 := hideT C2.out
    clear h C2 K0 K1
    generalize (l2 == m2) = r at *
    go_enter Try.func8, Try.ntmps8
    go_wp2_with fail
    rw [HWA.out]
    refine C1.out.mono ?_
    rintro e w1 ⟨rfl, hb1⟩
    have B1 := hideT (BA.out.trans (hb1.mono BA.out.size))
    have z0 : w1.cell? ⟨w.heap.size, 1, none⟩ = some (.slice a2 l2.length c2) := (KK.out.later hb1 KK.out.lt).cell rfl
    have z1 : w1.cell? ⟨w.heap.size + 1, 1, none⟩ = some (.slice a4 m2.length c4) := (KL.out.later hb1 KL.out.lt).cell rfl
    have C4 := hideT (C3.out w1 B1.out)
    clear hb1 C3
    go_wp2_with fail
    refine C4.out.mono ?_
    rintro e w2 ⟨rfl, hb2⟩
    have B2 := hideT (B1.out.trans (hb2.mono B1.out.size))
    clear hb2
    go_wp2
    go_ret
    exact ⟨by simp, B2.out⟩
end Go.Proofs.Yteacjhmbamcegab
