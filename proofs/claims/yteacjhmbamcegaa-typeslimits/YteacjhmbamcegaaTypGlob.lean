/-
  The document's Global, Table.
-/
import Derived.Test.YteacjhmbamcegaaTypLims
set_option linter.unusedVariables false
set_option linter.unusedSimpArgs false
namespace Go.Proofs.Yteacjhmbamcegaa
open Go.RowKit Typ

theorem SBlk.set2 {w : World} {g : Nat} {t : TypeId} {a b : Value} (h : SBlk w g t #[a, b]) (x y : Value) : SBlk ((w.setCell ⟨g, 0, none⟩ x).setCell ⟨g, 1, none⟩ y) g t #[x, y] := (h.set 0 x).set 1 y
theorem SBlk.set4 {w : World} {g : Nat} {t : TypeId} {a b c d : Value} (h : SBlk w g t #[a, b, c, d]) (x y z u : Value) : SBlk ((((w.setCell ⟨g, 0, none⟩ x).setCell ⟨g, 1, none⟩ y).setCell ⟨g, 2, none⟩ z).setCell ⟨g, 3, none⟩ u) g t #[x, y, z, u] :=
  (((h.set 0 x).set 1 y).set 2 z).set 3 u
def globR (r : (Int × Bool) × Int × Int) : Value := .tuple #[.agg #[.int .u8 r.1.1, .bool r.1.2], .int .i64 r.2.1, .int .i64 r.2.2]
def tabR (r : (Int × Int × Int × Bool) × Int × Int) : Value := .tuple #[tabV r.1.1 r.1.2.1 r.1.2.2.1 r.1.2.2.2, .int .i64 r.2.1, .int .i64 r.2.2]

theorem valAt_cases (l : List Int) (p : Int) : (∃ x, (x = 2 ∨ x = 4) ∧ valAt l p = (0, 0, x)) ∨ ∃ q : Nat, p = (q : Int) ∧ q < l.length ∧ isT (l[q]?.getD 0) = true ∧ valAt l p = (l[q]?.getD 0, ((q + 1 : Nat) : Int), 0) := by
  by_cases c1 : p < 0 ∨ (l.length : Int) < p
  · exact .inl ⟨2, .inl rfl, valAt_bad c1⟩
  · obtain ⟨q, rfl⟩ : ∃ q : Nat, p = (q : Int) := ⟨p.toNat, by omega⟩
    by_cases c2 : q < l.length
    · rw [valAt_in c2]
      cases h : isT (l[q]?.getD 0) with
      | true => exact .inr ⟨q, rfl, c2, h, by simp⟩
      | false => exact .inl ⟨4, .inr rfl, by simp⟩
    · obtain rfl : q = l.length := by omega
      exact .inl ⟨4, .inr rfl, valAt_end l⟩

set_option maxHeartbeats 4000000 in
theorem rGlobal_calls (a : Option Addr) (len cap : Nat) (l : List Int) (p : Int) (w : World) (H : Row w a len cap l) :
    Calls Try.prog 36 #[.slice a len cap, .int .i64 p] w fun e w' => e = .returned (globR (globAt l p)) ∧ Below w.heap.size w w' := by
  have HH := hideT H
  obtain ⟨wa, hwa⟩ : ∃ wa, w.alloc (.cells #[.int .u8 0, .bool false] 57) = wa := ⟨_, rfl⟩
  have KZ : Hid (SBlk wa w.heap.size 57 #[.int .u8 0, .bool false]) := hideT (by rw [← hwa]; exact sblk_new _ _ _)
  have BA : Hid (Below w.heap.size w wa) := hideT (by rw [← hwa]; exact (Below.refl _ _).alloc (Nat.le_refl _) _)
  have z0 : wa.cell? ⟨w.heap.size, 0, none⟩ = some (.int .u8 0) := KZ.out.cell rfl
  have z1 : wa.cell? ⟨w.heap.size, 1, none⟩ = some (.bool false) := KZ.out.cell rfl
  have f0 := KZ.out.frozen 0
  have f1 := KZ.out.frozen 1
  have HWA := hideT hwa
  obtain ⟨hl, hcap, hcm, hb, ha, hc⟩ := H
  unfold maxLen at hcm
  have C1 := rVal_calls a len cap l p wa (HH.out.later BA.out)
  unfold globR
  rcases valAt_cases l p with ⟨x, hx, h⟩ | ⟨q, rfl, hq, ht, h⟩
  · have E : Hid (globAt l p = ((0, false), 0, x)) := hideT (by unfold globAt; rw [h]; simp only; rw [if_pos (by omega)])
    rw [h] at C1
    unfold triV at C1
    have C1 := hideT C1
    have hx0 : (x != 0) = true := by rcases hx with rfl | rfl <;> rfl
    have hx1 : ¬ (x = 0) := by omega
    clear hc hb ha hwa h hx
    go_enter Try.func36, Try.ntmps36
    go_wp2_with fail
    rw [HWA.out]
    refine C1.out.mono ?_
    rintro e w1 ⟨rfl, hw1⟩
    subst hw1
    go_wp2
    refine bodyPost_ret (v := .tuple #[.agg #[.int .u8 0, .bool false], .int .i64 0, .int .i64 x]) (resultG (KZ.out.set2 _ _) (by rfl) _ rfl rfl rfl) rfl ?_
    exact ⟨by rw [E.out], (BA.out.setCell (by simp) _).setCell (by simp) _⟩
  · rw [h] at C1
    unfold triV at C1
    have m1 : q + 1 ≤ len := by omega
    have m2 : len ≤ 2 ^ 63 - 1 := by omega
    by_cases c1 : q + 1 = len
    · have E : Hid (globAt l (q : Int) = ((0, false), 0, 4)) := hideT (by unfold globAt; rw [h]; simp only; rw [if_neg (by simp), if_pos (.inl (by omega))])
      have C1 := hideT C1
      generalize l[q]?.getD 0 = t at *
      have n1 : (((q + 1 : Nat) : Int) == (len : Int)) = true := by simp; omega
      generalize ((q + 1 : Nat) : Int) = nx at *
      clear hc hb ha hwa h ht
      go_enter Try.func36, Try.ntmps36
      go_wp2_with fail
      rw [HWA.out]
      refine C1.out.mono ?_
      rintro e w1 ⟨rfl, hw1⟩
      subst hw1
      go_wp2
      refine bodyPost_ret (v := .tuple #[.agg #[.int .u8 0, .bool false], .int .i64 0, .int .i64 4]) (resultG (KZ.out.set2 _ _) (by rfl) _ rfl rfl rfl) rfl ?_
      exact ⟨by rw [E.out], (BA.out.setCell (by simp) _).setCell (by simp) _⟩
    · obtain ⟨b, off, rfl, hcell⟩ := hc (by omega)
      have hlt : q + 1 < len := by omega
      have h1 : wa.cell? ⟨b, off + (q + 1), none⟩ = some (.int .u8 (l[q + 1]?.getD 0)) := cell_later BA.out (hcell (q + 1) hlt)
      have hb0 := hb (q + 1)
      have n1 : (((q + 1 : Nat) : Int) == (len : Int)) = false := by simp; omega
      have EG : globAt l (q : Int) = if 1 < l[q + 1]?.getD 0 then ((0, false), 0, 4) else ((l[q]?.getD 0, l[q + 1]?.getD 0 == 1), ((q + 1 : Nat) : Int) + 1, 0) := by
        unfold globAt
        rw [h]
        simp only [Int.toNat_natCast]
        rw [if_neg (by simp)]
        by_cases d : 1 < l[q + 1]?.getD 0
        · rw [if_pos (.inr d), if_pos d]
        · rw [if_neg (by omega), if_neg d]
      have C1 := hideT C1
      have m3 : q + 1 + 1 ≤ len := by omega
      generalize l[q]?.getD 0 = t at *
      generalize l[q + 1]?.getD 0 = y at *
      generalize hr : q + 1 = r at *
      clear hc hcell hb ha hwa h ht c1
      by_cases big : 1 < y
      · rw [if_pos big] at EG
        have E := hideT EG
        have t1 : decide (1 < y) = true := by simp [big]
        clear EG hb0 big hr
        go_enter Try.func36, Try.ntmps36
        go_wp2_with fail
        rw [HWA.out]
        refine C1.out.mono ?_
        rintro e w1 ⟨rfl, hw1⟩
        subst hw1
        go_wp2
        refine bodyPost_ret (v := .tuple #[.agg #[.int .u8 0, .bool false], .int .i64 0, .int .i64 4]) (resultG (KZ.out.set2 _ _) (by rfl) _ rfl rfl rfl) rfl ?_
        exact ⟨by rw [E.out], (BA.out.setCell (by simp) _).setCell (by simp) _⟩
      · rw [if_neg big] at EG
        have E := hideT EG
        rcases (show y = 0 ∨ y = 1 by omega) with rfl | rfl
        all_goals
          clear EG hb0 big hr
          go_enter Try.func36, Try.ntmps36
          go_wp2_with fail
          rw [HWA.out]
          refine C1.out.mono ?_
          rintro e w1 ⟨rfl, hw1⟩
          subst hw1
          go_wp2
        · refine bodyPost_ret (v := .tuple #[.agg #[.int .u8 t, .bool false], .int .i64 ((r : Int) + 1), .int .i64 0]) (resultG (KZ.out.set2 _ _) (by rfl) _ rfl rfl rfl) rfl ?_
          exact ⟨by rw [E.out]; rfl, (BA.out.setCell (by simp) _).setCell (by simp) _⟩
        · refine bodyPost_ret (v := .tuple #[.agg #[.int .u8 t, .bool true], .int .i64 ((r : Int) + 1), .int .i64 0]) (resultG (KZ.out.set2 _ _) (by rfl) _ rfl rfl rfl) rfl ?_
          exact ⟨by rw [E.out]; rfl, (BA.out.setCell (by simp) _).setCell (by simp) _⟩
end Go.Proofs.Yteacjhmbamcegaa
