/-
  The walk of the law 'LebSame'.
-/
import Derived.Test.YtbhihlahnllpgabLebWorks
namespace Go.Proofs.Ytbhihlahnllpgab
open Go.RowKit
set_option linter.unusedVariables false

set_option maxHeartbeats 400000 in
theorem same_no (a : Option Addr) (len cap : Nat) (p wd : Int) (w : World) (h : wd < 1 ∨ 63 < wd) :
    Calls Try.prog 3 #[.slice a len cap, .int .i64 p, .int .i64 wd] w fun e w' => e = .returned (.bool true) ∧ Below w.heap.size w w' := by
  by_cases h1 : wd < 1
  · clear h
    go_enter Try.func3, Try.ntmps3
    go_wp2_with (go_at_call 6; refine (works_calls _).mono ?_; rintro e w' ⟨rfl, hb⟩)
    go_ret
    exact ⟨rfl, hb⟩
  · have h2 : 63 < wd := by omega
    clear h
    go_enter Try.func3, Try.ntmps3
    go_wp2_with (go_at_call 6; refine (works_calls _).mono ?_; rintro e w' ⟨rfl, hb⟩)
    go_ret
    exact ⟨rfl, hb⟩

set_option maxHeartbeats 400000 in
theorem same_err (a : Option Addr) (len cap : Nat) (l : List Int) (p wd x : Int) (w : World) (H : Row w a len cap l) (h1 : 1 ≤ wd) (h2 : wd ≤ 63)
    (hx : x = 2 ∨ x = 4) (e1 : Leb.readU l p wd = (0, 0, x)) :
    Calls Try.prog 3 #[.slice a len cap, .int .i64 p, .int .i64 wd] w fun e w' => e = .returned (.bool true) ∧ Below w.heap.size w w' := by
  have c1 := U_calls a len cap l p wd w H
  rw [e1] at c1
  have C1 := hide c1
  have hx0 : (x != 0) = true := by rcases hx with rfl | rfl <;> rfl
  have t1 : decide (wd < 1) = false := by simp; omega
  have t2 : decide (63 < wd) = false := by simp; omega
  clear c1 H hx e1
  go_enter Try.func3, Try.ntmps3
  go_wp2_with fail
  refine C1.out.mono ?_
  rintro e w1 ⟨rfl, k1, rfl⟩
  unfold triU
  go_wp2_with (go_at_call 6; refine (works_calls _).mono ?_; rintro e w' ⟨rfl, hb⟩)
  go_ret
  exact ⟨rfl, (below_drewN (Below.refl _ _) _).trans hb⟩

theorem and64 (c : Int) (h0 : 0 ≤ c) (h1 : c < 128) : bits .and .u8 c 64 = if 64 ≤ c then 64 else 0 := by
  obtain ⟨n, rfl⟩ := Int.eq_ofNat_of_zero_le h0
  have hn : n < 128 := by omega
  have all : ∀ m : Fin 128, bits .and .u8 ((m.val : Nat) : Int) 64 = if 64 ≤ ((m.val : Nat) : Int) then 64 else 0 := by decide
  exact all ⟨n, hn⟩

set_option maxHeartbeats 400000 in
theorem same_bit (b off len cap : Nat) (l : List Int) (p wd v c : Int) (j : Nat) (w : World) (H : Row w (some ⟨b, off, none⟩) len cap l) (h1 : 1 ≤ wd) (h2 : wd ≤ 63)
    (e1 : Leb.readU l p wd = (v, (j : Int) + 1, 0)) (hj : j + 1 ≤ len) (hm : len ≤ 2 ^ 63 - 1) (hc : w.cell? ⟨b, off + j, none⟩ = some (.int .u8 c)) (hb64 : (bits .and .u8 c 64 != 0) = true) :
    Calls Try.prog 3 #[.slice (some ⟨b, off, none⟩) len cap, .int .i64 p, .int .i64 wd] w fun e w' => e = .returned (.bool true) ∧ Below w.heap.size w w' := by
  have c1 := U_calls _ len cap l p wd w H
  rw [e1] at c1
  have C1 := hide c1
  have t1 : decide (wd < 1) = false := by simp; omega
  have t2 : decide (63 < wd) = false := by simp; omega
  have t3 : decide ((j : Int) + 1 < 1) = false := by simp; omega
  have t4 : decide ((len : Int) < (j : Int) + 1) = false := by simp; omega
  clear c1 H e1
  go_enter Try.func3, Try.ntmps3
  go_wp2_with fail
  refine C1.out.mono ?_
  rintro e w1 ⟨rfl, k1, rfl⟩
  unfold triU
  go_wp2_with (go_at_call 6; refine (works_calls _).mono ?_; rintro e w' ⟨rfl, hb⟩)
  go_ret
  exact ⟨rfl, (below_drewN (Below.refl _ _) _).trans hb⟩

set_option maxHeartbeats 400000 in
theorem same_yes (b off len cap : Nat) (l : List Int) (p wd v c : Int) (j : Nat) (w : World) (H : Row w (some ⟨b, off, none⟩) len cap l) (h1 : 1 ≤ wd) (h2 : wd ≤ 63)
    (e1 : Leb.readU l p wd = (v, (j : Int) + 1, 0)) (e2 : Leb.readS l p (wd + 1) = (v, (j : Int) + 1, 0)) (hv : 0 ≤ v) (hv2 : v < 9223372036854775808) (hj : j + 1 ≤ len) (hm : len ≤ 2 ^ 63 - 1) (hc : w.cell? ⟨b, off + j, none⟩ = some (.int .u8 c)) (hb64 : (bits .and .u8 c 64 != 0) = false) :
    Calls Try.prog 3 #[.slice (some ⟨b, off, none⟩) len cap, .int .i64 p, .int .i64 wd] w fun e w' => e = .returned (.bool true) ∧ Below w.heap.size w w' := by
  have c1 := U_calls _ len cap l p wd w H
  rw [e1] at c1
  have C1 := hide c1
  have c2 := fun k => S_calls _ len cap l p (wd + 1) (w.drewN k) (H.drewN k)
  rw [e2] at c2
  have C2 := hide c2
  have t1 : decide (wd < 1) = false := by simp; omega
  have t2 : decide (63 < wd) = false := by simp; omega
  have t3 : decide ((j : Int) + 1 < 1) = false := by simp; omega
  have t4 : decide ((len : Int) < (j : Int) + 1) = false := by simp; omega
  have t5 : IntKind.u64.wrap v = v := by rw [IntKind.wrap_u64]; omega
  clear c1 c2 H e1 e2 hv2
  go_enter Try.func3, Try.ntmps3
  go_wp2_with fail
  refine C1.out.mono ?_
  rintro e w1 ⟨rfl, k1, rfl⟩
  unfold triU
  go_wp2_with fail
  refine (C2.out k1).mono ?_
  rintro e w1 ⟨rfl, k2, rfl⟩
  unfold triS
  go_wp2_with (go_at_call 6; refine (works_calls _).mono ?_; rintro e w' ⟨rfl, hb⟩)
  go_ret
  exact ⟨rfl, (below_drewN (Below.refl _ _) _).trans hb⟩

theorem same_calls (a : Option Addr) (len cap : Nat) (l : List Int) (p wd : Int) (w : World) (H : Row w a len cap l) :
    Calls Try.prog 3 #[.slice a len cap, .int .i64 p, .int .i64 wd] w fun e w' => e = .returned (.bool true) ∧ Below w.heap.size w w' := by
  by_cases h : wd < 1 ∨ 63 < wd
  · exact same_no a len cap p wd w h
  · rcases Leb.readU_cases l p wd with e | e | ⟨q, k, ok⟩
    · exact same_err a len cap l p wd 2 w H (by omega) (by omega) (.inl rfl) e
    · exact same_err a len cap l p wd 4 w H (by omega) (by omega) (.inr rfl) e
    · obtain ⟨hl, hcap, hcm, hb, ha, hc⟩ := id H
      unfold maxLen at hcm
      have hend := ok.ends
      have e1 := Leb.readU_of ok
      rw [show (q : Int) + k + 1 = ((q + k : Nat) : Int) + 1 by omega] at e1
      obtain ⟨b, off, rfl, hcell⟩ := hc (by omega)
      have hck := hcell (q + k) (by omega)
      have hbk := bytes_drop hb q k
      have hlt := (Leb.fin_some ok.2.2.2.2.1).2.2.1
      rw [← List.getElem?_drop] at hck
      have h64 := and64 _ hbk.1 hlt
      by_cases hs : (l.drop q)[k]?.getD 0 < 64
      · obtain ⟨okS, hsv⟩ := ok.signed (by omega) hs
        have e2 := Leb.readS_of okS
        rw [hsv, show (q : Int) + k + 1 = ((q + k : Nat) : Int) + 1 by omega] at e2
        have hv2 : Leb.val (l.drop q) (k + 1) < 9223372036854775808 := by
          have := pow_le_64 (k := wd.toNat) (by omega)
          have := ok.2.2.2.2.2
          omega
        exact same_yes b off len cap l p wd _ _ (q + k) w H (by omega) (by omega) e1 e2 (Leb.val_nonneg _ _) hv2 (by omega) (by omega) hck (by rw [h64, if_neg (by omega)]; rfl)
      · exact same_bit b off len cap l p wd _ _ (q + k) w H (by omega) (by omega) e1 (by omega) (by omega) hck (by rw [h64, if_pos (by omega)]; rfl)
end Go.Proofs.Ytbhihlahnllpgab
