/-
  The walks of the laws 'LebBack' and 'LebBackSigned'.
-/
import Derived.Test.YtbhihlahnllpgaaLebPuts
import Derived.Laws.AppendOwnNone
namespace Go.Proofs.Ytbhihlahnllpgaa
open Go.RowKit
set_option linter.unusedVariables false

/-- Bytes appended to a row of the call's own, from whatever slice. -/
theorem append_row {w : World} {ops : Array Oper} {rest : List Oper} {o : Oper} {a : Act} {Q : Exit → Act → World → Prop} (hgd : o.guard = none) (s x : Operand)
    (ho : o.op = .call { callee := .builtin .append, args := #[s, x], argTypes := #[22, 22] })
    (base : Nat) (v : Value) (n : Nat) (xs : List Value) (hs : a.eval s = v) (hown : w.ownsRow base 5 1 v n xs)
    (ad : Option Addr) (m c : Nat) (l : List Int) (hx : a.eval x = .slice ad m c) (H : Row w ad m c l) (h63 : n + m ≤ 4194304) (hbase : base ≤ w.heap.size)
    (h : ∀ v' w', w'.ownsRow base 5 1 v' (n + m) (xs ++ l.map (Value.int .u8)) → w.grownBy w' v.ownBlock → wpList Try.prog ops Q rest (a.put o.dst v') w') :
    wpList Try.prog ops Q (o :: rest) a w := by
  obtain ⟨i0, hi, hz0, hz1, hz2⟩ := info_parts Try.infoByte
  obtain ⟨hl, hcap, hcm, hb, ha, hc⟩ := H
  cases ad with
  | none =>
    obtain rfl := ha rfl
    obtain rfl : m = 0 := by omega
    have hl0 : l = [] := List.eq_nil_of_length_eq_zero hl
    subst hl0
    refine wpList_append_own_none hgd s x 22 ho base 5 i0 1 Try.underlying22 hi v n xs hs hown hx ?_
    exact h v w (by simpa using hown) (World.grownBy.refl _ _)
  | some ad =>
    refine wpList_append_own w hgd s x 22 ho base 5 i0 (.int .u8 0) 1 1 Try.underlying22 hi hz0 hz1 hz2 rfl (by decide) v n xs hs hown ad m c (l.map (Value.int .u8)) hx (by simp [hl]) ?_ (ints_oneCell .u8 l) (by unfold maxLen; omega) (by omega) hbase (fun v' w' h1 h2 _ => h v' w' h1 h2)
    intro j u hj
    rw [List.getElem?_map] at hj
    by_cases hjm : j < m
    · obtain ⟨b, off, e, hcell⟩ := hc (by omega)
      simp only [Option.some.injEq] at e
      subst e
      have hg := hcell j hjm
      rw [List.getElem?_eq_getElem (by omega)] at hj hg
      simp only [Option.map_some, Option.some.injEq] at hj
      subst hj
      simp only [Option.getD_some] at hg
      by_cases h0 : j = 0
      · subst h0; simpa [Addr.add] using hg
      · simpa [Addr.add, h0] using hg
    · rw [List.getElem?_eq_none (by omega)] at hj
      simp at hj

theorem bytes_append {l r : List Int} (hl : Leb.Bytes l) (hr : Leb.Bytes r) : Leb.Bytes (l ++ r) := by
  intro i
  by_cases h : i < l.length
  · rw [List.getElem?_append_left h]; exact hl i
  · rw [List.getElem?_append_right (by omega)]; exact hr _

theorem own_row {w : World} {base : Nat} {v : Value} {n : Nat} {l : List Int} (hn : l.length = n) (h : w.ownsRow base 5 1 v n (l.map (Value.int .u8))) (hl : 1 ≤ n) (hb : Leb.Bytes l) :
    ∃ g cap, v = .slice (some ⟨g, 0, none⟩) n cap ∧ base ≤ g ∧ Row w (some ⟨g, 0, none⟩) n cap l := by
  subst hn
  exact own_slice h hl hb

theorem readU_put (l r : List Int) (N wd : Int) (h1 : 1 ≤ wd) (h2 : wd ≤ 64) (h0 : 0 ≤ N) (hN : N < 2 ^ wd.toNat) :
    Leb.readU (l ++ (Leb.putU N ++ r)) l.length wd = (N, (l.length : Int) + (Leb.putU N).length, 0) ∧ ((Leb.putU N).length : Int) ≤ (wd + 6) / 7 := by
  have h64 := Leb.pow_mono (a := wd.toNat) (b := 64) (by omega)
  have e64 : (2 : Int) ^ 64 = 18446744073709551616 := by decide
  have h10 : N < 128 ^ (9 + 1) := Int.lt_trans (show N < 18446744073709551616 by omega) (by decide)
  have hlen := putU_len N
  have hleast : (Leb.putU N).length ≤ ((wd + 6) / 7).toNat - 1 + 1 := by
    refine Leb.putUF_least 9 N _ ?_ h0
    rw [← Leb.pow7]
    exact Int.lt_of_lt_of_le hN (Leb.pow_mono (by omega))
  obtain ⟨hf, hv⟩ := Leb.putUF_fin 9 N h0 h10 r (m := ((wd + 6) / 7).toNat) (by show (Leb.putU N).length ≤ _; omega)
  change Leb.fin (Leb.putU N ++ r) _ = some ((Leb.putU N).length - 1) at hf
  change Leb.val (Leb.putU N ++ r) (Leb.putU N).length = N at hv
  have hd : (l ++ (Leb.putU N ++ r)).drop l.length = Leb.putU N ++ r := by simp
  have ok : Leb.OkU (l ++ (Leb.putU N ++ r)) l.length wd l.length ((Leb.putU N).length - 1) := by
    refine ⟨rfl, h1, h2, by simp, by rw [hd]; exact hf, ?_⟩
    rw [hd, show (Leb.putU N).length - 1 + 1 = (Leb.putU N).length by omega, hv]; exact hN
  rw [Leb.readU_of ok, hd, show (Leb.putU N).length - 1 + 1 = (Leb.putU N).length by omega, hv]
  refine ⟨?_, by omega⟩
  simp only [Prod.mk.injEq, true_and, and_true]
  omega

set_option maxHeartbeats 1000000 in
theorem back_yes (n0 wd : Int) (a1 a2 : Option Addr) (len1 cap1 len2 cap2 : Nat) (l1 l2 : List Int) (w : World) (h1 : 1 ≤ wd) (h2 : wd ≤ 64) (hn0 : 0 ≤ n0) (hn1 : n0 < 18446744073709551616)
    (H1 : Row w a1 len1 cap1 l1) (H2 : Row w a2 len2 cap2 l2) (nb : len1 + len2 ≤ 1048576) :
    Calls Try.prog 6 #[.int .u64 n0, .int .i64 wd, .slice a1 len1 cap1, .slice a2 len2 cap2] w fun e w' => e = .returned (.bool true) ∧ Below w.heap.size w w' := by
  have t1 : decide (wd < 1) = false := by simp; omega
  have t2 : decide (64 < wd) = false := by simp; omega
  have HH1 := hide H1
  have HH2 := hide H2
  clear H1 H2
  go_enter Try.func6, Try.ntmps6
  go_wp2_with (at_builtin; go_must (refine append_row rfl _ _ rfl w.heap.size _ 0 [] rfl (World.ownsRow_nil _ _ _ _) a1 len1 cap1 l1 rfl HH1.out (by omega) (Nat.le_refl _) ?_))
  intro v1 w1 hown1 hgrow1
  have hbel1 : Below w.heap.size w w1 := (Below.refl _ _).grown hgrow1 (Nat.le_refl _) (fun k hk => by simp [Value.ownBlock] at hk)
  have O1 : Hid (w1.ownsRow w.heap.size 5 1 v1 len1 (l1.map (Value.int .u8))) := by show w1.ownsRow _ _ _ _ _ _; simpa using hown1
  have B1 := hide hbel1
  clear hown1 hgrow1 hbel1
  have hN0 : 0 ≤ n0 / 2 ^ (64 - wd).toNat := Int.ediv_nonneg hn0 (Int.le_of_lt (Leb.pow2_pos _))
  have hN : n0 / 2 ^ (64 - wd).toNat < 2 ^ wd.toNat := by
    refine Int.ediv_lt_of_lt_mul (Leb.pow2_pos _) ?_
    rw [← Int.pow_add, show wd.toNat + (64 - wd).toNat = 64 by omega]
    exact Int.lt_of_lt_of_le hn1 (by decide)
  go_wp2_with fail
  generalize n0 / 2 ^ (64 - wd).toNat = N at *
  obtain ⟨hread, hshort⟩ := readU_put l1 l2 N wd h1 h2 hN0 hN
  have hN64 : N < 18446744073709551616 := by
    have h64 := Leb.pow_mono (a := wd.toNat) (b := 64) (by omega)
    have e64 : (2 : Int) ^ 64 = 18446744073709551616 := by decide
    omega
  have hbytes := Leb.putUF_bytes 9 N hN0 (Int.lt_trans hN64 (by decide))
  have hlen := putU_len N
  refine (PutU_calls N w1 hN0 hN64).mono ?_
  rintro e w2 ⟨g, c, rfl, hg, hrow, _, hbel2⟩
  have hown2 := own_below O1.out hbel2 (fun k hk => (O1.out.lt k hk).2)
  have hz1 := B1.out.size
  have hz2 := hbel2.size
  have B2 := hide (B1.out.trans (hbel2.mono hz1))
  have R2 := hide hrow
  have O2 := hide hown2
  have HRD := hide hread
  have HBY := hide hbytes
  have hz3 : w.heap.size ≤ w2.heap.size := Nat.le_trans hz1 hz2
  clear hrow hown2 hbel2 hread hbytes hN hN64 hn0 hn1 B1 O1 hz1 hz2 hg
  go_wp2_with (at_builtin; go_must (refine append_row rfl _ _ rfl w.heap.size _ _ _ rfl O2.out _ _ c (Leb.putU N) rfl R2.out (by omega) hz3 ?_))
  intro v2 w3 hown3 hgrow3
  have hown3' : w3.ownsRow w.heap.size 5 1 v2 (len1 + (Leb.putU N).length) ((l1 ++ Leb.putU N).map (Value.int .u8)) := by simpa using hown3
  have hbel3 : Below w.heap.size w w3 := B2.out.grown hgrow3 hz3 (fun k hk => (O2.out.lt k hk).1)
  have hz4 : w.heap.size ≤ w3.heap.size := hbel3.size
  have O3 := hide hown3'
  have B3 := hide hbel3
  have R3 := hide (HH2.out.later hbel3)
  clear hown3 hown3' hgrow3 hbel3 B2 O2 R2 hz3
  go_wp2_with (at_builtin; go_must (refine append_row rfl _ _ rfl w.heap.size _ _ _ rfl O3.out a2 len2 cap2 l2 rfl R3.out (by omega) hz4 ?_))
  intro v3 w4 hown4 hgrow4
  have hown4' : w4.ownsRow w.heap.size 5 1 v3 (len1 + (Leb.putU N).length + len2) ((l1 ++ (Leb.putU N ++ l2)).map (Value.int .u8)) := by simpa using hown4
  have hbel4 : Below w.heap.size w w4 := B3.out.grown hgrow4 hz4 (fun k hk => (O3.out.lt k hk).1)
  have hl1 := HH1.out.1
  have hl2 := HH2.out.1
  obtain ⟨g4, c4, rfl, hg4, hrow4⟩ := own_row (by simp [hl1, hl2]; omega) hown4' (by omega) (bytes_append HH1.out.2.2.2.1 (bytes_append HBY.out HH2.out.2.2.2.1))
  have R4 := hide hrow4
  have B4 := hide hbel4
  have hread2 := HRD.out
  rw [hl1] at hread2
  have HRD2 := hide hread2
  have t3 : decide (((Leb.putU N).length : Int) ≤ (wd + 6) / 7) = true := by simpa using hshort
  clear hown4 hown4' hgrow4 hbel4 hrow4 O3 B3 R3 HRD hread2 hl1 hl2 hg4 hz4 HBY
  have CU := hide (U_calls _ _ _ _ len1 wd w4 R4.out)
  clear R4
  go_wp2_with fail
  have cu := CU.out
  rw [HRD2.out] at cu
  refine cu.mono ?_
  rintro e w5 ⟨rfl, k5, rfl⟩
  unfold triU
  clear cu CU HRD2
  go_wp2_with (go_at_call 11; refine (works_calls _).mono ?_; rintro e w6 ⟨rfl, hb⟩)
  go_ret
  exact ⟨rfl, B4.out.trans ((below_drewN (Below.refl _ _) _).trans (hb.mono B4.out.size))⟩
set_option maxHeartbeats 400000 in
theorem back_no (n0 wd : Int) (a1 a2 : Option Addr) (len1 cap1 len2 cap2 : Nat) (w : World) (h : wd < 1 ∨ 64 < wd) :
    Calls Try.prog 6 #[.int .u64 n0, .int .i64 wd, .slice a1 len1 cap1, .slice a2 len2 cap2] w fun e w' => e = .returned (.bool true) ∧ Below w.heap.size w w' := by
  by_cases h1 : wd < 1
  · have t1 : decide (wd < 1) = true := by simp; omega
    clear h h1
    go_enter Try.func6, Try.ntmps6
    go_wp2_with (go_at_call 11; refine (works_calls _).mono ?_; rintro e w' ⟨rfl, hb⟩)
    go_ret
    exact ⟨rfl, hb⟩
  · have t1 : decide (wd < 1) = false := by simp; omega
    have t2 : decide (64 < wd) = true := by simp; omega
    clear h h1
    go_enter Try.func6, Try.ntmps6
    go_wp2_with (go_at_call 11; refine (works_calls _).mono ?_; rintro e w' ⟨rfl, hb⟩)
    go_ret
    exact ⟨rfl, hb⟩

theorem back_calls (n0 wd : Int) (a1 a2 : Option Addr) (len1 cap1 len2 cap2 : Nat) (l1 l2 : List Int) (w : World) (hn0 : 0 ≤ n0) (hn1 : n0 < 18446744073709551616)
    (H1 : Row w a1 len1 cap1 l1) (H2 : Row w a2 len2 cap2 l2) (nb : len1 + len2 ≤ 1048576) :
    Calls Try.prog 6 #[.int .u64 n0, .int .i64 wd, .slice a1 len1 cap1, .slice a2 len2 cap2] w fun e w' => e = .returned (.bool true) ∧ Below w.heap.size w w' := by
  by_cases h : wd < 1 ∨ 64 < wd
  · exact back_no n0 wd a1 a2 len1 cap1 len2 cap2 w h
  · exact back_yes n0 wd a1 a2 len1 cap1 len2 cap2 l1 l2 w (by omega) (by omega) hn0 hn1 H1 H2 nb

theorem readS_put (l r : List Int) (N wd : Int) (h1 : 1 ≤ wd) (h2 : wd ≤ 64) (h0 : -2 ^ (wd - 1).toNat ≤ N) (hN : N < 2 ^ (wd - 1).toNat) :
    Leb.readS (l ++ (Leb.putS N ++ r)) l.length wd = (N, (l.length : Int) + (Leb.putS N).length, 0) ∧ ((Leb.putS N).length : Int) ≤ (wd + 6) / 7 := by
  have h63 := pow_le_64 (k := (wd - 1).toNat) (by omega)
  have e69 : (64 : Int) * 128 ^ 9 = 590295810358705651712 := by decide
  have hlen := putS_len N
  have hpow : (2 : Int) ^ (wd - 1).toNat ≤ 64 * 128 ^ (((wd + 6) / 7).toNat - 1) := by
    rw [← Leb.pow7, show (64 : Int) = 2 ^ 6 by decide, ← Int.pow_add]
    exact Leb.pow_mono (by omega)
  have hleast : (Leb.putS N).length ≤ ((wd + 6) / 7).toNat - 1 + 1 := Leb.putSF_least 9 N _ (by omega) (by omega)
  obtain ⟨hf, hv⟩ := Leb.putSF_fin 9 N (by omega) (by omega) r (m := ((wd + 6) / 7).toNat) (by show (Leb.putS N).length ≤ _; omega)
  change Leb.fin (Leb.putS N ++ r) _ = some ((Leb.putS N).length - 1) at hf
  change Leb.sval (Leb.putS N ++ r) ((Leb.putS N).length - 1) = N at hv
  have hd : (l ++ (Leb.putS N ++ r)).drop l.length = Leb.putS N ++ r := by simp
  have ok : Leb.OkS (l ++ (Leb.putS N ++ r)) l.length wd l.length ((Leb.putS N).length - 1) := by
    refine ⟨rfl, h1, h2, by simp, by rw [hd]; exact hf, ?_⟩
    rw [hd, hv]; exact ⟨h0, hN⟩
  rw [Leb.readS_of ok, hd, hv]
  refine ⟨?_, by omega⟩
  simp only [Prod.mk.injEq, true_and, and_true]
  omega

set_option maxHeartbeats 1000000 in
theorem sback_yes (n0 wd : Int) (a1 a2 : Option Addr) (len1 cap1 len2 cap2 : Nat) (l1 l2 : List Int) (w : World) (h1 : 1 ≤ wd) (h2 : wd ≤ 64) (hn0 : -9223372036854775808 ≤ n0) (hn1 : n0 < 9223372036854775808)
    (H1 : Row w a1 len1 cap1 l1) (H2 : Row w a2 len2 cap2 l2) (nb : len1 + len2 ≤ 1048576) :
    Calls Try.prog 7 #[.int .i64 n0, .int .i64 wd, .slice a1 len1 cap1, .slice a2 len2 cap2] w fun e w' => e = .returned (.bool true) ∧ Below w.heap.size w w' := by
  have t1 : decide (wd < 1) = false := by simp; omega
  have t2 : decide (64 < wd) = false := by simp; omega
  have HH1 := hide H1
  have HH2 := hide H2
  clear H1 H2
  go_enter Try.func7, Try.ntmps7
  go_wp2_with (at_builtin; go_must (refine append_row rfl _ _ rfl w.heap.size _ 0 [] rfl (World.ownsRow_nil _ _ _ _) a1 len1 cap1 l1 rfl HH1.out (by omega) (Nat.le_refl _) ?_))
  intro v1 w1 hown1 hgrow1
  have hbel1 : Below w.heap.size w w1 := (Below.refl _ _).grown hgrow1 (Nat.le_refl _) (fun k hk => by simp [Value.ownBlock] at hk)
  have O1 : Hid (w1.ownsRow w.heap.size 5 1 v1 len1 (l1.map (Value.int .u8))) := by show w1.ownsRow _ _ _ _ _ _; simpa using hown1
  have B1 := hide hbel1
  clear hown1 hgrow1 hbel1
  have hN0 : -2 ^ (wd - 1).toNat ≤ n0 / 2 ^ (64 - wd).toNat := by
    refine (Int.le_ediv_iff_mul_le (Leb.pow2_pos _)).mpr ?_
    rw [Int.neg_mul, ← Int.pow_add, show (wd - 1).toNat + (64 - wd).toNat = 63 by omega]
    exact Int.le_trans (by decide) hn0
  have hN : n0 / 2 ^ (64 - wd).toNat < 2 ^ (wd - 1).toNat := by
    refine Int.ediv_lt_of_lt_mul (Leb.pow2_pos _) ?_
    rw [← Int.pow_add, show (wd - 1).toNat + (64 - wd).toNat = 63 by omega]
    exact Int.lt_of_lt_of_le hn1 (by decide)
  go_wp2_with fail
  generalize n0 / 2 ^ (64 - wd).toNat = N at *
  obtain ⟨hread, hshort⟩ := readS_put l1 l2 N wd h1 h2 hN0 hN
  have h63 := pow_le_64 (k := (wd - 1).toNat) (by omega)
  have hM0 : -9223372036854775808 ≤ N := by omega
  have hN64 : N < 9223372036854775808 := by omega
  have hbytes := Leb.putSF_bytes 9 N
  have hlen := putS_len N
  refine (PutS_calls N w1 hM0 hN64).mono ?_
  rintro e w2 ⟨g, c, rfl, hg, hrow, _, hbel2⟩
  have hown2 := own_below O1.out hbel2 (fun k hk => (O1.out.lt k hk).2)
  have hz1 := B1.out.size
  have hz2 := hbel2.size
  have B2 := hide (B1.out.trans (hbel2.mono hz1))
  have R2 := hide hrow
  have O2 := hide hown2
  have HRD := hide hread
  have HBY := hide hbytes
  have hz3 : w.heap.size ≤ w2.heap.size := Nat.le_trans hz1 hz2
  clear hrow hown2 hbel2 hread hbytes hN hN0 hM0 h63 hN64 hn0 hn1 B1 O1 hz1 hz2 hg
  go_wp2_with (at_builtin; go_must (refine append_row rfl _ _ rfl w.heap.size _ _ _ rfl O2.out _ _ c (Leb.putS N) rfl R2.out (by omega) hz3 ?_))
  intro v2 w3 hown3 hgrow3
  have hown3' : w3.ownsRow w.heap.size 5 1 v2 (len1 + (Leb.putS N).length) ((l1 ++ Leb.putS N).map (Value.int .u8)) := by simpa using hown3
  have hbel3 : Below w.heap.size w w3 := B2.out.grown hgrow3 hz3 (fun k hk => (O2.out.lt k hk).1)
  have hz4 : w.heap.size ≤ w3.heap.size := hbel3.size
  have O3 := hide hown3'
  have B3 := hide hbel3
  have R3 := hide (HH2.out.later hbel3)
  clear hown3 hown3' hgrow3 hbel3 B2 O2 R2 hz3
  go_wp2_with (at_builtin; go_must (refine append_row rfl _ _ rfl w.heap.size _ _ _ rfl O3.out a2 len2 cap2 l2 rfl R3.out (by omega) hz4 ?_))
  intro v3 w4 hown4 hgrow4
  have hown4' : w4.ownsRow w.heap.size 5 1 v3 (len1 + (Leb.putS N).length + len2) ((l1 ++ (Leb.putS N ++ l2)).map (Value.int .u8)) := by simpa using hown4
  have hbel4 : Below w.heap.size w w4 := B3.out.grown hgrow4 hz4 (fun k hk => (O3.out.lt k hk).1)
  have hl1 := HH1.out.1
  have hl2 := HH2.out.1
  obtain ⟨g4, c4, rfl, hg4, hrow4⟩ := own_row (by simp [hl1, hl2]; omega) hown4' (by omega) (bytes_append HH1.out.2.2.2.1 (bytes_append HBY.out HH2.out.2.2.2.1))
  have R4 := hide hrow4
  have B4 := hide hbel4
  have hread2 := HRD.out
  rw [hl1] at hread2
  have HRD2 := hide hread2
  have t3 : decide (((Leb.putS N).length : Int) ≤ (wd + 6) / 7) = true := by simpa using hshort
  clear hown4 hown4' hgrow4 hbel4 hrow4 O3 B3 R3 HRD hread2 hl1 hl2 hg4 hz4 HBY
  have CU := hide (S_calls _ _ _ _ len1 wd w4 R4.out)
  clear R4
  go_wp2_with fail
  have cu := CU.out
  rw [HRD2.out] at cu
  refine cu.mono ?_
  rintro e w5 ⟨rfl, k5, rfl⟩
  unfold triS
  clear cu CU HRD2
  go_wp2_with (go_at_call 11; refine (works_calls _).mono ?_; rintro e w6 ⟨rfl, hb⟩)
  go_ret
  exact ⟨rfl, B4.out.trans ((below_drewN (Below.refl _ _) _).trans (hb.mono B4.out.size))⟩
set_option maxHeartbeats 400000 in
theorem sback_no (n0 wd : Int) (a1 a2 : Option Addr) (len1 cap1 len2 cap2 : Nat) (w : World) (h : wd < 1 ∨ 64 < wd) :
    Calls Try.prog 7 #[.int .i64 n0, .int .i64 wd, .slice a1 len1 cap1, .slice a2 len2 cap2] w fun e w' => e = .returned (.bool true) ∧ Below w.heap.size w w' := by
  by_cases h1 : wd < 1
  · have t1 : decide (wd < 1) = true := by simp; omega
    clear h h1
    go_enter Try.func7, Try.ntmps7
    go_wp2_with (go_at_call 11; refine (works_calls _).mono ?_; rintro e w' ⟨rfl, hb⟩)
    go_ret
    exact ⟨rfl, hb⟩
  · have t1 : decide (wd < 1) = false := by simp; omega
    have t2 : decide (64 < wd) = true := by simp; omega
    clear h h1
    go_enter Try.func7, Try.ntmps7
    go_wp2_with (go_at_call 11; refine (works_calls _).mono ?_; rintro e w' ⟨rfl, hb⟩)
    go_ret
    exact ⟨rfl, hb⟩

theorem sback_calls (n0 wd : Int) (a1 a2 : Option Addr) (len1 cap1 len2 cap2 : Nat) (l1 l2 : List Int) (w : World) (hn0 : -9223372036854775808 ≤ n0) (hn1 : n0 < 9223372036854775808)
    (H1 : Row w a1 len1 cap1 l1) (H2 : Row w a2 len2 cap2 l2) (nb : len1 + len2 ≤ 1048576) :
    Calls Try.prog 7 #[.int .i64 n0, .int .i64 wd, .slice a1 len1 cap1, .slice a2 len2 cap2] w fun e w' => e = .returned (.bool true) ∧ Below w.heap.size w w' := by
  by_cases h : wd < 1 ∨ 64 < wd
  · exact sback_no n0 wd a1 a2 len1 cap1 len2 cap2 w h
  · exact sback_yes n0 wd a1 a2 len1 cap1 len2 cap2 l1 l2 w (by omega) (by omega) hn0 hn1 H1 H2 nb

end Go.Proofs.Ytbhihlahnllpgaa
