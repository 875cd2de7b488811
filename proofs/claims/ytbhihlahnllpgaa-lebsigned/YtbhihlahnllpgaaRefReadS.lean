/-
  The walk of the document's 'S'.
-/
import Derived.Test.YtbhihlahnllpgaaRefReads
namespace Go.Proofs.Ytbhihlahnllpgaa
open Go.RowKit
set_option linter.unusedVariables false

theorem refS_bad (a : Option Addr) (len cap : Nat) (p wd : Int) (w : World) (h : wd < 1 ∨ 64 < wd ∨ p < 0 ∨ (len : Int) < p) :
    Calls Try.prog 13 #[.slice a len cap, .int .i64 p, .int .i64 wd] w fun e w' => e = .returned (triS (0, 0, 2)) ∧ Below w.heap.size w w' := by
  have C := hide (may_no a len cap p wd w h)
  clear h
  go_enter Try.func13, Try.ntmps13
  go_wp2_with fail
  refine C.out.mono ?_
  rintro e w' ⟨rfl, rfl⟩
  go_wp2
  go_ret3
  exact ⟨rfl, Below.refl _ _⟩

theorem halfOf (wd : Int) (h1 : 1 ≤ wd) (h2 : wd ≤ 64) : (18446744073709551615 : Int) / 2 ^ (64 - wd).toNat / 2 = 2 ^ (wd - 1).toNat - 1 := by
  obtain ⟨n, rfl⟩ := Int.eq_ofNat_of_zero_le (show 0 ≤ wd by omega)
  have all : ∀ m : Fin 65, 1 ≤ m.val → (18446744073709551615 : Int) / 2 ^ (64 - ((m.val : Nat) : Int)).toNat / 2 = 2 ^ (((m.val : Nat) : Int) - 1).toNat - 1 := by decide +kernel
  exact all ⟨n, by omega⟩ (by show 1 ≤ n; omega)

theorem set_map64 (l : List Int) (i : Nat) (x : Int) : (l.map (Value.int .u64)).set i (.int .u64 x) = (l.set i x).map (Value.int .u64) := by
  rw [List.map_set]

set_option maxHeartbeats 1000000 in
theorem refS_walk (a : Option Addr) (len cap p : Nat) (l : List Int) (wd : Int) (w : World) (H : Row w a len cap l) (h1 : 1 ≤ wd) (h2 : wd ≤ 64) (h4 : p ≤ len) :
    Calls Try.prog 13 #[.slice a len cap, .int .i64 p, .int .i64 wd] w fun e w' => e = .returned (triS (Leb.readS l p wd)) ∧ Below w.heap.size w w' := by
  have C1 := hide (may_yes a len cap p wd w h1 h2 h4)
  have C2 := hide (refgroups_calls a len cap l p ((wd + 6) / 7) w H h4 (by omega) (by omega))
  obtain ⟨hl, _, hcm, hb, _, _⟩ := H
  unfold maxLen at hcm
  go_enter Try.func13, Try.ntmps13
  go_wp2_with fail
  refine C1.out.mono ?_
  rintro e w' ⟨rfl, rfl⟩
  go_wp2_with fail
  refine C2.out.mono ?_
  rintro e w1 ⟨hbel, ⟨hfin, rfl⟩ | ⟨k, v, hfin, rfl, hown⟩⟩
  · have HF := hide hfin
    have HB := hide hbel
    clear hfin hbel
    go_wp2
    go_ret3
    exact ⟨by rw [Leb.readS_none h1 h2 (by omega) HF.out]; rfl, HB.out⟩
  · obtain ⟨hk1, hk2, hk3, _⟩ := Leb.fin_some hfin
    have hll := Leb.low_length (l.drop p) (k + 1) (by omega)
    obtain ⟨g, c, rfl, hg, hgc, hcells⟩ := own_slice64 hll hown (by omega)
    have ht0 := (bytes_drop hb p k).1
    have hlast := hcells k (by omega)
    rw [Leb.low_get _ _ k (by omega) (by omega), Int.emod_eq_of_lt ht0 hk3, Nat.zero_add] at hlast
    have hdv := Leb.dval_low (l.drop p) (k + 1) (by omega)
    have hM := halfOf wd h1 h2
    have hpow := Leb.pow2_pos (wd - 1).toNat
    have hpow63 := pow_le_64 (k := (wd - 1).toNat) (by omega)
    have hRd := Leb.readS_some h1 h2 (by omega) hfin
    have hv0 := Leb.val_nonneg (l.drop p) (k + 1)
    have hv1 := Leb.val_lt (l.drop p) (k + 1)
    have hpl : p + (k + 1) ≤ len := by rw [List.length_drop] at hk2; omega
    have hk10 : k + 1 ≤ 10 := by omega
    have hM2 : IntKind.u64.wrap ((18446744073709551615 / 2 ^ (64 - wd).toNat : Int).tdiv 2) = 2 ^ (wd - 1).toNat - 1 := by
      rw [Int.tdiv_eq_ediv_of_nonneg (by rw [maxOf wd h1 h2]; have := Leb.pow2_pos wd.toNat; omega), hM, IntKind.wrap_u64]; omega
    have HM2 := hide hM2
    have HB := hide hbel
    have HRd := hide hRd
    clear hbel hRd hfin hk1 hk2 hM2 hM
    generalize ht : (l.drop p)[k]?.getD 0 = t at *
    have HT := hide ht
    clear ht
    have HCE := hide hcells
    clear hcells
    by_cases hs : t < 64
    · have hsv : Leb.sval (l.drop p) k = Leb.val (l.drop p) (k + 1) := by unfold Leb.sval; rw [HT.out, if_neg (by omega)]; omega
      have hN := number_walk g 0 (k + 1) c _ (2 ^ (wd - 1).toNat - 1) w1 hll (by omega) (Leb.low_digits _ _) (by omega) (by omega) HCE.out
      have hdec : decide (64 ≤ t) = false := by simp; omega
      by_cases hfit : Leb.val (l.drop p) (k + 1) < 2 ^ (wd - 1).toNat
      · have hnb : numb (Leb.low (l.drop p) (k + 1)) (2 ^ (wd - 1).toNat - 1) = .tuple #[.int .u64 (Leb.val (l.drop p) (k + 1)), .bool true] := by
          unfold numb; rw [hdv, if_pos (by omega)]
        rw [hnb] at hN
        have HN := hide hN
        have hr : Leb.readS l p wd = (Leb.val (l.drop p) (k + 1), (p : Int) + (k + 1), 0) := by rw [HRd.out, hsv, if_pos ⟨by omega, hfit⟩, Int.add_assoc]
        have HR := hide hr
        have hw64 : wrap64 (Leb.val (l.drop p) (k + 1)) = Leb.val (l.drop p) (k + 1) := by unfold wrap64; omega
        have HW64 := hide hw64
        clear hw64
        clear hN hr hnb hpow hpow63 hfit hdv HCE hll hown hv1 hsv HRd
        generalize Leb.val (l.drop p) (k + 1) = N at *
        go_wp2_with fail
        rw [HM2.out]
        refine HN.out.mono ?_
        rintro e w2 ⟨rfl, rfl⟩
        go_wp2
        go_ret3
        refine ⟨?_, HB.out⟩
        rw [HR.out]
        show Ending.returned (.tuple #[.int .i64 (wrap64 N), .int .i64 ((p : Int) + (k + 1)), .int .i64 0]) = _
        rw [HW64.out]
        rfl
      · have hnb : numb (Leb.low (l.drop p) (k + 1)) (2 ^ (wd - 1).toNat - 1) = .tuple #[.int .u64 0, .bool false] := by
          unfold numb; rw [hdv, if_neg (by omega)]
        rw [hnb] at hN
        have HN := hide hN
        have hr : Leb.readS l p wd = (0, 0, 4) := by rw [HRd.out, hsv, if_neg (fun h => hfit h.2)]
        have HR := hide hr
        clear hN hr hnb hpow hpow63 hfit hdv HCE hll hown hv1 hsv HRd
        go_wp2_with fail
        rw [HM2.out]
        refine HN.out.mono ?_
        rintro e w2 ⟨rfl, rfl⟩
        go_wp2
        go_ret3
        exact ⟨by rw [HR.out]; rfl, HB.out⟩
    · have hdec : decide (64 ≤ t) = true := by simp; omega
      have hsv : Leb.sval (l.drop p) k = Leb.val (l.drop p) (k + 1) - 128 ^ (k + 1) := by unfold Leb.sval; rw [HT.out, if_pos (by omega)]
      have HOWN := hide hown
      generalize hds : Leb.low (l.drop p) (k + 1) = ds at *
      have hdd : Leb.Digits ds := by rw [← hds]; exact Leb.low_digits _ _
      have HDS := hide hds
      have HDD := hide hdd
      clear hds hdd hown HCE
      go_wp2
      go_loopw [12] (fun x wr => ∃ i : Nat, x = .int .i64 i ∧ i ≤ k + 1 ∧ wr.ownsRow w'.heap.size 23 1 (.slice (some ⟨g, 0, none⟩) (k + 1) c) (k + 1) ((Leb.flip i ds).map (Value.int .u64)) ∧ Below w'.heap.size w' wr) (fun x _ => (k + 1 - intOf x).toNat)
      case atStart => exact ⟨0, rfl, by omega, by rw [Leb.flip_zero]; exact HOWN.out, HB.out⟩
      case round =>
        obtain ⟨i, rfl, hi, hown, hbel⟩ := hrel
        by_cases hlt : i < k + 1
        · have hfl := Leb.flip_length i ds
          have hcell := hown.cellAt i (by omega)
          rw [List.getElem?_map, List.getElem?_eq_getElem (by omega)] at hcell
          have hget := Leb.flip_get i ds (by omega)
          rw [List.getElem?_eq_getElem (by omega)] at hget
          simp only [Option.getD_some] at hget
          rw [hget] at hcell
          simp only [Option.map_some] at hcell
          have hfz := hown.frozenAt i
          have hdi := HDD.out i
          have hnew := (hown.stored i (.int .u64 (127 - ds[i]?.getD 0))).1
          rw [set_map64, Leb.flip_step i ds (by omega)] at hnew
          have hbel2 : Below w'.heap.size w' (wr.setCell ⟨g, i, none⟩ (.int .u64 (127 - ds[i]?.getD 0))) := hbel.setCell (p := ⟨g, i, none⟩) hg _
          have HNEW := hide hnew
          have HB2 := hide hbel2
          clear hnew hbel2 hown hbel hget hfl hll
          generalize ds[i]?.getD 0 = d at *
          go_wp2
          go_roundw
          case rel => exact ⟨i + 1, by go_num, by omega, HNEW.out, HB2.out⟩
          case measure => simp [intOf]; omega
        · obtain rfl : i = k + 1 := by omega
          have hfa : Leb.flip (k + 1) ds = ds.map (127 - ·) := by rw [← hll]; exact Leb.flip_all ds
          rw [hfa] at hown
          have hll2 : (ds.map (127 - ·)).length = k + 1 := by rw [List.length_map, hll]
          obtain ⟨g', c', hgg, _, _, hcells2⟩ := own_slice64 hll2 hown (by omega)
          simp only [Value.slice.injEq, Option.some.injEq, Addr.mk.injEq, and_true, true_and] at hgg
          obtain ⟨rfl, rfl⟩ := hgg
          have hdf := Leb.dval_flip ds
          rw [hll, hdv] at hdf
          have hN := number_walk g 0 (k + 1) c (ds.map (127 - ·)) (2 ^ (wd - 1).toNat - 1) wr hll2 (by omega) (Leb.flip_digits ds HDD.out) (by omega) (by omega) hcells2
          have HB2 := hide hbel
          by_cases hfit : 128 ^ (k + 1) - 1 - Leb.val (l.drop p) (k + 1) ≤ 2 ^ (wd - 1).toNat - 1
          · have hnb : numb (ds.map (127 - ·)) (2 ^ (wd - 1).toNat - 1) = .tuple #[.int .u64 (128 ^ (k + 1) - 1 - Leb.val (l.drop p) (k + 1)), .bool true] := by
              unfold numb; rw [hdf, if_pos hfit]
            rw [hnb] at hN
            have HN := hide hN
            have hr : Leb.readS l p wd = (Leb.val (l.drop p) (k + 1) - 128 ^ (k + 1), (p : Int) + (k + 1), 0) := by rw [HRd.out, hsv, if_pos ⟨by omega, by omega⟩, Int.add_assoc]
            have HR := hide hr
            generalize hnn : 128 ^ (k + 1) - 1 - Leb.val (l.drop p) (k + 1) = N at *
            have hval : Leb.val (l.drop p) (k + 1) - 128 ^ (k + 1) = -N - 1 := by omega
            rw [hval] at HR
            have hw64 : wrap64 (wrap64 (-wrap64 N) - 1) = -N - 1 := by unfold wrap64; omega
            have HW64 := hide hw64
            clear hN hr hnb hpow hpow63 hfit hdv hown hll hll2 hv1 hsv HRd hbel hdf hcells2 hfa hw64 hval hnn hv0
            go_wp2_with fail
            rw [HM2.out]
            refine HN.out.mono ?_
            rintro e w2 ⟨rfl, rfl⟩
            go_wp2
            go_ret3
            refine ⟨?_, HB2.out⟩
            rw [HR.out]
            show Ending.returned (.tuple #[.int .i64 (wrap64 (wrap64 (-wrap64 N) - 1)), .int .i64 ((p : Int) + (k + 1)), .int .i64 0]) = _
            rw [HW64.out]
            rfl
          · have hnb : numb (ds.map (127 - ·)) (2 ^ (wd - 1).toNat - 1) = .tuple #[.int .u64 0, .bool false] := by
              unfold numb; rw [hdf, if_neg hfit]
            rw [hnb] at hN
            have HN := hide hN
            have hr : Leb.readS l p wd = (0, 0, 4) := by rw [HRd.out, hsv, if_neg (fun h => by omega)]
            have HR := hide hr
            clear hN hr hnb hpow hpow63 hfit hdv hown hll hll2 hv1 hsv HRd hbel hdf hcells2 hfa hv0
            go_wp2_with fail
            rw [HM2.out]
            refine HN.out.mono ?_
            rintro e w2 ⟨rfl, rfl⟩
            go_wp2
            go_ret3
            exact ⟨by rw [HR.out]; rfl, HB2.out⟩

/-- The document's 'S' answers 'readS'. -/
theorem refS_calls (a : Option Addr) (len cap : Nat) (l : List Int) (p wd : Int) (w : World) (H : Row w a len cap l) :
    Calls Try.prog 13 #[.slice a len cap, .int .i64 p, .int .i64 wd] w fun e w' => e = .returned (triS (Leb.readS l p wd)) ∧ Below w.heap.size w w' := by
  by_cases hbad : wd < 1 ∨ 64 < wd ∨ p < 0 ∨ (len : Int) < p
  · rw [(Leb.read_bad (l := l) (p := p) (wd := wd) (by rw [H.1]; exact hbad)).2]
    exact refS_bad a len cap p wd w hbad
  · obtain ⟨q, rfl⟩ := Int.eq_ofNat_of_zero_le (show 0 ≤ p by omega)
    exact refS_walk a len cap q l wd w H (by omega) (by omega) (by omega)
end Go.Proofs.Ytbhihlahnllpgaa
