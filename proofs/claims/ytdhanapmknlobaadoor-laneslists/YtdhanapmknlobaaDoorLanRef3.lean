/-
  The document's Vec.
-/
import Derived.Test.YtdhanapmknlobaaDoorLanRef2
set_option linter.unusedVariables false
set_option linter.unusedSimpArgs false
namespace Go.Proofs.YtdhanapmknlobaaDoor
open Go.RowKit Lan

/-- The byte m of lanes of d bytes. -/
def byteOf (l : List Nat) (d m : Nat) : Nat := at0 l (m / d) / 2 ^ (8 * (m % d)) % 2 ^ 8

theorem vec_bytes {w : Nat} {l : List Nat} (hw : IsW w) (hl : Lanes w l) : vecN 8 (fillTo (byteOf l (w / 8)) 16) = vecN w l := by
  have h8 : Lanes 8 (fillTo (byteOf l (w / 8)) 16) := by
    intro i
    rw [fill_all]
    by_cases c : i < 16
    · simp only [at0, List.getElem?_map, List.getElem?_range c, Option.map_some, Option.getD_some]
      exact Nat.mod_lt _ (by decide)
    · have e : ((List.range 16).map (byteOf l (w / 8)))[i]? = none := List.getElem?_eq_none (by simp; omega)
      unfold at0; rw [e]; exact Nat.two_pow_pos 8
  refine vec_ext (vecTo_ok (.inl rfl) h8 _ (Nat.le_refl _)) (vecTo_ok hw hl _ (Nat.le_refl _)) fun k hk => ?_
  rw [bv_vec (.inl rfl) h8 k hk, bv_vec hw hl k hk, fill_all]
  have c : k / 8 < 16 := by omega
  simp only [at0, List.getElem?_map, List.getElem?_range c, Option.map_some, Option.getD_some]
  unfold byteOf
  rw [Nat.testBit_mod_two_pow, Nat.testBit_div_two_pow]
  have e1 : k / 8 / (w / 8) = k / w := by rcases hw with rfl | rfl | rfl | rfl <;> omega
  have e2 : k % 8 + 8 * (k / 8 % (w / 8)) = k % w := by rcases hw with rfl | rfl | rfl | rfl <;> omega
  rw [e1, e2]
  simp [show k % 8 < 8 by omega, at0]

def VecAt (W : World) (g0 g1 : Nat) (L : List Nat) (wr : World) : Prop := VBlk wr g0 (0, 0) ∧ Blk wr g1 L ∧ Below W.heap.size W wr

theorem tdiv8 (q : Nat) : Int.tdiv (q : Int) 8 = ((q / 8 : Nat) : Int) := (Int.ofNat_tdiv q 8).symm
theorem wrap64_nat {q : Nat} (h : q ≤ 1000) : wrap64 (q : Int) = (q : Int) := by unfold wrap64; omega

/-- What the inner round of Vec reckons, with nothing beside it. -/
theorem vec_round {w d c i j : Nat} (hw : IsW w) (hc : 128 / w = c) (hd : w / 8 = d) (hi : i < c) (hj : j < d) :
    ∃ q r m s : Nat, i * w = q ∧ q / 8 = r ∧ r + j = m ∧ 8 * j = s ∧ m = i * d + j ∧ m < 16 ∧ s < 64 ∧ m / d = i ∧ m % d = j ∧
      wrap64 ((i : Int) * (w : Int)) = (q : Int) ∧ Int.tdiv (q : Int) 8 = (r : Int) ∧ wrap64 (r : Int) = (r : Int) ∧ wrap64 ((r : Int) + (j : Int)) = (m : Int) ∧ wrap64 (8 * (j : Int)) = (s : Int) ∧ IntKind.u64.wrap (s : Int) = (s : Int) := by
  refine ⟨i * w, i * w / 8, i * w / 8 + j, 8 * j, rfl, rfl, rfl, rfl, ?_⟩
  have e : (i : Int) * (w : Int) = ((i * w : Nat) : Int) := by simp
  have h1 : i * w / 8 + j = i * d + j ∧ i * w ≤ 128 ∧ i * d + j < 16 ∧ 8 * j < 64 ∧ (i * d + j) / d = i ∧ (i * d + j) % d = j := by
    subst hd; subst hc
    rcases hw with rfl | rfl | rfl | rfl <;> simp only [Nat.reduceDiv] at * <;> omega
  obtain ⟨a1, a2, a3, a4, a5, a6⟩ := h1
  refine ⟨a1, by omega, a4, by rw [a1]; exact a5, by rw [a1]; exact a6, ?_, tdiv8 _, wrap64_nat (by omega), ?_, ?_, ?_⟩
  · rw [e]; exact wrap64_nat (by omega)
  · rw [← Int.natCast_add]; exact wrap64_nat (by omega)
  · have : (8 : Int) * (j : Int) = ((8 * j : Nat) : Int) := by simp
    rw [this]; exact wrap64_nat (by omega)
  · rw [IntKind.wrap_u64]; omega

set_option maxHeartbeats 2000000 in
theorem rvec_calls {w c : Nat} (hw : IsW w) (hc : 128 / w = c) (b off cap : Nat) (l : List Nat) (hl : Lanes w l) (W : World)
    (hcell : ∀ i, i < c → W.cell? ⟨b, off + i, none⟩ = some (.int .u64 (at0 l i : Int))) :
    Calls Tryd.prog 41 #[.int .i64 (w : Int), .slice (some ⟨b, off, none⟩) c cap] W fun e W' => e = .returned (vecV (vecN w l)) ∧ Below W.heap.size W W' := by
  obtain ⟨d, hd⟩ : ∃ d, w / 8 = d := ⟨_, rfl⟩
  have FIN := hide (vec_bytes hw hl)
  rw [hd] at FIN
  have h8 : Lanes 8 (fillTo (byteOf l d) 16) := by
    intro i
    rw [fill_all]
    by_cases c : i < 16
    · simp only [at0, List.getElem?_map, List.getElem?_range c, Option.map_some, Option.getD_some]
      exact Nat.mod_lt _ (by decide)
    · have e : ((List.range 16).map (byteOf l d))[i]? = none := List.getElem?_eq_none (by simp; omega)
      unfold at0; rw [e]; exact Nat.two_pow_pos 8
  have CO := hide (fun W' => rofBytes_calls (fillTo (byteOf l d) 16) (fill_length _ _) h8 W')
  rw [FIN.out] at CO
  have RD := hide (fun i j hi hj => vec_round (i := i) (j := j) hw hc hd hi hj)
  have hq := q128 hw
  rw [hc] at hq
  have hq8 : (w : Int).tdiv 8 = (d : Int) := by rw [← hd]; exact tdiv8 w
  have hw1 : (w : Int) ≠ 0 := by have := hw.pos; omega
  have hw0 : ((w : Int) == 0) = false := by have := hw.pos; simp; omega
  have hc16 : c ≤ 16 := by rw [← hc]; rcases hw with rfl | rfl | rfl | rfl <;> decide
  have hd8 : d ≤ 8 := by rw [← hd]; rcases hw with rfl | rfl | rfl | rfl <;> decide
  have hcd : Hide (c * d = 16) := hide (by rw [← hc, ← hd]; rcases hw with rfl | rfl | rfl | rfl <;> decide)
  have hwc : wrap64 (c : Int) = (c : Int) := wrap64_nat (by omega)
  have hwd : wrap64 (d : Int) = (d : Int) := wrap64_nat (by omega)
  have HC := hide hcell
  have IN := hide (info16' (fill_length (byteOf l d) 16))
  obtain ⟨⟨fp, fq⟩, hF⟩ : ∃ F, vecN w l = F := ⟨_, rfl⟩
  rw [hF] at CO ⊢
  have BY : Hide (∀ m, byteOf l d m = at0 l (m / d) / 2 ^ (8 * (m % d)) % 2 ^ 8) := hide (fun m => rfl)
  obtain ⟨f, hf⟩ : ∃ f, byteOf l d = f := ⟨_, rfl⟩
  rw [hf] at CO IN BY
  clear hl h8 hcell FIN hF hf hw hc hd
  unfold vecV arrV at CO
  simp only at CO
  have hq' := hide hq
  have hq8' := hide hq8
  go_enter Tryd.func41, Tryd.ntmps41
  go_wp2_with fail
  go_loopw [6] (fun x wr => ∃ k : Nat, x = .int .i64 (k : Int) ∧ k ≤ c ∧ VecAt W W.heap.size (W.heap.size + 1) (fillTo f (k * d)) wr) (fun x _ => c - (intOf x).toNat)
  case atStart =>
    refine ⟨0, rfl, by omega, alloc_past (alloc_at rfl), ?_, ((below_two _ _).alloc (by simp) _)⟩
    rw [Nat.zero_mul]
    exact alloc_at (by simp)
  case round =>
    obtain ⟨k, rfl, hk, hr⟩ := hrel
    by_cases c0 : k < c
    · have c1 : (k : Int) < (c : Int) := by omega
      have c2 : (k : Int) < 16 := by omega
      have H := hide hr
      clear hr
      go_wp2_with fail
      go_loopw [7] (fun x wr => ∃ j : Nat, x = .int .i64 (j : Int) ∧ j ≤ d ∧ VecAt W W.heap.size (W.heap.size + 1) (fillTo f (k * d + j)) wr) (fun x _ => d - (intOf x).toNat)
      case atStart => exact ⟨0, rfl, by omega, H.out⟩
      case round =>
        obtain ⟨j, rfl, hj, hr⟩ := hrel
        by_cases d0 : j < d
        · have d1 : (j : Int) < (d : Int) := Int.ofNat_lt.2 d0
          have d2 : (j : Int) < 8 := Int.ofNat_lt.2 (Nat.lt_of_lt_of_le d0 hd8)
          obtain ⟨q, r, m, s, z1, z2, z3, z4, hm, hm16, hs, hmd, hmm, E1, E2, E3, E4, E5, E6⟩ := RD.out k j c0 d0
          have hlk := cell_later hr.2.2 (HC.out k c0) (Nat.le_refl _)
          subst z4
          have hB := byte_wrap (at0 l k) (8 * j)
          have hfm : f m = at0 l k / 2 ^ (8 * j) % 2 ^ 8 := by rw [BY.out m, hmd, hmm]
          rw [← hfm] at hB
          rw [← hm] at hr
          have hcm : wr.cell? ⟨W.heap.size + 1, m, none⟩ = some (.int .u8 (at0 (fillTo f m) m : Int)) := hr.2.1.cell m (by rw [fill_length]; exact hm16)
          have hzm : wr.frozen? ⟨W.heap.size + 1, m, none⟩ = false := hr.2.1.frozen m
          have ST := hide (fill_set f m hm16)
          have K := hide hr
          have NX : Hide (k * d + (j + 1) = m + 1) := hide (by rw [hm]; rfl)
          have hm16' : (m : Int) < 16 := Int.ofNat_lt.2 hm16
          have HJ := hide (show j + 1 ≤ d from d0)
          clear hr H hfm hmd hmm z1 z2 z3 hm HC RD BY hq E5 E6 hs
          generalize at0 l k = n at *
          generalize f m = y at *
          clear hq8
          have hq8 := hq8'.out
          go_wp2
          go_roundw
          case rel =>
            obtain ⟨a1, a2, a3⟩ := K.out
            refine ⟨j + 1, by go_num, HJ.out, a1.other (by omega) _ _, ?_, a3.setCell (by simp) _⟩
            rw [NX.out, ← ST.out]; exact a2.set m y
          case measure => simp [intOf]; omega
        · obtain rfl : j = d := Nat.le_antisymm hj (Nat.le_of_not_lt d0)
          have K := hide hr
          have NX : Hide ((k + 1) * j = k * j + j) := hide (Nat.succ_mul k j)
          clear hr H RD BY HC hq
          go_wp2
          go_roundw
          case rel => exact ⟨k + 1, by go_num, by omega, by rw [NX.out]; exact K.out⟩
          case measure => simp [intOf]; omega
    · obtain rfl : k = c := by omega
      rw [hcd.out] at hr
      have H := hide hr
      clear hr RD BY HC
      go_wp2_with (refine wpList_load_row rfl 39 _ rfl (W.heap.size + 1) rfl 39 (cellsB (fillTo f 16)) (0, 0) _ H.out.2.1 under16 rfl IN.out ?_)
      refine (CO.out _).mono ?_
      rintro e w2 ⟨rfl, hb⟩
      have V2 := hide (H.out.1.later hb H.out.1.lt)
      have BN := hide (H.out.2.2.trans (hb.mono H.out.2.2.size))
      have g0 := V2.out.c0
      have g1 := V2.out.c1
      have z0 := V2.out.frozen 0
      have z1 := V2.out.frozen 1
      clear hb H
      go_wp2
      refine bodyPost_ret (v := vecV (fp, fq)) ((V2.out.set2 fp fq).result (by rfl) _ rfl) rfl ?_
      exact ⟨rfl, (BN.out.setCell (by simp) _).setCell (by simp) _⟩
end Go.Proofs.YtdhanapmknlobaaDoor
