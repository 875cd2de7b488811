/-
  The landed types.vals.
-/
import Derived.Test.YteacjhmbamcegabTcOne
import Derived.Test.YteacjhmbamcegabTypSame
import Derived.Test.YteacjhmbamcegabFreshParts
set_option linter.unusedVariables false
set_option linter.unusedSimpArgs false
namespace Go.Proofs.Yteacjhmbamcegab
open Go.RowKit Typ

def valCells (l : List Int) (f N k : Nat) : Array Value := ((((l.drop f).take k) ++ List.replicate (N - k) (0 : Int)).map (Value.int .u8)).toArray
theorem valCells_get {l : List Int} {f N k : Nat} (hs : f + N ≤ l.length) (hk : k < N) : (valCells l f N k)[k]? = some (.int .u8 0) := by
  unfold valCells
  simp only [List.getElem?_toArray, List.getElem?_map]
  have hlen : ((l.drop f).take k).length = k := by simp; omega
  rw [List.getElem?_append_right (by omega), hlen, Nat.sub_self, List.getElem?_replicate, if_pos (by omega)]
  rfl
theorem valCells_set {l : List Int} {f N k : Nat} (hs : f + N ≤ l.length) (hk : k < N) : (valCells l f N k).setIfInBounds k (.int .u8 (l[f + k]?.getD 0)) = valCells l f N (k + 1) := by
  unfold valCells
  have hlen : ((l.drop f).take k).length = k := by simp; omega
  obtain ⟨m, hm⟩ : ∃ m, N - k = m + 1 := ⟨N - k - 1, by omega⟩
  have hm2 : N - (k + 1) = m := by omega
  rw [take_more (by omega), hm, hm2, List.replicate_succ, List.setIfInBounds_toArray]
  congr 1
  rw [List.append_assoc]
  simp only [List.map_append, List.map_cons, List.map_nil, List.cons_append, List.nil_append]
  rw [List.set_append_right _ _ (by rw [List.length_map, hlen]; exact Nat.le_refl _), List.length_map, hlen, Nat.sub_self, List.set_cons_zero]
theorem valCells_zero (l : List Int) (f N : Nat) : valCells l f N 0 = ((List.replicate N (0 : Int)).map (Value.int .u8)).toArray := by
  simp [valCells]
theorem valCells_all {l : List Int} {f N : Nat} : valCells l f N N = (((l.drop f).take N).map (Value.int .u8)).toArray := by
  simp [valCells]

set_option maxHeartbeats 4000000 in
theorem vals_calls (a : Option Addr) (len cap : Nat) (l : List Int) (p : Int) (w : World) (H : Row w a len cap l) :
    Calls Try.prog 25 #[.slice a len cap, .int .i64 p] w fun e w' => TysPost l p w e w' := by
  have C1 : Hid (Calls Try.prog 29 #[.slice a len cap, .int .i64 p, .int .i64 32] w fun e w' => e = .returned (triU (Leb.readU l p 32)) ∧ Below w.heap.size w w') :=
    hideT ((U_calls a len cap l p 32 w H).mono fun e w' ⟨he, n, hw⟩ => ⟨he, by rw [hw]; exact below_drewNq (Below.refl _ _) _⟩)
  have HH := hideT H
  obtain ⟨hl, hcap, hcm, hb, ha, hc⟩ := H
  unfold maxLen at hcm
  rcases readU_parts l p with ⟨x, hx, h⟩ | ⟨N, f, h, h1, h2, h3⟩
  · have hr := hideT (listAt_err hx h)
    rw [h] at C1
    have hx0 : (x != 0) = true := by rcases hx with rfl | rfl <;> rfl
    have hx1 : ¬ (x = 0) := by omega
    clear hc hb h ha hx
    go_enter Try.func25, Try.ntmps25
    go_wp2_with fail
    refine C1.out.mono ?_
    rintro e w1 ⟨rfl, hb1⟩
    have B1 := hideT hb1
    clear hb1
    simp only [triU]
    go_wp2
    refine bodyPost_ret (v := .tuple #[.slice none 0 0, .int .i64 0, .int .i64 x]) (by simp [results, Try.results25, go_sem]) rfl ?_
    exact ⟨B1.out, .slice none 0 0, by rw [hr.out], by rw [hr.out]; exact World.ownsRow_nil _ _ _ _⟩
  · rw [h] at C1
    rw [hl] at h3
    have hu : IntKind.u64.wrap ((len : Int) - (f : Int)) = (len : Int) - (f : Int) := by rw [IntKind.wrap_u64]; omega
    have hw : wrap64 ((len : Int) - (f : Int)) = (len : Int) - (f : Int) := by unfold wrap64; omega
    have hfz : (f : Int) ≤ (len : Int) := by omega
    have hm : len ≤ 2 ^ 63 - 1 := by omega
    by_cases hs : len < f + N
    · have hr := hideT (listAt_short h (by omega) (by omega))
      have t1 : decide ((len : Int) - (f : Int) < (N : Int)) = true := by simp; omega
      clear hc hb h ha hcm
      go_enter Try.func25, Try.ntmps25
      go_wp2_with fail
      refine C1.out.mono ?_
      rintro e w1 ⟨rfl, hb1⟩
      have B1 := hideT hb1
      clear hb1
      simp only [triU]
      go_wp2
      refine bodyPost_ret (v := .tuple #[.slice none 0 0, .int .i64 0, .int .i64 4]) (by simp [results, Try.results25, go_sem]) rfl ?_
      exact ⟨B1.out, .slice none 0 0, by rw [hr.out], by rw [hr.out]; exact World.ownsRow_nil _ _ _ _⟩
    · have t1 : decide ((len : Int) - (f : Int) < (N : Int)) = false := by simp; omega
      have YES := hideT (fun ha => listAt_yes (l := l) (p := p) h (by omega) ha)
      have NO := hideT (fun k hk ha => listAt_no (l := l) (p := p) (k := k) h (by omega) hk ha)
      have HS : Hid (f + N ≤ len) := by show f + N ≤ len; omega
      have HN : Hid (N < 4294967296) := h1
      have HL : Hid (l.length = len) := hl
      have b2' : N * 1 ≤ 281474976710656 := by omega
      have b3 : Hid (N ≤ maxLen) := by show N ≤ maxLen; unfold maxLen; omega
      obtain ⟨i0, hi, hz0, hz1, hz2⟩ := info_parts infoT
      have b2 : Hid (i0.bytes * N ≤ 281474976710656) := by show i0.bytes * N ≤ 281474976710656; rw [hz2]; omega
      clear hc hb h ha hcm h1 h2 h3 hl hs b2'
      go_enter Try.func25, Try.ntmps25
      go_wp2_with fail
      refine C1.out.mono ?_
      rintro e w1 ⟨rfl, hb1⟩
      have B1 := hideT hb1
      have HH1 := hideT (HH.out.later hb1)
      clear hb1 C1 HH
      simp only [triU]
      go_wp2_with (at_make; go_must (refine wpList_make_full _ rfl _ _ 31 rfl w1.heap.size 22 i0 (.int .u8 0) 1 Try.underlying31 hi hz0 hz1 .u64 .u64 _ _ N rfl rfl rfl rfl b2.out b3.out (Nat.le_refl _) ?_))
      intro w2 hown2 hgrow2
      rw [made_ints] at hown2
      have hbel2 : Below w1.heap.size w1 w2 := (Below.refl _ _).grown hgrow2 (Nat.le_refl _) (fun k hk => by cases hk)
      have hblk := own_block hown2
      have K2 : Hid (SBlk w2 w1.heap.size 22 (valCells l f N 0)) := hideT (by rw [valCells_zero]; exact hblk)
      have B2 := hideT hbel2
      clear hown2 hgrow2 hbel2 hblk
      go_wp2_with fail
      go_loopw [30, 5, 4] (fun x nx sl wr => ∃ k : Nat, sl = .slice (some ⟨w1.heap.size, 0, none⟩) N N ∧ x = .int .i64 (k : Int) ∧ nx = .int .i64 ((f + k : Nat) : Int) ∧ k ≤ N ∧ SBlk wr w1.heap.size 22 (valCells l f N k) ∧ (∀ i, i < k → isT (l[f + i]?.getD 0) = true) ∧ Below w1.heap.size w1 wr) (fun x _ _ _ => N - (intOf x).toNat)
      case atStart => exact ⟨0, rfl, rfl, rfl, by omega, K2.out, fun i hi => by omega, B2.out⟩
      case round =>
        obtain ⟨k, rfl, rfl, rfl, hk, hblk, hall, hr⟩ := hrel
        have HALL := hideT hall
        have HR := hideT hr
        have KB := hideT hblk
        have BW := hideT (B1.out.trans (hr.mono B1.out.size))
        by_cases c0 : k < N
        · have c1 : (k : Int) < (N : Int) := by omega
          have HC := hideT c0
          have C2 := tVal_calls a len cap l ((f + k : Nat) : Int) wr (HH1.out.later hr)
          rw [valAt_in (by have := HL.out; have := HS.out; omega)] at C2
          have TY := hideT (show ∀ i, i < k + 1 → (i = k → isT (l[f + k]?.getD 0) = true) → isT (l[f + i]?.getD 0) = true from fun i hi hk' => by
            by_cases e : i = k
            · subst e; exact hk' rfl
            · exact hall i (by omega))
          have NK := hideT (NO.out k c0)
          have hcell : wr.cell? ⟨w1.heap.size, k, none⟩ = some (.int .u8 0) := KB.out.cell (valCells_get (by have := HL.out; have := HS.out; omega) c0)
          have hfr := KB.out.frozen k
          have K3 : Hid (SBlk (wr.setCell ⟨w1.heap.size, k, none⟩ (.int .u8 (l[f + k]?.getD 0))) w1.heap.size 22 (valCells l f N (k + 1))) := hideT (by
            have := KB.out.set k (.int .u8 (l[f + k]?.getD 0))
            rw [valCells_set (by have := HL.out; have := HS.out; omega) c0] at this
            exact this)
          have B3 : Hid (∀ u, Below w1.heap.size w1 (wr.setCell ⟨w1.heap.size, k, none⟩ u)) := hideT (fun u => HR.out.setCell (Nat.le_refl _) u)
          have m1 : f + k + 1 ≤ len := by have := HS.out; omega
          clear c0 hr hall hk hblk
          generalize l[f + k]?.getD 0 = x at *
          generalize hq : f + k = q at *
          cases ht : isT x with
          | true =>
            rw [ht, if_pos rfl] at C2
            have C2 := hideT C2
            have TY2 := hideT (fun i hi => TY.out i hi (fun _ => ht))
            have HQ := hideT hq
            clear ht TY NK hq
            unfold triV at C2
            go_wp2_with ((with_reducible refine C2.out.mono ?_); rintro e w2 ⟨rfl, hww⟩; replace hww := hww.symm; subst hww)
            go_roundw
            case rel => exact ⟨k + 1, rfl, by rw [wrap_small HC.out HN.out], by have := HQ.out; go_num, HC.out, K3.out, TY2.out, B3.out _⟩
            case measure =>
              have := HC.out
              rw [wrap_small HC.out HN.out]
              simp only [intOf]
              omega
          | false =>
            rw [ht, if_neg (by decide)] at C2
            have C2 := hideT C2
            have E := hideT (NK.out ht)
            clear ht TY NK hq
            unfold triV at C2
            go_wp2_with ((with_reducible refine C2.out.mono ?_); rintro e w2 ⟨rfl, hww⟩; replace hww := hww.symm; subst hww)
            refine bodyPost_ret (v := .tuple #[.slice none 0 0, .int .i64 0, .int .i64 4]) (by simp [results, Try.results25, go_sem]) rfl ?_
            exact ⟨BW.out.setCell B1.out.size _, .slice none 0 0, by rw [E.out], by rw [E.out]; exact World.ownsRow_nil _ _ _ _⟩
        · obtain rfl : k = N := by omega
          have E := hideT (YES.out HALL.out)
          clear hr hall c0 YES NO hblk
          go_wp2
          refine bodyPost_ret (v := .tuple #[.slice (some ⟨w1.heap.size, 0, none⟩) k k, .int .i64 ((f + k : Nat) : Int), .int .i64 0]) (by simp [results, Try.results25, go_sem]) rfl ?_
          refine ⟨BW.out, .slice (some ⟨w1.heap.size, 0, none⟩) k k, by rw [E.out]; simp, ?_⟩
          rw [E.out]
          have hx : ((l.drop f).take k).length = k := by have := HL.out; have := HS.out; simp; omega
          simp only [hx]
          have kb := KB.out
          unfold SBlk at kb
          rw [valCells_all] at kb
          exact block_own kb (by simp only [List.length_map]; exact hx) b3.out B1.out.size
end Go.Proofs.Yteacjhmbamcegab
