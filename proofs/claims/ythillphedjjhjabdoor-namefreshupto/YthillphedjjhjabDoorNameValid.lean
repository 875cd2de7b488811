/-
  'utf8.Valid' over a slice of bytes.
-/
import Derived.Test.YthillphedjjhjabDoorNameWord
import Derived.Test.YthillphedjjhjabDoorNameLead
import Derived.Test.YthillphedjjhjabDoorNameTabs
import Derived.Test.YthillphedjjhjabDoorLebWorks
import Derived.Deep.LoopGhost
import Derived.Deep.DeepMust
import Derived.Deep.CutBlock
import Derived.Deep.DeepCutAuto
import Derived.Deep.DeepBigQuietO
import Derived.Below
set_option linter.unusedVariables false
namespace Go.Proofs.YthillphedjjhjabDoor
open Go.RowKit

/-- What the loop keeps: the slice at hand, the bytes that it holds, that they are a text as the whole is. -/
def VS (w : World) (b : Nat) (ANS : Bool) (n gk : Nat) (s0 : Value) (wx : World) : Prop :=
  Below w.heap.size w wx ∧ ∃ (o m : Nat) (L : List Int) (a : Option Addr), s0 = .slice a m m ∧ (0 < m → a = some ⟨b, o, none⟩) ∧ L.length = m ∧ Leb.Bytes L ∧
    (∀ i, i < m → w.cell? ⟨b, o + i, none⟩ = some (.int .u8 (L[i]?.getD 0))) ∧ Utf.isText L = ANS ∧ m < gk ∧ m ≤ n

theorem below_drewNq {B : Nat} {a w : World} (h : Below B a w) (q : Nat) : Below B a (w.drewN q) := h.trans ⟨rfl, rfl, rfl, Nat.le_refl _, fun _ _ => rfl⟩

/-- The state behind 'j' bytes. -/
theorem vs_drop {w wx : World} {b : Nat} {ANS : Bool} {n gk o m j : Nat} {L : List Int} (hbw : Below w.heap.size w wx) (hL : L.length = j + m) (hb : Leb.Bytes L)
    (hc : ∀ i, i < j + m → w.cell? ⟨b, o + i, none⟩ = some (.int .u8 (L[i]?.getD 0))) (ht : Utf.isText (L.drop j) = ANS) (h1 : m < gk) (h2 : m ≤ n) (a : Option Addr) (ha : 0 < m → a = some ⟨b, o + j, none⟩) :
    VS w b ANS n gk (.slice a m m) wx :=
  ⟨hbw, o + j, m, L.drop j, a, rfl, ha, by simp; omega, Utf.bytes_dropU hb j, fun i hi => by rw [List.getElem?_drop, Nat.add_assoc]; exact hc (j + i) (by omega), ht, h1, h2⟩

theorem cells_drop {w : World} {b o k m : Nat} {L : List Int} (h : ∀ i, i < k + m → w.cell? ⟨b, o + i, none⟩ = some (.int .u8 (L[i]?.getD 0))) :
    ∀ i, i < m → w.cell? ⟨b, o + k + i, none⟩ = some (.int .u8 ((L.drop k)[i]?.getD 0)) := by
  intro i hi
  rw [List.getElem?_drop, Nat.add_assoc]
  exact h (k + i) (by omega)

/-- The word at hand: a number whose high bits are 0 if the eight bytes are below 128, and only then. -/
theorem word_at (b o m : Nat) (L : List Int) (W : World) (h8 : 8 ≤ m) (hL : L.length = m) (hb : Leb.Bytes L) (hc : ∀ i, i < m → W.cell? ⟨b, o + i, none⟩ = some (.int .u8 (L[i]?.getD 0))) :
    ∃ A : Nat, A < 18446744073709551616 ∧ (A &&& 9259542123273814144 = 0 ↔ Asc L 8) ∧
      ∀ q, Calls Tryd.prog 23 #[.slice (some ⟨b, o, none⟩) m m] (W.drewN q) fun e w' => e = .returned (.int .u64 A) ∧ ∃ q', w' = (W.drewN q).drewN q' :=
  ⟨word8 L, word8_lt L (by omega), word8_asc L (by omega) hb, fun q => word_calls b o m m L (W.drewN q) h8 (by omega) hb (fun i hi => hc i (by omega))⟩

theorem asc_add {L : List Int} {j k : Nat} (ha : Asc L j) (hb : Asc (L.drop j) k) : Asc L (j + k) := by
  obtain ⟨a1, a2⟩ := ha
  obtain ⟨b1, b2⟩ := hb
  simp at b1
  refine ⟨by omega, fun i hi => ?_⟩
  by_cases h : i < j
  · exact a2 i h
  · have := b2 (i - j) (by omega)
    rw [List.getElem?_drop, show j + (i - j) = i by omega] at this
    exact this

set_option maxRecDepth 100000 in
theorem and7 : ∀ X : Fin 256, bits .and .u8 ((X.val : Nat) : Int) 7 = ((X.val % 8 : Nat) : Int) := by decide

set_option maxHeartbeats 16000000 in
set_option maxRecDepth 1000000 in
theorem valid_walk (b off n c : Nat) (l : List Int) (w : World) (hl : l.length = n) (hb : Leb.Bytes l) (hm : n ≤ 2 ^ 63 - 1) (hcap : n ≤ c)
    (hc : ∀ i, i < n → w.cell? ⟨b, off + i, none⟩ = some (.int .u8 (l[i]?.getD 0))) (hT : Tabs w) :
    Calls Tryd.prog 20 #[.slice (some ⟨b, off, none⟩) n c] w fun e w' => e = .returned (.bool (Utf.isText l)) ∧ Below w.heap.size w w' := by
  obtain ⟨ANS, hANS⟩ : ∃ ANS, Utf.isText l = ANS := ⟨_, rfl⟩
  rw [hANS]
  have hnc : (n : Int) ≤ (c : Int) := by omega
  go_enter Tryd.func20, Tryd.ntmps20
  go_wp2
  go_loopg [0] (n + 1) (fun gk s0 wx => VS w b ANS n gk s0 wx)
  case atStart => exact ⟨Below.refl _ _, off, n, l, _, rfl, fun _ => rfl, hl, hb, hc, hANS, by omega, by omega⟩
  case round =>
    obtain ⟨hbw, o, m, L, a, rfl, ha, hL, hbL, hcL, hv, hg, hmn⟩ := hrel
    clear hANS hc hb hl hnc
    have hTr := hT.later hbw
    have hcr : ∀ i, i < m → wr.cell? ⟨b, o + i, none⟩ = some (.int .u8 (L[i]?.getD 0)) := fun i hi => cell_later hbw (hcL i hi)
    by_cases h0 : 0 < m
    · obtain ⟨g', rfl⟩ : ∃ g', gk = g' + 1 := ⟨gk - 1, by omega⟩
      obtain rfl := ha h0
      obtain ⟨t, rfl⟩ : ∃ t, m = t + 1 := ⟨m - 1, by omega⟩
      have x0b := hbL 0
      have hx0 := hcr 0 h0
      obtain ⟨x0, hx0e⟩ : ∃ x0, L[0]?.getD 0 = x0 := ⟨_, rfl⟩
      rw [Nat.add_zero, hx0e] at hx0
      rw [hx0e] at x0b
      by_cases hasc : x0 < 128
      · have v1 : Utf.isText (L.drop 1) = ANS := by rw [Utf.text_ascii hbL (by omega) (by rw [hx0e]; exact hasc)]; exact hv
        by_cases c8 : 8 < t
        · obtain ⟨u, rfl⟩ : ∃ u, t = u + 9 := ⟨t - 9, by omega⟩
          have c8z : (8 : Int) < (u : Int) + 9 := by omega
          obtain ⟨A1, hA1⟩ : ∃ A1, word8 (L.drop 1) = A1 := ⟨_, rfl⟩
          have cW1 := word_calls b (o + 1) (u + 9) (u + 9) (L.drop 1) wr (by omega) (by simp; omega) (Utf.bytes_dropU hbL 1) (fun i hi => by rw [List.getElem?_drop, Nat.add_assoc]; exact hcr (1 + i) (by omega))
          have lA1 := word8_lt (L.drop 1) (by simp; omega)
          have kA1 := word8_asc (L.drop 1) (by simp; omega) (Utf.bytes_dropU hbL 1)
          rw [hA1] at cW1 lA1 kA1
          have hand1 : bits .and .u64 (A1 : Int) 9259542123273814144 = ((A1 &&& 9259542123273814144 : Nat) : Int) := u64_and_nat A1 9259542123273814144 lA1 (by omega)
          obtain ⟨Z1, hZ1⟩ : ∃ Z1, A1 &&& 9259542123273814144 = Z1 := ⟨_, rfl⟩
          rw [hZ1] at hand1 kA1
          have CW1 := hide cW1
          clear hTr cW1
          by_cases hz1 : Z1 = 0
          · as_aux_lemma =>
              have hz1b : ((Z1 : Int) == 0) = true := by simp [hz1]
              go_wp2_with fail
              refine CW1.out.mono ?_
              rintro e W1 ⟨rfl, q1, rfl⟩
              have hb1 : Below w.heap.size w (wr.drewN q1) := below_drewNq hbw q1
              have hcq : ∀ i, i < u + 9 + 1 → (wr.drewN q1).cell? ⟨b, o + i, none⟩ = some (.int .u8 (L[i]?.getD 0)) := hcr
              generalize wr.drewN q1 = wq at hb1 hcq ⊢
              have hz9 : ∀ i, i < 1 → L[i]?.getD 0 < 128 := by
                intro i hi
                obtain rfl : i = 0 := by omega
                rw [hx0e]; exact hasc
              have a9 : Asc L 9 := asc_add (j := 1) (k := 8) ⟨by omega, hz9⟩ (kA1.1 hz1)
              have v2 : Utf.isText (L.drop 9) = ANS := by rw [Utf.text_asciis 9 hbL a9.1 a9.2]; exact hv
              have hc2 := cells_drop (k := 9) (m := u + 1) (o := o) (L := L) (w := w) (fun i hi => hcL i (by omega))
              have hq2 := cells_drop (k := 9) (m := u + 1) (o := o) (L := L) (w := wq) (fun i hi => hcq i (by omega))
              have hbL2 := Utf.bytes_dropU hbL 9
              have hL2 : (L.drop 9).length = u + 1 := by simp; omega
              have ho : o + 9 = o + 1 + 8 := by omega
              rw [ho] at hc2 hq2
              have HC2 := hide hc2
              have HQ2 := hide hq2
              clear hc2 hq2 ho a9 hz9 hcL hcr hcq hx0 hx0e hbL hL v1 kA1 lA1 hv hbw hA1 hZ1 CW1
              generalize L.drop 9 = L2 at v2 HC2 HQ2 hbL2 hL2
              go_wp2_with fail
              clear hand1 hz1b hz1
              generalize o + 1 + 8 = o2 at HC2 HQ2 ⊢
              have hc2 := HC2.out
              have hq2 := HQ2.out
              clear HC2 HQ2
              by_cases c16 : 16 < u + 1
              · obtain ⟨v, rfl⟩ : ∃ v, u = v + 16 := ⟨u - 16, by omega⟩
                have c16z : (16 : Int) < (v : Int) + 16 + 1 := by omega
                have s8z : (8 : Int) ≤ (v : Int) + 16 + 1 := by omega
                obtain ⟨A2, lA2, kA2, cW2⟩ := word_at b o2 (v + 16 + 1) L2 wq (by omega) hL2 hbL2 hq2
                obtain ⟨A3, lA3, kA3, cW3⟩ := word_at b (o2 + 8) (v + 9) (L2.drop 8) wq (by omega) (by simp; omega) (Utf.bytes_dropU hbL2 8) (cells_drop (k := 8) (m := v + 9) (fun i hi => hq2 i (by omega)))
                have hor2 : bits .or .u64 (A2 : Int) (A3 : Int) = ((A2 ||| A3 : Nat) : Int) := u64_or_nat A2 A3 lA2 lA3
                have lor2 : A2 ||| A3 < 18446744073709551616 := Nat.or_lt_two_pow (n := 64) lA2 lA3
                have hand2 : bits .and .u64 ((A2 ||| A3 : Nat) : Int) 9259542123273814144 = (((A2 ||| A3) &&& 9259542123273814144 : Nat) : Int) := u64_and_nat _ 9259542123273814144 lor2 (by omega)
                have k2 : (A2 ||| A3) &&& 9259542123273814144 = 0 → Asc L2 16 := fun h0' => by
                  obtain ⟨e1, e2⟩ := (Lib.or_mask A2 A3 _).1 h0'
                  exact asc_add (j := 8) (k := 8) (kA2.1 e1) (kA3.1 e2)
                obtain ⟨O2, hO2⟩ : ∃ O2, A2 ||| A3 = O2 := ⟨_, rfl⟩
                rw [hO2] at hor2 hand2 k2
                obtain ⟨Z2, hZ2⟩ : ∃ Z2, O2 &&& 9259542123273814144 = Z2 := ⟨_, rfl⟩
                rw [hZ2] at hand2 k2
                have cW2' := hide cW2
                have cW3' := hide cW3
                clear kA2 kA3 lor2 hO2 hZ2 cW2 cW3
                by_cases hz2 : Z2 = 0
                · as_aux_lemma =>
                    have hz2b : ((Z2 : Int) == 0) = true := by simp [hz2]
                    have a16 := k2 hz2
                    have v3 : Utf.isText (L2.drop 16) = ANS := by rw [Utf.text_asciis 16 hbL2 a16.1 a16.2]; exact v2
                    clear k2 a16
                    go_big_quiet (first | (with_reducible refine Calls.quiet_of (cW2'.out _)) | (with_reducible refine Calls.quiet_of (cW3'.out _)))
                    have hb2 : Below w.heap.size w (wq.drewN nq) := below_drewNq hb1 nq
                    generalize wq.drewN nq = wq2 at hb2 ⊢
                    clear cW2' cW3' hb1 hq2
                    go_wp2
                    go_loopg [0] (v + 2) (fun g2 s0 wx => VS w b ANS (v + 1) g2 s0 wx)
                    case atStart => exact vs_drop (j := 16) (o := o2) (L := L2) hb2 (by omega) hbL2 (by intro i hi; exact hc2 i (by omega)) v3 (by omega) (by omega) _ (fun h => rfl)
                    case round =>
                      obtain ⟨hbu, o3, m3, L3, a3, rfl, ha3, hL3, hbL3, hc3, v4, hg3, hm3⟩ := hrel
                      clear hc2 v3 hbL2 hL2 v2 hb2 hor2 hand2 hz2b hz2 lA2 lA3
                      by_cases c32 : 32 < m3
                      · obtain ⟨g3, rfl⟩ : ∃ g3, gk = g3 + 1 := ⟨gk - 1, by omega⟩
                        obtain rfl := ha3 (by omega)
                        obtain ⟨z, rfl⟩ : ∃ z, m3 = z + 33 := ⟨m3 - 33, by omega⟩
                        have c32z : (32 : Int) < (z : Int) + 33 := by omega
                        have s8u : (8 : Int) ≤ (z : Int) + 33 := by omega
                        have s16u : (16 : Int) ≤ (z : Int) + 33 := by omega
                        have s24u : (24 : Int) ≤ (z : Int) + 33 := by omega
                        have hcu : ∀ i, i < z + 33 → wr.cell? ⟨b, o3 + i, none⟩ = some (.int .u8 (L3[i]?.getD 0)) := fun i hi => cell_later hbu (hc3 i hi)
                        obtain ⟨B0, lB0, kB0, cB0⟩ := word_at b o3 (z + 33) L3 wr (by omega) hL3 hbL3 hcu
                        obtain ⟨B1, lB1, kB1, cB1⟩ := word_at b (o3 + 8) (z + 25) (L3.drop 8) wr (by omega) (by simp; omega) (Utf.bytes_dropU hbL3 8) (cells_drop (k := 8) (m := z + 25) (fun i hi => hcu i (by omega)))
                        obtain ⟨B2, lB2, kB2, cB2⟩ := word_at b (o3 + 16) (z + 17) (L3.drop 16) wr (by omega) (by simp; omega) (Utf.bytes_dropU hbL3 16) (cells_drop (k := 16) (m := z + 17) (fun i hi => hcu i (by omega)))
                        obtain ⟨B3, lB3, kB3, cB3⟩ := word_at b (o3 + 24) (z + 9) (L3.drop 24) wr (by omega) (by simp; omega) (Utf.bytes_dropU hbL3 24) (cells_drop (k := 24) (m := z + 9) (fun i hi => hcu i (by omega)))
                        have ho1 : bits .or .u64 (B0 : Int) (B1 : Int) = ((B0 ||| B1 : Nat) : Int) := u64_or_nat B0 B1 lB0 lB1
                        have ho2 : bits .or .u64 (B2 : Int) (B3 : Int) = ((B2 ||| B3 : Nat) : Int) := u64_or_nat B2 B3 lB2 lB3
                        have lo1 : B0 ||| B1 < 18446744073709551616 := Nat.or_lt_two_pow (n := 64) lB0 lB1
                        have lo2 : B2 ||| B3 < 18446744073709551616 := Nat.or_lt_two_pow (n := 64) lB2 lB3
                        have ho3 : bits .or .u64 ((B0 ||| B1 : Nat) : Int) ((B2 ||| B3 : Nat) : Int) = (((B0 ||| B1) ||| (B2 ||| B3) : Nat) : Int) := u64_or_nat _ _ lo1 lo2
                        have lo3 : (B0 ||| B1) ||| (B2 ||| B3) < 18446744073709551616 := Nat.or_lt_two_pow (n := 64) lo1 lo2
                        have hand3 : bits .and .u64 (((B0 ||| B1) ||| (B2 ||| B3) : Nat) : Int) 9259542123273814144 = ((((B0 ||| B1) ||| (B2 ||| B3)) &&& 9259542123273814144 : Nat) : Int) := u64_and_nat _ 9259542123273814144 lo3 (by omega)
                        have k3 : ((B0 ||| B1) ||| (B2 ||| B3)) &&& 9259542123273814144 = 0 → Asc L3 32 := fun h0' => by
                          obtain ⟨e01, e23⟩ := (Lib.or_mask _ _ _).1 h0'
                          obtain ⟨e0, e1⟩ := (Lib.or_mask _ _ _).1 e01
                          obtain ⟨e2, e3⟩ := (Lib.or_mask _ _ _).1 e23
                          exact asc_add (j := 24) (k := 8) (asc_add (j := 16) (k := 8) (asc_add (j := 8) (k := 8) (kB0.1 e0) (kB1.1 e1)) (kB2.1 e2)) (kB3.1 e3)
                        obtain ⟨P1, hP1⟩ : ∃ P1, B0 ||| B1 = P1 := ⟨_, rfl⟩
                        obtain ⟨P2, hP2⟩ : ∃ P2, B2 ||| B3 = P2 := ⟨_, rfl⟩
                        rw [hP1, hP2] at ho3 hand3 k3
                        rw [hP1] at ho1
                        rw [hP2] at ho2
                        obtain ⟨P3, hP3⟩ : ∃ P3, P1 ||| P2 = P3 := ⟨_, rfl⟩
                        rw [hP3] at ho3 hand3 k3
                        obtain ⟨Z3, hZ3⟩ : ∃ Z3, P3 &&& 9259542123273814144 = Z3 := ⟨_, rfl⟩
                        rw [hZ3] at hand3 k3
                        have cB0' := hide cB0
                        have cB1' := hide cB1
                        have cB2' := hide cB2
                        have cB3' := hide cB3
                        clear kB0 kB1 kB2 kB3 lo1 lo2 lo3 hP1 hP2 hP3 hZ3 cB0 cB1 cB2 cB3 hcu
                        by_cases hz3 : Z3 = 0
                        · as_aux_lemma =>
                            have hz3b : ((Z3 : Int) == 0) = true := by simp [hz3]
                            have a32 := k3 hz3
                            have v5 : Utf.isText (L3.drop 32) = ANS := by rw [Utf.text_asciis 32 hbL3 a32.1 a32.2]; exact v4
                            clear k3 a32
                            go_wp2_with fail
                            go_big_quiet (first | (with_reducible refine Calls.quiet_of (cB0'.out _)) | (with_reducible refine Calls.quiet_of (cB1'.out _)) | (with_reducible refine Calls.quiet_of (cB2'.out _)) | (with_reducible refine Calls.quiet_of (cB3'.out _)))
                            have hbu2 : Below w.heap.size w (wr.drewN nq) := below_drewNq hbu nq
                            go_wp2
                            go_roundg g3
                            case measure => omega
                            case rel => exact vs_drop (j := 32) (o := o3) (L := L3) hbu2 (by omega) hbL3 (by intro i hi; exact hc3 i (by omega)) v5 (by omega) (by omega) _ (fun h => rfl)
                        · as_aux_lemma =>
                            have hz3b : ((Z3 : Int) == 0) = false := by simp; omega
                            go_wp2_with fail
                            go_big_quiet (first | (with_reducible refine Calls.quiet_of (cB0'.out _)) | (with_reducible refine Calls.quiet_of (cB1'.out _)) | (with_reducible refine Calls.quiet_of (cB2'.out _)) | (with_reducible refine Calls.quiet_of (cB3'.out _)))
                            have hbu2 : Below w.heap.size w (wr.drewN nq) := below_drewNq hbu nq
                            go_wp2
                            go_roundg g'
                            case measure => omega
                            case rel => exact ⟨hbu2, o3, _, L3, _, rfl, fun _ => rfl, hL3, hbL3, hc3, v4, by omega, by omega⟩
                      · as_aux_lemma =>
                          have c32z : ¬ ((32 : Int) < (m3 : Int)) := by omega
                          have c32b : decide ((32 : Int) < (m3 : Int)) = false := decide_eq_false c32z
                          go_wp2_with fail
                          go_quiet (fail)
                          have hbu2 : Below w.heap.size w (wr.drewN nq) := below_drewNq hbu nq
                          go_wp2
                          go_roundg g'
                          case measure => omega
                          case rel => exact ⟨hbu2, o3, m3, L3, a3, rfl, ha3, hL3, hbL3, hc3, v4, by omega, by omega⟩
                · as_aux_lemma =>
                    have hz2b : ((Z2 : Int) == 0) = false := by simp; omega
                    go_big_quiet (first | (with_reducible refine Calls.quiet_of (cW2'.out _)) | (with_reducible refine Calls.quiet_of (cW3'.out _)))
                    have hb2 : Below w.heap.size w (wq.drewN nq) := below_drewNq hb1 nq
                    go_wp2
                    go_roundg g'
                    case measure => omega
                    case rel => exact ⟨hb2, o2, _, L2, _, rfl, fun _ => rfl, hL2, hbL2, hc2, v2, by omega, by omega⟩
              · as_aux_lemma =>
                  have c16z : ¬ ((16 : Int) < (u : Int) + 1) := by omega
                  have c16b : decide ((16 : Int) < (u : Int) + 1) = false := decide_eq_false c16z
                  go_quiet (fail)
                  have hb2 : Below w.heap.size w (wq.drewN nq) := below_drewNq hb1 nq
                  go_wp2
                  go_roundg g'
                  case measure => omega
                  case rel => exact ⟨hb2, o2, _, L2, _, rfl, fun _ => rfl, hL2, hbL2, hc2, v2, by omega, by omega⟩
          · as_aux_lemma =>
              have hz1b : ((Z1 : Int) == 0) = false := by simp; omega
              go_wp2_with fail
              refine CW1.out.mono ?_
              rintro e W1 ⟨rfl, q1, rfl⟩
              have hb1 : Below w.heap.size w (wr.drewN q1) := below_drewNq hbw q1
              go_wp2
              go_roundg g'
              case measure => omega
              case rel => exact vs_drop (j := 1) (o := o) (L := L) hb1 (by omega) hbL (by intro i hi; exact hcL i (by omega)) v1 (by omega) (by omega) _ (fun h => rfl)
        · as_aux_lemma =>
            have c8z : ¬ ((8 : Int) < (t : Int)) := by omega
            clear hTr
            go_wp2
            all_goals (
              go_roundg g'
              case measure => omega
              case rel => exact vs_drop (j := 1) (o := o) (L := L) hbw (by omega) hbL (by intro i hi; exact hcL i (by omega)) v1 (by omega) (by omega) _ (fun h => by first | rfl | omega))
      · -- a first byte from 128 on
        have hgez : ¬ x0 < 128 := hasc
        obtain ⟨c0, rfl⟩ : ∃ c0 : Nat, x0 = c0 := ⟨x0.toNat, by omega⟩
        obtain ⟨X, hX⟩ : ∃ X, Lib.firstT c0 = X := ⟨_, rfl⟩
        obtain ⟨LO, hLO⟩ : ∃ LO, Lib.accLo (X / 16) = LO := ⟨_, rfl⟩
        obtain ⟨HI, hHI⟩ : ∃ HI, Lib.accHi (X / 16) = HI := ⟨_, rfl⟩
        obtain ⟨T2, T3, T4, TN, hX256⟩ := Utf.lead_tab L hbL (by omega) X LO HI (by rw [hx0e, Int.toNat_natCast]; exact hX) hLO hHI (by rw [hx0e]; omega)
        rw [hv, hL] at T2 T3 T4
        rw [hv] at TN
        have hc0 : wr.cell? ⟨0, c0, none⟩ = some (.int .u8 (X : Int)) := by have := hTr.1 c0 (by omega); rw [hX] at this; exact this
        have h7 := and7 ⟨X, hX256⟩
        simp only at h7
        have ha0 : wr.cell? ⟨1, X / 16 * 2, none⟩ = some (.int .u8 (LO : Int)) := by rw [Nat.mul_comm, ← hLO]; exact (hTr.2 (X / 16) (by omega)).1
        have ha1 : wr.cell? ⟨1, X / 16 * 2 + 1, none⟩ = some (.int .u8 (HI : Int)) := by rw [Nat.mul_comm, ← hHI]; exact (hTr.2 (X / 16) (by omega)).2
        obtain ⟨SZ, hSZ⟩ : ∃ SZ, X % 8 = SZ := ⟨_, rfl⟩
        rw [hSZ] at T2 T3 T4 TN h7
        obtain ⟨x1, hx1⟩ : ∃ x1, L[1]?.getD 0 = x1 := ⟨_, rfl⟩
        obtain ⟨x2, hx2⟩ : ∃ x2, L[2]?.getD 0 = x2 := ⟨_, rfl⟩
        obtain ⟨x3, hx3⟩ : ∃ x3, L[3]?.getD 0 = x3 := ⟨_, rfl⟩
        have x1b := hbL 1; have x2b := hbL 2; have x3b := hbL 3
        have C1 : 1 < t + 1 → wr.cell? ⟨b, o + 1, none⟩ = some (.int .u8 x1) := fun h => by rw [← hx1]; exact hcr 1 h
        have C2 : 2 < t + 1 → wr.cell? ⟨b, o + 2, none⟩ = some (.int .u8 x2) := fun h => by rw [← hx2]; exact hcr 2 h
        have C3 : 3 < t + 1 → wr.cell? ⟨b, o + 3, none⟩ = some (.int .u8 x3) := fun h => by rw [← hx3]; exact hcr 3 h
        rw [hx1] at T2 T3 T4 x1b
        rw [hx2] at T3 T4 x2b
        rw [hx3] at T4 x3b
        clear hTr hT hX hLO hHI hcr hSZ
        have T2' := hide T2
        have T3' := hide T3
        have T4' := hide T4
        have TN' := hide TN
        clear T2 T3 T4 TN
        by_cases s2 : SZ = 2
        · as_aux_lemma =>
            subst s2
            go_upto_region 18 with fail
            have hbA : Below w.heap.size w (wr.alloc (Obj.cells #[Value.int IntKind.u8 (LO : Int), Value.int IntKind.u8 (HI : Int)] 51)) := hbw.alloc hbw.size _
            have hA0 : (wr.alloc (Obj.cells #[Value.int IntKind.u8 (LO : Int), Value.int IntKind.u8 (HI : Int)] 51)).cell? ⟨wr.heap.size, 0, none⟩ = some (.int .u8 (LO : Int)) := by simp
            have hA1 : (wr.alloc (Obj.cells #[Value.int IntKind.u8 (LO : Int), Value.int IntKind.u8 (HI : Int)] 51)).cell? ⟨wr.heap.size, 1, none⟩ = some (.int .u8 (HI : Int)) := by simp
            have D1 : 1 < t + 1 → (wr.alloc (Obj.cells #[Value.int IntKind.u8 (LO : Int), Value.int IntKind.u8 (HI : Int)] 51)).cell? ⟨b, o + 1, none⟩ = some (.int .u8 x1) := fun h => cell_later ((Below.refl _ wr).alloc (Nat.le_refl _) _) (C1 h)
            generalize (wr.alloc (Obj.cells #[Value.int IntKind.u8 (LO : Int), Value.int IntKind.u8 (HI : Int)] 51)) = wa at hbA hA0 hA1 D1 ⊢
            generalize wr.heap.size = gA at hA0 hA1 ⊢
            clear C1 C2 C3 ha0 ha1 hc0 hx0 hbw h7
            go_cut [103] from 85 to 103 (fun c wx => c = .bool (decide (t + 1 < 2 ∨ x1 < (LO : Int) ∨ (HI : Int) < x1)) ∧ Below w.heap.size w wx)
            case first =>
              by_cases q0 : t + 1 < 2
              · have q0z : (t : Int) + 1 < 2 := by omega
                as_aux_lemma =>
                  go_quiet (fail)
                  go_wp2
                  go_meet
                  exact ⟨congrArg Value.bool (decide_eq_true (p := t + 1 < 2 ∨ x1 < (LO : Int) ∨ (HI : Int) < x1) (by omega)).symm, below_drewNq hbA _⟩
              · have q0z : ¬ ((t : Int) + 1 < 2) := by omega
                have z1 : (1 : Int) < (t : Int) + 1 := by omega
                have E1 := D1 (by omega)
                clear D1
                by_cases q1 : x1 < (LO : Int)
                · have q1z : x1 < (LO : Int) := by omega
                  as_aux_lemma =>
                    go_quiet (fail)
                    go_wp2
                    go_meet
                    exact ⟨congrArg Value.bool (decide_eq_true (p := t + 1 < 2 ∨ x1 < (LO : Int) ∨ (HI : Int) < x1) (by omega)).symm, below_drewNq hbA _⟩
                · have q1z : ¬ (x1 < (LO : Int)) := by omega
                  by_cases q2 : (HI : Int) < x1
                  · have q2z : (HI : Int) < x1 := by omega
                    as_aux_lemma =>
                      go_quiet (fail)
                      go_wp2
                      go_meet
                      exact ⟨congrArg Value.bool (decide_eq_true (p := t + 1 < 2 ∨ x1 < (LO : Int) ∨ (HI : Int) < x1) (by omega)).symm, below_drewNq hbA _⟩
                  · have q2z : ¬ ((HI : Int) < x1) := by omega
                    as_aux_lemma =>
                      go_quiet (fail)
                      go_wp2
                      go_meet
                      exact ⟨congrArg Value.bool (decide_eq_false (p := t + 1 < 2 ∨ x1 < (LO : Int) ∨ (HI : Int) < x1) (by omega)).symm, below_drewNq hbA _⟩
            case rest =>
              obtain ⟨rfl, hbc⟩ := hcut
              by_cases hb : t + 1 < 2 ∨ x1 < (LO : Int) ∨ (HI : Int) < x1
              · as_aux_lemma =>
                have hbd : decide (t + 1 < 2 ∨ x1 < (LO : Int) ∨ (HI : Int) < x1) = true := decide_eq_true hb
                have hans := (T2'.out rfl).1 hb
                subst hans
                go_wp2
                all_goals (go_ret; exact ⟨rfl, hbc⟩)
              · as_aux_lemma =>
                have hbd : decide (t + 1 < 2 ∨ x1 < (LO : Int) ∨ (HI : Int) < x1) = false := decide_eq_false hb
                have hans := (T2'.out rfl).2 hb
                obtain ⟨t', rfl⟩ : ∃ t', t = t' + 1 := ⟨t - 1, by omega⟩
                go_wp2
                all_goals (
                  go_roundg g'
                  case measure => omega
                  case rel => exact vs_drop (j := 2) (o := o) (L := L) hbc (by omega) hbL (by intro i hi; exact hcL i (by omega)) hans (by omega) (by omega) _ (fun h => by first | rfl | omega))
        by_cases s3 : SZ = 3
        · as_aux_lemma =>
            subst s3
            go_upto_region 22 with fail
            have hbA : Below w.heap.size w (wr.alloc (Obj.cells #[Value.int IntKind.u8 (LO : Int), Value.int IntKind.u8 (HI : Int)] 51)) := hbw.alloc hbw.size _
            have hA0 : (wr.alloc (Obj.cells #[Value.int IntKind.u8 (LO : Int), Value.int IntKind.u8 (HI : Int)] 51)).cell? ⟨wr.heap.size, 0, none⟩ = some (.int .u8 (LO : Int)) := by simp
            have hA1 : (wr.alloc (Obj.cells #[Value.int IntKind.u8 (LO : Int), Value.int IntKind.u8 (HI : Int)] 51)).cell? ⟨wr.heap.size, 1, none⟩ = some (.int .u8 (HI : Int)) := by simp
            have D1 : 1 < t + 1 → (wr.alloc (Obj.cells #[Value.int IntKind.u8 (LO : Int), Value.int IntKind.u8 (HI : Int)] 51)).cell? ⟨b, o + 1, none⟩ = some (.int .u8 x1) := fun h => cell_later ((Below.refl _ wr).alloc (Nat.le_refl _) _) (C1 h)
            have D2 : 2 < t + 1 → (wr.alloc (Obj.cells #[Value.int IntKind.u8 (LO : Int), Value.int IntKind.u8 (HI : Int)] 51)).cell? ⟨b, o + 2, none⟩ = some (.int .u8 x2) := fun h => cell_later ((Below.refl _ wr).alloc (Nat.le_refl _) _) (C2 h)
            generalize (wr.alloc (Obj.cells #[Value.int IntKind.u8 (LO : Int), Value.int IntKind.u8 (HI : Int)] 51)) = wa at hbA hA0 hA1 D1 D2 ⊢
            generalize wr.heap.size = gA at hA0 hA1 ⊢
            clear C1 C2 C3 ha0 ha1 hc0 hx0 hbw h7
            go_cut [138] from 108 to 138 (fun c wx => c = .bool (decide (t + 1 < 3 ∨ x1 < (LO : Int) ∨ (HI : Int) < x1 ∨ x2 < 128 ∨ 191 < x2)) ∧ Below w.heap.size w wx)
            case first =>
              by_cases q0 : t + 1 < 3
              · have q0z : (t : Int) + 1 < 3 := by omega
                as_aux_lemma =>
                  go_quiet (fail)
                  go_wp2
                  go_meet
                  exact ⟨congrArg Value.bool (decide_eq_true (p := t + 1 < 3 ∨ x1 < (LO : Int) ∨ (HI : Int) < x1 ∨ x2 < 128 ∨ 191 < x2) (by omega)).symm, below_drewNq hbA _⟩
              · have q0z : ¬ ((t : Int) + 1 < 3) := by omega
                have z1 : (1 : Int) < (t : Int) + 1 := by omega
                have E1 := D1 (by omega)
                have z2 : (2 : Int) < (t : Int) + 1 := by omega
                have E2 := D2 (by omega)
                clear D1 D2
                by_cases q1 : x1 < (LO : Int)
                · have q1z : x1 < (LO : Int) := by omega
                  as_aux_lemma =>
                    go_quiet (fail)
                    go_wp2
                    go_meet
                    exact ⟨congrArg Value.bool (decide_eq_true (p := t + 1 < 3 ∨ x1 < (LO : Int) ∨ (HI : Int) < x1 ∨ x2 < 128 ∨ 191 < x2) (by omega)).symm, below_drewNq hbA _⟩
                · have q1z : ¬ (x1 < (LO : Int)) := by omega
                  by_cases q2 : (HI : Int) < x1
                  · have q2z : (HI : Int) < x1 := by omega
                    as_aux_lemma =>
                      go_quiet (fail)
                      go_wp2
                      go_meet
                      exact ⟨congrArg Value.bool (decide_eq_true (p := t + 1 < 3 ∨ x1 < (LO : Int) ∨ (HI : Int) < x1 ∨ x2 < 128 ∨ 191 < x2) (by omega)).symm, below_drewNq hbA _⟩
                  · have q2z : ¬ ((HI : Int) < x1) := by omega
                    by_cases q3 : x2 < 128
                    · have q3z : x2 < 128 := by omega
                      as_aux_lemma =>
                        go_quiet (fail)
                        go_wp2
                        go_meet
                        exact ⟨congrArg Value.bool (decide_eq_true (p := t + 1 < 3 ∨ x1 < (LO : Int) ∨ (HI : Int) < x1 ∨ x2 < 128 ∨ 191 < x2) (by omega)).symm, below_drewNq hbA _⟩
                    · have q3z : ¬ (x2 < 128) := by omega
                      by_cases q4 : 191 < x2
                      · have q4z : (191 : Int) < x2 := by omega
                        as_aux_lemma =>
                          go_quiet (fail)
                          go_wp2
                          go_meet
                          exact ⟨congrArg Value.bool (decide_eq_true (p := t + 1 < 3 ∨ x1 < (LO : Int) ∨ (HI : Int) < x1 ∨ x2 < 128 ∨ 191 < x2) (by omega)).symm, below_drewNq hbA _⟩
                      · have q4z : ¬ ((191 : Int) < x2) := by omega
                        as_aux_lemma =>
                          go_quiet (fail)
                          go_wp2
                          go_meet
                          exact ⟨congrArg Value.bool (decide_eq_false (p := t + 1 < 3 ∨ x1 < (LO : Int) ∨ (HI : Int) < x1 ∨ x2 < 128 ∨ 191 < x2) (by omega)).symm, below_drewNq hbA _⟩
            case rest =>
              obtain ⟨rfl, hbc⟩ := hcut
              by_cases hb : t + 1 < 3 ∨ x1 < (LO : Int) ∨ (HI : Int) < x1 ∨ x2 < 128 ∨ 191 < x2
              · as_aux_lemma =>
                have hbd : decide (t + 1 < 3 ∨ x1 < (LO : Int) ∨ (HI : Int) < x1 ∨ x2 < 128 ∨ 191 < x2) = true := decide_eq_true hb
                have hans := (T3'.out rfl).1 hb
                subst hans
                go_wp2
                all_goals (go_ret; exact ⟨rfl, hbc⟩)
              · as_aux_lemma =>
                have hbd : decide (t + 1 < 3 ∨ x1 < (LO : Int) ∨ (HI : Int) < x1 ∨ x2 < 128 ∨ 191 < x2) = false := decide_eq_false hb
                have hans := (T3'.out rfl).2 hb
                obtain ⟨t', rfl⟩ : ∃ t', t = t' + 2 := ⟨t - 2, by omega⟩
                go_wp2
                all_goals (
                  go_roundg g'
                  case measure => omega
                  case rel => exact vs_drop (j := 3) (o := o) (L := L) hbc (by omega) hbL (by intro i hi; exact hcL i (by omega)) hans (by omega) (by omega) _ (fun h => by first | rfl | omega))
        by_cases s4 : SZ = 4
        · as_aux_lemma =>
            subst s4
            go_upto_region 26 with fail
            have hbA : Below w.heap.size w (wr.alloc (Obj.cells #[Value.int IntKind.u8 (LO : Int), Value.int IntKind.u8 (HI : Int)] 51)) := hbw.alloc hbw.size _
            have hA0 : (wr.alloc (Obj.cells #[Value.int IntKind.u8 (LO : Int), Value.int IntKind.u8 (HI : Int)] 51)).cell? ⟨wr.heap.size, 0, none⟩ = some (.int .u8 (LO : Int)) := by simp
            have hA1 : (wr.alloc (Obj.cells #[Value.int IntKind.u8 (LO : Int), Value.int IntKind.u8 (HI : Int)] 51)).cell? ⟨wr.heap.size, 1, none⟩ = some (.int .u8 (HI : Int)) := by simp
            have D1 : 1 < t + 1 → (wr.alloc (Obj.cells #[Value.int IntKind.u8 (LO : Int), Value.int IntKind.u8 (HI : Int)] 51)).cell? ⟨b, o + 1, none⟩ = some (.int .u8 x1) := fun h => cell_later ((Below.refl _ wr).alloc (Nat.le_refl _) _) (C1 h)
            have D2 : 2 < t + 1 → (wr.alloc (Obj.cells #[Value.int IntKind.u8 (LO : Int), Value.int IntKind.u8 (HI : Int)] 51)).cell? ⟨b, o + 2, none⟩ = some (.int .u8 x2) := fun h => cell_later ((Below.refl _ wr).alloc (Nat.le_refl _) _) (C2 h)
            have D3 : 3 < t + 1 → (wr.alloc (Obj.cells #[Value.int IntKind.u8 (LO : Int), Value.int IntKind.u8 (HI : Int)] 51)).cell? ⟨b, o + 3, none⟩ = some (.int .u8 x3) := fun h => cell_later ((Below.refl _ wr).alloc (Nat.le_refl _) _) (C3 h)
            generalize (wr.alloc (Obj.cells #[Value.int IntKind.u8 (LO : Int), Value.int IntKind.u8 (HI : Int)] 51)) = wa at hbA hA0 hA1 D1 D2 D3 ⊢
            generalize wr.heap.size = gA at hA0 hA1 ⊢
            clear C1 C2 C3 ha0 ha1 hc0 hx0 hbw h7
            go_cut [185] from 143 to 185 (fun c wx => c = .bool (decide (t + 1 < 4 ∨ x1 < (LO : Int) ∨ (HI : Int) < x1 ∨ x2 < 128 ∨ 191 < x2 ∨ x3 < 128 ∨ 191 < x3)) ∧ Below w.heap.size w wx)
            case first =>
              by_cases q0 : t + 1 < 4
              · have q0z : (t : Int) + 1 < 4 := by omega
                as_aux_lemma =>
                  go_quiet (fail)
                  go_wp2
                  go_meet
                  exact ⟨congrArg Value.bool (decide_eq_true (p := t + 1 < 4 ∨ x1 < (LO : Int) ∨ (HI : Int) < x1 ∨ x2 < 128 ∨ 191 < x2 ∨ x3 < 128 ∨ 191 < x3) (by omega)).symm, below_drewNq hbA _⟩
              · have q0z : ¬ ((t : Int) + 1 < 4) := by omega
                have z1 : (1 : Int) < (t : Int) + 1 := by omega
                have E1 := D1 (by omega)
                have z2 : (2 : Int) < (t : Int) + 1 := by omega
                have E2 := D2 (by omega)
                have z3 : (3 : Int) < (t : Int) + 1 := by omega
                have E3 := D3 (by omega)
                clear D1 D2 D3
                by_cases q1 : x1 < (LO : Int)
                · have q1z : x1 < (LO : Int) := by omega
                  as_aux_lemma =>
                    go_quiet (fail)
                    go_wp2
                    go_meet
                    exact ⟨congrArg Value.bool (decide_eq_true (p := t + 1 < 4 ∨ x1 < (LO : Int) ∨ (HI : Int) < x1 ∨ x2 < 128 ∨ 191 < x2 ∨ x3 < 128 ∨ 191 < x3) (by omega)).symm, below_drewNq hbA _⟩
                · have q1z : ¬ (x1 < (LO : Int)) := by omega
                  by_cases q2 : (HI : Int) < x1
                  · have q2z : (HI : Int) < x1 := by omega
                    as_aux_lemma =>
                      go_quiet (fail)
                      go_wp2
                      go_meet
                      exact ⟨congrArg Value.bool (decide_eq_true (p := t + 1 < 4 ∨ x1 < (LO : Int) ∨ (HI : Int) < x1 ∨ x2 < 128 ∨ 191 < x2 ∨ x3 < 128 ∨ 191 < x3) (by omega)).symm, below_drewNq hbA _⟩
                  · have q2z : ¬ ((HI : Int) < x1) := by omega
                    by_cases q3 : x2 < 128
                    · have q3z : x2 < 128 := by omega
                      as_aux_lemma =>
                        go_quiet (fail)
                        go_wp2
                        go_meet
                        exact ⟨congrArg Value.bool (decide_eq_true (p := t + 1 < 4 ∨ x1 < (LO : Int) ∨ (HI : Int) < x1 ∨ x2 < 128 ∨ 191 < x2 ∨ x3 < 128 ∨ 191 < x3) (by omega)).symm, below_drewNq hbA _⟩
                    · have q3z : ¬ (x2 < 128) := by omega
                      by_cases q4 : 191 < x2
                      · have q4z : (191 : Int) < x2 := by omega
                        as_aux_lemma =>
                          go_quiet (fail)
                          go_wp2
                          go_meet
                          exact ⟨congrArg Value.bool (decide_eq_true (p := t + 1 < 4 ∨ x1 < (LO : Int) ∨ (HI : Int) < x1 ∨ x2 < 128 ∨ 191 < x2 ∨ x3 < 128 ∨ 191 < x3) (by omega)).symm, below_drewNq hbA _⟩
                      · have q4z : ¬ ((191 : Int) < x2) := by omega
                        by_cases q5 : x3 < 128
                        · have q5z : x3 < 128 := by omega
                          as_aux_lemma =>
                            go_quiet (fail)
                            go_wp2
                            go_meet
                            exact ⟨congrArg Value.bool (decide_eq_true (p := t + 1 < 4 ∨ x1 < (LO : Int) ∨ (HI : Int) < x1 ∨ x2 < 128 ∨ 191 < x2 ∨ x3 < 128 ∨ 191 < x3) (by omega)).symm, below_drewNq hbA _⟩
                        · have q5z : ¬ (x3 < 128) := by omega
                          by_cases q6 : 191 < x3
                          · have q6z : (191 : Int) < x3 := by omega
                            as_aux_lemma =>
                              go_quiet (fail)
                              go_wp2
                              go_meet
                              exact ⟨congrArg Value.bool (decide_eq_true (p := t + 1 < 4 ∨ x1 < (LO : Int) ∨ (HI : Int) < x1 ∨ x2 < 128 ∨ 191 < x2 ∨ x3 < 128 ∨ 191 < x3) (by omega)).symm, below_drewNq hbA _⟩
                          · have q6z : ¬ ((191 : Int) < x3) := by omega
                            as_aux_lemma =>
                              go_quiet (fail)
                              go_wp2
                              go_meet
                              exact ⟨congrArg Value.bool (decide_eq_false (p := t + 1 < 4 ∨ x1 < (LO : Int) ∨ (HI : Int) < x1 ∨ x2 < 128 ∨ 191 < x2 ∨ x3 < 128 ∨ 191 < x3) (by omega)).symm, below_drewNq hbA _⟩
            case rest =>
              obtain ⟨rfl, hbc⟩ := hcut
              by_cases hb : t + 1 < 4 ∨ x1 < (LO : Int) ∨ (HI : Int) < x1 ∨ x2 < 128 ∨ 191 < x2 ∨ x3 < 128 ∨ 191 < x3
              · as_aux_lemma =>
                have hbd : decide (t + 1 < 4 ∨ x1 < (LO : Int) ∨ (HI : Int) < x1 ∨ x2 < 128 ∨ 191 < x2 ∨ x3 < 128 ∨ 191 < x3) = true := decide_eq_true hb
                have hans := (T4'.out rfl).1 hb
                subst hans
                go_wp2
                all_goals (go_ret; exact ⟨rfl, hbc⟩)
              · as_aux_lemma =>
                have hbd : decide (t + 1 < 4 ∨ x1 < (LO : Int) ∨ (HI : Int) < x1 ∨ x2 < 128 ∨ 191 < x2 ∨ x3 < 128 ∨ 191 < x3) = false := decide_eq_false hb
                have hans := (T4'.out rfl).2 hb
                obtain ⟨t', rfl⟩ : ∃ t', t = t' + 3 := ⟨t - 3, by omega⟩
                go_wp2
                all_goals (
                  go_roundg g'
                  case measure => omega
                  case rel => exact vs_drop (j := 4) (o := o) (L := L) hbc (by omega) hbL (by intro i hi; exact hcL i (by omega)) hans (by omega) (by omega) _ (fun h => by first | rfl | omega))
        obtain ⟨hans, hone⟩ := TN'.out s2 s3 s4
        subst hans hone
        go_wp2
        all_goals (go_ret; exact ⟨rfl, hbw.alloc hbw.size _⟩)
    · have h0z : ¬ ((0 : Int) < (m : Int)) := by omega
      have hL0 : L = [] := List.eq_nil_of_length_eq_zero (by omega)
      have hans : ANS = true := by rw [← hv, hL0]; rfl
      subst hans
      go_wp2
      go_ret
      exact ⟨rfl, hbw⟩

end Go.Proofs.YthillphedjjhjabDoor
