/-
  VinSpec, VinRTwo, VinRTwoAll, VinROne, VinRShift, VinRThan, VinRAll, VinRefs.
-/
import Derived.Test.YtoihfmammmkloaaDoorPkRef
import Derived.Test.YtoihfmammmkloaaDoorZIntsTwoP
import Derived.Test.YtoihfmammmkloaaDoorPkRTwo
import Derived.Test.YtoihfmammmkloaaDoorPkOne
import Derived.Test.YtoihfmammmkloaaDoorPkThan
/-
  What the operators of lanes answer, by ints' (Z) and the lanes.
-/
set_option linter.unusedVariables false
set_option linter.unusedSimpArgs false
namespace Go.Proofs.YtoihfmammmkloaaDoor
open Go.RowKit Lan

theorem zw {w : Nat} (h : IsW w) : Ints.IsW w := h
theorem zof {w n : Nat} (h : n < 2 ^ w) : Z.Of w (n : Int) := ⟨by omega, by exact_mod_cast h⟩
theorem zlt {w : Nat} {a : Int} (h : Z.Of w a) : a.toNat < 2 ^ w ∧ ((a.toNat : Nat) : Int) = a := by
  obtain ⟨h0, h1⟩ := h
  obtain ⟨n, rfl⟩ := Int.eq_ofNat_of_zero_le h0
  exact ⟨by exact_mod_cast h1, rfl⟩

/-- The operators of two that lanes have not. -/
def refused (op : Nat) : Bool := (4 ≤ op && op ≤ 7) || (11 ≤ op && op ≤ 15)
/-- The operators of two that lanes of the width have. -/
def tok (op w : Nat) : Bool := (1 ≤ op && op ≤ 3) || (8 ≤ op && op ≤ 10) || (16 ≤ op && op ≤ 24) || (op == 25 && w == 16)

theorem cut_of (w : Nat) (n : Int) : Z.Of w (Z.cutI w n) := by
  have h : (0 : Int) < 2 ^ w := by exact_mod_cast Nat.two_pow_pos w
  exact ⟨Int.emod_nonneg _ (by omega), Int.emod_lt_of_pos _ h⟩

theorem op_cases {op : Nat} (h : tok op 16 = true) : op = 1 ∨ op = 2 ∨ op = 3 ∨ op = 8 ∨ op = 9 ∨ op = 10 ∨ op = 16 ∨ op = 17 ∨ op = 18 ∨ op = 19 ∨ op = 20 ∨ op = 21 ∨ op = 22 ∨ op = 23 ∨ op = 24 ∨ op = 25 := by
  unfold tok at h
  simp at h
  omega

theorem tok16 {op w : Nat} (h : tok op w = true) : tok op 16 = true := by
  unfold tok at *
  simp at *
  omega

theorem tok25 {w : Nat} (h : tok 25 w = true) : w = 16 := by
  unfold tok at h
  simpa using h

theorem nat_of (w : Nat) (n : Nat) (h : n < 2 ^ w) : Z.Of w (n : Int) := zof h

/-- What such an operator answers is a number of the width, and no error. -/
theorem two_ok {op w : Nat} (h : tok op w = true) {a b : Int} (ha : Z.Of w a) (hb : Z.Of w b) : Z.Of w (Z.two op w a b).1 ∧ (Z.two op w a b).2 = 0 := by
  have hp : (0 : Int) < 2 ^ w := by exact_mod_cast Nat.two_pow_pos w
  have h25 := fun e : op = 25 => tok25 (e ▸ h)
  rcases op_cases (tok16 h) with rfl | rfl | rfl | rfl | rfl | rfl | rfl | rfl | rfl | rfl | rfl | rfl | rfl | rfl | rfl | rfl
  · exact ⟨cut_of _ _, rfl⟩
  · exact ⟨cut_of _ _, rfl⟩
  · exact ⟨cut_of _ _, rfl⟩
  · refine ⟨?_, rfl⟩
    exact nat_of w _ (Nat.lt_of_le_of_lt Nat.and_le_left (zlt ha).1)
  · refine ⟨?_, rfl⟩
    exact nat_of w _ (Nat.or_lt_two_pow (zlt ha).1 (zlt hb).1)
  · refine ⟨?_, rfl⟩
    exact nat_of w _ (Nat.xor_lt_two_pow (zlt ha).1 (zlt hb).1)
  · refine ⟨⟨?_, ?_⟩, rfl⟩ <;> (obtain ⟨a0, a1⟩ := ha; obtain ⟨b0, b1⟩ := hb; simp only [Z.two, Z.mo]; omega)
  · refine ⟨⟨?_, ?_⟩, rfl⟩ <;> (obtain ⟨a0, a1⟩ := ha; obtain ⟨b0, b1⟩ := hb; simp only [Z.two]; omega)
  · exact ⟨cut_of _ _, rfl⟩
  · exact ⟨cut_of _ _, rfl⟩
  · refine ⟨⟨?_, ?_⟩, rfl⟩ <;> (obtain ⟨a0, a1⟩ := ha; obtain ⟨b0, b1⟩ := hb; simp only [Z.two]; omega)
  · refine ⟨⟨?_, ?_⟩, rfl⟩ <;> (obtain ⟨a0, a1⟩ := ha; obtain ⟨b0, b1⟩ := hb; simp only [Z.two]; omega)
  · exact ⟨cut_of _ _, rfl⟩
  · exact ⟨cut_of _ _, rfl⟩
  · refine ⟨⟨?_, ?_⟩, rfl⟩ <;> (obtain ⟨a0, a1⟩ := ha; obtain ⟨b0, b1⟩ := hb; simp only [Z.two]; omega)
  · have := h25 rfl
    subst this
    exact ⟨cut_of _ _, rfl⟩

theorem two_bad {op w : Nat} (h : tok op w = false) (hr : refused op = false) (a b : Int) : Z.two op w a b = (0, 2) := by
  by_cases h25 : op = 25
  · subst h25
    have : w ≠ 16 := by
      intro e; subst e; cases h
    simp [Z.two, this]
  · have hn : op = 0 ∨ 25 < op := by
      unfold tok at h
      unfold refused at hr
      simp at h hr
      omega
    rcases hn with rfl | hn
    · rfl
    · unfold Z.two
      split <;> first | omega | rfl

/-- The lanes' answer. -/
def vtwoN (op w : Nat) (a b : Nat × Nat) (i : Nat) : Nat := (Z.two op w (laneN a w i : Int) (laneN b w i : Int)).1.toNat
def vlanes (w : Nat) (f : Nat → Nat) : Nat × Nat := vecN w ((List.range (128 / w)).map f)
def bad2 : (Nat × Nat) × Int := ((0, 0), 2)
def vtwo (op w : Int) (a b : Nat × Nat) : (Nat × Nat) × Int :=
  if refused op.toNat then bad2 else if isW w then (if tok op.toNat w.toNat then (vlanes w.toNat (vtwoN op.toNat w.toNat a b), 0) else bad2) else bad2

/-- The operators of one that lanes have. -/
def ook (op : Nat) : Bool := 28 ≤ op && op ≤ 31
def voneN (op w : Nat) (a : Nat × Nat) (i : Nat) : Nat := (Z.one op w (laneN a w i : Int)).1.toNat
def vone (op w : Int) (a : Nat × Nat) : (Nat × Nat) × Int := if isW w && ook op.toNat then (vlanes w.toNat (voneN op.toNat w.toNat a), 0) else bad2

def sok (op : Nat) : Bool := 11 ≤ op && op ≤ 13
def vshiftN (op w : Nat) (a : Nat × Nat) (n : Nat) (i : Nat) : Nat := (Z.two op w (laneN a w i : Int) ((n % w : Nat) : Int)).1.toNat
def vshift (op w : Int) (a : Nat × Nat) (n : Nat) : (Nat × Nat) × Int := if isW w && sok op.toNat then (vlanes w.toNat (vshiftN op.toNat w.toNat a n), 0) else bad2

def hok (op : Nat) : Bool := 32 ≤ op && op ≤ 41
def vthanN (op w : Nat) (a b : Nat × Nat) (i : Nat) : Nat := if (Z.than op w (laneN a w i : Int) (laneN b w i : Int)).1 then 2 ^ w - 1 else 0
def vthan (op w : Int) (a b : Nat × Nat) : (Nat × Nat) × Int := if isW w && hok op.toNat then (vlanes w.toNat (vthanN op.toNat w.toNat a b), 0) else bad2

def vallB (w : Nat) (a : Nat × Nat) : Bool := (List.range (128 / w)).all fun i => laneN a w i != 0
def vall (w : Int) (a : Nat × Nat) : Bool × Int := if isW w then (vallB w.toNat a, 0) else (false, 2)

/-- The highest bits of the first k lanes. -/
def vmaskN (w : Nat) (a : Nat × Nat) : Nat → Nat
  | 0 => 0
  | k + 1 => vmaskN w a k + (if laneN a w k < 2 ^ (w - 1) then 0 else 2 ^ k)
def vmask (w : Int) (a : Nat × Nat) : Int × Int := if isW w then ((vmaskN w.toNat a (128 / w.toNat) : Int), 0) else (0, 2)

def vnarN (w : Nat) (s : Bool) (a b : Nat × Nat) (i : Nat) : Nat :=
  (Z.narV w (w / 2) s (if i < 128 / w then laneN a w i else laneN b w (i - 128 / w) : Nat)).toNat
def vnar (w : Int) (s : Bool) (a b : Nat × Nat) : (Nat × Nat) × Int := if w == 16 || w == 32 then (vlanes (w.toNat / 2) (vnarN w.toNat s a b), 0) else bad2

def vwideN (w : Nat) (s h : Bool) (a : Nat × Nat) (i : Nat) : Nat := (Z.extV w (2 * w) s (laneN a w (if h then i + 64 / w else i) : Int)).toNat
def isW3 (w : Int) : Bool := w == 8 || w == 16 || w == 32
def vwide (w : Int) (s h : Bool) (a : Nat × Nat) : (Nat × Nat) × Int := if isW3 w then (vlanes (2 * w.toNat) (vwideN w.toNat s h a), 0) else bad2
def vtimesN (w : Nat) (s h : Bool) (a b : Nat × Nat) (i : Nat) : Nat := vwideN w s h a i * vwideN w s h b i % 2 ^ (2 * w)
def vtimes (w : Int) (s h : Bool) (a b : Nat × Nat) : (Nat × Nat) × Int := if isW3 w then (vlanes (2 * w.toNat) (vtimesN w.toNat s h a b), 0) else bad2
def vpairsN (w : Nat) (s : Bool) (a : Nat × Nat) (i : Nat) : Nat := ((Z.extV w (2 * w) s (laneN a w (2 * i) : Int)).toNat + (Z.extV w (2 * w) s (laneN a w (2 * i + 1) : Int)).toNat) % 2 ^ (2 * w)
def vpairs (w : Int) (s : Bool) (a : Nat × Nat) : (Nat × Nat) × Int := if w == 8 || w == 16 then (vlanes (2 * w.toNat) (vpairsN w.toNat s a), 0) else bad2
def vdotN (a b : Nat × Nat) (i : Nat) : Nat :=
  (Z.cutI 32 (Ints.wo 16 (laneN a 16 (2 * i) : Int) * Ints.wo 16 (laneN b 16 (2 * i) : Int) + Ints.wo 16 (laneN a 16 (2 * i + 1) : Int) * Ints.wo 16 (laneN b 16 (2 * i + 1) : Int))).toNat
def vdot (a b : Nat × Nat) : (Nat × Nat) × Int := (vlanes 32 (vdotN a b), 0)
end Go.Proofs.YtoihfmammmkloaaDoor
/-
  The document's Two of lanes.
-/
set_option linter.unusedVariables false
set_option linter.unusedSimpArgs false
namespace Go.Proofs.YtoihfmammmkloaaDoor
open Go.RowKit Lan

set_option maxHeartbeats 8000000 in
theorem rv2_ok (op w c a0 a1 b0 b1 p q : Nat) (fa fb f : Nat → Nat) (hc16 : c ≤ 16) (hc2 : 2 ≤ c)
    (CW : Hide (∀ W : World, Calls Tryd.prog 37 #[.int .i64 (w : Int)] W fun e W' => e = .returned (.bool true) ∧ W' = W))
    (CA : Hide (∀ W : World, Calls Tryd.prog 38 #[vecV (a0, a1), .int .i64 (w : Int)] W fun e W' => ListPost W c ((List.range c).map fa) e W'))
    (CB : Hide (∀ W : World, Calls Tryd.prog 38 #[vecV (b0, b1), .int .i64 (w : Int)] W fun e W' => ListPost W c ((List.range c).map fb) e W'))
    (CT : Hide (∀ i, i < c → ∀ W : World, Calls Tryd.prog 39 #[.int .u8 (op : Int), .int .i64 (w : Int), .int .u64 (fa i : Int), .int .u64 (fb i : Int)] W fun e W' => e = .returned (.tuple #[.int .u64 (f i : Int), .int .i64 0]) ∧ W' = W))
    (CV : Hide (∀ (W : World) (g cap : Nat), XBlk W g c ((List.range c).map f) → Calls Tryd.prog 40 #[.int .i64 (w : Int), .slice (some ⟨g, 0, none⟩) c cap] W fun e W' => e = .returned (vecV (p, q)) ∧ Below W.heap.size W W'))
    (n4 : ((op : Int) == 4) = false)
    (n5 : ((op : Int) == 5) = false)
    (n6 : ((op : Int) == 6) = false)
    (n7 : ((op : Int) == 7) = false)
    (n11 : ((op : Int) == 11) = false)
    (n12 : ((op : Int) == 12) = false)
    (n13 : ((op : Int) == 13) = false)
    (n14 : ((op : Int) == 14) = false)
    (n15 : ((op : Int) == 15) = false)
    (W : World) :
    Calls Tryd.prog 10 #[.int .u8 (op : Int), .int .i64 (w : Int), vecV (a0, a1), vecV (b0, b1)] W fun e W' => e = .returned (vecE ((p, q), 0)) ∧ Below W.heap.size W W' := by
  obtain ⟨wa, hwa⟩ : ∃ wa, ((W.alloc (.cells #[.int .u64 (a0 : Int), .int .u64 (a1 : Int)] 25)).alloc (.cells #[.int .u64 (b0 : Int), .int .u64 (b1 : Int)] 25)).alloc (.cells #[.int .u64 0, .int .u64 0] 25) = wa := ⟨_, rfl⟩
  have VA : Hide (VBlk wa W.heap.size (a0, a1)) := hide (by rw [← hwa]; exact alloc_past (alloc_past (alloc_at rfl)))
  have VB : Hide (VBlk wa (W.heap.size + 1) (b0, b1)) := hide (by rw [← hwa]; exact alloc_past (alloc_at (by simp)))
  have ZB : Hide (VBlk wa (W.heap.size + 1 + 1) (0, 0)) := hide (by rw [← hwa]; exact alloc_at (by simp))
  have BA : Hide (Below W.heap.size W wa) := hide (by rw [← hwa]; exact (((Below.refl _ _).alloc (Nat.le_refl _) _).alloc (by simp) _).alloc (by simp; omega) _)
  have HWA := hide hwa
  clear hwa
  unfold vecV at CA CB CV ⊢
  simp only at CA CB CV ⊢
  go_enter Tryd.func10, Tryd.ntmps10
  go_wp2_with ((with_reducible refine (CW.out _).mono ?_); rintro e w0 ⟨rfl, rfl⟩)
  rw [HWA.out]
  refine wp_region_par [31, 32, 33, 34, 35, 36, 10, 11] (ListsJ (.agg #[.int .u64 (a0 : Int), .int .u64 (a1 : Int)]) (.agg #[.int .u64 (b0 : Int), .int .u64 (b1 : Int)]) w c ((List.range c).map fa) ((List.range c).map fb) wa) (by kernel_rfl) (by kernel_rfl) ?_ ?_ ?_
  · intro vs
    exact ⟨(fun h => by cases h), (fun h => by cases h), (fun h => by cases h), (fun h => by cases h), (fun h => by cases h), (fun h => by cases h), (fun h => by cases h), (fun h => by cases h), (fun h => by cases h), (Below.refl _ _).drew⟩
  · intro d vs w1 hd hl hJ
    match vs, hl with
    | [x0, x1, x2, x3, x4, x5, x6, x7], _ =>
    obtain ⟨j0, j1, o2, j3, j4, o5, a6, a7, u2_5, jb⟩ := hJ
    obtain rfl := j0 (hd 0 (by decide))
    obtain rfl := j1 (hd 1 (by decide))
    obtain rfl := j3 (hd 3 (by decide))
    obtain rfl := j4 (hd 4 (by decide))
    have e6 := (a6 (hd 6 (by decide))).2
    simp only [List.getElem?_cons_zero, List.getElem?_cons_succ, Option.getD_some] at e6
    subst e6
    have e7 := (a7 (hd 7 (by decide))).2
    simp only [List.getElem?_cons_zero, List.getElem?_cons_succ, Option.getD_some] at e7
    subst e7
    obtain ⟨g1, cap1, e2, hg1, hc1, hx1⟩ := o2 (hd 2 (by decide))
    simp only [List.getElem?_cons_zero, List.getElem?_cons_succ, Option.getD_some] at e2
    subst e2
    obtain ⟨g2, cap2, e5, hg2, hc2, hx2⟩ := o5 (hd 5 (by decide))
    simp only [List.getElem?_cons_zero, List.getElem?_cons_succ, Option.getD_some] at e5
    subst e5
    have hne : g1 ≠ g2 := u2_5 (hd 2 (by decide)) (hd 5 (by decide))
    have JB := hide jb
    have K1 := hide hx1
    have K2 := hide hx2
    clear hd hl jb j0 j1 o2 j3 j4 o5 a6 a7 u2_5 hx1 hx2
    simp only [putL, Act.put, List.setIfInBounds_toArray, List.set_cons_succ, List.set_cons_zero]
    have ZW := hide (ZB.out.later JB.out ZB.out.lt)
    have BW := hide (BA.out.trans (JB.out.mono BA.out.size))
    have S0 : Hide (TwAt W (W.heap.size + 1 + 1) g1 g2 c (mixC c f fa 0) ((List.range c).map fb) w1) := hide ⟨ZW.out, by rw [mix_zero]; exact K1.out, K2.out, BW.out⟩
    have HG : Hide (W.heap.size + 1 + 1 < g1) := hide (by have := ZB.out.lt; omega)
    have HN : Hide (g2 ≠ g1) := hide (Ne.symm hne)
    clear K1 K2 BW JB ZW VA VB ZB BA HWA CA CB hne hg1 hg2 hc1 hc2
    go_wp2_with fail
    go_loopw [12] (fun x wr => ∃ k : Nat, x = .int .i64 (k : Int) ∧ k ≤ c ∧ TwAt W (W.heap.size + 1 + 1) g1 g2 c (mixC c f fa k) ((List.range c).map fb) wr) (fun x _ => c - (intOf x).toNat)
    case atStart => exact ⟨0, rfl, by omega, S0.out⟩
    case round =>
      obtain ⟨k, rfl, hk, hr⟩ := hrel
      have H := hide hr
      clear hr S0
      by_cases c0 : k < c
      · have c1 : (k : Int) < (c : Int) := by omega
        have c2 : (k : Int) < 16 := by omega
        have hA : wr.cell? ⟨g1, k, none⟩ = some (.int .u64 (fa k : Int)) := by
          have := H.out.2.1.cell k c0
          rwa [mix_at c f fa k k c0, if_neg (by omega)] at this
        have hB : wr.cell? ⟨g2, k, none⟩ = some (.int .u64 (fb k : Int)) := by
          have := H.out.2.2.1.cell k c0
          rwa [show at0 ((List.range c).map fb) k = fb k by simp [at0, List.getElem?_range c0]] at this
        have hz : wr.frozen? ⟨g1, k, none⟩ = false := H.out.2.1.frozen k
        have ST := hide (mix_set c f fa k c0)
        have CK := hide (CT.out k c0)
        have HC := hide c0
        clear CT c0
        generalize fa k = xa at *
        generalize fb k = xb at *
        generalize f k = y at *
        go_wp2_with fail
        go_quiet (with_reducible refine Calls.quiet_of_same (CK.out _))
        go_wp2
        go_roundw
        case rel => exact ⟨k + 1, by go_num, HC.out, by rw [← ST.out]; exact (H.out.drewN _).put (mix_length c f fa k) k y HC.out (by have := HG.out; omega) HN.out (by have := HG.out; omega)⟩
        case measure => have := HC.out; simp [intOf]; omega
      · obtain rfl : k = c := by omega
        rw [mix_all] at H
        have CK := hide (fun cap => CV.out wr g1 cap H.out.2.1)
        clear CT CV c0
        go_wp2_with fail
        refine (CK.out _).mono ?_
        rintro e w2 ⟨rfl, hb⟩
        have H2 := hide (H.out.later hb)
        have z := H2.out.1
        have r0 : w2.cell? ⟨W.heap.size + 1 + 1, 0, none⟩ = some (.int .u64 0) := z.c0
        have r1 : w2.cell? ⟨W.heap.size + 1 + 1, 1, none⟩ = some (.int .u64 0) := z.c1
        have z0 : w2.frozen? ⟨W.heap.size + 1 + 1, 0, none⟩ = false := z.frozen 0
        have z1 : w2.frozen? ⟨W.heap.size + 1 + 1, 1, none⟩ = false := z.frozen 1
        clear z
        clear hb H
        go_wp2
        refine bodyPost_ret (v := vecE ((p, q), 0)) ((H2.out.1.set2 p q).result2 (by rfl) _ rfl rfl) rfl ?_
        exact ⟨rfl, (H2.out.2.2.2.setCell (by simp; omega) _).setCell (by simp; omega) _⟩
  · intro i o ho d vs w hl hJ hi hw
    match vs, hl with
    | [x0, x1, x2, x3, x4, x5, x6, x7], _ =>
    have hin : i < 8 := (List.getElem?_eq_some_iff.1 ho).1
    obtain ⟨j0, j1, o2, j3, j4, o5, a6, a7, u2_5, jb⟩ := hJ
    simp only [List.getElem?_cons_zero, List.getElem?_cons_succ, Option.some.injEq, Option.getD_some] at j0 j1 o2 j3 j4 o5 a6 a7 u2_5
    rcases (show i = 0 ∨ i = 1 ∨ i = 2 ∨ i = 3 ∨ i = 4 ∨ i = 5 ∨ i = 6 ∨ i = 7 by omega) with rfl | rfl | rfl | rfl | rfl | rfl | rfl | rfl
    · simp only [List.getElem?_cons_zero, List.getElem?_cons_succ, Option.some.injEq] at ho
      subst ho
      have h0 := (VA.out.later jb VA.out.lt).c0
      have h1 := (VA.out.later jb VA.out.lt).c1
      simp only [putL, Act.put, List.setIfInBounds_toArray, List.set_cons_succ, List.set_cons_zero] at h0 h1 ⊢
      go_wp2
      exact ⟨rfl, [_, x1, x2, x3, x4, x5, x6, x7], rfl, (by simp only [putL, Act.put, List.setIfInBounds_toArray, List.set_cons_succ, List.set_cons_zero]), (fun _ => rfl), j1, o2, j3, j4, o5, a6, a7, u2_5, jb⟩
    · simp only [List.getElem?_cons_zero, List.getElem?_cons_succ, Option.some.injEq] at ho
      subst ho
      simp only [putL, Act.put, List.setIfInBounds_toArray, List.set_cons_succ, List.set_cons_zero]
      go_wp2
      exact ⟨rfl, [x0, _, x2, x3, x4, x5, x6, x7], rfl, (by simp only [putL, Act.put, List.setIfInBounds_toArray, List.set_cons_succ, List.set_cons_zero]), j0, (fun _ => rfl), o2, j3, j4, o5, a6, a7, u2_5, jb⟩
    · simp only [List.getElem?_cons_zero, List.getElem?_cons_succ, Option.some.injEq] at ho
      subst ho
      obtain rfl := j0 (List.all_eq_true.1 hw 0 (by decide))
      obtain rfl := j1 (List.all_eq_true.1 hw 1 (by decide))
      simp only [putL, Act.put, List.setIfInBounds_toArray, List.set_cons_succ, List.set_cons_zero]
      go_wp2_with ((with_reducible refine (CA.out _).mono ?_); rintro e w1 hpost; obtain ⟨g, cap, hg, rfl, hcap, hx, hb⟩ := list_x hpost)
      exact ⟨rfl, [_, _, _, x3, x4, x5, x6, x7], rfl, (by simp only [putL, Act.put, List.setIfInBounds_toArray, List.set_cons_succ, List.set_cons_zero]), (fun _ => rfl), (fun _ => rfl), (fun _ => ⟨g, cap, rfl, Nat.le_trans jb.size hg, hcap, hx⟩), j3, j4, (o5.later hb), (fun h => nomatch ((a6 h).1.symm.trans hi)), a7, (fun _ h => Ne.symm (o5.ne h hg)), jb.trans (hb.mono jb.size)⟩
    · simp only [List.getElem?_cons_zero, List.getElem?_cons_succ, Option.some.injEq] at ho
      subst ho
      have h0 := (VB.out.later jb VB.out.lt).c0
      have h1 := (VB.out.later jb VB.out.lt).c1
      simp only [putL, Act.put, List.setIfInBounds_toArray, List.set_cons_succ, List.set_cons_zero] at h0 h1 ⊢
      go_wp2
      exact ⟨rfl, [x0, x1, x2, _, x4, x5, x6, x7], rfl, (by simp only [putL, Act.put, List.setIfInBounds_toArray, List.set_cons_succ, List.set_cons_zero]), j0, j1, o2, (fun _ => rfl), j4, o5, a6, a7, u2_5, jb⟩
    · simp only [List.getElem?_cons_zero, List.getElem?_cons_succ, Option.some.injEq] at ho
      subst ho
      simp only [putL, Act.put, List.setIfInBounds_toArray, List.set_cons_succ, List.set_cons_zero]
      go_wp2
      exact ⟨rfl, [x0, x1, x2, x3, _, x5, x6, x7], rfl, (by simp only [putL, Act.put, List.setIfInBounds_toArray, List.set_cons_succ, List.set_cons_zero]), j0, j1, o2, j3, (fun _ => rfl), o5, a6, a7, u2_5, jb⟩
    · simp only [List.getElem?_cons_zero, List.getElem?_cons_succ, Option.some.injEq] at ho
      subst ho
      obtain rfl := j3 (List.all_eq_true.1 hw 3 (by decide))
      obtain rfl := j4 (List.all_eq_true.1 hw 4 (by decide))
      simp only [putL, Act.put, List.setIfInBounds_toArray, List.set_cons_succ, List.set_cons_zero]
      go_wp2_with ((with_reducible refine (CB.out _).mono ?_); rintro e w1 hpost; obtain ⟨g, cap, hg, rfl, hcap, hx, hb⟩ := list_x hpost)
      exact ⟨rfl, [x0, x1, x2, _, _, _, x6, x7], rfl, (by simp only [putL, Act.put, List.setIfInBounds_toArray, List.set_cons_succ, List.set_cons_zero]), j0, j1, (o2.later hb), (fun _ => rfl), (fun _ => rfl), (fun _ => ⟨g, cap, rfl, Nat.le_trans jb.size hg, hcap, hx⟩), a6, (fun h => nomatch ((a7 h).1.symm.trans hi)), (fun h _ => o2.ne h hg), jb.trans (hb.mono jb.size)⟩
    · simp only [List.getElem?_cons_zero, List.getElem?_cons_succ, Option.some.injEq] at ho
      subst ho
      have hd : d 2 = true := List.all_eq_true.1 hw 2 (by decide)
      simp only [putL, Act.put, List.setIfInBounds_toArray, List.set_cons_succ, List.set_cons_zero]
      go_wp2
      exact ⟨rfl, [x0, x1, x2, x3, x4, x5, _, x7], rfl, (by simp only [putL, Act.put, List.setIfInBounds_toArray, List.set_cons_succ, List.set_cons_zero]), j0, j1, o2, j3, j4, o5, (fun _ => ⟨hd, rfl⟩), a7, u2_5, jb⟩
    · simp only [List.getElem?_cons_zero, List.getElem?_cons_succ, Option.some.injEq] at ho
      subst ho
      have hd : d 5 = true := List.all_eq_true.1 hw 5 (by decide)
      simp only [putL, Act.put, List.setIfInBounds_toArray, List.set_cons_succ, List.set_cons_zero]
      go_wp2
      exact ⟨rfl, [x0, x1, x2, x3, x4, x5, x6, _], rfl, (by simp only [putL, Act.put, List.setIfInBounds_toArray, List.set_cons_succ, List.set_cons_zero]), j0, j1, o2, j3, j4, o5, a6, (fun _ => ⟨hd, rfl⟩), u2_5, jb⟩

set_option maxHeartbeats 8000000 in
theorem rv2_bad (op w c a0 a1 b0 b1 p q : Nat) (fa fb f : Nat → Nat) (hc16 : c ≤ 16) (hc2 : 2 ≤ c)
    (CW : Hide (∀ W : World, Calls Tryd.prog 37 #[.int .i64 (w : Int)] W fun e W' => e = .returned (.bool true) ∧ W' = W))
    (CA : Hide (∀ W : World, Calls Tryd.prog 38 #[vecV (a0, a1), .int .i64 (w : Int)] W fun e W' => ListPost W c ((List.range c).map fa) e W'))
    (CB : Hide (∀ W : World, Calls Tryd.prog 38 #[vecV (b0, b1), .int .i64 (w : Int)] W fun e W' => ListPost W c ((List.range c).map fb) e W'))
    (CT : Hide (∀ i, i < c → ∀ W : World, Calls Tryd.prog 39 #[.int .u8 (op : Int), .int .i64 (w : Int), .int .u64 (fa i : Int), .int .u64 (fb i : Int)] W fun e W' => e = .returned (.tuple #[.int .u64 0, .int .i64 2]) ∧ W' = W))
    (CV : Hide (∀ (W : World) (g cap : Nat), XBlk W g c ((List.range c).map f) → Calls Tryd.prog 40 #[.int .i64 (w : Int), .slice (some ⟨g, 0, none⟩) c cap] W fun e W' => e = .returned (vecV (p, q)) ∧ Below W.heap.size W W'))
    (n4 : ((op : Int) == 4) = false)
    (n5 : ((op : Int) == 5) = false)
    (n6 : ((op : Int) == 6) = false)
    (n7 : ((op : Int) == 7) = false)
    (n11 : ((op : Int) == 11) = false)
    (n12 : ((op : Int) == 12) = false)
    (n13 : ((op : Int) == 13) = false)
    (n14 : ((op : Int) == 14) = false)
    (n15 : ((op : Int) == 15) = false)
    (W : World) :
    Calls Tryd.prog 10 #[.int .u8 (op : Int), .int .i64 (w : Int), vecV (a0, a1), vecV (b0, b1)] W fun e W' => e = .returned (vecE ((0, 0), 2)) ∧ Below W.heap.size W W' := by
  obtain ⟨wa, hwa⟩ : ∃ wa, ((W.alloc (.cells #[.int .u64 (a0 : Int), .int .u64 (a1 : Int)] 25)).alloc (.cells #[.int .u64 (b0 : Int), .int .u64 (b1 : Int)] 25)).alloc (.cells #[.int .u64 0, .int .u64 0] 25) = wa := ⟨_, rfl⟩
  have VA : Hide (VBlk wa W.heap.size (a0, a1)) := hide (by rw [← hwa]; exact alloc_past (alloc_past (alloc_at rfl)))
  have VB : Hide (VBlk wa (W.heap.size + 1) (b0, b1)) := hide (by rw [← hwa]; exact alloc_past (alloc_at (by simp)))
  have ZB : Hide (VBlk wa (W.heap.size + 1 + 1) (0, 0)) := hide (by rw [← hwa]; exact alloc_at (by simp))
  have BA : Hide (Below W.heap.size W wa) := hide (by rw [← hwa]; exact (((Below.refl _ _).alloc (Nat.le_refl _) _).alloc (by simp) _).alloc (by simp; omega) _)
  have HWA := hide hwa
  clear hwa
  unfold vecV at CA CB CV ⊢
  simp only at CA CB CV ⊢
  go_enter Tryd.func10, Tryd.ntmps10
  go_wp2_with ((with_reducible refine (CW.out _).mono ?_); rintro e w0 ⟨rfl, rfl⟩)
  rw [HWA.out]
  refine wp_region_par [31, 32, 33, 34, 35, 36, 10, 11] (ListsJ (.agg #[.int .u64 (a0 : Int), .int .u64 (a1 : Int)]) (.agg #[.int .u64 (b0 : Int), .int .u64 (b1 : Int)]) w c ((List.range c).map fa) ((List.range c).map fb) wa) (by kernel_rfl) (by kernel_rfl) ?_ ?_ ?_
  · intro vs
    exact ⟨(fun h => by cases h), (fun h => by cases h), (fun h => by cases h), (fun h => by cases h), (fun h => by cases h), (fun h => by cases h), (fun h => by cases h), (fun h => by cases h), (fun h => by cases h), (Below.refl _ _).drew⟩
  · intro d vs w1 hd hl hJ
    match vs, hl with
    | [x0, x1, x2, x3, x4, x5, x6, x7], _ =>
    obtain ⟨j0, j1, o2, j3, j4, o5, a6, a7, u2_5, jb⟩ := hJ
    obtain rfl := j0 (hd 0 (by decide))
    obtain rfl := j1 (hd 1 (by decide))
    obtain rfl := j3 (hd 3 (by decide))
    obtain rfl := j4 (hd 4 (by decide))
    have e6 := (a6 (hd 6 (by decide))).2
    simp only [List.getElem?_cons_zero, List.getElem?_cons_succ, Option.getD_some] at e6
    subst e6
    have e7 := (a7 (hd 7 (by decide))).2
    simp only [List.getElem?_cons_zero, List.getElem?_cons_succ, Option.getD_some] at e7
    subst e7
    obtain ⟨g1, cap1, e2, hg1, hc1, hx1⟩ := o2 (hd 2 (by decide))
    simp only [List.getElem?_cons_zero, List.getElem?_cons_succ, Option.getD_some] at e2
    subst e2
    obtain ⟨g2, cap2, e5, hg2, hc2, hx2⟩ := o5 (hd 5 (by decide))
    simp only [List.getElem?_cons_zero, List.getElem?_cons_succ, Option.getD_some] at e5
    subst e5
    have hne : g1 ≠ g2 := u2_5 (hd 2 (by decide)) (hd 5 (by decide))
    have JB := hide jb
    have K1 := hide hx1
    have K2 := hide hx2
    clear hd hl jb j0 j1 o2 j3 j4 o5 a6 a7 u2_5 hx1 hx2
    simp only [putL, Act.put, List.setIfInBounds_toArray, List.set_cons_succ, List.set_cons_zero]
    have ZW := hide (ZB.out.later JB.out ZB.out.lt)
    have BW := hide (BA.out.trans (JB.out.mono BA.out.size))
    have S0 : Hide (TwAt W (W.heap.size + 1 + 1) g1 g2 c (mixC c f fa 0) ((List.range c).map fb) w1) := hide ⟨ZW.out, by rw [mix_zero]; exact K1.out, K2.out, BW.out⟩
    have HG : Hide (W.heap.size + 1 + 1 < g1) := hide (by have := ZB.out.lt; omega)
    have HN : Hide (g2 ≠ g1) := hide (Ne.symm hne)
    clear K1 K2 BW JB ZW VA VB ZB BA HWA CA CB hne hg1 hg2 hc1 hc2
    go_wp2_with fail
    go_loopw [12] (fun x wr => ∃ k : Nat, x = .int .i64 (k : Int) ∧ k = 0 ∧ TwAt W (W.heap.size + 1 + 1) g1 g2 c (mixC c f fa k) ((List.range c).map fb) wr) (fun x _ => c - (intOf x).toNat)
    case atStart => exact ⟨0, rfl, rfl, S0.out⟩
    case round =>
      obtain ⟨k, rfl, hk, hr⟩ := hrel
      have H := hide hr
      clear hr S0
      have c00 : k < c := by omega
      clear hk
      by_cases c0 : k < c
      · have c1 : (k : Int) < (c : Int) := by omega
        have c2 : (k : Int) < 16 := by omega
        have hA : wr.cell? ⟨g1, k, none⟩ = some (.int .u64 (fa k : Int)) := by
          have := H.out.2.1.cell k c0
          rwa [mix_at c f fa k k c0, if_neg (by omega)] at this
        have hB : wr.cell? ⟨g2, k, none⟩ = some (.int .u64 (fb k : Int)) := by
          have := H.out.2.2.1.cell k c0
          rwa [show at0 ((List.range c).map fb) k = fb k by simp [at0, List.getElem?_range c0]] at this
        have hz : wr.frozen? ⟨g1, k, none⟩ = false := H.out.2.1.frozen k
        have ST := hide (mix_set c f fa k c0)
        have CK := hide (CT.out k c0)
        have HC := hide c0
        clear CT c0 c00
        generalize fa k = xa at *
        generalize fb k = xb at *
        have H3 := hide fun m => H.out.drewN m
        have z := H.out.1
        have r0 : wr.cell? ⟨W.heap.size + 1 + 1, 0, none⟩ = some (.int .u64 0) := z.c0
        have r1 : wr.cell? ⟨W.heap.size + 1 + 1, 1, none⟩ = some (.int .u64 0) := z.c1
        have z0 : wr.frozen? ⟨W.heap.size + 1 + 1, 0, none⟩ = false := z.frozen 0
        have z1 : wr.frozen? ⟨W.heap.size + 1 + 1, 1, none⟩ = false := z.frozen 1
        clear z
        go_wp2_with fail
        go_quiet (with_reducible refine Calls.quiet_of_same (CK.out _))
        go_wp2
        refine bodyPost_ret (v := vecE ((0, 0), 2)) (((H3.out _).1.set2 0 0).result2 (by rfl) _ rfl rfl) rfl ?_
        exact ⟨rfl, ((H3.out _).2.2.2.setCell (by simp; omega) _).setCell (by simp; omega) _⟩
      · exact absurd c00 c0
  · intro i o ho d vs w hl hJ hi hw
    match vs, hl with
    | [x0, x1, x2, x3, x4, x5, x6, x7], _ =>
    have hin : i < 8 := (List.getElem?_eq_some_iff.1 ho).1
    obtain ⟨j0, j1, o2, j3, j4, o5, a6, a7, u2_5, jb⟩ := hJ
    simp only [List.getElem?_cons_zero, List.getElem?_cons_succ, Option.some.injEq, Option.getD_some] at j0 j1 o2 j3 j4 o5 a6 a7 u2_5
    rcases (show i = 0 ∨ i = 1 ∨ i = 2 ∨ i = 3 ∨ i = 4 ∨ i = 5 ∨ i = 6 ∨ i = 7 by omega) with rfl | rfl | rfl | rfl | rfl | rfl | rfl | rfl
    · simp only [List.getElem?_cons_zero, List.getElem?_cons_succ, Option.some.injEq] at ho
      subst ho
      have h0 := (VA.out.later jb VA.out.lt).c0
      have h1 := (VA.out.later jb VA.out.lt).c1
      simp only [putL, Act.put, List.setIfInBounds_toArray, List.set_cons_succ, List.set_cons_zero] at h0 h1 ⊢
      go_wp2
      exact ⟨rfl, [_, x1, x2, x3, x4, x5, x6, x7], rfl, (by simp only [putL, Act.put, List.setIfInBounds_toArray, List.set_cons_succ, List.set_cons_zero]), (fun _ => rfl), j1, o2, j3, j4, o5, a6, a7, u2_5, jb⟩
    · simp only [List.getElem?_cons_zero, List.getElem?_cons_succ, Option.some.injEq] at ho
      subst ho
      simp only [putL, Act.put, List.setIfInBounds_toArray, List.set_cons_succ, List.set_cons_zero]
      go_wp2
      exact ⟨rfl, [x0, _, x2, x3, x4, x5, x6, x7], rfl, (by simp only [putL, Act.put, List.setIfInBounds_toArray, List.set_cons_succ, List.set_cons_zero]), j0, (fun _ => rfl), o2, j3, j4, o5, a6, a7, u2_5, jb⟩
    · simp only [List.getElem?_cons_zero, List.getElem?_cons_succ, Option.some.injEq] at ho
      subst ho
      obtain rfl := j0 (List.all_eq_true.1 hw 0 (by decide))
      obtain rfl := j1 (List.all_eq_true.1 hw 1 (by decide))
      simp only [putL, Act.put, List.setIfInBounds_toArray, List.set_cons_succ, List.set_cons_zero]
      go_wp2_with ((with_reducible refine (CA.out _).mono ?_); rintro e w1 hpost; obtain ⟨g, cap, hg, rfl, hcap, hx, hb⟩ := list_x hpost)
      exact ⟨rfl, [_, _, _, x3, x4, x5, x6, x7], rfl, (by simp only [putL, Act.put, List.setIfInBounds_toArray, List.set_cons_succ, List.set_cons_zero]), (fun _ => rfl), (fun _ => rfl), (fun _ => ⟨g, cap, rfl, Nat.le_trans jb.size hg, hcap, hx⟩), j3, j4, (o5.later hb), (fun h => nomatch ((a6 h).1.symm.trans hi)), a7, (fun _ h => Ne.symm (o5.ne h hg)), jb.trans (hb.mono jb.size)⟩
    · simp only [List.getElem?_cons_zero, List.getElem?_cons_succ, Option.some.injEq] at ho
      subst ho
      have h0 := (VB.out.later jb VB.out.lt).c0
      have h1 := (VB.out.later jb VB.out.lt).c1
      simp only [putL, Act.put, List.setIfInBounds_toArray, List.set_cons_succ, List.set_cons_zero] at h0 h1 ⊢
      go_wp2
      exact ⟨rfl, [x0, x1, x2, _, x4, x5, x6, x7], rfl, (by simp only [putL, Act.put, List.setIfInBounds_toArray, List.set_cons_succ, List.set_cons_zero]), j0, j1, o2, (fun _ => rfl), j4, o5, a6, a7, u2_5, jb⟩
    · simp only [List.getElem?_cons_zero, List.getElem?_cons_succ, Option.some.injEq] at ho
      subst ho
      simp only [putL, Act.put, List.setIfInBounds_toArray, List.set_cons_succ, List.set_cons_zero]
      go_wp2
      exact ⟨rfl, [x0, x1, x2, x3, _, x5, x6, x7], rfl, (by simp only [putL, Act.put, List.setIfInBounds_toArray, List.set_cons_succ, List.set_cons_zero]), j0, j1, o2, j3, (fun _ => rfl), o5, a6, a7, u2_5, jb⟩
    · simp only [List.getElem?_cons_zero, List.getElem?_cons_succ, Option.some.injEq] at ho
      subst ho
      obtain rfl := j3 (List.all_eq_true.1 hw 3 (by decide))
      obtain rfl := j4 (List.all_eq_true.1 hw 4 (by decide))
      simp only [putL, Act.put, List.setIfInBounds_toArray, List.set_cons_succ, List.set_cons_zero]
      go_wp2_with ((with_reducible refine (CB.out _).mono ?_); rintro e w1 hpost; obtain ⟨g, cap, hg, rfl, hcap, hx, hb⟩ := list_x hpost)
      exact ⟨rfl, [x0, x1, x2, _, _, _, x6, x7], rfl, (by simp only [putL, Act.put, List.setIfInBounds_toArray, List.set_cons_succ, List.set_cons_zero]), j0, j1, (o2.later hb), (fun _ => rfl), (fun _ => rfl), (fun _ => ⟨g, cap, rfl, Nat.le_trans jb.size hg, hcap, hx⟩), a6, (fun h => nomatch ((a7 h).1.symm.trans hi)), (fun h _ => o2.ne h hg), jb.trans (hb.mono jb.size)⟩
    · simp only [List.getElem?_cons_zero, List.getElem?_cons_succ, Option.some.injEq] at ho
      subst ho
      have hd : d 2 = true := List.all_eq_true.1 hw 2 (by decide)
      simp only [putL, Act.put, List.setIfInBounds_toArray, List.set_cons_succ, List.set_cons_zero]
      go_wp2
      exact ⟨rfl, [x0, x1, x2, x3, x4, x5, _, x7], rfl, (by simp only [putL, Act.put, List.setIfInBounds_toArray, List.set_cons_succ, List.set_cons_zero]), j0, j1, o2, j3, j4, o5, (fun _ => ⟨hd, rfl⟩), a7, u2_5, jb⟩
    · simp only [List.getElem?_cons_zero, List.getElem?_cons_succ, Option.some.injEq] at ho
      subst ho
      have hd : d 5 = true := List.all_eq_true.1 hw 5 (by decide)
      simp only [putL, Act.put, List.setIfInBounds_toArray, List.set_cons_succ, List.set_cons_zero]
      go_wp2
      exact ⟨rfl, [x0, x1, x2, x3, x4, x5, x6, _], rfl, (by simp only [putL, Act.put, List.setIfInBounds_toArray, List.set_cons_succ, List.set_cons_zero]), j0, j1, o2, j3, j4, o5, a6, (fun _ => ⟨hd, rfl⟩), u2_5, jb⟩

end Go.Proofs.YtoihfmammmkloaaDoor
/-
  The document's Two of lanes: all of it.
-/
set_option linter.unusedVariables false
set_option linter.unusedSimpArgs false
namespace Go.Proofs.YtoihfmammmkloaaDoor
open Go.RowKit Lan

set_option maxHeartbeats 2000000 in
theorem rv2_refused (op : Nat) (h : refused op = true) (w : Int) (a b : Nat × Nat) (W : World) :
    Calls Tryd.prog 10 #[.int .u8 (op : Int), .int .i64 w, vecV a, vecV b] W fun e W' => e = .returned (vecE ((0, 0), 2)) ∧ Below W.heap.size W W' := by
  have h' : op = 4 ∨ op = 5 ∨ op = 6 ∨ op = 7 ∨ op = 11 ∨ op = 12 ∨ op = 13 ∨ op = 14 ∨ op = 15 := by
    unfold refused at h; simp at h; omega
  clear h
  unfold vecV
  rcases h' with rfl | rfl | rfl | rfl | rfl | rfl | rfl | rfl | rfl <;>
  · go_enter Tryd.func10, Tryd.ntmps10
    go_wp2
    refine bodyPost_ret (v := vecE ((0, 0), 2)) (VBlk.result2 (v := (0, 0)) (alloc_at (g := W.heap.size + 1 + 1) (by simp)) (by rfl) _ rfl rfl) rfl ?_
    exact ⟨rfl, (((Below.refl _ _).alloc (Nat.le_refl _) _).alloc (by simp) _).alloc (by simp; omega) _⟩

set_option maxHeartbeats 2000000 in
theorem rv2_nowidth (op : Nat) (w : Int) (CW : Hide (∀ W : World, Calls Tryd.prog 37 #[.int .i64 w] W fun e W' => e = .returned (.bool false) ∧ W' = W)) (a b : Nat × Nat)
    (n4 : ((op : Int) == 4) = false)
    (n5 : ((op : Int) == 5) = false)
    (n6 : ((op : Int) == 6) = false)
    (n7 : ((op : Int) == 7) = false)
    (n11 : ((op : Int) == 11) = false)
    (n12 : ((op : Int) == 12) = false)
    (n13 : ((op : Int) == 13) = false)
    (n14 : ((op : Int) == 14) = false)
    (n15 : ((op : Int) == 15) = false)
    (W : World) :
    Calls Tryd.prog 10 #[.int .u8 (op : Int), .int .i64 w, vecV a, vecV b] W fun e W' => e = .returned (vecE ((0, 0), 2)) ∧ Below W.heap.size W W' := by
  unfold vecV
  go_enter Tryd.func10, Tryd.ntmps10
  go_wp2_with ((with_reducible refine (CW.out _).mono ?_); rintro e w0 ⟨rfl, rfl⟩)
  refine bodyPost_ret (v := vecE ((0, 0), 2)) (VBlk.result2 (v := (0, 0)) (alloc_at (g := W.heap.size + 1 + 1) (by simp)) (by rfl) _ rfl rfl) rfl ?_
  exact ⟨rfl, (((Below.refl _ _).alloc (Nat.le_refl _) _).alloc (by simp) _).alloc (by simp; omega) _⟩

theorem vec_call {w c : Nat} (hw : IsW w) (hc : 128 / w = c) {f : Nat → Nat} (hf : ∀ i, i < c → f i < 2 ^ w) (W : World) (g cap : Nat) (h : XBlk W g c ((List.range c).map f)) :
    Calls Tryd.prog 40 #[.int .i64 (w : Int), .slice (some ⟨g, 0, none⟩) c cap] W fun e W' => e = .returned (vecV (vlanes w f)) ∧ Below W.heap.size W W' := by
  unfold vlanes
  rw [hc]
  exact rvec_calls hw hc g 0 cap _ (map_lanes hf) W (fun i hi => by rw [Nat.zero_add]; exact h.cell i hi)
theorem list_call {w c : Nat} (hw : IsW w) (hc : 128 / w = c) (v : Nat × Nat) (W : World) :
    Calls Tryd.prog 38 #[vecV v, .int .i64 (w : Int)] W fun e W' => ListPost W c ((List.range c).map (laneN v w)) e W' := by
  have := rlist_calls hw hc v W
  rwa [show listN v w = (List.range c).map (laneN v w) by unfold listN; rw [hc]] at this
theorem c_of {w : Nat} (hw : IsW w) : ∃ c, 128 / w = c ∧ c ≤ 16 ∧ 2 ≤ c := ⟨_, rfl, by rcases hw with rfl | rfl | rfl | rfl <;> decide, by rcases hw with rfl | rfl | rfl | rfl <;> decide⟩
theorem width_true {w : Nat} (hw : IsW w) (W : World) : Calls Tryd.prog 37 #[.int .i64 (w : Int)] W fun e W' => e = .returned (.bool true) ∧ W' = W := by
  have := width_calls (w : Int) W
  rwa [(isW_iff w).2 ⟨w, rfl, hw⟩] at this
theorem width_false {w : Int} (hw : isW w = false) (W : World) : Calls Tryd.prog 37 #[.int .i64 w] W fun e W' => e = .returned (.bool false) ∧ W' = W := by
  have := width_calls w W
  rwa [hw] at this

theorem vlanes_zero {w : Nat} (hw : IsW w) : vlanes w (fun _ => 0) = (0, 0) := by
  rcases hw with rfl | rfl | rfl | rfl <;> decide

theorem rv2_calls (op w : Int) (h0 : 0 ≤ op) (a b : Nat × Nat) (W : World) :
    Calls Tryd.prog 10 #[.int .u8 op, .int .i64 w, vecV a, vecV b] W fun e W' => e = .returned (vecE (vtwo op w a b)) ∧ Below W.heap.size W W' := by
  obtain ⟨n, rfl⟩ := Int.eq_ofNat_of_zero_le h0
  unfold vtwo
  simp only [Int.toNat_natCast]
  cases hr : refused n with
  | true => exact rv2_refused n hr w a b W
  | false =>
    have nn : ∀ x : Nat, refused x = true → ((n : Int) == (x : Int)) = false := fun x hx => by
      simp
      intro e
      have : n = x := by omega
      subst this
      rw [hr] at hx; cases hx
    cases hw : isW w with
    | false => exact rv2_nowidth n w (hide (width_false hw)) a b (nn 4 rfl) (nn 5 rfl) (nn 6 rfl) (nn 7 rfl) (nn 11 rfl) (nn 12 rfl) (nn 13 rfl) (nn 14 rfl) (nn 15 rfl) W
    | true =>
      obtain ⟨m, rfl, hm⟩ := (isW_iff w).1 hw
      simp only [Int.toNat_natCast]
      obtain ⟨c, hc, hc16, hc2⟩ := c_of hm
      have la : ∀ i, Z.Of m (laneN a m i : Int) := fun i => zof (laneN_lt a m i)
      have lb : ∀ i, Z.Of m (laneN b m i : Int) := fun i => zof (laneN_lt b m i)
      have CT := fun i W => Z.RTwo_calls (zw hm) (n : Int) (laneN a m i : Int) (laneN b m i : Int) (by omega) (la i) (lb i) W
      unfold Z.pairV at CT
      simp only [Int.toNat_natCast] at CT
      cases ht : tok n m with
      | true =>
        have hf : ∀ i, i < c → vtwoN n m a b i < 2 ^ m := fun i _ => (zlt (two_ok ht (la i) (lb i)).1).1
        simp only [if_true, Bool.false_eq_true, if_false]
        have CV := fun W g cap h => vec_call hm hc hf W g cap h
        obtain ⟨⟨p, q⟩, hF⟩ : ∃ F, vlanes m (vtwoN n m a b) = F := ⟨_, rfl⟩
        rw [hF] at CV ⊢
        refine rv2_ok n m c a.1 a.2 b.1 b.2 p q (laneN a m) (laneN b m) (vtwoN n m a b) hc16 hc2 (hide (width_true hm)) (hide (list_call hm hc a)) (hide (list_call hm hc b)) (hide fun i hi W => ?_) (hide CV) (nn 4 rfl) (nn 5 rfl) (nn 6 rfl) (nn 7 rfl) (nn 11 rfl) (nn 12 rfl) (nn 13 rfl) (nn 14 rfl) (nn 15 rfl) W
        have := CT i W
        have e1 := (zlt (two_ok ht (la i) (lb i)).1).2
        have e2 := (two_ok ht (la i) (lb i)).2
        rw [e2, ← e1] at this
        exact this
      | false =>
        simp only [if_true, Bool.false_eq_true, if_false]
        refine rv2_bad n m c a.1 a.2 b.1 b.2 0 0 (laneN a m) (laneN b m) (fun _ => 0) hc16 hc2 (hide (width_true hm)) (hide (list_call hm hc a)) (hide (list_call hm hc b)) (hide fun i hi W => ?_) (hide fun W g cap h => ?_) (nn 4 rfl) (nn 5 rfl) (nn 6 rfl) (nn 7 rfl) (nn 11 rfl) (nn 12 rfl) (nn 13 rfl) (nn 14 rfl) (nn 15 rfl) W
        · have := CT i W
          rw [two_bad ht hr] at this
          exact this
        · have := vec_call hm hc (f := fun _ => 0) (fun i _ => Nat.two_pow_pos m) W g cap h
          rwa [vlanes_zero hm] at this
end Go.Proofs.YtoihfmammmkloaaDoor
/-
  The document's One of lanes.
-/
set_option linter.unusedVariables false
set_option linter.unusedSimpArgs false
namespace Go.Proofs.YtoihfmammmkloaaDoor
open Go.RowKit Lan

set_option maxHeartbeats 8000000 in
theorem rv1_28 (w c a0 a1 p q : Nat) (fa f : Nat → Nat) (hc16 : c ≤ 16) (hc2 : 2 ≤ c)
    (CW : Hide (∀ W : World, Calls Tryd.prog 37 #[.int .i64 (w : Int)] W fun e W' => e = .returned (.bool true) ∧ W' = W))
    (CA : Hide (∀ W : World, Calls Tryd.prog 38 #[vecV (a0, a1), .int .i64 (w : Int)] W fun e W' => ListPost W c ((List.range c).map fa) e W'))
    (CT : Hide (∀ i, i < c → ∀ W : World, Calls Tryd.prog 45 #[.int .u8 28, .int .i64 (w : Int), .int .u64 (fa i : Int)] W fun e W' => e = .returned (.tuple #[.int .u64 (f i : Int), .int .i64 0]) ∧ W' = W))
    (CV : Hide (∀ (W : World) (g cap : Nat), XBlk W g c ((List.range c).map f) → Calls Tryd.prog 40 #[.int .i64 (w : Int), .slice (some ⟨g, 0, none⟩) c cap] W fun e W' => e = .returned (vecV (p, q)) ∧ Below W.heap.size W W'))
    (W : World) :
    Calls Tryd.prog 13 #[.int .u8 28, .int .i64 (w : Int), vecV (a0, a1)] W fun e W' => e = .returned (vecE ((p, q), 0)) ∧ Below W.heap.size W W' := by
  obtain ⟨wa, hwa⟩ : ∃ wa, (W.alloc (.cells #[.int .u64 (a0 : Int), .int .u64 (a1 : Int)] 25)).alloc (.cells #[.int .u64 0, .int .u64 0] 25) = wa := ⟨_, rfl⟩
  have VA : Hide (VBlk wa W.heap.size (a0, a1)) := hide (by rw [← hwa]; exact alloc_past (alloc_at rfl))
  have ZB : Hide (VBlk wa (W.heap.size + 1) (0, 0)) := hide (by rw [← hwa]; exact alloc_at (by simp))
  have BA : Hide (Below W.heap.size W wa) := hide (by rw [← hwa]; exact ((Below.refl _ _).alloc (Nat.le_refl _) _).alloc (by simp) _)
  have HWA := hide hwa
  clear hwa
  unfold vecV at CA CV ⊢
  simp only at CA CV ⊢
  go_enter Tryd.func13, Tryd.ntmps13
  go_wp2_with ((with_reducible refine (CW.out _).mono ?_); rintro e w0 ⟨rfl, rfl⟩)
  rw [HWA.out]
  refine (CA.out _).mono ?_
  rintro e w1 hpost
  obtain ⟨g1, cap1, hg1, rfl, hcap, hx, hb⟩ := list_x hpost
  have ZW := hide (ZB.out.later hb ZB.out.lt)
  have BW := hide (BA.out.trans (hb.mono BA.out.size))
  have S0 : Hide (OnAt W (W.heap.size + 1) g1 c (mixC c f fa 0) w1) := hide ⟨ZW.out, by rw [mix_zero]; exact hx, BW.out⟩
  have HG : Hide (W.heap.size + 1 < g1) := hide (by have := ZB.out.lt; omega)
  clear hx hb hpost hg1 hcap ZW BW VA ZB BA HWA CA
  go_wp2_with fail
  go_loopw [9] (fun x wr => ∃ k : Nat, x = .int .i64 (k : Int) ∧ k ≤ c ∧ OnAt W (W.heap.size + 1) g1 c (mixC c f fa k) wr) (fun x _ => c - (intOf x).toNat)
  case atStart => exact ⟨0, rfl, by omega, S0.out⟩
  case round =>
    obtain ⟨k, rfl, hk, hr⟩ := hrel
    have H := hide hr
    clear hr S0
    by_cases c0 : k < c
    · have c1 : (k : Int) < (c : Int) := by omega
      have c2 : (k : Int) < 16 := by omega
      have hA : wr.cell? ⟨g1, k, none⟩ = some (.int .u64 (fa k : Int)) := by
        have := H.out.2.1.cell k c0
        rwa [mix_at c f fa k k c0, if_neg (by omega)] at this
      have hz : wr.frozen? ⟨g1, k, none⟩ = false := H.out.2.1.frozen k
      have ST := hide (mix_set c f fa k c0)
      have CK := hide (CT.out k c0)
      have HC := hide c0
      clear CT c0
      generalize fa k = xa at *
      generalize f k = y at *
      go_wp2_with ((with_reducible refine (CK.out _).mono ?_); rintro e w0 ⟨rfl, rfl⟩)
      go_roundw
      case rel => exact ⟨k + 1, by go_num, HC.out, by rw [← ST.out]; exact H.out.put (mix_length c f fa k) k y HC.out (by have := HG.out; omega) (by have := HG.out; omega)⟩
      case measure => have := HC.out; simp [intOf]; omega
    · obtain rfl : k = c := by omega
      rw [mix_all] at H
      have CK := hide (fun cap => CV.out wr g1 cap H.out.2.1)
      clear CT CV c0
      go_wp2_with fail
      refine (CK.out _).mono ?_
      rintro e w2 ⟨rfl, hb⟩
      have H2 := hide (H.out.later hb)
      have z := H2.out.1
      have r0 : w2.cell? ⟨W.heap.size + 1, 0, none⟩ = some (.int .u64 0) := z.c0
      have r1 : w2.cell? ⟨W.heap.size + 1, 1, none⟩ = some (.int .u64 0) := z.c1
      have z0 : w2.frozen? ⟨W.heap.size + 1, 0, none⟩ = false := z.frozen 0
      have z1 : w2.frozen? ⟨W.heap.size + 1, 1, none⟩ = false := z.frozen 1
      clear z
      clear hb H
      go_wp2
      refine bodyPost_ret (v := vecE ((p, q), 0)) ((H2.out.1.set2 p q).result2 (by rfl) _ rfl rfl) rfl ?_
      exact ⟨rfl, (H2.out.2.2.setCell (by simp) _).setCell (by simp) _⟩

set_option maxHeartbeats 8000000 in
theorem rv1_29 (w c a0 a1 p q : Nat) (fa f : Nat → Nat) (hc16 : c ≤ 16) (hc2 : 2 ≤ c)
    (CW : Hide (∀ W : World, Calls Tryd.prog 37 #[.int .i64 (w : Int)] W fun e W' => e = .returned (.bool true) ∧ W' = W))
    (CA : Hide (∀ W : World, Calls Tryd.prog 38 #[vecV (a0, a1), .int .i64 (w : Int)] W fun e W' => ListPost W c ((List.range c).map fa) e W'))
    (CT : Hide (∀ i, i < c → ∀ W : World, Calls Tryd.prog 45 #[.int .u8 29, .int .i64 (w : Int), .int .u64 (fa i : Int)] W fun e W' => e = .returned (.tuple #[.int .u64 (f i : Int), .int .i64 0]) ∧ W' = W))
    (CV : Hide (∀ (W : World) (g cap : Nat), XBlk W g c ((List.range c).map f) → Calls Tryd.prog 40 #[.int .i64 (w : Int), .slice (some ⟨g, 0, none⟩) c cap] W fun e W' => e = .returned (vecV (p, q)) ∧ Below W.heap.size W W'))
    (W : World) :
    Calls Tryd.prog 13 #[.int .u8 29, .int .i64 (w : Int), vecV (a0, a1)] W fun e W' => e = .returned (vecE ((p, q), 0)) ∧ Below W.heap.size W W' := by
  obtain ⟨wa, hwa⟩ : ∃ wa, (W.alloc (.cells #[.int .u64 (a0 : Int), .int .u64 (a1 : Int)] 25)).alloc (.cells #[.int .u64 0, .int .u64 0] 25) = wa := ⟨_, rfl⟩
  have VA : Hide (VBlk wa W.heap.size (a0, a1)) := hide (by rw [← hwa]; exact alloc_past (alloc_at rfl))
  have ZB : Hide (VBlk wa (W.heap.size + 1) (0, 0)) := hide (by rw [← hwa]; exact alloc_at (by simp))
  have BA : Hide (Below W.heap.size W wa) := hide (by rw [← hwa]; exact ((Below.refl _ _).alloc (Nat.le_refl _) _).alloc (by simp) _)
  have HWA := hide hwa
  clear hwa
  unfold vecV at CA CV ⊢
  simp only at CA CV ⊢
  go_enter Tryd.func13, Tryd.ntmps13
  go_wp2_with ((with_reducible refine (CW.out _).mono ?_); rintro e w0 ⟨rfl, rfl⟩)
  rw [HWA.out]
  refine (CA.out _).mono ?_
  rintro e w1 hpost
  obtain ⟨g1, cap1, hg1, rfl, hcap, hx, hb⟩ := list_x hpost
  have ZW := hide (ZB.out.later hb ZB.out.lt)
  have BW := hide (BA.out.trans (hb.mono BA.out.size))
  have S0 : Hide (OnAt W (W.heap.size + 1) g1 c (mixC c f fa 0) w1) := hide ⟨ZW.out, by rw [mix_zero]; exact hx, BW.out⟩
  have HG : Hide (W.heap.size + 1 < g1) := hide (by have := ZB.out.lt; omega)
  clear hx hb hpost hg1 hcap ZW BW VA ZB BA HWA CA
  go_wp2_with fail
  go_loopw [9] (fun x wr => ∃ k : Nat, x = .int .i64 (k : Int) ∧ k ≤ c ∧ OnAt W (W.heap.size + 1) g1 c (mixC c f fa k) wr) (fun x _ => c - (intOf x).toNat)
  case atStart => exact ⟨0, rfl, by omega, S0.out⟩
  case round =>
    obtain ⟨k, rfl, hk, hr⟩ := hrel
    have H := hide hr
    clear hr S0
    by_cases c0 : k < c
    · have c1 : (k : Int) < (c : Int) := by omega
      have c2 : (k : Int) < 16 := by omega
      have hA : wr.cell? ⟨g1, k, none⟩ = some (.int .u64 (fa k : Int)) := by
        have := H.out.2.1.cell k c0
        rwa [mix_at c f fa k k c0, if_neg (by omega)] at this
      have hz : wr.frozen? ⟨g1, k, none⟩ = false := H.out.2.1.frozen k
      have ST := hide (mix_set c f fa k c0)
      have CK := hide (CT.out k c0)
      have HC := hide c0
      clear CT c0
      generalize fa k = xa at *
      generalize f k = y at *
      go_wp2_with ((with_reducible refine (CK.out _).mono ?_); rintro e w0 ⟨rfl, rfl⟩)
      go_roundw
      case rel => exact ⟨k + 1, by go_num, HC.out, by rw [← ST.out]; exact H.out.put (mix_length c f fa k) k y HC.out (by have := HG.out; omega) (by have := HG.out; omega)⟩
      case measure => have := HC.out; simp [intOf]; omega
    · obtain rfl : k = c := by omega
      rw [mix_all] at H
      have CK := hide (fun cap => CV.out wr g1 cap H.out.2.1)
      clear CT CV c0
      go_wp2_with fail
      refine (CK.out _).mono ?_
      rintro e w2 ⟨rfl, hb⟩
      have H2 := hide (H.out.later hb)
      have z := H2.out.1
      have r0 : w2.cell? ⟨W.heap.size + 1, 0, none⟩ = some (.int .u64 0) := z.c0
      have r1 : w2.cell? ⟨W.heap.size + 1, 1, none⟩ = some (.int .u64 0) := z.c1
      have z0 : w2.frozen? ⟨W.heap.size + 1, 0, none⟩ = false := z.frozen 0
      have z1 : w2.frozen? ⟨W.heap.size + 1, 1, none⟩ = false := z.frozen 1
      clear z
      clear hb H
      go_wp2
      refine bodyPost_ret (v := vecE ((p, q), 0)) ((H2.out.1.set2 p q).result2 (by rfl) _ rfl rfl) rfl ?_
      exact ⟨rfl, (H2.out.2.2.setCell (by simp) _).setCell (by simp) _⟩

set_option maxHeartbeats 8000000 in
theorem rv1_30 (w c a0 a1 p q : Nat) (fa f : Nat → Nat) (hc16 : c ≤ 16) (hc2 : 2 ≤ c)
    (CW : Hide (∀ W : World, Calls Tryd.prog 37 #[.int .i64 (w : Int)] W fun e W' => e = .returned (.bool true) ∧ W' = W))
    (CA : Hide (∀ W : World, Calls Tryd.prog 38 #[vecV (a0, a1), .int .i64 (w : Int)] W fun e W' => ListPost W c ((List.range c).map fa) e W'))
    (CT : Hide (∀ i, i < c → ∀ W : World, Calls Tryd.prog 45 #[.int .u8 30, .int .i64 (w : Int), .int .u64 (fa i : Int)] W fun e W' => e = .returned (.tuple #[.int .u64 (f i : Int), .int .i64 0]) ∧ W' = W))
    (CV : Hide (∀ (W : World) (g cap : Nat), XBlk W g c ((List.range c).map f) → Calls Tryd.prog 40 #[.int .i64 (w : Int), .slice (some ⟨g, 0, none⟩) c cap] W fun e W' => e = .returned (vecV (p, q)) ∧ Below W.heap.size W W'))
    (W : World) :
    Calls Tryd.prog 13 #[.int .u8 30, .int .i64 (w : Int), vecV (a0, a1)] W fun e W' => e = .returned (vecE ((p, q), 0)) ∧ Below W.heap.size W W' := by
  obtain ⟨wa, hwa⟩ : ∃ wa, (W.alloc (.cells #[.int .u64 (a0 : Int), .int .u64 (a1 : Int)] 25)).alloc (.cells #[.int .u64 0, .int .u64 0] 25) = wa := ⟨_, rfl⟩
  have VA : Hide (VBlk wa W.heap.size (a0, a1)) := hide (by rw [← hwa]; exact alloc_past (alloc_at rfl))
  have ZB : Hide (VBlk wa (W.heap.size + 1) (0, 0)) := hide (by rw [← hwa]; exact alloc_at (by simp))
  have BA : Hide (Below W.heap.size W wa) := hide (by rw [← hwa]; exact ((Below.refl _ _).alloc (Nat.le_refl _) _).alloc (by simp) _)
  have HWA := hide hwa
  clear hwa
  unfold vecV at CA CV ⊢
  simp only at CA CV ⊢
  go_enter Tryd.func13, Tryd.ntmps13
  go_wp2_with ((with_reducible refine (CW.out _).mono ?_); rintro e w0 ⟨rfl, rfl⟩)
  rw [HWA.out]
  refine (CA.out _).mono ?_
  rintro e w1 hpost
  obtain ⟨g1, cap1, hg1, rfl, hcap, hx, hb⟩ := list_x hpost
  have ZW := hide (ZB.out.later hb ZB.out.lt)
  have BW := hide (BA.out.trans (hb.mono BA.out.size))
  have S0 : Hide (OnAt W (W.heap.size + 1) g1 c (mixC c f fa 0) w1) := hide ⟨ZW.out, by rw [mix_zero]; exact hx, BW.out⟩
  have HG : Hide (W.heap.size + 1 < g1) := hide (by have := ZB.out.lt; omega)
  clear hx hb hpost hg1 hcap ZW BW VA ZB BA HWA CA
  go_wp2_with fail
  go_loopw [9] (fun x wr => ∃ k : Nat, x = .int .i64 (k : Int) ∧ k ≤ c ∧ OnAt W (W.heap.size + 1) g1 c (mixC c f fa k) wr) (fun x _ => c - (intOf x).toNat)
  case atStart => exact ⟨0, rfl, by omega, S0.out⟩
  case round =>
    obtain ⟨k, rfl, hk, hr⟩ := hrel
    have H := hide hr
    clear hr S0
    by_cases c0 : k < c
    · have c1 : (k : Int) < (c : Int) := by omega
      have c2 : (k : Int) < 16 := by omega
      have hA : wr.cell? ⟨g1, k, none⟩ = some (.int .u64 (fa k : Int)) := by
        have := H.out.2.1.cell k c0
        rwa [mix_at c f fa k k c0, if_neg (by omega)] at this
      have hz : wr.frozen? ⟨g1, k, none⟩ = false := H.out.2.1.frozen k
      have ST := hide (mix_set c f fa k c0)
      have CK := hide (CT.out k c0)
      have HC := hide c0
      clear CT c0
      generalize fa k = xa at *
      generalize f k = y at *
      go_wp2_with ((with_reducible refine (CK.out _).mono ?_); rintro e w0 ⟨rfl, rfl⟩)
      go_roundw
      case rel => exact ⟨k + 1, by go_num, HC.out, by rw [← ST.out]; exact H.out.put (mix_length c f fa k) k y HC.out (by have := HG.out; omega) (by have := HG.out; omega)⟩
      case measure => have := HC.out; simp [intOf]; omega
    · obtain rfl : k = c := by omega
      rw [mix_all] at H
      have CK := hide (fun cap => CV.out wr g1 cap H.out.2.1)
      clear CT CV c0
      go_wp2_with fail
      refine (CK.out _).mono ?_
      rintro e w2 ⟨rfl, hb⟩
      have H2 := hide (H.out.later hb)
      have z := H2.out.1
      have r0 : w2.cell? ⟨W.heap.size + 1, 0, none⟩ = some (.int .u64 0) := z.c0
      have r1 : w2.cell? ⟨W.heap.size + 1, 1, none⟩ = some (.int .u64 0) := z.c1
      have z0 : w2.frozen? ⟨W.heap.size + 1, 0, none⟩ = false := z.frozen 0
      have z1 : w2.frozen? ⟨W.heap.size + 1, 1, none⟩ = false := z.frozen 1
      clear z
      clear hb H
      go_wp2
      refine bodyPost_ret (v := vecE ((p, q), 0)) ((H2.out.1.set2 p q).result2 (by rfl) _ rfl rfl) rfl ?_
      exact ⟨rfl, (H2.out.2.2.setCell (by simp) _).setCell (by simp) _⟩

set_option maxHeartbeats 8000000 in
theorem rv1_31 (w c a0 a1 p q : Nat) (fa f : Nat → Nat) (hc16 : c ≤ 16) (hc2 : 2 ≤ c)
    (CW : Hide (∀ W : World, Calls Tryd.prog 37 #[.int .i64 (w : Int)] W fun e W' => e = .returned (.bool true) ∧ W' = W))
    (CA : Hide (∀ W : World, Calls Tryd.prog 38 #[vecV (a0, a1), .int .i64 (w : Int)] W fun e W' => ListPost W c ((List.range c).map fa) e W'))
    (CT : Hide (∀ i, i < c → ∀ W : World, Calls Tryd.prog 45 #[.int .u8 31, .int .i64 (w : Int), .int .u64 (fa i : Int)] W fun e W' => e = .returned (.tuple #[.int .u64 (f i : Int), .int .i64 0]) ∧ W' = W))
    (CV : Hide (∀ (W : World) (g cap : Nat), XBlk W g c ((List.range c).map f) → Calls Tryd.prog 40 #[.int .i64 (w : Int), .slice (some ⟨g, 0, none⟩) c cap] W fun e W' => e = .returned (vecV (p, q)) ∧ Below W.heap.size W W'))
    (W : World) :
    Calls Tryd.prog 13 #[.int .u8 31, .int .i64 (w : Int), vecV (a0, a1)] W fun e W' => e = .returned (vecE ((p, q), 0)) ∧ Below W.heap.size W W' := by
  obtain ⟨wa, hwa⟩ : ∃ wa, (W.alloc (.cells #[.int .u64 (a0 : Int), .int .u64 (a1 : Int)] 25)).alloc (.cells #[.int .u64 0, .int .u64 0] 25) = wa := ⟨_, rfl⟩
  have VA : Hide (VBlk wa W.heap.size (a0, a1)) := hide (by rw [← hwa]; exact alloc_past (alloc_at rfl))
  have ZB : Hide (VBlk wa (W.heap.size + 1) (0, 0)) := hide (by rw [← hwa]; exact alloc_at (by simp))
  have BA : Hide (Below W.heap.size W wa) := hide (by rw [← hwa]; exact ((Below.refl _ _).alloc (Nat.le_refl _) _).alloc (by simp) _)
  have HWA := hide hwa
  clear hwa
  unfold vecV at CA CV ⊢
  simp only at CA CV ⊢
  go_enter Tryd.func13, Tryd.ntmps13
  go_wp2_with ((with_reducible refine (CW.out _).mono ?_); rintro e w0 ⟨rfl, rfl⟩)
  rw [HWA.out]
  refine (CA.out _).mono ?_
  rintro e w1 hpost
  obtain ⟨g1, cap1, hg1, rfl, hcap, hx, hb⟩ := list_x hpost
  have ZW := hide (ZB.out.later hb ZB.out.lt)
  have BW := hide (BA.out.trans (hb.mono BA.out.size))
  have S0 : Hide (OnAt W (W.heap.size + 1) g1 c (mixC c f fa 0) w1) := hide ⟨ZW.out, by rw [mix_zero]; exact hx, BW.out⟩
  have HG : Hide (W.heap.size + 1 < g1) := hide (by have := ZB.out.lt; omega)
  clear hx hb hpost hg1 hcap ZW BW VA ZB BA HWA CA
  go_wp2_with fail
  go_loopw [9] (fun x wr => ∃ k : Nat, x = .int .i64 (k : Int) ∧ k ≤ c ∧ OnAt W (W.heap.size + 1) g1 c (mixC c f fa k) wr) (fun x _ => c - (intOf x).toNat)
  case atStart => exact ⟨0, rfl, by omega, S0.out⟩
  case round =>
    obtain ⟨k, rfl, hk, hr⟩ := hrel
    have H := hide hr
    clear hr S0
    by_cases c0 : k < c
    · have c1 : (k : Int) < (c : Int) := by omega
      have c2 : (k : Int) < 16 := by omega
      have hA : wr.cell? ⟨g1, k, none⟩ = some (.int .u64 (fa k : Int)) := by
        have := H.out.2.1.cell k c0
        rwa [mix_at c f fa k k c0, if_neg (by omega)] at this
      have hz : wr.frozen? ⟨g1, k, none⟩ = false := H.out.2.1.frozen k
      have ST := hide (mix_set c f fa k c0)
      have CK := hide (CT.out k c0)
      have HC := hide c0
      clear CT c0
      generalize fa k = xa at *
      generalize f k = y at *
      go_wp2_with ((with_reducible refine (CK.out _).mono ?_); rintro e w0 ⟨rfl, rfl⟩)
      go_roundw
      case rel => exact ⟨k + 1, by go_num, HC.out, by rw [← ST.out]; exact H.out.put (mix_length c f fa k) k y HC.out (by have := HG.out; omega) (by have := HG.out; omega)⟩
      case measure => have := HC.out; simp [intOf]; omega
    · obtain rfl : k = c := by omega
      rw [mix_all] at H
      have CK := hide (fun cap => CV.out wr g1 cap H.out.2.1)
      clear CT CV c0
      go_wp2_with fail
      refine (CK.out _).mono ?_
      rintro e w2 ⟨rfl, hb⟩
      have H2 := hide (H.out.later hb)
      have z := H2.out.1
      have r0 : w2.cell? ⟨W.heap.size + 1, 0, none⟩ = some (.int .u64 0) := z.c0
      have r1 : w2.cell? ⟨W.heap.size + 1, 1, none⟩ = some (.int .u64 0) := z.c1
      have z0 : w2.frozen? ⟨W.heap.size + 1, 0, none⟩ = false := z.frozen 0
      have z1 : w2.frozen? ⟨W.heap.size + 1, 1, none⟩ = false := z.frozen 1
      clear z
      clear hb H
      go_wp2
      refine bodyPost_ret (v := vecE ((p, q), 0)) ((H2.out.1.set2 p q).result2 (by rfl) _ rfl rfl) rfl ?_
      exact ⟨rfl, (H2.out.2.2.setCell (by simp) _).setCell (by simp) _⟩

set_option maxHeartbeats 2000000 in
theorem rv1_nowidth (op : Int) (w : Int) (CW : Hide (∀ W : World, Calls Tryd.prog 37 #[.int .i64 w] W fun e W' => e = .returned (.bool false) ∧ W' = W)) (a : Nat × Nat) (W : World) :
    Calls Tryd.prog 13 #[.int .u8 op, .int .i64 w, vecV a] W fun e W' => e = .returned (vecE ((0, 0), 2)) ∧ Below W.heap.size W W' := by
  unfold vecV
  go_enter Tryd.func13, Tryd.ntmps13
  go_wp2_with ((with_reducible refine (CW.out _).mono ?_); rintro e w0 ⟨rfl, rfl⟩)
  refine bodyPost_ret (v := vecE ((0, 0), 2)) (VBlk.result2 (v := (0, 0)) (alloc_at (g := W.heap.size + 1) (by simp)) (by rfl) _ rfl rfl) rfl ?_
  exact ⟨rfl, ((Below.refl _ _).alloc (Nat.le_refl _) _).alloc (by simp) _⟩
set_option maxHeartbeats 2000000 in
theorem rv1_noop (op : Int) (n28 : ((op : Int) != 28) = true) (n29 : ((op : Int) != 29) = true) (n30 : ((op : Int) != 30) = true) (n31 : ((op : Int) != 31) = true) (w : Int) (CW : Hide (∀ W : World, Calls Tryd.prog 37 #[.int .i64 w] W fun e W' => e = .returned (.bool true) ∧ W' = W)) (a : Nat × Nat) (W : World) :
    Calls Tryd.prog 13 #[.int .u8 op, .int .i64 w, vecV a] W fun e W' => e = .returned (vecE ((0, 0), 2)) ∧ Below W.heap.size W W' := by
  unfold vecV
  go_enter Tryd.func13, Tryd.ntmps13
  go_wp2_with ((with_reducible refine (CW.out _).mono ?_); rintro e w0 ⟨rfl, rfl⟩)
  refine bodyPost_ret (v := vecE ((0, 0), 2)) (VBlk.result2 (v := (0, 0)) (alloc_at (g := W.heap.size + 1) (by simp)) (by rfl) _ rfl rfl) rfl ?_
  exact ⟨rfl, ((Below.refl _ _).alloc (Nat.le_refl _) _).alloc (by simp) _⟩

end Go.Proofs.YtoihfmammmkloaaDoor
/-
  The document's Shift of lanes.
-/
set_option linter.unusedVariables false
set_option linter.unusedSimpArgs false
namespace Go.Proofs.YtoihfmammmkloaaDoor
open Go.RowKit Lan

set_option maxHeartbeats 8000000 in
theorem rvs_11 (w c a0 a1 p q : Nat) (fa f : Nat → Nat) (hc16 : c ≤ 16) (hc2 : 2 ≤ c) (n r : Nat) (hw1 : (w : Int) ≠ 0) (hw0 : ((w : Int) == 0) = false) (hu : IntKind.u64.wrap (w : Int) = (w : Int)) (hr1 : Int.tmod (n : Int) (w : Int) = (r : Int)) (hr2 : (n : Int) % (w : Int) = (r : Int))
    (CW : Hide (∀ W : World, Calls Tryd.prog 37 #[.int .i64 (w : Int)] W fun e W' => e = .returned (.bool true) ∧ W' = W))
    (CA : Hide (∀ W : World, Calls Tryd.prog 38 #[vecV (a0, a1), .int .i64 (w : Int)] W fun e W' => ListPost W c ((List.range c).map fa) e W'))
    (CT : Hide (∀ i, i < c → ∀ W : World, Calls Tryd.prog 39 #[.int .u8 11, .int .i64 (w : Int), .int .u64 (fa i : Int), .int .u64 (r : Int)] W fun e W' => e = .returned (.tuple #[.int .u64 (f i : Int), .int .i64 0]) ∧ W' = W))
    (CV : Hide (∀ (W : World) (g cap : Nat), XBlk W g c ((List.range c).map f) → Calls Tryd.prog 40 #[.int .i64 (w : Int), .slice (some ⟨g, 0, none⟩) c cap] W fun e W' => e = .returned (vecV (p, q)) ∧ Below W.heap.size W W'))
    (W : World) :
    Calls Tryd.prog 15 #[.int .u8 11, .int .i64 (w : Int), vecV (a0, a1), .int .u64 (n : Int)] W fun e W' => e = .returned (vecE ((p, q), 0)) ∧ Below W.heap.size W W' := by
  obtain ⟨wa, hwa⟩ : ∃ wa, (W.alloc (.cells #[.int .u64 (a0 : Int), .int .u64 (a1 : Int)] 25)).alloc (.cells #[.int .u64 0, .int .u64 0] 25) = wa := ⟨_, rfl⟩
  have VA : Hide (VBlk wa W.heap.size (a0, a1)) := hide (by rw [← hwa]; exact alloc_past (alloc_at rfl))
  have ZB : Hide (VBlk wa (W.heap.size + 1) (0, 0)) := hide (by rw [← hwa]; exact alloc_at (by simp))
  have BA : Hide (Below W.heap.size W wa) := hide (by rw [← hwa]; exact ((Below.refl _ _).alloc (Nat.le_refl _) _).alloc (by simp) _)
  have HWA := hide hwa
  clear hwa
  unfold vecV at CA CV ⊢
  simp only at CA CV ⊢
  go_enter Tryd.func15, Tryd.ntmps15
  go_wp2_with ((with_reducible refine (CW.out _).mono ?_); rintro e w0 ⟨rfl, rfl⟩)
  rw [HWA.out]
  refine (CA.out _).mono ?_
  rintro e w1 hpost
  obtain ⟨g1, cap1, hg1, rfl, hcap, hx, hb⟩ := list_x hpost
  have ZW := hide (ZB.out.later hb ZB.out.lt)
  have BW := hide (BA.out.trans (hb.mono BA.out.size))
  have S0 : Hide (OnAt W (W.heap.size + 1) g1 c (mixC c f fa 0) w1) := hide ⟨ZW.out, by rw [mix_zero]; exact hx, BW.out⟩
  have HG : Hide (W.heap.size + 1 < g1) := hide (by have := ZB.out.lt; omega)
  clear hx hb hpost hg1 hcap ZW BW VA ZB BA HWA CA
  go_wp2_with fail
  go_loopw [11] (fun x wr => ∃ k : Nat, x = .int .i64 (k : Int) ∧ k ≤ c ∧ OnAt W (W.heap.size + 1) g1 c (mixC c f fa k) wr) (fun x _ => c - (intOf x).toNat)
  case atStart => exact ⟨0, rfl, by omega, S0.out⟩
  case round =>
    obtain ⟨k, rfl, hk, hr⟩ := hrel
    have H := hide hr
    clear hr S0
    by_cases c0 : k < c
    · have c1 : (k : Int) < (c : Int) := by omega
      have c2 : (k : Int) < 16 := by omega
      have hA : wr.cell? ⟨g1, k, none⟩ = some (.int .u64 (fa k : Int)) := by
        have := H.out.2.1.cell k c0
        rwa [mix_at c f fa k k c0, if_neg (by omega)] at this
      have hz : wr.frozen? ⟨g1, k, none⟩ = false := H.out.2.1.frozen k
      have ST := hide (mix_set c f fa k c0)
      have CK := hide (CT.out k c0)
      have HC := hide c0
      clear CT c0
      generalize fa k = xa at *
      generalize f k = y at *
      go_wp2_with fail
      go_quiet (with_reducible refine Calls.quiet_of_same (CK.out _))
      go_wp2
      go_roundw
      case rel => exact ⟨k + 1, by go_num, HC.out, by rw [← ST.out]; exact (H.out.drewN _).put (mix_length c f fa k) k y HC.out (by have := HG.out; omega) (by have := HG.out; omega)⟩
      case measure => have := HC.out; simp [intOf]; omega
    · obtain rfl : k = c := by omega
      rw [mix_all] at H
      have CK := hide (fun cap => CV.out wr g1 cap H.out.2.1)
      clear CT CV c0
      go_wp2_with fail
      refine (CK.out _).mono ?_
      rintro e w2 ⟨rfl, hb⟩
      have H2 := hide (H.out.later hb)
      have z := H2.out.1
      have r0 : w2.cell? ⟨W.heap.size + 1, 0, none⟩ = some (.int .u64 0) := z.c0
      have r1 : w2.cell? ⟨W.heap.size + 1, 1, none⟩ = some (.int .u64 0) := z.c1
      have z0 : w2.frozen? ⟨W.heap.size + 1, 0, none⟩ = false := z.frozen 0
      have z1 : w2.frozen? ⟨W.heap.size + 1, 1, none⟩ = false := z.frozen 1
      clear z
      clear hb H
      go_wp2
      refine bodyPost_ret (v := vecE ((p, q), 0)) ((H2.out.1.set2 p q).result2 (by rfl) _ rfl rfl) rfl ?_
      exact ⟨rfl, (H2.out.2.2.setCell (by simp) _).setCell (by simp) _⟩

set_option maxHeartbeats 8000000 in
theorem rvs_12 (w c a0 a1 p q : Nat) (fa f : Nat → Nat) (hc16 : c ≤ 16) (hc2 : 2 ≤ c) (n r : Nat) (hw1 : (w : Int) ≠ 0) (hw0 : ((w : Int) == 0) = false) (hu : IntKind.u64.wrap (w : Int) = (w : Int)) (hr1 : Int.tmod (n : Int) (w : Int) = (r : Int)) (hr2 : (n : Int) % (w : Int) = (r : Int))
    (CW : Hide (∀ W : World, Calls Tryd.prog 37 #[.int .i64 (w : Int)] W fun e W' => e = .returned (.bool true) ∧ W' = W))
    (CA : Hide (∀ W : World, Calls Tryd.prog 38 #[vecV (a0, a1), .int .i64 (w : Int)] W fun e W' => ListPost W c ((List.range c).map fa) e W'))
    (CT : Hide (∀ i, i < c → ∀ W : World, Calls Tryd.prog 39 #[.int .u8 12, .int .i64 (w : Int), .int .u64 (fa i : Int), .int .u64 (r : Int)] W fun e W' => e = .returned (.tuple #[.int .u64 (f i : Int), .int .i64 0]) ∧ W' = W))
    (CV : Hide (∀ (W : World) (g cap : Nat), XBlk W g c ((List.range c).map f) → Calls Tryd.prog 40 #[.int .i64 (w : Int), .slice (some ⟨g, 0, none⟩) c cap] W fun e W' => e = .returned (vecV (p, q)) ∧ Below W.heap.size W W'))
    (W : World) :
    Calls Tryd.prog 15 #[.int .u8 12, .int .i64 (w : Int), vecV (a0, a1), .int .u64 (n : Int)] W fun e W' => e = .returned (vecE ((p, q), 0)) ∧ Below W.heap.size W W' := by
  obtain ⟨wa, hwa⟩ : ∃ wa, (W.alloc (.cells #[.int .u64 (a0 : Int), .int .u64 (a1 : Int)] 25)).alloc (.cells #[.int .u64 0, .int .u64 0] 25) = wa := ⟨_, rfl⟩
  have VA : Hide (VBlk wa W.heap.size (a0, a1)) := hide (by rw [← hwa]; exact alloc_past (alloc_at rfl))
  have ZB : Hide (VBlk wa (W.heap.size + 1) (0, 0)) := hide (by rw [← hwa]; exact alloc_at (by simp))
  have BA : Hide (Below W.heap.size W wa) := hide (by rw [← hwa]; exact ((Below.refl _ _).alloc (Nat.le_refl _) _).alloc (by simp) _)
  have HWA := hide hwa
  clear hwa
  unfold vecV at CA CV ⊢
  simp only at CA CV ⊢
  go_enter Tryd.func15, Tryd.ntmps15
  go_wp2_with ((with_reducible refine (CW.out _).mono ?_); rintro e w0 ⟨rfl, rfl⟩)
  rw [HWA.out]
  refine (CA.out _).mono ?_
  rintro e w1 hpost
  obtain ⟨g1, cap1, hg1, rfl, hcap, hx, hb⟩ := list_x hpost
  have ZW := hide (ZB.out.later hb ZB.out.lt)
  have BW := hide (BA.out.trans (hb.mono BA.out.size))
  have S0 : Hide (OnAt W (W.heap.size + 1) g1 c (mixC c f fa 0) w1) := hide ⟨ZW.out, by rw [mix_zero]; exact hx, BW.out⟩
  have HG : Hide (W.heap.size + 1 < g1) := hide (by have := ZB.out.lt; omega)
  clear hx hb hpost hg1 hcap ZW BW VA ZB BA HWA CA
  go_wp2_with fail
  go_loopw [11] (fun x wr => ∃ k : Nat, x = .int .i64 (k : Int) ∧ k ≤ c ∧ OnAt W (W.heap.size + 1) g1 c (mixC c f fa k) wr) (fun x _ => c - (intOf x).toNat)
  case atStart => exact ⟨0, rfl, by omega, S0.out⟩
  case round =>
    obtain ⟨k, rfl, hk, hr⟩ := hrel
    have H := hide hr
    clear hr S0
    by_cases c0 : k < c
    · have c1 : (k : Int) < (c : Int) := by omega
      have c2 : (k : Int) < 16 := by omega
      have hA : wr.cell? ⟨g1, k, none⟩ = some (.int .u64 (fa k : Int)) := by
        have := H.out.2.1.cell k c0
        rwa [mix_at c f fa k k c0, if_neg (by omega)] at this
      have hz : wr.frozen? ⟨g1, k, none⟩ = false := H.out.2.1.frozen k
      have ST := hide (mix_set c f fa k c0)
      have CK := hide (CT.out k c0)
      have HC := hide c0
      clear CT c0
      generalize fa k = xa at *
      generalize f k = y at *
      go_wp2_with fail
      go_quiet (with_reducible refine Calls.quiet_of_same (CK.out _))
      go_wp2
      go_roundw
      case rel => exact ⟨k + 1, by go_num, HC.out, by rw [← ST.out]; exact (H.out.drewN _).put (mix_length c f fa k) k y HC.out (by have := HG.out; omega) (by have := HG.out; omega)⟩
      case measure => have := HC.out; simp [intOf]; omega
    · obtain rfl : k = c := by omega
      rw [mix_all] at H
      have CK := hide (fun cap => CV.out wr g1 cap H.out.2.1)
      clear CT CV c0
      go_wp2_with fail
      refine (CK.out _).mono ?_
      rintro e w2 ⟨rfl, hb⟩
      have H2 := hide (H.out.later hb)
      have z := H2.out.1
      have r0 : w2.cell? ⟨W.heap.size + 1, 0, none⟩ = some (.int .u64 0) := z.c0
      have r1 : w2.cell? ⟨W.heap.size + 1, 1, none⟩ = some (.int .u64 0) := z.c1
      have z0 : w2.frozen? ⟨W.heap.size + 1, 0, none⟩ = false := z.frozen 0
      have z1 : w2.frozen? ⟨W.heap.size + 1, 1, none⟩ = false := z.frozen 1
      clear z
      clear hb H
      go_wp2
      refine bodyPost_ret (v := vecE ((p, q), 0)) ((H2.out.1.set2 p q).result2 (by rfl) _ rfl rfl) rfl ?_
      exact ⟨rfl, (H2.out.2.2.setCell (by simp) _).setCell (by simp) _⟩

set_option maxHeartbeats 8000000 in
theorem rvs_13 (w c a0 a1 p q : Nat) (fa f : Nat → Nat) (hc16 : c ≤ 16) (hc2 : 2 ≤ c) (n r : Nat) (hw1 : (w : Int) ≠ 0) (hw0 : ((w : Int) == 0) = false) (hu : IntKind.u64.wrap (w : Int) = (w : Int)) (hr1 : Int.tmod (n : Int) (w : Int) = (r : Int)) (hr2 : (n : Int) % (w : Int) = (r : Int))
    (CW : Hide (∀ W : World, Calls Tryd.prog 37 #[.int .i64 (w : Int)] W fun e W' => e = .returned (.bool true) ∧ W' = W))
    (CA : Hide (∀ W : World, Calls Tryd.prog 38 #[vecV (a0, a1), .int .i64 (w : Int)] W fun e W' => ListPost W c ((List.range c).map fa) e W'))
    (CT : Hide (∀ i, i < c → ∀ W : World, Calls Tryd.prog 39 #[.int .u8 13, .int .i64 (w : Int), .int .u64 (fa i : Int), .int .u64 (r : Int)] W fun e W' => e = .returned (.tuple #[.int .u64 (f i : Int), .int .i64 0]) ∧ W' = W))
    (CV : Hide (∀ (W : World) (g cap : Nat), XBlk W g c ((List.range c).map f) → Calls Tryd.prog 40 #[.int .i64 (w : Int), .slice (some ⟨g, 0, none⟩) c cap] W fun e W' => e = .returned (vecV (p, q)) ∧ Below W.heap.size W W'))
    (W : World) :
    Calls Tryd.prog 15 #[.int .u8 13, .int .i64 (w : Int), vecV (a0, a1), .int .u64 (n : Int)] W fun e W' => e = .returned (vecE ((p, q), 0)) ∧ Below W.heap.size W W' := by
  obtain ⟨wa, hwa⟩ : ∃ wa, (W.alloc (.cells #[.int .u64 (a0 : Int), .int .u64 (a1 : Int)] 25)).alloc (.cells #[.int .u64 0, .int .u64 0] 25) = wa := ⟨_, rfl⟩
  have VA : Hide (VBlk wa W.heap.size (a0, a1)) := hide (by rw [← hwa]; exact alloc_past (alloc_at rfl))
  have ZB : Hide (VBlk wa (W.heap.size + 1) (0, 0)) := hide (by rw [← hwa]; exact alloc_at (by simp))
  have BA : Hide (Below W.heap.size W wa) := hide (by rw [← hwa]; exact ((Below.refl _ _).alloc (Nat.le_refl _) _).alloc (by simp) _)
  have HWA := hide hwa
  clear hwa
  unfold vecV at CA CV ⊢
  simp only at CA CV ⊢
  go_enter Tryd.func15, Tryd.ntmps15
  go_wp2_with ((with_reducible refine (CW.out _).mono ?_); rintro e w0 ⟨rfl, rfl⟩)
  rw [HWA.out]
  refine (CA.out _).mono ?_
  rintro e w1 hpost
  obtain ⟨g1, cap1, hg1, rfl, hcap, hx, hb⟩ := list_x hpost
  have ZW := hide (ZB.out.later hb ZB.out.lt)
  have BW := hide (BA.out.trans (hb.mono BA.out.size))
  have S0 : Hide (OnAt W (W.heap.size + 1) g1 c (mixC c f fa 0) w1) := hide ⟨ZW.out, by rw [mix_zero]; exact hx, BW.out⟩
  have HG : Hide (W.heap.size + 1 < g1) := hide (by have := ZB.out.lt; omega)
  clear hx hb hpost hg1 hcap ZW BW VA ZB BA HWA CA
  go_wp2_with fail
  go_loopw [11] (fun x wr => ∃ k : Nat, x = .int .i64 (k : Int) ∧ k ≤ c ∧ OnAt W (W.heap.size + 1) g1 c (mixC c f fa k) wr) (fun x _ => c - (intOf x).toNat)
  case atStart => exact ⟨0, rfl, by omega, S0.out⟩
  case round =>
    obtain ⟨k, rfl, hk, hr⟩ := hrel
    have H := hide hr
    clear hr S0
    by_cases c0 : k < c
    · have c1 : (k : Int) < (c : Int) := by omega
      have c2 : (k : Int) < 16 := by omega
      have hA : wr.cell? ⟨g1, k, none⟩ = some (.int .u64 (fa k : Int)) := by
        have := H.out.2.1.cell k c0
        rwa [mix_at c f fa k k c0, if_neg (by omega)] at this
      have hz : wr.frozen? ⟨g1, k, none⟩ = false := H.out.2.1.frozen k
      have ST := hide (mix_set c f fa k c0)
      have CK := hide (CT.out k c0)
      have HC := hide c0
      clear CT c0
      generalize fa k = xa at *
      generalize f k = y at *
      go_wp2_with fail
      go_quiet (with_reducible refine Calls.quiet_of_same (CK.out _))
      go_wp2
      go_roundw
      case rel => exact ⟨k + 1, by go_num, HC.out, by rw [← ST.out]; exact (H.out.drewN _).put (mix_length c f fa k) k y HC.out (by have := HG.out; omega) (by have := HG.out; omega)⟩
      case measure => have := HC.out; simp [intOf]; omega
    · obtain rfl : k = c := by omega
      rw [mix_all] at H
      have CK := hide (fun cap => CV.out wr g1 cap H.out.2.1)
      clear CT CV c0
      go_wp2_with fail
      refine (CK.out _).mono ?_
      rintro e w2 ⟨rfl, hb⟩
      have H2 := hide (H.out.later hb)
      have z := H2.out.1
      have r0 : w2.cell? ⟨W.heap.size + 1, 0, none⟩ = some (.int .u64 0) := z.c0
      have r1 : w2.cell? ⟨W.heap.size + 1, 1, none⟩ = some (.int .u64 0) := z.c1
      have z0 : w2.frozen? ⟨W.heap.size + 1, 0, none⟩ = false := z.frozen 0
      have z1 : w2.frozen? ⟨W.heap.size + 1, 1, none⟩ = false := z.frozen 1
      clear z
      clear hb H
      go_wp2
      refine bodyPost_ret (v := vecE ((p, q), 0)) ((H2.out.1.set2 p q).result2 (by rfl) _ rfl rfl) rfl ?_
      exact ⟨rfl, (H2.out.2.2.setCell (by simp) _).setCell (by simp) _⟩

set_option maxHeartbeats 2000000 in
theorem rvs_nowidth (op : Int) (w : Int) (CW : Hide (∀ W : World, Calls Tryd.prog 37 #[.int .i64 w] W fun e W' => e = .returned (.bool false) ∧ W' = W)) (a : Nat × Nat) (n : Nat) (W : World) :
    Calls Tryd.prog 15 #[.int .u8 op, .int .i64 w, vecV a, .int .u64 (n : Int)] W fun e W' => e = .returned (vecE ((0, 0), 2)) ∧ Below W.heap.size W W' := by
  unfold vecV
  go_enter Tryd.func15, Tryd.ntmps15
  go_wp2_with ((with_reducible refine (CW.out _).mono ?_); rintro e w0 ⟨rfl, rfl⟩)
  refine bodyPost_ret (v := vecE ((0, 0), 2)) (VBlk.result2 (v := (0, 0)) (alloc_at (g := W.heap.size + 1) (by simp)) (by rfl) _ rfl rfl) rfl ?_
  exact ⟨rfl, ((Below.refl _ _).alloc (Nat.le_refl _) _).alloc (by simp) _⟩
set_option maxHeartbeats 2000000 in
theorem rvs_noop (op : Int) (n11 : ((op : Int) != 11) = true) (n12 : ((op : Int) != 12) = true) (n13 : ((op : Int) != 13) = true) (w : Int) (CW : Hide (∀ W : World, Calls Tryd.prog 37 #[.int .i64 w] W fun e W' => e = .returned (.bool true) ∧ W' = W)) (a : Nat × Nat) (n : Nat) (W : World) :
    Calls Tryd.prog 15 #[.int .u8 op, .int .i64 w, vecV a, .int .u64 (n : Int)] W fun e W' => e = .returned (vecE ((0, 0), 2)) ∧ Below W.heap.size W W' := by
  unfold vecV
  go_enter Tryd.func15, Tryd.ntmps15
  go_wp2_with ((with_reducible refine (CW.out _).mono ?_); rintro e w0 ⟨rfl, rfl⟩)
  refine bodyPost_ret (v := vecE ((0, 0), 2)) (VBlk.result2 (v := (0, 0)) (alloc_at (g := W.heap.size + 1) (by simp)) (by rfl) _ rfl rfl) rfl ?_
  exact ⟨rfl, ((Below.refl _ _).alloc (Nat.le_refl _) _).alloc (by simp) _⟩

end Go.Proofs.YtoihfmammmkloaaDoor
/-
  The document's Than of lanes.
-/
set_option linter.unusedVariables false
set_option linter.unusedSimpArgs false
namespace Go.Proofs.YtoihfmammmkloaaDoor
open Go.RowKit Lan

set_option maxHeartbeats 8000000 in
theorem rvt_ok (op w c a0 a1 b0 b1 p q : Nat) (fa fb f : Nat → Nat) (hc16 : c ≤ 16) (hc2 : 2 ≤ c)
    (tt : Nat → Bool) (m : Nat) (HT : Hide (∀ i, f i = if tt i then m else 0)) (CM : Hide (∀ W : World, Calls Tryd.prog 50 #[.int .i64 (w : Int)] W fun e W' => e = .returned (.int .u64 (m : Int)) ∧ W' = W))
    (CW : Hide (∀ W : World, Calls Tryd.prog 37 #[.int .i64 (w : Int)] W fun e W' => e = .returned (.bool true) ∧ W' = W))
    (CA : Hide (∀ W : World, Calls Tryd.prog 38 #[vecV (a0, a1), .int .i64 (w : Int)] W fun e W' => ListPost W c ((List.range c).map fa) e W'))
    (CB : Hide (∀ W : World, Calls Tryd.prog 38 #[vecV (b0, b1), .int .i64 (w : Int)] W fun e W' => ListPost W c ((List.range c).map fb) e W'))
    (CT : Hide (∀ i, i < c → ∀ W : World, Calls Tryd.prog 49 #[.int .u8 (op : Int), .int .i64 (w : Int), .int .u64 (fa i : Int), .int .u64 (fb i : Int)] W fun e W' => e = .returned (.tuple #[.bool (tt i), .int .i64 0]) ∧ W' = W))
    (CV : Hide (∀ (W : World) (g cap : Nat), XBlk W g c ((List.range c).map f) → Calls Tryd.prog 40 #[.int .i64 (w : Int), .slice (some ⟨g, 0, none⟩) c cap] W fun e W' => e = .returned (vecV (p, q)) ∧ Below W.heap.size W W'))
    (W : World) :
    Calls Tryd.prog 17 #[.int .u8 (op : Int), .int .i64 (w : Int), vecV (a0, a1), vecV (b0, b1)] W fun e W' => e = .returned (vecE ((p, q), 0)) ∧ Below W.heap.size W W' := by
  obtain ⟨wa, hwa⟩ : ∃ wa, ((W.alloc (.cells #[.int .u64 (a0 : Int), .int .u64 (a1 : Int)] 25)).alloc (.cells #[.int .u64 (b0 : Int), .int .u64 (b1 : Int)] 25)).alloc (.cells #[.int .u64 0, .int .u64 0] 25) = wa := ⟨_, rfl⟩
  have VA : Hide (VBlk wa W.heap.size (a0, a1)) := hide (by rw [← hwa]; exact alloc_past (alloc_past (alloc_at rfl)))
  have VB : Hide (VBlk wa (W.heap.size + 1) (b0, b1)) := hide (by rw [← hwa]; exact alloc_past (alloc_at (by simp)))
  have ZB : Hide (VBlk wa (W.heap.size + 1 + 1) (0, 0)) := hide (by rw [← hwa]; exact alloc_at (by simp))
  have BA : Hide (Below W.heap.size W wa) := hide (by rw [← hwa]; exact (((Below.refl _ _).alloc (Nat.le_refl _) _).alloc (by simp) _).alloc (by simp; omega) _)
  have HWA := hide hwa
  clear hwa
  unfold vecV at CA CB CV ⊢
  simp only at CA CB CV ⊢
  go_enter Tryd.func17, Tryd.ntmps17
  go_wp2_with ((with_reducible refine (CW.out _).mono ?_); rintro e w0 ⟨rfl, rfl⟩)
  rw [HWA.out]
  refine wp_region_par [19, 20, 21, 22, 23, 24, 10, 11] (ListsJ (.agg #[.int .u64 (a0 : Int), .int .u64 (a1 : Int)]) (.agg #[.int .u64 (b0 : Int), .int .u64 (b1 : Int)]) w c ((List.range c).map fa) ((List.range c).map fb) wa) (by kernel_rfl) (by kernel_rfl) ?_ ?_ ?_
  · intro vs
    exact ⟨(fun h => by cases h), (fun h => by cases h), (fun h => by cases h), (fun h => by cases h), (fun h => by cases h), (fun h => by cases h), (fun h => by cases h), (fun h => by cases h), (fun h => by cases h), (Below.refl _ _).drew⟩
  · intro d vs w1 hd hl hJ
    match vs, hl with
    | [x0, x1, x2, x3, x4, x5, x6, x7], _ =>
    obtain ⟨j0, j1, o2, j3, j4, o5, a6, a7, u2_5, jb⟩ := hJ
    obtain rfl := j0 (hd 0 (by decide))
    obtain rfl := j1 (hd 1 (by decide))
    obtain rfl := j3 (hd 3 (by decide))
    obtain rfl := j4 (hd 4 (by decide))
    have e6 := (a6 (hd 6 (by decide))).2
    simp only [List.getElem?_cons_zero, List.getElem?_cons_succ, Option.getD_some] at e6
    subst e6
    have e7 := (a7 (hd 7 (by decide))).2
    simp only [List.getElem?_cons_zero, List.getElem?_cons_succ, Option.getD_some] at e7
    subst e7
    obtain ⟨g1, cap1, e2, hg1, hc1, hx1⟩ := o2 (hd 2 (by decide))
    simp only [List.getElem?_cons_zero, List.getElem?_cons_succ, Option.getD_some] at e2
    subst e2
    obtain ⟨g2, cap2, e5, hg2, hc2, hx2⟩ := o5 (hd 5 (by decide))
    simp only [List.getElem?_cons_zero, List.getElem?_cons_succ, Option.getD_some] at e5
    subst e5
    have hne : g1 ≠ g2 := u2_5 (hd 2 (by decide)) (hd 5 (by decide))
    have JB := hide jb
    have K1 := hide hx1
    have K2 := hide hx2
    clear hd hl jb j0 j1 o2 j3 j4 o5 a6 a7 u2_5 hx1 hx2
    simp only [putL, Act.put, List.setIfInBounds_toArray, List.set_cons_succ, List.set_cons_zero]
    have ZW := hide (ZB.out.later JB.out ZB.out.lt)
    have BW := hide (BA.out.trans (JB.out.mono BA.out.size))
    have S0 : Hide (TwAt W (W.heap.size + 1 + 1) g1 g2 c (mixC c f fa 0) ((List.range c).map fb) w1) := hide ⟨ZW.out, by rw [mix_zero]; exact K1.out, K2.out, BW.out⟩
    have HG : Hide (W.heap.size + 1 + 1 < g1) := hide (by have := ZB.out.lt; omega)
    have HN : Hide (g2 ≠ g1) := hide (Ne.symm hne)
    clear K1 K2 BW JB ZW VA VB ZB BA HWA CA CB hne hg1 hg2 hc1 hc2
    go_wp2_with fail
    go_loopw [12] (fun x wr => ∃ k : Nat, x = .int .i64 (k : Int) ∧ k ≤ c ∧ TwAt W (W.heap.size + 1 + 1) g1 g2 c (mixC c f fa k) ((List.range c).map fb) wr) (fun x _ => c - (intOf x).toNat)
    case atStart => exact ⟨0, rfl, by omega, S0.out⟩
    case round =>
      obtain ⟨k, rfl, hk, hr⟩ := hrel
      have H := hide hr
      clear hr S0
      by_cases c0 : k < c
      · have c1 : (k : Int) < (c : Int) := by omega
        have c2 : (k : Int) < 16 := by omega
        have hA : wr.cell? ⟨g1, k, none⟩ = some (.int .u64 (fa k : Int)) := by
          have := H.out.2.1.cell k c0
          rwa [mix_at c f fa k k c0, if_neg (by omega)] at this
        have hB : wr.cell? ⟨g2, k, none⟩ = some (.int .u64 (fb k : Int)) := by
          have := H.out.2.2.1.cell k c0
          rwa [show at0 ((List.range c).map fb) k = fb k by simp [at0, List.getElem?_range c0]] at this
        have hz : wr.frozen? ⟨g1, k, none⟩ = false := H.out.2.1.frozen k
        have ST := hide (mix_set c f fa k c0)
        have CK := hide (CT.out k c0)
        have HC := hide c0
        clear CT c0
        generalize fa k = xa at *
        generalize fb k = xb at *
        obtain ⟨t, ht⟩ : ∃ t, tt k = t := ⟨_, rfl⟩
        have hy := HT.out k
        rw [ht] at CK hy
        go_wp2_with fail
        go_quiet (with_reducible refine Calls.quiet_of_same (CK.out _))
        cases t with
        | true =>
          rw [if_pos rfl] at hy
          rw [hy] at ST
          clear hy ht
          go_wp2_with ((with_reducible refine (CM.out _).mono ?_); rintro e w0 ⟨rfl, rfl⟩)
          go_roundw
          case rel =>
            refine ⟨k + 1, by go_num, HC.out, ?_⟩
            have h5 := ((H.out.drewN nq).put (mix_length c f fa k) k 0 HC.out (by have := HG.out; omega) HN.out (by have := HG.out; omega)).put (by rw [List.length_set]; exact mix_length c f fa k) k m HC.out (by have := HG.out; omega) HN.out (by have := HG.out; omega)
            rw [List.set_set, ST.out] at h5
            exact h5
          case measure => have := HC.out; simp [intOf]; omega
        | false =>
          rw [if_neg (by decide)] at hy
          rw [hy] at ST
          clear hy ht
          go_wp2
          go_roundw
          case rel =>
            refine ⟨k + 1, by go_num, HC.out, ?_⟩
            have h5 := (H.out.drewN nq).put (mix_length c f fa k) k 0 HC.out (by have := HG.out; omega) HN.out (by have := HG.out; omega)
            rw [ST.out] at h5
            exact h5
          case measure => have := HC.out; simp [intOf]; omega
      · obtain rfl : k = c := by omega
        rw [mix_all] at H
        have CK := hide (fun cap => CV.out wr g1 cap H.out.2.1)
        clear CT CV c0
        go_wp2_with fail
        refine (CK.out _).mono ?_
        rintro e w2 ⟨rfl, hb⟩
        have H2 := hide (H.out.later hb)
        have z := H2.out.1
        have r0 : w2.cell? ⟨W.heap.size + 1 + 1, 0, none⟩ = some (.int .u64 0) := z.c0
        have r1 : w2.cell? ⟨W.heap.size + 1 + 1, 1, none⟩ = some (.int .u64 0) := z.c1
        have z0 : w2.frozen? ⟨W.heap.size + 1 + 1, 0, none⟩ = false := z.frozen 0
        have z1 : w2.frozen? ⟨W.heap.size + 1 + 1, 1, none⟩ = false := z.frozen 1
        clear z
        clear hb H
        go_wp2
        refine bodyPost_ret (v := vecE ((p, q), 0)) ((H2.out.1.set2 p q).result2 (by rfl) _ rfl rfl) rfl ?_
        exact ⟨rfl, (H2.out.2.2.2.setCell (by simp; omega) _).setCell (by simp; omega) _⟩
  · intro i o ho d vs w hl hJ hi hw
    match vs, hl with
    | [x0, x1, x2, x3, x4, x5, x6, x7], _ =>
    have hin : i < 8 := (List.getElem?_eq_some_iff.1 ho).1
    obtain ⟨j0, j1, o2, j3, j4, o5, a6, a7, u2_5, jb⟩ := hJ
    simp only [List.getElem?_cons_zero, List.getElem?_cons_succ, Option.some.injEq, Option.getD_some] at j0 j1 o2 j3 j4 o5 a6 a7 u2_5
    rcases (show i = 0 ∨ i = 1 ∨ i = 2 ∨ i = 3 ∨ i = 4 ∨ i = 5 ∨ i = 6 ∨ i = 7 by omega) with rfl | rfl | rfl | rfl | rfl | rfl | rfl | rfl
    · simp only [List.getElem?_cons_zero, List.getElem?_cons_succ, Option.some.injEq] at ho
      subst ho
      have h0 := (VA.out.later jb VA.out.lt).c0
      have h1 := (VA.out.later jb VA.out.lt).c1
      simp only [putL, Act.put, List.setIfInBounds_toArray, List.set_cons_succ, List.set_cons_zero] at h0 h1 ⊢
      go_wp2
      exact ⟨rfl, [_, x1, x2, x3, x4, x5, x6, x7], rfl, (by simp only [putL, Act.put, List.setIfInBounds_toArray, List.set_cons_succ, List.set_cons_zero]), (fun _ => rfl), j1, o2, j3, j4, o5, a6, a7, u2_5, jb⟩
    · simp only [List.getElem?_cons_zero, List.getElem?_cons_succ, Option.some.injEq] at ho
      subst ho
      simp only [putL, Act.put, List.setIfInBounds_toArray, List.set_cons_succ, List.set_cons_zero]
      go_wp2
      exact ⟨rfl, [x0, _, x2, x3, x4, x5, x6, x7], rfl, (by simp only [putL, Act.put, List.setIfInBounds_toArray, List.set_cons_succ, List.set_cons_zero]), j0, (fun _ => rfl), o2, j3, j4, o5, a6, a7, u2_5, jb⟩
    · simp only [List.getElem?_cons_zero, List.getElem?_cons_succ, Option.some.injEq] at ho
      subst ho
      obtain rfl := j0 (List.all_eq_true.1 hw 0 (by decide))
      obtain rfl := j1 (List.all_eq_true.1 hw 1 (by decide))
      simp only [putL, Act.put, List.setIfInBounds_toArray, List.set_cons_succ, List.set_cons_zero]
      go_wp2_with ((with_reducible refine (CA.out _).mono ?_); rintro e w1 hpost; obtain ⟨g, cap, hg, rfl, hcap, hx, hb⟩ := list_x hpost)
      exact ⟨rfl, [_, _, _, x3, x4, x5, x6, x7], rfl, (by simp only [putL, Act.put, List.setIfInBounds_toArray, List.set_cons_succ, List.set_cons_zero]), (fun _ => rfl), (fun _ => rfl), (fun _ => ⟨g, cap, rfl, Nat.le_trans jb.size hg, hcap, hx⟩), j3, j4, (o5.later hb), (fun h => nomatch ((a6 h).1.symm.trans hi)), a7, (fun _ h => Ne.symm (o5.ne h hg)), jb.trans (hb.mono jb.size)⟩
    · simp only [List.getElem?_cons_zero, List.getElem?_cons_succ, Option.some.injEq] at ho
      subst ho
      have h0 := (VB.out.later jb VB.out.lt).c0
      have h1 := (VB.out.later jb VB.out.lt).c1
      simp only [putL, Act.put, List.setIfInBounds_toArray, List.set_cons_succ, List.set_cons_zero] at h0 h1 ⊢
      go_wp2
      exact ⟨rfl, [x0, x1, x2, _, x4, x5, x6, x7], rfl, (by simp only [putL, Act.put, List.setIfInBounds_toArray, List.set_cons_succ, List.set_cons_zero]), j0, j1, o2, (fun _ => rfl), j4, o5, a6, a7, u2_5, jb⟩
    · simp only [List.getElem?_cons_zero, List.getElem?_cons_succ, Option.some.injEq] at ho
      subst ho
      simp only [putL, Act.put, List.setIfInBounds_toArray, List.set_cons_succ, List.set_cons_zero]
      go_wp2
      exact ⟨rfl, [x0, x1, x2, x3, _, x5, x6, x7], rfl, (by simp only [putL, Act.put, List.setIfInBounds_toArray, List.set_cons_succ, List.set_cons_zero]), j0, j1, o2, j3, (fun _ => rfl), o5, a6, a7, u2_5, jb⟩
    · simp only [List.getElem?_cons_zero, List.getElem?_cons_succ, Option.some.injEq] at ho
      subst ho
      obtain rfl := j3 (List.all_eq_true.1 hw 3 (by decide))
      obtain rfl := j4 (List.all_eq_true.1 hw 4 (by decide))
      simp only [putL, Act.put, List.setIfInBounds_toArray, List.set_cons_succ, List.set_cons_zero]
      go_wp2_with ((with_reducible refine (CB.out _).mono ?_); rintro e w1 hpost; obtain ⟨g, cap, hg, rfl, hcap, hx, hb⟩ := list_x hpost)
      exact ⟨rfl, [x0, x1, x2, _, _, _, x6, x7], rfl, (by simp only [putL, Act.put, List.setIfInBounds_toArray, List.set_cons_succ, List.set_cons_zero]), j0, j1, (o2.later hb), (fun _ => rfl), (fun _ => rfl), (fun _ => ⟨g, cap, rfl, Nat.le_trans jb.size hg, hcap, hx⟩), a6, (fun h => nomatch ((a7 h).1.symm.trans hi)), (fun h _ => o2.ne h hg), jb.trans (hb.mono jb.size)⟩
    · simp only [List.getElem?_cons_zero, List.getElem?_cons_succ, Option.some.injEq] at ho
      subst ho
      have hd : d 2 = true := List.all_eq_true.1 hw 2 (by decide)
      simp only [putL, Act.put, List.setIfInBounds_toArray, List.set_cons_succ, List.set_cons_zero]
      go_wp2
      exact ⟨rfl, [x0, x1, x2, x3, x4, x5, _, x7], rfl, (by simp only [putL, Act.put, List.setIfInBounds_toArray, List.set_cons_succ, List.set_cons_zero]), j0, j1, o2, j3, j4, o5, (fun _ => ⟨hd, rfl⟩), a7, u2_5, jb⟩
    · simp only [List.getElem?_cons_zero, List.getElem?_cons_succ, Option.some.injEq] at ho
      subst ho
      have hd : d 5 = true := List.all_eq_true.1 hw 5 (by decide)
      simp only [putL, Act.put, List.setIfInBounds_toArray, List.set_cons_succ, List.set_cons_zero]
      go_wp2
      exact ⟨rfl, [x0, x1, x2, x3, x4, x5, x6, _], rfl, (by simp only [putL, Act.put, List.setIfInBounds_toArray, List.set_cons_succ, List.set_cons_zero]), j0, j1, o2, j3, j4, o5, a6, (fun _ => ⟨hd, rfl⟩), u2_5, jb⟩

set_option maxHeartbeats 8000000 in
theorem rvt_bad (op w c a0 a1 b0 b1 p q : Nat) (fa fb f : Nat → Nat) (hc16 : c ≤ 16) (hc2 : 2 ≤ c)
    (tt : Nat → Bool) (m : Nat) (HT : Hide (∀ i, f i = if tt i then m else 0)) (CM : Hide (∀ W : World, Calls Tryd.prog 50 #[.int .i64 (w : Int)] W fun e W' => e = .returned (.int .u64 (m : Int)) ∧ W' = W))
    (CW : Hide (∀ W : World, Calls Tryd.prog 37 #[.int .i64 (w : Int)] W fun e W' => e = .returned (.bool true) ∧ W' = W))
    (CA : Hide (∀ W : World, Calls Tryd.prog 38 #[vecV (a0, a1), .int .i64 (w : Int)] W fun e W' => ListPost W c ((List.range c).map fa) e W'))
    (CB : Hide (∀ W : World, Calls Tryd.prog 38 #[vecV (b0, b1), .int .i64 (w : Int)] W fun e W' => ListPost W c ((List.range c).map fb) e W'))
    (CT : Hide (∀ i, i < c → ∀ W : World, Calls Tryd.prog 49 #[.int .u8 (op : Int), .int .i64 (w : Int), .int .u64 (fa i : Int), .int .u64 (fb i : Int)] W fun e W' => e = .returned (.tuple #[.bool false, .int .i64 2]) ∧ W' = W))
    (CV : Hide (∀ (W : World) (g cap : Nat), XBlk W g c ((List.range c).map f) → Calls Tryd.prog 40 #[.int .i64 (w : Int), .slice (some ⟨g, 0, none⟩) c cap] W fun e W' => e = .returned (vecV (p, q)) ∧ Below W.heap.size W W'))
    (W : World) :
    Calls Tryd.prog 17 #[.int .u8 (op : Int), .int .i64 (w : Int), vecV (a0, a1), vecV (b0, b1)] W fun e W' => e = .returned (vecE ((0, 0), 2)) ∧ Below W.heap.size W W' := by
  obtain ⟨wa, hwa⟩ : ∃ wa, ((W.alloc (.cells #[.int .u64 (a0 : Int), .int .u64 (a1 : Int)] 25)).alloc (.cells #[.int .u64 (b0 : Int), .int .u64 (b1 : Int)] 25)).alloc (.cells #[.int .u64 0, .int .u64 0] 25) = wa := ⟨_, rfl⟩
  have VA : Hide (VBlk wa W.heap.size (a0, a1)) := hide (by rw [← hwa]; exact alloc_past (alloc_past (alloc_at rfl)))
  have VB : Hide (VBlk wa (W.heap.size + 1) (b0, b1)) := hide (by rw [← hwa]; exact alloc_past (alloc_at (by simp)))
  have ZB : Hide (VBlk wa (W.heap.size + 1 + 1) (0, 0)) := hide (by rw [← hwa]; exact alloc_at (by simp))
  have BA : Hide (Below W.heap.size W wa) := hide (by rw [← hwa]; exact (((Below.refl _ _).alloc (Nat.le_refl _) _).alloc (by simp) _).alloc (by simp; omega) _)
  have HWA := hide hwa
  clear hwa
  unfold vecV at CA CB CV ⊢
  simp only at CA CB CV ⊢
  go_enter Tryd.func17, Tryd.ntmps17
  go_wp2_with ((with_reducible refine (CW.out _).mono ?_); rintro e w0 ⟨rfl, rfl⟩)
  rw [HWA.out]
  refine wp_region_par [19, 20, 21, 22, 23, 24, 10, 11] (ListsJ (.agg #[.int .u64 (a0 : Int), .int .u64 (a1 : Int)]) (.agg #[.int .u64 (b0 : Int), .int .u64 (b1 : Int)]) w c ((List.range c).map fa) ((List.range c).map fb) wa) (by kernel_rfl) (by kernel_rfl) ?_ ?_ ?_
  · intro vs
    exact ⟨(fun h => by cases h), (fun h => by cases h), (fun h => by cases h), (fun h => by cases h), (fun h => by cases h), (fun h => by cases h), (fun h => by cases h), (fun h => by cases h), (fun h => by cases h), (Below.refl _ _).drew⟩
  · intro d vs w1 hd hl hJ
    match vs, hl with
    | [x0, x1, x2, x3, x4, x5, x6, x7], _ =>
    obtain ⟨j0, j1, o2, j3, j4, o5, a6, a7, u2_5, jb⟩ := hJ
    obtain rfl := j0 (hd 0 (by decide))
    obtain rfl := j1 (hd 1 (by decide))
    obtain rfl := j3 (hd 3 (by decide))
    obtain rfl := j4 (hd 4 (by decide))
    have e6 := (a6 (hd 6 (by decide))).2
    simp only [List.getElem?_cons_zero, List.getElem?_cons_succ, Option.getD_some] at e6
    subst e6
    have e7 := (a7 (hd 7 (by decide))).2
    simp only [List.getElem?_cons_zero, List.getElem?_cons_succ, Option.getD_some] at e7
    subst e7
    obtain ⟨g1, cap1, e2, hg1, hc1, hx1⟩ := o2 (hd 2 (by decide))
    simp only [List.getElem?_cons_zero, List.getElem?_cons_succ, Option.getD_some] at e2
    subst e2
    obtain ⟨g2, cap2, e5, hg2, hc2, hx2⟩ := o5 (hd 5 (by decide))
    simp only [List.getElem?_cons_zero, List.getElem?_cons_succ, Option.getD_some] at e5
    subst e5
    have hne : g1 ≠ g2 := u2_5 (hd 2 (by decide)) (hd 5 (by decide))
    have JB := hide jb
    have K1 := hide hx1
    have K2 := hide hx2
    clear hd hl jb j0 j1 o2 j3 j4 o5 a6 a7 u2_5 hx1 hx2
    simp only [putL, Act.put, List.setIfInBounds_toArray, List.set_cons_succ, List.set_cons_zero]
    have ZW := hide (ZB.out.later JB.out ZB.out.lt)
    have BW := hide (BA.out.trans (JB.out.mono BA.out.size))
    have S0 : Hide (TwAt W (W.heap.size + 1 + 1) g1 g2 c (mixC c f fa 0) ((List.range c).map fb) w1) := hide ⟨ZW.out, by rw [mix_zero]; exact K1.out, K2.out, BW.out⟩
    have HG : Hide (W.heap.size + 1 + 1 < g1) := hide (by have := ZB.out.lt; omega)
    have HN : Hide (g2 ≠ g1) := hide (Ne.symm hne)
    clear K1 K2 BW JB ZW VA VB ZB BA HWA CA CB hne hg1 hg2 hc1 hc2
    go_wp2_with fail
    go_loopw [12] (fun x wr => ∃ k : Nat, x = .int .i64 (k : Int) ∧ k = 0 ∧ TwAt W (W.heap.size + 1 + 1) g1 g2 c (mixC c f fa k) ((List.range c).map fb) wr) (fun x _ => c - (intOf x).toNat)
    case atStart => exact ⟨0, rfl, rfl, S0.out⟩
    case round =>
      obtain ⟨k, rfl, hk, hr⟩ := hrel
      have H := hide hr
      clear hr S0
      have c00 : k < c := by omega
      clear hk
      by_cases c0 : k < c
      · have c1 : (k : Int) < (c : Int) := by omega
        have c2 : (k : Int) < 16 := by omega
        have hA : wr.cell? ⟨g1, k, none⟩ = some (.int .u64 (fa k : Int)) := by
          have := H.out.2.1.cell k c0
          rwa [mix_at c f fa k k c0, if_neg (by omega)] at this
        have hB : wr.cell? ⟨g2, k, none⟩ = some (.int .u64 (fb k : Int)) := by
          have := H.out.2.2.1.cell k c0
          rwa [show at0 ((List.range c).map fb) k = fb k by simp [at0, List.getElem?_range c0]] at this
        have hz : wr.frozen? ⟨g1, k, none⟩ = false := H.out.2.1.frozen k
        have ST := hide (mix_set c f fa k c0)
        have CK := hide (CT.out k c0)
        have HC := hide c0
        clear CT c0 c00
        generalize fa k = xa at *
        generalize fb k = xb at *
        have H3 := hide fun m => H.out.drewN m
        have z := H.out.1
        have r0 : wr.cell? ⟨W.heap.size + 1 + 1, 0, none⟩ = some (.int .u64 0) := z.c0
        have r1 : wr.cell? ⟨W.heap.size + 1 + 1, 1, none⟩ = some (.int .u64 0) := z.c1
        have z0 : wr.frozen? ⟨W.heap.size + 1 + 1, 0, none⟩ = false := z.frozen 0
        have z1 : wr.frozen? ⟨W.heap.size + 1 + 1, 1, none⟩ = false := z.frozen 1
        clear z
        go_wp2_with fail
        go_quiet (with_reducible refine Calls.quiet_of_same (CK.out _))
        go_wp2
        refine bodyPost_ret (v := vecE ((0, 0), 2)) (((H3.out _).1.set2 0 0).result2 (by rfl) _ rfl rfl) rfl ?_
        exact ⟨rfl, ((H3.out _).2.2.2.setCell (by simp; omega) _).setCell (by simp; omega) _⟩
      · exact absurd c00 c0
  · intro i o ho d vs w hl hJ hi hw
    match vs, hl with
    | [x0, x1, x2, x3, x4, x5, x6, x7], _ =>
    have hin : i < 8 := (List.getElem?_eq_some_iff.1 ho).1
    obtain ⟨j0, j1, o2, j3, j4, o5, a6, a7, u2_5, jb⟩ := hJ
    simp only [List.getElem?_cons_zero, List.getElem?_cons_succ, Option.some.injEq, Option.getD_some] at j0 j1 o2 j3 j4 o5 a6 a7 u2_5
    rcases (show i = 0 ∨ i = 1 ∨ i = 2 ∨ i = 3 ∨ i = 4 ∨ i = 5 ∨ i = 6 ∨ i = 7 by omega) with rfl | rfl | rfl | rfl | rfl | rfl | rfl | rfl
    · simp only [List.getElem?_cons_zero, List.getElem?_cons_succ, Option.some.injEq] at ho
      subst ho
      have h0 := (VA.out.later jb VA.out.lt).c0
      have h1 := (VA.out.later jb VA.out.lt).c1
      simp only [putL, Act.put, List.setIfInBounds_toArray, List.set_cons_succ, List.set_cons_zero] at h0 h1 ⊢
      go_wp2
      exact ⟨rfl, [_, x1, x2, x3, x4, x5, x6, x7], rfl, (by simp only [putL, Act.put, List.setIfInBounds_toArray, List.set_cons_succ, List.set_cons_zero]), (fun _ => rfl), j1, o2, j3, j4, o5, a6, a7, u2_5, jb⟩
    · simp only [List.getElem?_cons_zero, List.getElem?_cons_succ, Option.some.injEq] at ho
      subst ho
      simp only [putL, Act.put, List.setIfInBounds_toArray, List.set_cons_succ, List.set_cons_zero]
      go_wp2
      exact ⟨rfl, [x0, _, x2, x3, x4, x5, x6, x7], rfl, (by simp only [putL, Act.put, List.setIfInBounds_toArray, List.set_cons_succ, List.set_cons_zero]), j0, (fun _ => rfl), o2, j3, j4, o5, a6, a7, u2_5, jb⟩
    · simp only [List.getElem?_cons_zero, List.getElem?_cons_succ, Option.some.injEq] at ho
      subst ho
      obtain rfl := j0 (List.all_eq_true.1 hw 0 (by decide))
      obtain rfl := j1 (List.all_eq_true.1 hw 1 (by decide))
      simp only [putL, Act.put, List.setIfInBounds_toArray, List.set_cons_succ, List.set_cons_zero]
      go_wp2_with ((with_reducible refine (CA.out _).mono ?_); rintro e w1 hpost; obtain ⟨g, cap, hg, rfl, hcap, hx, hb⟩ := list_x hpost)
      exact ⟨rfl, [_, _, _, x3, x4, x5, x6, x7], rfl, (by simp only [putL, Act.put, List.setIfInBounds_toArray, List.set_cons_succ, List.set_cons_zero]), (fun _ => rfl), (fun _ => rfl), (fun _ => ⟨g, cap, rfl, Nat.le_trans jb.size hg, hcap, hx⟩), j3, j4, (o5.later hb), (fun h => nomatch ((a6 h).1.symm.trans hi)), a7, (fun _ h => Ne.symm (o5.ne h hg)), jb.trans (hb.mono jb.size)⟩
    · simp only [List.getElem?_cons_zero, List.getElem?_cons_succ, Option.some.injEq] at ho
      subst ho
      have h0 := (VB.out.later jb VB.out.lt).c0
      have h1 := (VB.out.later jb VB.out.lt).c1
      simp only [putL, Act.put, List.setIfInBounds_toArray, List.set_cons_succ, List.set_cons_zero] at h0 h1 ⊢
      go_wp2
      exact ⟨rfl, [x0, x1, x2, _, x4, x5, x6, x7], rfl, (by simp only [putL, Act.put, List.setIfInBounds_toArray, List.set_cons_succ, List.set_cons_zero]), j0, j1, o2, (fun _ => rfl), j4, o5, a6, a7, u2_5, jb⟩
    · simp only [List.getElem?_cons_zero, List.getElem?_cons_succ, Option.some.injEq] at ho
      subst ho
      simp only [putL, Act.put, List.setIfInBounds_toArray, List.set_cons_succ, List.set_cons_zero]
      go_wp2
      exact ⟨rfl, [x0, x1, x2, x3, _, x5, x6, x7], rfl, (by simp only [putL, Act.put, List.setIfInBounds_toArray, List.set_cons_succ, List.set_cons_zero]), j0, j1, o2, j3, (fun _ => rfl), o5, a6, a7, u2_5, jb⟩
    · simp only [List.getElem?_cons_zero, List.getElem?_cons_succ, Option.some.injEq] at ho
      subst ho
      obtain rfl := j3 (List.all_eq_true.1 hw 3 (by decide))
      obtain rfl := j4 (List.all_eq_true.1 hw 4 (by decide))
      simp only [putL, Act.put, List.setIfInBounds_toArray, List.set_cons_succ, List.set_cons_zero]
      go_wp2_with ((with_reducible refine (CB.out _).mono ?_); rintro e w1 hpost; obtain ⟨g, cap, hg, rfl, hcap, hx, hb⟩ := list_x hpost)
      exact ⟨rfl, [x0, x1, x2, _, _, _, x6, x7], rfl, (by simp only [putL, Act.put, List.setIfInBounds_toArray, List.set_cons_succ, List.set_cons_zero]), j0, j1, (o2.later hb), (fun _ => rfl), (fun _ => rfl), (fun _ => ⟨g, cap, rfl, Nat.le_trans jb.size hg, hcap, hx⟩), a6, (fun h => nomatch ((a7 h).1.symm.trans hi)), (fun h _ => o2.ne h hg), jb.trans (hb.mono jb.size)⟩
    · simp only [List.getElem?_cons_zero, List.getElem?_cons_succ, Option.some.injEq] at ho
      subst ho
      have hd : d 2 = true := List.all_eq_true.1 hw 2 (by decide)
      simp only [putL, Act.put, List.setIfInBounds_toArray, List.set_cons_succ, List.set_cons_zero]
      go_wp2
      exact ⟨rfl, [x0, x1, x2, x3, x4, x5, _, x7], rfl, (by simp only [putL, Act.put, List.setIfInBounds_toArray, List.set_cons_succ, List.set_cons_zero]), j0, j1, o2, j3, j4, o5, (fun _ => ⟨hd, rfl⟩), a7, u2_5, jb⟩
    · simp only [List.getElem?_cons_zero, List.getElem?_cons_succ, Option.some.injEq] at ho
      subst ho
      have hd : d 5 = true := List.all_eq_true.1 hw 5 (by decide)
      simp only [putL, Act.put, List.setIfInBounds_toArray, List.set_cons_succ, List.set_cons_zero]
      go_wp2
      exact ⟨rfl, [x0, x1, x2, x3, x4, x5, x6, _], rfl, (by simp only [putL, Act.put, List.setIfInBounds_toArray, List.set_cons_succ, List.set_cons_zero]), j0, j1, o2, j3, j4, o5, a6, (fun _ => ⟨hd, rfl⟩), u2_5, jb⟩

end Go.Proofs.YtoihfmammmkloaaDoor
/-
  The document's All and Mask of lanes.
-/
set_option linter.unusedVariables false
set_option linter.unusedSimpArgs false
namespace Go.Proofs.YtoihfmammmkloaaDoor
open Go.RowKit Lan

set_option maxHeartbeats 8000000 in
theorem rva_ok (w c a0 a1 : Nat) (fa : Nat → Nat) (t : Bool) (hc16 : c ≤ 16) (HT : Hide (((∃ k, k < c ∧ fa k = 0) → t = false) ∧ ((∀ k, k < c → fa k ≠ 0) → t = true)))
    (CW : Hide (∀ W : World, Calls Tryd.prog 37 #[.int .i64 (w : Int)] W fun e W' => e = .returned (.bool true) ∧ W' = W))
    (CA : Hide (∀ W : World, Calls Tryd.prog 38 #[vecV (a0, a1), .int .i64 (w : Int)] W fun e W' => ListPost W c ((List.range c).map fa) e W'))
    (W : World) :
    Calls Tryd.prog 19 #[.int .i64 (w : Int), vecV (a0, a1)] W fun e W' => e = .returned (.tuple #[.bool t, .int .i64 0]) ∧ Below W.heap.size W W' := by
  obtain ⟨wa, hwa⟩ : ∃ wa, W.alloc (.cells #[.int .u64 (a0 : Int), .int .u64 (a1 : Int)] 25) = wa := ⟨_, rfl⟩
  have BA : Hide (Below W.heap.size W wa) := hide (by rw [← hwa]; exact (Below.refl _ _).alloc (Nat.le_refl _) _)
  have HWA := hide hwa
  clear hwa
  unfold vecV at CA ⊢
  simp only at CA ⊢
  go_enter Tryd.func19, Tryd.ntmps19
  go_wp2_with ((with_reducible refine (CW.out _).mono ?_); rintro e w0 ⟨rfl, rfl⟩)
  rw [HWA.out]
  refine (CA.out _).mono ?_
  rintro e w1 hpost
  obtain ⟨g1, cap1, hg1, rfl, hcap, hx, hb⟩ := list_x hpost
  have KX := hide hx
  have BW := hide (BA.out.trans (hb.mono BA.out.size))
  clear hx hb hpost hg1 hcap BA HWA CA
  go_wp2_with fail
  go_loop [7] (fun x => ∃ k : Nat, x = .int .i64 (k : Int) ∧ k ≤ c ∧ ∀ j, j < k → fa j ≠ 0) (fun x => c - (intOf x).toNat)
  case atStart => exact ⟨0, rfl, by omega, fun j hj => by omega⟩
  case round =>
    obtain ⟨k, rfl, hk, hok⟩ := hrel
    have HOK := hide hok
    clear hok
    by_cases c0 : k < c
    · have c1 : (k : Int) < (c : Int) := by omega
      have c2 : (k : Int) < 16 := by omega
      have hA : w1.cell? ⟨g1, k, none⟩ = some (.int .u64 (fa k : Int)) := by
        have := KX.out.cell k c0
        rwa [show at0 ((List.range c).map fa) k = fa k by simp [at0, List.getElem?_range c0]] at this
      have HC := hide c0
      by_cases h0 : fa k = 0
      · have e2 : t = false := HT.out.1 ⟨k, c0, h0⟩
        subst e2
        rw [h0] at hA
        have hA' : w1.cell? ⟨g1, k, none⟩ = some (.int .u64 0) := hA
        clear h0 HT HOK c0 hA
        go_wp2
        refine bodyPost_ret (v := .tuple #[.bool false, .int .i64 0]) (by simp [results, Tryd.results19, go_sem]) rfl ?_
        exact ⟨rfl, BW.out⟩
      · have h1 : ((fa k : Int) == 0) = false := by simp; omega
        have HX : Hide (∀ j, j < k + 1 → fa j ≠ 0) := hide (fun j hj => by
          by_cases e : j = k
          · subst e; exact h0
          · exact HOK.out j (by omega))
        clear h0 HT HOK c0
        generalize fa k = xa at *
        go_wp2
        go_round
        case rel => exact ⟨k + 1, by go_num, HC.out, HX.out⟩
        case measure => have := HC.out; simp [intOf]; omega
    · obtain rfl : k = c := by omega
      have e2 : t = true := HT.out.2 HOK.out
      subst e2
      clear HT HOK c0
      go_wp2
      refine bodyPost_ret (v := .tuple #[.bool true, .int .i64 0]) (by simp [results, Tryd.results19, go_sem]) rfl ?_
      exact ⟨rfl, BW.out⟩

set_option maxHeartbeats 2000000 in
theorem rva_nowidth (w : Int) (CW : Hide (∀ W : World, Calls Tryd.prog 37 #[.int .i64 w] W fun e W' => e = .returned (.bool false) ∧ W' = W)) (a : Nat × Nat) (W : World) :
    Calls Tryd.prog 19 #[.int .i64 w, vecV a] W fun e W' => e = .returned (.tuple #[.bool false, .int .i64 2]) ∧ Below W.heap.size W W' := by
  unfold vecV
  go_enter Tryd.func19, Tryd.ntmps19
  go_wp2_with ((with_reducible refine (CW.out _).mono ?_); rintro e w0 ⟨rfl, rfl⟩)
  refine bodyPost_ret (v := .tuple #[.bool false, .int .i64 2]) (by simp [results, Tryd.results19, go_sem]) rfl ?_
  exact ⟨rfl, below_two _ _⟩

theorem pow_wrap64 (k : Nat) (h : k < 16) : IntKind.u64.wrap (2 ^ k : Int) = (2 ^ k : Int) := by
  rcases (show k = 0 ∨ k = 1 ∨ k = 2 ∨ k = 3 ∨ k = 4 ∨ k = 5 ∨ k = 6 ∨ k = 7 ∨ k = 8 ∨ k = 9 ∨ k = 10 ∨ k = 11 ∨ k = 12 ∨ k = 13 ∨ k = 14 ∨ k = 15 by omega) with rfl | rfl | rfl | rfl | rfl | rfl | rfl | rfl | rfl | rfl | rfl | rfl | rfl | rfl | rfl | rfl <;> rfl

set_option maxHeartbeats 8000000 in
theorem rvm_ok (w c a0 a1 : Nat) (fa : Nat → Nat) (wt : Nat → Int) (M : Nat → Nat) (hc16 : c ≤ 16)
    (HM : Hide (M 0 = 0 ∧ ∀ k, k < c → (¬ wt k < 0 → M (k + 1) = M k) ∧ (wt k < 0 → bits .or .u64 (M k : Int) (2 ^ k : Int) = (M (k + 1) : Int))))
    (CW : Hide (∀ W : World, Calls Tryd.prog 37 #[.int .i64 (w : Int)] W fun e W' => e = .returned (.bool true) ∧ W' = W))
    (CA : Hide (∀ W : World, Calls Tryd.prog 38 #[vecV (a0, a1), .int .i64 (w : Int)] W fun e W' => ListPost W c ((List.range c).map fa) e W'))
    (CT : Hide (∀ i, i < c → ∀ W : World, Calls Tryd.prog 53 #[.int .i64 (w : Int), .int .u64 (fa i : Int)] W fun e W' => e = .returned (.int .i64 (wt i)) ∧ W' = W))
    (W : World) :
    Calls Tryd.prog 21 #[.int .i64 (w : Int), vecV (a0, a1)] W fun e W' => e = .returned (.tuple #[.int .u64 (M c : Int), .int .i64 0]) ∧ Below W.heap.size W W' := by
  obtain ⟨wa, hwa⟩ : ∃ wa, W.alloc (.cells #[.int .u64 (a0 : Int), .int .u64 (a1 : Int)] 25) = wa := ⟨_, rfl⟩
  have BA : Hide (Below W.heap.size W wa) := hide (by rw [← hwa]; exact (Below.refl _ _).alloc (Nat.le_refl _) _)
  have HWA := hide hwa
  clear hwa
  unfold vecV at CA ⊢
  simp only at CA ⊢
  go_enter Tryd.func21, Tryd.ntmps21
  go_wp2_with ((with_reducible refine (CW.out _).mono ?_); rintro e w0 ⟨rfl, rfl⟩)
  rw [HWA.out]
  refine (CA.out _).mono ?_
  rintro e w1 hpost
  obtain ⟨g1, cap1, hg1, rfl, hcap, hx, hb⟩ := list_x hpost
  have KX := hide hx
  have BW := hide (BA.out.trans (hb.mono BA.out.size))
  clear hx hb hpost hg1 hcap BA HWA CA
  go_wp2_with fail
  go_loop [7, 8] (fun m x => ∃ k : Nat, x = .int .i64 (k : Int) ∧ k ≤ c ∧ m = .int .u64 (M k : Int)) (fun _ x => c - (intOf x).toNat)
  case atStart => exact ⟨0, rfl, by omega, by rw [HM.out.1]; rfl⟩
  case round =>
    obtain ⟨k, rfl, hk, rfl⟩ := hrel
    by_cases c0 : k < c
    · have c1 : (k : Int) < (c : Int) := by omega
      have c2 : (k : Int) < 16 := by omega
      have hA : w1.cell? ⟨g1, k, none⟩ = some (.int .u64 (fa k : Int)) := by
        have := KX.out.cell k c0
        rwa [show at0 ((List.range c).map fa) k = fa k by simp [at0, List.getElem?_range c0]] at this
      have HC := hide c0
      have CK := hide (CT.out k c0)
      have EU : IntKind.u64.wrap (k : Int) = (k : Int) := by rw [IntKind.wrap_u64]; omega
      have EW : IntKind.u64.wrap (2 ^ k : Int) = (2 ^ k : Int) := pow_wrap64 k (by omega)
      have ES := HM.out.2 k c0
      by_cases h0 : wt k < 0
      · have d0 : decide (wt k < 0) = true := by simpa using h0
        have EO : bits .or .u64 (M k : Int) (2 ^ k : Int) = (M (k + 1) : Int) := ES.2 h0
        clear ES HM CT c0
        generalize fa k = xa at *
        generalize wt k = z at *
        have NX : Hide (∀ m, M (k + 1) = m → M (k + 1) = m) := hide (fun _ h => h)
        generalize M k = mk at *
        obtain ⟨m2, hm2⟩ : ∃ m2, M (k + 1) = m2 := ⟨_, rfl⟩
        have HM2 := hide hm2
        rw [hm2] at EO
        clear hm2 NX
        go_wp2_with ((with_reducible refine (CK.out _).mono ?_); rintro e w0 ⟨rfl, rfl⟩)
        go_round
        case rel => exact ⟨k + 1, by go_num, HC.out, by rw [HM2.out]⟩
        case measure => have := HC.out; simp [intOf]; omega
      · have d0 : decide (wt k < 0) = false := by simpa using h0
        have EM := hide (ES.1 (by omega))
        clear ES HM CT c0
        generalize fa k = xa at *
        generalize wt k = z at *
        go_wp2_with ((with_reducible refine (CK.out _).mono ?_); rintro e w0 ⟨rfl, rfl⟩)
        go_round
        case rel => exact ⟨k + 1, by go_num, HC.out, by rw [EM.out]⟩
        case measure => have := HC.out; simp [intOf]; omega
    · obtain rfl : k = c := by omega
      clear HM CT c0
      go_wp2
      refine bodyPost_ret (v := .tuple #[.int .u64 (M k : Int), .int .i64 0]) (by simp [results, Tryd.results21, go_sem]) rfl ?_
      exact ⟨rfl, BW.out⟩

set_option maxHeartbeats 2000000 in
theorem rvm_nowidth (w : Int) (CW : Hide (∀ W : World, Calls Tryd.prog 37 #[.int .i64 w] W fun e W' => e = .returned (.bool false) ∧ W' = W)) (a : Nat × Nat) (W : World) :
    Calls Tryd.prog 21 #[.int .i64 w, vecV a] W fun e W' => e = .returned (.tuple #[.int .u64 0, .int .i64 2]) ∧ Below W.heap.size W W' := by
  unfold vecV
  go_enter Tryd.func21, Tryd.ntmps21
  go_wp2_with ((with_reducible refine (CW.out _).mono ?_); rintro e w0 ⟨rfl, rfl⟩)
  refine bodyPost_ret (v := .tuple #[.int .u64 0, .int .i64 2]) (by simp [results, Tryd.results21, go_sem]) rfl ?_
  exact ⟨rfl, below_two _ _⟩

end Go.Proofs.YtoihfmammmkloaaDoor
/-
  The document's One, Shift, Than, All, Mask of lanes: all of them.
-/
set_option linter.unusedVariables false
set_option linter.unusedSimpArgs false
namespace Go.Proofs.YtoihfmammmkloaaDoor
open Go.RowKit Lan

theorem pow256 {w : Nat} (hw : IsW w) : (256 : Int) ≤ 2 ^ w := by rcases hw with rfl | rfl | rfl | rfl <;> decide

theorem one_ok {op w : Nat} (hw : IsW w) (h : ook op = true) {a : Int} (ha : Z.Of w a) : Z.Of w (Z.one op w a).1 ∧ (Z.one op w a).2 = 0 := by
  have hp := pow256 hw
  have h' : op = 28 ∨ op = 29 ∨ op = 30 ∨ op = 31 := by unfold ook at h; simp at h; omega
  rcases h' with rfl | rfl | rfl | rfl
  · refine ⟨?_, rfl⟩
    have := Z.pc_le (zw hw) ha
    exact ⟨this.1, by show Z.pcI a < 2 ^ w; omega⟩
  · refine ⟨?_, rfl⟩
    obtain ⟨a0, a1⟩ := ha
    show Z.Of w (Z.absI w a)
    have hh : (0 : Int) < 2 ^ (w - 1) := by exact_mod_cast Nat.two_pow_pos (w - 1)
    unfold Z.absI Z.hi
    split
    · exact ⟨a0, a1⟩
    · exact ⟨by omega, by omega⟩
  · exact ⟨cut_of _ _, rfl⟩
  · refine ⟨?_, rfl⟩
    obtain ⟨a0, a1⟩ := ha
    show Z.Of w (Z.mo w - a)
    unfold Z.mo
    exact ⟨by omega, by omega⟩

theorem shift_ok {op w : Nat} (h : sok op = true) {a b : Int} (ha : Z.Of w a) : Z.Of w (Z.two op w a b).1 ∧ (Z.two op w a b).2 = 0 := by
  have h' : op = 11 ∨ op = 12 ∨ op = 13 := by unfold sok at h; simp at h; omega
  rcases h' with rfl | rfl | rfl
  · exact ⟨cut_of _ _, rfl⟩
  · refine ⟨?_, rfl⟩
    obtain ⟨a0, a1⟩ := ha
    show Z.Of w (a / 2 ^ Z.sh w b)
    have hp : (0 : Int) < 2 ^ Z.sh w b := by exact_mod_cast Nat.two_pow_pos _
    exact ⟨Int.ediv_nonneg a0 (by omega), Int.lt_of_le_of_lt (Int.ediv_le_self _ a0) a1⟩
  · exact ⟨cut_of _ _, rfl⟩

theorem rv1_calls (op w : Int) (h0 : 0 ≤ op) (a : Nat × Nat) (W : World) :
    Calls Tryd.prog 13 #[.int .u8 op, .int .i64 w, vecV a] W fun e W' => e = .returned (vecE (vone op w a)) ∧ Below W.heap.size W W' := by
  obtain ⟨n, rfl⟩ := Int.eq_ofNat_of_zero_le h0
  unfold vone
  simp only [Int.toNat_natCast]
  cases hw : isW w with
  | false => exact rv1_nowidth _ w (hide (width_false hw)) a W
  | true =>
    obtain ⟨m, rfl, hm⟩ := (isW_iff w).1 hw
    simp only [Int.toNat_natCast, Bool.true_and]
    obtain ⟨c, hc, hc16, hc2⟩ := c_of hm
    have la : ∀ i, Z.Of m (laneN a m i : Int) := fun i => zof (laneN_lt a m i)
    cases ht : ook n with
    | true =>
      have hf : ∀ i, i < c → voneN n m a i < 2 ^ m := fun i _ => (zlt (one_ok hm ht (la i)).1).1
      simp only [if_true]
      have CV := fun W g cap h => vec_call hm hc hf W g cap h
      have CT : ∀ i, i < c → ∀ W : World, Calls Tryd.prog 45 #[.int .u8 (n : Int), .int .i64 (m : Int), .int .u64 (laneN a m i : Int)] W fun e W' => e = .returned (.tuple #[.int .u64 (voneN n m a i : Int), .int .i64 0]) ∧ W' = W := fun i _ W => by
        have := Z.ROne_calls (zw hm) (n : Int) (laneN a m i : Int) (by omega) (la i) W
        unfold Z.pairV at this
        simp only [Int.toNat_natCast] at this
        have e1 := (zlt (one_ok hm ht (la i)).1).2
        have e2 := (one_ok hm ht (la i)).2
        rw [e2, ← e1] at this
        exact this
      obtain ⟨⟨p, q⟩, hF⟩ : ∃ F, vlanes m (voneN n m a) = F := ⟨_, rfl⟩
      rw [hF] at CV ⊢
      have h' : n = 28 ∨ n = 29 ∨ n = 30 ∨ n = 31 := by unfold ook at ht; simp at ht; omega
      rcases h' with rfl | rfl | rfl | rfl
      · exact rv1_28 m c a.1 a.2 p q (laneN a m) _ hc16 hc2 (hide (width_true hm)) (hide (list_call hm hc a)) (hide CT) (hide CV) W
      · exact rv1_29 m c a.1 a.2 p q (laneN a m) _ hc16 hc2 (hide (width_true hm)) (hide (list_call hm hc a)) (hide CT) (hide CV) W
      · exact rv1_30 m c a.1 a.2 p q (laneN a m) _ hc16 hc2 (hide (width_true hm)) (hide (list_call hm hc a)) (hide CT) (hide CV) W
      · exact rv1_31 m c a.1 a.2 p q (laneN a m) _ hc16 hc2 (hide (width_true hm)) (hide (list_call hm hc a)) (hide CT) (hide CV) W
    | false =>
      have h' : ¬ n = 28 ∧ ¬ n = 29 ∧ ¬ n = 30 ∧ ¬ n = 31 := by unfold ook at ht; simp at ht; omega
      exact rv1_noop n (by simp; omega) (by simp; omega) (by simp; omega) (by simp; omega) m (hide (width_true hm)) a W

theorem rvs_calls (op w : Int) (h0 : 0 ≤ op) (a : Nat × Nat) (n : Nat) (hn : n < 2 ^ 64) (W : World) :
    Calls Tryd.prog 15 #[.int .u8 op, .int .i64 w, vecV a, .int .u64 (n : Int)] W fun e W' => e = .returned (vecE (vshift op w a n)) ∧ Below W.heap.size W W' := by
  obtain ⟨o, rfl⟩ := Int.eq_ofNat_of_zero_le h0
  unfold vshift
  simp only [Int.toNat_natCast]
  cases hw : isW w with
  | false => exact rvs_nowidth _ w (hide (width_false hw)) a n W
  | true =>
    obtain ⟨m, rfl, hm⟩ := (isW_iff w).1 hw
    simp only [Int.toNat_natCast, Bool.true_and]
    obtain ⟨c, hc, hc16, hc2⟩ := c_of hm
    have la : ∀ i, Z.Of m (laneN a m i : Int) := fun i => zof (laneN_lt a m i)
    have hm0 : 0 < m := hm.pos
    have hm64 : m ≤ 64 := hm.le
    have hr : Z.Of m ((n % m : Nat) : Int) := zof (Nat.lt_of_lt_of_le (Nat.mod_lt _ hm0) (by rcases hm with rfl | rfl | rfl | rfl <;> decide))
    have hw1 : (m : Int) ≠ 0 := by omega
    have hw0 : ((m : Int) == 0) = false := by simp; omega
    have hu : IntKind.u64.wrap (m : Int) = (m : Int) := by rw [IntKind.wrap_u64]; omega
    have hr1 : Int.tmod (n : Int) (m : Int) = ((n % m : Nat) : Int) := (Int.ofNat_tmod n m).symm
    have hr2 : (n : Int) % (m : Int) = ((n % m : Nat) : Int) := (Int.natCast_emod n m).symm
    cases ht : sok o with
    | true =>
      have hf : ∀ i, i < c → vshiftN o m a n i < 2 ^ m := fun i _ => (zlt (shift_ok ht (la i)).1).1
      simp only [if_true]
      have CV := fun W g cap h => vec_call hm hc hf W g cap h
      have CT : ∀ i, i < c → ∀ W : World, Calls Tryd.prog 39 #[.int .u8 (o : Int), .int .i64 (m : Int), .int .u64 (laneN a m i : Int), .int .u64 ((n % m : Nat) : Int)] W fun e W' => e = .returned (.tuple #[.int .u64 (vshiftN o m a n i : Int), .int .i64 0]) ∧ W' = W := fun i _ W => by
        have := Z.RTwo_calls (zw hm) (o : Int) (laneN a m i : Int) ((n % m : Nat) : Int) (by omega) (la i) hr W
        unfold Z.pairV at this
        simp only [Int.toNat_natCast] at this
        have e1 := (zlt (shift_ok ht (la i) (b := ((n % m : Nat) : Int))).1).2
        have e2 := (shift_ok ht (la i) (b := ((n % m : Nat) : Int))).2
        rw [e2, ← e1] at this
        exact this
      obtain ⟨⟨p, q⟩, hF⟩ : ∃ F, vlanes m (vshiftN o m a n) = F := ⟨_, rfl⟩
      rw [hF] at CV ⊢
      have h' : o = 11 ∨ o = 12 ∨ o = 13 := by unfold sok at ht; simp at ht; omega
      rcases h' with rfl | rfl | rfl
      · exact rvs_11 m c a.1 a.2 p q (laneN a m) _ hc16 hc2 n (n % m) hw1 hw0 hu hr1 hr2 (hide (width_true hm)) (hide (list_call hm hc a)) (hide CT) (hide CV) W
      · exact rvs_12 m c a.1 a.2 p q (laneN a m) _ hc16 hc2 n (n % m) hw1 hw0 hu hr1 hr2 (hide (width_true hm)) (hide (list_call hm hc a)) (hide CT) (hide CV) W
      · exact rvs_13 m c a.1 a.2 p q (laneN a m) _ hc16 hc2 n (n % m) hw1 hw0 hu hr1 hr2 (hide (width_true hm)) (hide (list_call hm hc a)) (hide CT) (hide CV) W
    | false =>
      have h' : ¬ o = 11 ∧ ¬ o = 12 ∧ ¬ o = 13 := by unfold sok at ht; simp at ht; omega
      exact rvs_noop o (by simp; omega) (by simp; omega) (by simp; omega) m (hide (width_true hm)) a n W

theorem than_ok {op w : Nat} (h : hok op = true) (a b : Int) : (Z.than op w a b).2 = 0 := by
  have h' : op = 32 ∨ op = 33 ∨ op = 34 ∨ op = 35 ∨ op = 36 ∨ op = 37 ∨ op = 38 ∨ op = 39 ∨ op = 40 ∨ op = 41 := by unfold hok at h; simp at h; omega
  rcases h' with rfl | rfl | rfl | rfl | rfl | rfl | rfl | rfl | rfl | rfl <;> rfl
theorem than_bad {op w : Nat} (h : hok op = false) (a b : Int) : Z.than op w a b = (false, 2) := by
  have h' : op < 32 ∨ 41 < op := by unfold hok at h; simp at h; omega
  unfold Z.than
  split <;> first | omega | rfl

set_option maxHeartbeats 2000000 in
theorem rvt_nowidth (op : Int) (w : Int) (CW : Hide (∀ W : World, Calls Tryd.prog 37 #[.int .i64 w] W fun e W' => e = .returned (.bool false) ∧ W' = W)) (a b : Nat × Nat) (W : World) :
    Calls Tryd.prog 17 #[.int .u8 op, .int .i64 w, vecV a, vecV b] W fun e W' => e = .returned (vecE ((0, 0), 2)) ∧ Below W.heap.size W W' := by
  unfold vecV
  go_enter Tryd.func17, Tryd.ntmps17
  go_wp2_with ((with_reducible refine (CW.out _).mono ?_); rintro e w0 ⟨rfl, rfl⟩)
  refine bodyPost_ret (v := vecE ((0, 0), 2)) (VBlk.result2 (v := (0, 0)) (alloc_at (g := W.heap.size + 1 + 1) (by simp)) (by rfl) _ rfl rfl) rfl ?_
  exact ⟨rfl, (((Below.refl _ _).alloc (Nat.le_refl _) _).alloc (by simp) _).alloc (by simp; omega) _⟩

theorem most_nat {w : Nat} (hw : IsW w) (W : World) : Calls Tryd.prog 50 #[.int .i64 (w : Int)] W fun e W' => e = .returned (.int .u64 ((2 ^ w - 1 : Nat) : Int)) ∧ W' = W := by
  have := rmost_calls hw W
  rwa [mo_nat] at this

theorem rvt_calls (op w : Int) (h0 : 0 ≤ op) (a b : Nat × Nat) (W : World) :
    Calls Tryd.prog 17 #[.int .u8 op, .int .i64 w, vecV a, vecV b] W fun e W' => e = .returned (vecE (vthan op w a b)) ∧ Below W.heap.size W W' := by
  obtain ⟨n, rfl⟩ := Int.eq_ofNat_of_zero_le h0
  unfold vthan
  simp only [Int.toNat_natCast]
  cases hw : isW w with
  | false => exact rvt_nowidth _ w (hide (width_false hw)) a b W
  | true =>
    obtain ⟨m, rfl, hm⟩ := (isW_iff w).1 hw
    simp only [Int.toNat_natCast, Bool.true_and]
    obtain ⟨c, hc, hc16, hc2⟩ := c_of hm
    have la : ∀ i, Z.Of m (laneN a m i : Int) := fun i => zof (laneN_lt a m i)
    have lb : ∀ i, Z.Of m (laneN b m i : Int) := fun i => zof (laneN_lt b m i)
    have CT := fun i W => Z.RThan_calls (zw hm) (n : Int) (laneN a m i : Int) (laneN b m i : Int) (by omega) (la i) (lb i) W
    unfold Z.pairB at CT
    simp only [Int.toNat_natCast] at CT
    have h2 : 2 ^ m - 1 < 2 ^ m := by have := Nat.two_pow_pos m; omega
    cases ht : hok n with
    | true =>
      have hf : ∀ i, i < c → vthanN n m a b i < 2 ^ m := fun i _ => by
        unfold vthanN
        split
        · exact h2
        · exact Nat.two_pow_pos m
      simp only [if_true]
      have CV := fun W g cap h => vec_call hm hc hf W g cap h
      obtain ⟨⟨p, q⟩, hF⟩ : ∃ F, vlanes m (vthanN n m a b) = F := ⟨_, rfl⟩
      rw [hF] at CV ⊢
      refine rvt_ok n m c a.1 a.2 b.1 b.2 p q (laneN a m) (laneN b m) (vthanN n m a b) hc16 hc2 (fun i => (Z.than n m (laneN a m i : Int) (laneN b m i : Int)).1) (2 ^ m - 1) (hide fun i => rfl) (hide (most_nat hm)) (hide (width_true hm)) (hide (list_call hm hc a)) (hide (list_call hm hc b)) (hide fun i hi W => ?_) (hide CV) W
      have := CT i W
      rw [than_ok ht] at this
      exact this
    | false =>
      simp only [Bool.false_eq_true, if_false]
      refine rvt_bad n m c a.1 a.2 b.1 b.2 0 0 (laneN a m) (laneN b m) (fun _ => 0) hc16 hc2 (fun _ => false) (2 ^ m - 1) (hide fun i => rfl) (hide (most_nat hm)) (hide (width_true hm)) (hide (list_call hm hc a)) (hide (list_call hm hc b)) (hide fun i hi W => ?_) (hide fun W g cap h => ?_) W
      · have := CT i W
        rw [than_bad ht] at this
        exact this
      · have := vec_call hm hc (f := fun _ => 0) (fun i _ => Nat.two_pow_pos m) W g cap h
        rwa [vlanes_zero hm] at this

theorem rva_calls (w : Int) (a : Nat × Nat) (W : World) :
    Calls Tryd.prog 19 #[.int .i64 w, vecV a] W fun e W' => e = .returned (.tuple #[.bool (vall w a).1, .int .i64 (vall w a).2]) ∧ Below W.heap.size W W' := by
  unfold vall
  cases hw : isW w with
  | false => exact rva_nowidth w (hide (width_false hw)) a W
  | true =>
    obtain ⟨m, rfl, hm⟩ := (isW_iff w).1 hw
    simp only [Int.toNat_natCast, if_true]
    obtain ⟨c, hc, hc16, hc2⟩ := c_of hm
    refine rva_ok m c a.1 a.2 (laneN a m) (vallB m a) hc16 (hide ⟨?_, ?_⟩) (hide (width_true hm)) (hide (list_call hm hc a)) W
    · rintro ⟨k, hk, h0⟩
      unfold vallB
      rw [hc, List.all_eq_false]
      exact ⟨k, List.mem_range.2 hk, by simp [h0]⟩
    · intro h
      unfold vallB
      rw [hc, List.all_eq_true]
      intro k hk
      simpa using h k (List.mem_range.1 hk)

theorem mask_lt (w : Nat) (a : Nat × Nat) : ∀ k, vmaskN w a k < 2 ^ k
  | 0 => Nat.one_pos
  | k + 1 => by
    have := mask_lt w a k
    have e : 2 ^ (k + 1) = 2 ^ k + 2 ^ k := by rw [Nat.pow_succ]; omega
    unfold vmaskN
    split <;> omega

theorem or_pow {x k : Nat} (hx : x < 2 ^ k) (hk : k < 16) : bits .or .u64 (x : Int) (2 ^ k : Int) = ((x + 2 ^ k : Nat) : Int) := by
  have hp : 2 ^ k < 2 ^ 64 := Nat.pow_lt_pow_right (by decide) (by omega)
  have e : (2 ^ k : Int) = ((2 ^ k : Nat) : Int) := by push_cast; rfl
  rw [e, bits_or_u64_nat x _ (by omega) hp]
  congr 1
  have h := Nat.two_pow_add_eq_or_of_lt hx 1
  rw [Nat.mul_one] at h
  rw [Nat.or_comm, ← h, Nat.add_comm]

theorem rvm_calls (w : Int) (a : Nat × Nat) (W : World) :
    Calls Tryd.prog 21 #[.int .i64 w, vecV a] W fun e W' => e = .returned (.tuple #[.int .u64 (vmask w a).1, .int .i64 (vmask w a).2]) ∧ Below W.heap.size W W' := by
  unfold vmask
  cases hw : isW w with
  | false => exact rvm_nowidth w (hide (width_false hw)) a W
  | true =>
    obtain ⟨m, rfl, hm⟩ := (isW_iff w).1 hw
    simp only [Int.toNat_natCast, if_true]
    obtain ⟨c, hc, hc16, hc2⟩ := c_of hm
    have la : ∀ i, Z.Of m (laneN a m i : Int) := fun i => zof (laneN_lt a m i)
    have neg : ∀ k, Ints.wo m (laneN a m k : Int) < 0 ↔ ¬ laneN a m k < 2 ^ (m - 1) := fun k => by
      have h1 := (la k).2
      have e : ((2 ^ (m - 1) : Nat) : Int) = 2 ^ (m - 1) := by push_cast; rfl
      unfold Ints.wo
      split <;> omega
    rw [hc]
    refine rvm_ok m c a.1 a.2 (laneN a m) (fun i => Ints.wo m (laneN a m i : Int)) (vmaskN m a) hc16 (hide ⟨rfl, fun k hk => ⟨fun h => ?_, fun h => ?_⟩⟩) (hide (width_true hm)) (hide (list_call hm hc a)) (hide fun i hi W => Z.rworth_calls (zw hm) _ (la i) W) W
    · have h' : laneN a m k < 2 ^ (m - 1) := Classical.byContradiction fun h2 => h ((neg k).2 h2)
      simp [vmaskN, h']
    · have h' := (neg k).1 h
      rw [or_pow (mask_lt m a k) (by omega)]
      simp [vmaskN, h']
end Go.Proofs.YtoihfmammmkloaaDoor
