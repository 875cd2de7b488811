/-
  The document's Bits.
-/
import Derived.Test.YtdhanapmknlobaaDoorLanPar
import Derived.Test.YtdhanapmknlobaaDoorLanRBit
import Derived.Test.YtdhanapmknlobaaDoorLanRef1
set_option linter.unusedVariables false
set_option linter.unusedSimpArgs false
namespace Go.Proofs.YtdhanapmknlobaaDoor
open Go.RowKit Lan

def BitAt (W : World) (gr g1 g2 g3 g4 : Nat) (A B C O : List Nat) (wr : World) : Prop :=
  VBlk wr gr (0, 0) ∧ Blk wr g1 A ∧ Blk wr g2 B ∧ Blk wr g3 C ∧ Blk wr g4 O ∧ Below W.heap.size W wr
theorem BitAt.later {W : World} {gr g1 g2 g3 g4 : Nat} {A B C O : List Nat} {w w' : World} (h : BitAt W gr g1 g2 g3 g4 A B C O w) (hb : Below w.heap.size w w') : BitAt W gr g1 g2 g3 g4 A B C O w' :=
  ⟨h.1.later hb h.1.lt, h.2.1.later hb h.2.1.lt, h.2.2.1.later hb h.2.2.1.lt, h.2.2.2.1.later hb h.2.2.2.1.lt, h.2.2.2.2.1.later hb h.2.2.2.2.1.lt, h.2.2.2.2.2.trans (hb.mono h.2.2.2.2.2.size)⟩
theorem BitAt.put {W : World} {gr g1 g2 g3 g4 : Nat} {A B C O : List Nat} {w : World} (h : BitAt W gr g1 g2 g3 g4 A B C O w) (k y : Nat) (hr : gr ≠ g4) (h1 : g1 ≠ g4) (h2 : g2 ≠ g4) (h3 : g3 ≠ g4) (hW : W.heap.size ≤ g4) {m : Nat} :
    BitAt W gr g1 g2 g3 g4 A B C (O.set k y) ((w.drewN m).setCell ⟨g4, k, none⟩ (.int .u8 (y : Int))) :=
  ⟨VBlk.other (w := w.drewN m) h.1 hr _ _, Blk.other (w := w.drewN m) h.2.1 h1 _ _, Blk.other (w := w.drewN m) h.2.2.1 h2 _ _, Blk.other (w := w.drewN m) h.2.2.2.1 h3 _ _, Blk.set (w := w.drewN m) h.2.2.2.2.1 k y, (below_drewNq h.2.2.2.2.2 m).setCell hW _⟩
theorem BitAt.drewN {W : World} {gr g1 g2 g3 g4 : Nat} {A B C O : List Nat} {w : World} (h : BitAt W gr g1 g2 g3 g4 A B C O w) (m : Nat) : BitAt W gr g1 g2 g3 g4 A B C O (w.drewN m) :=
  ⟨h.1, h.2.1, h.2.2.1, h.2.2.2.1, h.2.2.2.2.1, below_drewNq h.2.2.2.2.2 m⟩
theorem pow_wrap8 (r : Nat) (h : r < 8) : IntKind.u8.wrap (2 ^ r : Int) = ((2 ^ r : Nat) : Int) := by
  rcases (show r = 0 ∨ r = 1 ∨ r = 2 ∨ r = 3 ∨ r = 4 ∨ r = 5 ∨ r = 6 ∨ r = 7 by omega) with rfl | rfl | rfl | rfl | rfl | rfl | rfl | rfl <;> rfl

set_option maxHeartbeats 16000000 in
theorem rbits_walk (op a0 a1 b0 b1 c0 c1 p q : Nat) (h1 : 1 ≤ op) (h6 : op ≤ 6) (A B C : List Nat) (hA : A.length = 16) (hB : B.length = 16) (hC : C.length = 16) (lA : Lanes 8 A) (lB : Lanes 8 B) (lC : Lanes 8 C) (f : Nat → Bool)
    (HF : Hide (∀ k, f k = bitB op (byteBit A k) (byteBit B k) (byteBit C k)))
    (CT : Hide (∀ (x y z : Bool) (W : World), Calls Tryd.prog 43 #[.int .u8 (op : Int), .int .u8 (b2i x), .int .u8 (b2i y), .int .u8 (b2i z)] W fun e W' => e = .returned (.bool (bitB op x y z)) ∧ W' = W))
    (CA : Hide (∀ W : World, Calls Tryd.prog 22 #[vecV (a0, a1)] W fun e W' => e = .returned (.agg (cellsB A)) ∧ Below W.heap.size W W'))
    (CB : Hide (∀ W : World, Calls Tryd.prog 22 #[vecV (b0, b1)] W fun e W' => e = .returned (.agg (cellsB B)) ∧ Below W.heap.size W W'))
    (CC : Hide (∀ W : World, Calls Tryd.prog 22 #[vecV (c0, c1)] W fun e W' => e = .returned (.agg (cellsB C)) ∧ Below W.heap.size W W'))
    (CO : Hide (∀ O, Bits f 128 O → ∀ W : World, Calls Tryd.prog 24 #[.agg (cellsB O)] W fun e W' => e = .returned (vecV (p, q)) ∧ Below W.heap.size W W'))
    (W : World) :
    Calls Tryd.prog 30 #[.int .u8 (op : Int), vecV (a0, a1), vecV (b0, b1), vecV (c0, c1)] W fun e W' => e = .returned (vecE ((p, q), 0)) ∧ Below W.heap.size W W' := by
  have HA := hide hA
  have HB := hide hB
  have HC := hide hC
  have LA := hide lA
  have LB := hide lB
  have LC := hide lC
  have d1 : decide ((op : Int) < 1) = false := by simp; omega
  have d2 : decide ((op : Int) > 6) = false := by simp; omega
  clear hA hB hC lA lB lC h1 h6
  obtain ⟨wa, hwa⟩ : ∃ wa, (((W.alloc (.cells #[.int .u64 (a0 : Int), .int .u64 (a1 : Int)] 24)).alloc (.cells #[.int .u64 (b0 : Int), .int .u64 (b1 : Int)] 24)).alloc (.cells #[.int .u64 (c0 : Int), .int .u64 (c1 : Int)] 24)).alloc (.cells #[.int .u64 0, .int .u64 0] 24) = wa := ⟨_, rfl⟩
  have VA : Hide (VBlk wa W.heap.size (a0, a1)) := hide (by rw [← hwa]; exact alloc_past (alloc_past (alloc_past (alloc_at rfl))))
  have VB : Hide (VBlk wa (W.heap.size + 1) (b0, b1)) := hide (by rw [← hwa]; exact alloc_past (alloc_past (alloc_at (by simp))))
  have VC : Hide (VBlk wa (W.heap.size + 1 + 1) (c0, c1)) := hide (by rw [← hwa]; exact alloc_past (alloc_at (by simp)))
  have ZB : Hide (VBlk wa (W.heap.size + 1 + 1 + 1) (0, 0)) := hide (by rw [← hwa]; exact alloc_at (by simp))
  have BA : Hide (Below W.heap.size W wa) := hide (by rw [← hwa]; exact ((((Below.refl _ _).alloc (Nat.le_refl _) _).alloc (by simp) _).alloc (by simp; omega) _).alloc (by simp; omega) _)
  have HWA := hide hwa
  clear hwa
  unfold vecV at CA CB CC CO ⊢
  simp only at CA CB CC CO ⊢
  go_enter Tryd.func30, Tryd.ntmps30
  go_wp2_with fail
  rw [HWA.out]
  refine wp_region_par [22, 23, 24, 25, 26, 27, 10, 11, 12] (Par3 (.agg #[.int .u64 (a0 : Int), .int .u64 (a1 : Int)]) (.agg #[.int .u64 (b0 : Int), .int .u64 (b1 : Int)]) (.agg #[.int .u64 (c0 : Int), .int .u64 (c1 : Int)]) A B C wa) (by kernel_rfl) (by kernel_rfl) ?_ ?_ ?_
  · intro vs
    exact ⟨(fun h => by cases h), (fun h => by cases h), (fun h => by cases h), (fun h => by cases h), (fun h => by cases h), (fun h => by cases h), ⟨(fun h => by cases h), (fun h => by cases h)⟩, ⟨(fun h => by cases h), (fun h => by cases h)⟩, ⟨(fun h => by cases h), (fun h => by cases h)⟩, (fun h => by cases h), (fun h => by cases h), (fun h => by cases h), (Below.refl _ _).drew⟩
  · intro d vs w1 hd hl hJ
    match vs, hl with
    | [x0, x1, x2, x3, x4, x5, x6, x7, x8], _ =>
    obtain ⟨j0, j1, j2, j3, j4, j5, o0, o1, o2, u01, u02, u12, jb⟩ := hJ
    obtain rfl := j0 (hd 0 (by decide))
    obtain rfl := j1 (hd 1 (by decide))
    obtain rfl := j2 (hd 2 (by decide))
    obtain rfl := j3 (hd 3 (by decide))
    obtain rfl := j4 (hd 4 (by decide))
    obtain rfl := j5 (hd 5 (by decide))
    obtain ⟨g1, e1, hg1, hk1⟩ := o0.2 (hd 6 (by decide))
    simp only [List.getElem?_cons_zero, List.getElem?_cons_succ, Option.getD_some] at e1
    subst e1
    rw [hd 9 (by decide), if_pos rfl] at hk1
    obtain ⟨g2, e2, hg2, hk2⟩ := o1.2 (hd 7 (by decide))
    simp only [List.getElem?_cons_zero, List.getElem?_cons_succ, Option.getD_some] at e2
    subst e2
    rw [hd 10 (by decide), if_pos rfl] at hk2
    obtain ⟨g3, e3, hg3, hk3⟩ := o2.2 (hd 8 (by decide))
    simp only [List.getElem?_cons_zero, List.getElem?_cons_succ, Option.getD_some] at e3
    subst e3
    rw [hd 11 (by decide), if_pos rfl] at hk3
    have K1 := hide hk1
    have K2 := hide hk2
    have K3 := hide hk3
    have BW := hide (BA.out.trans (jb.mono BA.out.size))
    have JB := hide jb
    clear hd hl jb j0 j1 j2 j3 j4 j5 o0 hk1 hg1 o1 hk2 hg2 o2 hk3 hg3 u01 u02 u12
    simp only [putL, Act.put, List.setIfInBounds_toArray, List.set_cons_succ, List.set_cons_zero]
    have ZW := hide (ZB.out.later JB.out ZB.out.lt)
    have S0 : Hide (BitAt W (W.heap.size + 1 + 1 + 1) g1 g2 g3 w1.heap.size A B C zero16 (w1.alloc (.cells (cellsB zero16) 39))) := hide ⟨alloc_past ZW.out, alloc_past K1.out, alloc_past K2.out, alloc_past K3.out, alloc_at rfl, BW.out.alloc BW.out.size _⟩
    have HG1 : Hide (g1 < w1.heap.size) := hide K1.out.lt
    have HG2 : Hide (g2 < w1.heap.size) := hide K2.out.lt
    have HG3 : Hide (g3 < w1.heap.size) := hide K3.out.lt
    have HZ : Hide (W.heap.size + 1 + 1 + 1 < w1.heap.size) := hide ZW.out.lt
    clear K1 K2 K3 BW JB ZW VA VB VC ZB BA HWA CA CB CC
    go_wp2_with fail
    go_loopw [14] (fun x wr => ∃ k : Nat, x = .int .i64 (k : Int) ∧ k ≤ 128 ∧ ∃ O, Bits f k O ∧ BitAt W (W.heap.size + 1 + 1 + 1) g1 g2 g3 w1.heap.size A B C O wr) (fun x _ => 128 - (intOf x).toNat)
    case atStart => exact ⟨0, rfl, by omega, zero16, bits_zero f, S0.out⟩
    case round =>
      obtain ⟨k, rfl, hk, O, hO, hr⟩ := hrel
      have H := hide hr
      have HO := hide hO
      clear hr hO S0
      by_cases c : k < 128
      · have c1 : (k : Int) < 128 := by omega
        obtain ⟨i, hi⟩ : ∃ i, k / 8 = i := ⟨_, rfl⟩
        obtain ⟨r, hr⟩ : ∃ r, k % 8 = r := ⟨_, rfl⟩
        have T1 : (k : Int) / 8 = (i : Int) := by omega
        have T2 : (k : Int) % 8 = (r : Int) := by omega
        have i16 : (i : Int) < 16 := by omega
        have r8 : (r : Int) < 8 := by omega
        have hA : wr.cell? ⟨g1, i, none⟩ = some (.int .u8 (at0 A i : Int)) := H.out.2.1.cell i (by rw [HA.out]; omega)
        have hB : wr.cell? ⟨g2, i, none⟩ = some (.int .u8 (at0 B i : Int)) := H.out.2.2.1.cell i (by rw [HB.out]; omega)
        have hC : wr.cell? ⟨g3, i, none⟩ = some (.int .u8 (at0 C i : Int)) := H.out.2.2.2.1.cell i (by rw [HC.out]; omega)
        have hOc : wr.cell? ⟨w1.heap.size, i, none⟩ = some (.int .u8 (at0 O i : Int)) := H.out.2.2.2.2.1.cell i (by rw [HO.out.1]; omega)
        have hOz : wr.frozen? ⟨w1.heap.size, i, none⟩ = false := H.out.2.2.2.2.1.frozen i
        have EA := and_one (at0 A i) r (LA.out i)
        have EB := and_one (at0 B i) r (LB.out i)
        have EC := and_one (at0 C i) r (LC.out i)
        have EO : bits .or .u8 (at0 O i : Int) (2 ^ r : Int) = ((at0 O i ||| 2 ^ r : Nat) : Int) := by
          rw [show (2 ^ r : Int) = ((2 ^ r : Nat) : Int) by push_cast; rfl]
          exact or_shift (at0 O i) r (HO.out.2.1 i) (by omega)
        have EW : IntKind.u8.wrap (2 ^ r : Int) = ((2 ^ r : Nat) : Int) := pow_wrap8 r (by omega)
        have EU : IntKind.u64.wrap (r : Int) = (r : Int) := by rw [IntKind.wrap_u64]; omega
        have hf := HF.out k
        unfold byteBit at hf
        rw [hi, hr] at hf
        have CK := hide (CT.out ((at0 A i).testBit r) ((at0 B i).testBit r) ((at0 C i).testBit r))
        rw [← hf] at CK
        have HK : Hide (k + 1 ≤ 128) := hide c
        have PT := hide (fun h => bits_put c HO.out h)
        have SK := hide (fun h => bits_skip (k := k) HO.out h)
        rw [hi, hr] at PT
        clear hf hi hr HF HO c
        generalize at0 A i = xa at *
        generalize at0 B i = xb at *
        generalize at0 C i = xc at *
        generalize at0 O i = xo at *
        generalize xa.testBit r = ta at *
        generalize xb.testBit r = tb at *
        generalize xc.testBit r = tc at *
        obtain ⟨y, hy⟩ : ∃ y, xo ||| 2 ^ r = y := ⟨_, rfl⟩
        rw [hy] at EO PT
        clear hy
        go_wp2_with fail
        go_quiet (with_reducible refine Calls.quiet_of_same (CK.out _))
        cases hfk : f k with
        | true =>
          have PT2 := hide (PT.out hfk)
          clear PT SK hfk CK
          go_wp2
          go_roundw
          case rel => exact ⟨k + 1, by go_num, HK.out, _, PT2.out, H.out.put i y (by have := HZ.out; omega) (by have := HG1.out; omega) (by have := HG2.out; omega) (by have := HG3.out; omega) (by have := HZ.out; omega)⟩
          case measure => simp [intOf]; omega
        | false =>
          have SK2 := hide (SK.out hfk)
          clear PT SK hfk CK
          go_wp2
          go_roundw
          case rel => exact ⟨k + 1, by go_num, HK.out, _, SK2.out, H.out.drewN _⟩
          case measure => simp [intOf]; omega
      · have c0 : k = 128 := by omega
        subst c0
        have IF := hide (info16' HO.out.1)
        have CK := hide (CO.out O HO.out)
        clear HF CT CO
        go_wp2_with (refine wpList_load_row rfl 39 _ rfl w1.heap.size rfl 39 (cellsB O) (0, 0) _ H.out.2.2.2.2.1 under16 rfl IF.out ?_)
        refine (CK.out _).mono ?_
        rintro e w2 ⟨rfl, hb⟩
        have H2 := hide (H.out.later hb)
        have z := H2.out.1
        have r0 : w2.cell? ⟨W.heap.size + 1 + 1 + 1, 0, none⟩ = some (.int .u64 0) := z.c0
        have r1 : w2.cell? ⟨W.heap.size + 1 + 1 + 1, 1, none⟩ = some (.int .u64 0) := z.c1
        have z0 : w2.frozen? ⟨W.heap.size + 1 + 1 + 1, 0, none⟩ = false := z.frozen 0
        have z1 : w2.frozen? ⟨W.heap.size + 1 + 1 + 1, 1, none⟩ = false := z.frozen 1
        clear z
        clear hb H
        go_wp2
        refine bodyPost_ret (v := vecE ((p, q), 0)) ((H2.out.1.set2 p q).result2 (by rfl) _ rfl rfl) rfl ?_
        exact ⟨rfl, (H2.out.2.2.2.2.2.setCell (by simp; omega) _).setCell (by simp; omega) _⟩
  · intro i o ho d vs w hl hJ hi hw
    match vs, hl with
    | [x0, x1, x2, x3, x4, x5, x6, x7, x8], _ =>
    have hin : i < 12 := (List.getElem?_eq_some_iff.1 ho).1
    obtain ⟨j0, j1, j2, j3, j4, j5, o0, o1, o2, u01, u02, u12, jb⟩ := hJ
    simp only [List.getElem?_cons_zero, List.getElem?_cons_succ, Option.some.injEq, Option.getD_some] at j0 j1 j2 j3 j4 j5 o0 o1 o2 u01 u02 u12
    rcases (show i = 0 ∨ i = 1 ∨ i = 2 ∨ i = 3 ∨ i = 4 ∨ i = 5 ∨ i = 6 ∨ i = 7 ∨ i = 8 ∨ i = 9 ∨ i = 10 ∨ i = 11 by omega) with rfl | rfl | rfl | rfl | rfl | rfl | rfl | rfl | rfl | rfl | rfl | rfl
    · simp only [List.getElem?_cons_zero, List.getElem?_cons_succ, Option.some.injEq] at ho
      subst ho
      have h0 := (VA.out.later jb VA.out.lt).c0
      have h1 := (VA.out.later jb VA.out.lt).c1
      simp only [putL, Act.put, List.setIfInBounds_toArray, List.set_cons_succ, List.set_cons_zero] at h0 h1 ⊢
      go_wp2
      exact ⟨rfl, [_, x1, x2, x3, x4, x5, x6, x7, x8], rfl, (by simp only [putL, Act.put, List.setIfInBounds_toArray, List.set_cons_succ, List.set_cons_zero]), fun _ => rfl, j1, j2, j3, j4, j5, o0, o1, o2, u01, u02, u12, jb⟩
    · simp only [List.getElem?_cons_zero, List.getElem?_cons_succ, Option.some.injEq] at ho
      subst ho
      have hd : d 0 = true := List.all_eq_true.1 hw 0 (by decide)
      obtain rfl := j0 hd
      simp only [putL, Act.put, List.setIfInBounds_toArray, List.set_cons_succ, List.set_cons_zero]
      go_wp2_with ((with_reducible refine (CA.out _).mono ?_); rintro e w1 ⟨rfl, hb⟩)
      exact ⟨rfl, [_, _, x2, x3, x4, x5, x6, x7, x8], rfl, (by simp only [putL, Act.put, List.setIfInBounds_toArray, List.set_cons_succ, List.set_cons_zero]), fun _ => rfl, fun _ => rfl, j2, j3, j4, j5, o0.later hb, o1.later hb, o2.later hb, u01, u02, u12, jb.trans (hb.mono jb.size)⟩
    · simp only [List.getElem?_cons_zero, List.getElem?_cons_succ, Option.some.injEq] at ho
      subst ho
      have h0 := (VB.out.later jb VB.out.lt).c0
      have h1 := (VB.out.later jb VB.out.lt).c1
      simp only [putL, Act.put, List.setIfInBounds_toArray, List.set_cons_succ, List.set_cons_zero] at h0 h1 ⊢
      go_wp2
      exact ⟨rfl, [x0, x1, _, x3, x4, x5, x6, x7, x8], rfl, (by simp only [putL, Act.put, List.setIfInBounds_toArray, List.set_cons_succ, List.set_cons_zero]), j0, j1, fun _ => rfl, j3, j4, j5, o0, o1, o2, u01, u02, u12, jb⟩
    · simp only [List.getElem?_cons_zero, List.getElem?_cons_succ, Option.some.injEq] at ho
      subst ho
      have hd : d 2 = true := List.all_eq_true.1 hw 2 (by decide)
      obtain rfl := j2 hd
      simp only [putL, Act.put, List.setIfInBounds_toArray, List.set_cons_succ, List.set_cons_zero]
      go_wp2_with ((with_reducible refine (CB.out _).mono ?_); rintro e w1 ⟨rfl, hb⟩)
      exact ⟨rfl, [x0, x1, _, _, x4, x5, x6, x7, x8], rfl, (by simp only [putL, Act.put, List.setIfInBounds_toArray, List.set_cons_succ, List.set_cons_zero]), j0, j1, fun _ => rfl, fun _ => rfl, j4, j5, o0.later hb, o1.later hb, o2.later hb, u01, u02, u12, jb.trans (hb.mono jb.size)⟩
    · simp only [List.getElem?_cons_zero, List.getElem?_cons_succ, Option.some.injEq] at ho
      subst ho
      have h0 := (VC.out.later jb VC.out.lt).c0
      have h1 := (VC.out.later jb VC.out.lt).c1
      simp only [putL, Act.put, List.setIfInBounds_toArray, List.set_cons_succ, List.set_cons_zero] at h0 h1 ⊢
      go_wp2
      exact ⟨rfl, [x0, x1, x2, x3, _, x5, x6, x7, x8], rfl, (by simp only [putL, Act.put, List.setIfInBounds_toArray, List.set_cons_succ, List.set_cons_zero]), j0, j1, j2, j3, fun _ => rfl, j5, o0, o1, o2, u01, u02, u12, jb⟩
    · simp only [List.getElem?_cons_zero, List.getElem?_cons_succ, Option.some.injEq] at ho
      subst ho
      have hd : d 4 = true := List.all_eq_true.1 hw 4 (by decide)
      obtain rfl := j4 hd
      simp only [putL, Act.put, List.setIfInBounds_toArray, List.set_cons_succ, List.set_cons_zero]
      go_wp2_with ((with_reducible refine (CC.out _).mono ?_); rintro e w1 ⟨rfl, hb⟩)
      exact ⟨rfl, [x0, x1, x2, x3, _, _, x6, x7, x8], rfl, (by simp only [putL, Act.put, List.setIfInBounds_toArray, List.set_cons_succ, List.set_cons_zero]), j0, j1, j2, j3, fun _ => rfl, fun _ => rfl, o0.later hb, o1.later hb, o2.later hb, u01, u02, u12, jb.trans (hb.mono jb.size)⟩
    · simp only [List.getElem?_cons_zero, List.getElem?_cons_succ, Option.some.injEq] at ho
      subst ho
      simp only [putL, Act.put, List.setIfInBounds_toArray, List.set_cons_succ, List.set_cons_zero]
      go_wp2
      exact ⟨rfl, [x0, x1, x2, x3, x4, x5, _, x7, x8], rfl, (by simp only [putL, Act.put, List.setIfInBounds_toArray, List.set_cons_succ, List.set_cons_zero]), j0, j1, j2, j3, j4, j5, o0.fresh hi jb.size (alloc_at rfl), o1.later (below_two w _), o2.later (below_two w _), fun _ h => Ne.symm (o1.ne h rfl), fun _ h => Ne.symm (o2.ne h rfl), u12, jb.alloc jb.size _⟩
    · simp only [List.getElem?_cons_zero, List.getElem?_cons_succ, Option.some.injEq] at ho
      subst ho
      simp only [putL, Act.put, List.setIfInBounds_toArray, List.set_cons_succ, List.set_cons_zero]
      go_wp2
      exact ⟨rfl, [x0, x1, x2, x3, x4, x5, x6, _, x8], rfl, (by simp only [putL, Act.put, List.setIfInBounds_toArray, List.set_cons_succ, List.set_cons_zero]), j0, j1, j2, j3, j4, j5, o0.later (below_two w _), o1.fresh hi jb.size (alloc_at rfl), o2.later (below_two w _), fun h _ => (o0.ne h rfl), u02, fun _ h => Ne.symm (o2.ne h rfl), jb.alloc jb.size _⟩
    · simp only [List.getElem?_cons_zero, List.getElem?_cons_succ, Option.some.injEq] at ho
      subst ho
      simp only [putL, Act.put, List.setIfInBounds_toArray, List.set_cons_succ, List.set_cons_zero]
      go_wp2
      exact ⟨rfl, [x0, x1, x2, x3, x4, x5, x6, x7, _], rfl, (by simp only [putL, Act.put, List.setIfInBounds_toArray, List.set_cons_succ, List.set_cons_zero]), j0, j1, j2, j3, j4, j5, o0.later (below_two w _), o1.later (below_two w _), o2.fresh hi jb.size (alloc_at rfl), u01, fun h _ => (o0.ne h rfl), fun h _ => (o1.ne h rfl), jb.alloc jb.size _⟩
    · simp only [List.getElem?_cons_zero, List.getElem?_cons_succ, Option.some.injEq] at ho
      subst ho
      have hd : d 6 = true := List.all_eq_true.1 hw 6 (by decide)
      have hv : d 1 = true := List.all_eq_true.1 hw 1 (by decide)
      obtain rfl := j1 hv
      obtain ⟨g, rfl, hg, hk⟩ := o0.2 hd
      rw [hi] at hk
      have HK := hide hk
      clear hk
      simp only [putL, Act.put, List.setIfInBounds_toArray, List.set_cons_succ, List.set_cons_zero]
      go_wp2_with (refine wpList_store_row rfl 39 _ _ rfl g (cellsB A) rfl rfl 39 (cellsB zero16) HK.out (info16' HA.out) (by rw [cellsB_size, cellsB_size, HA.out]; rfl) (cellsB_one A) ?_)
      exact ⟨rfl, [x0, _, x2, x3, x4, x5, _, x7, x8], rfl, (by simp only [putL, Act.put, List.setIfInBounds_toArray, List.set_cons_succ, List.set_cons_zero]), j0, fun _ => rfl, j2, j3, j4, j5, ⟨fun _ => hd, fun _ => ⟨g, rfl, hg, setRow_heap _ _ _ _ _ _ HK.out⟩⟩, o1.other fun h => u01 hd h, o2.other fun h => u02 hd h, u01, u02, u12, below_setRow jb hg _⟩
    · simp only [List.getElem?_cons_zero, List.getElem?_cons_succ, Option.some.injEq] at ho
      subst ho
      have hd : d 7 = true := List.all_eq_true.1 hw 7 (by decide)
      have hv : d 3 = true := List.all_eq_true.1 hw 3 (by decide)
      obtain rfl := j3 hv
      obtain ⟨g, rfl, hg, hk⟩ := o1.2 hd
      rw [hi] at hk
      have HK := hide hk
      clear hk
      simp only [putL, Act.put, List.setIfInBounds_toArray, List.set_cons_succ, List.set_cons_zero]
      go_wp2_with (refine wpList_store_row rfl 39 _ _ rfl g (cellsB B) rfl rfl 39 (cellsB zero16) HK.out (info16' HB.out) (by rw [cellsB_size, cellsB_size, HB.out]; rfl) (cellsB_one B) ?_)
      exact ⟨rfl, [x0, x1, x2, _, x4, x5, x6, _, x8], rfl, (by simp only [putL, Act.put, List.setIfInBounds_toArray, List.set_cons_succ, List.set_cons_zero]), j0, j1, j2, fun _ => rfl, j4, j5, o0.other fun h => Ne.symm (u01 h hd), ⟨fun _ => hd, fun _ => ⟨g, rfl, hg, setRow_heap _ _ _ _ _ _ HK.out⟩⟩, o2.other fun h => u12 hd h, u01, u02, u12, below_setRow jb hg _⟩
    · simp only [List.getElem?_cons_zero, List.getElem?_cons_succ, Option.some.injEq] at ho
      subst ho
      have hd : d 8 = true := List.all_eq_true.1 hw 8 (by decide)
      have hv : d 5 = true := List.all_eq_true.1 hw 5 (by decide)
      obtain rfl := j5 hv
      obtain ⟨g, rfl, hg, hk⟩ := o2.2 hd
      rw [hi] at hk
      have HK := hide hk
      clear hk
      simp only [putL, Act.put, List.setIfInBounds_toArray, List.set_cons_succ, List.set_cons_zero]
      go_wp2_with (refine wpList_store_row rfl 39 _ _ rfl g (cellsB C) rfl rfl 39 (cellsB zero16) HK.out (info16' HC.out) (by rw [cellsB_size, cellsB_size, HC.out]; rfl) (cellsB_one C) ?_)
      exact ⟨rfl, [x0, x1, x2, x3, x4, _, x6, x7, _], rfl, (by simp only [putL, Act.put, List.setIfInBounds_toArray, List.set_cons_succ, List.set_cons_zero]), j0, j1, j2, j3, j4, fun _ => rfl, o0.other fun h => Ne.symm (u02 h hd), o1.other fun h => Ne.symm (u12 h hd), ⟨fun _ => hd, fun _ => ⟨g, rfl, hg, setRow_heap _ _ _ _ _ _ HK.out⟩⟩, u01, u02, u12, below_setRow jb hg _⟩

set_option maxHeartbeats 1000000 in
theorem rbits_bad (op : Int) (h : ¬ (1 ≤ op ∧ op ≤ 6)) (a b c : Nat × Nat) (W : World) :
    Calls Tryd.prog 30 #[.int .u8 op, vecV a, vecV b, vecV c] W fun e W' => e = .returned (vecE ((0, 0), 2)) ∧ Below W.heap.size W W' := by
  unfold vecE vecV
  by_cases h1 : op < 1
  · have d1 : decide (op < 1) = true := by simpa using h1
    clear h
    go_enter Tryd.func30, Tryd.ntmps30
    go_wp2
    refine bodyPost_ret (v := vecE ((0, 0), 2)) (VBlk.result2 (v := (0, 0)) (alloc_at (g := W.heap.size + 1 + 1 + 1) (by simp)) (by rfl) _ rfl rfl) rfl ?_
    exact ⟨rfl, ((((Below.refl _ _).alloc (Nat.le_refl _) _).alloc (by simp) _).alloc (by simp; omega) _).alloc (by simp; omega) _⟩
  · have d1 : decide (op < 1) = false := by simpa using h1
    have d2 : decide (op > 6) = true := by simp; omega
    clear h
    go_enter Tryd.func30, Tryd.ntmps30
    go_wp2
    refine bodyPost_ret (v := vecE ((0, 0), 2)) (VBlk.result2 (v := (0, 0)) (alloc_at (g := W.heap.size + 1 + 1 + 1) (by simp)) (by rfl) _ rfl rfl) rfl ?_
    exact ⟨rfl, ((((Below.refl _ _).alloc (Nat.le_refl _) _).alloc (by simp) _).alloc (by simp; omega) _).alloc (by simp; omega) _⟩

theorem rbits_calls (op : Int) (a b c : Nat × Nat) (ha : Vok a) (hb : Vok b) (hc : Vok c) (W : World) :
    Calls Tryd.prog 30 #[.int .u8 op, vecV a, vecV b, vecV c] W fun e W' => e = .returned (vecE (bitsV op a b c)) ∧ Below W.heap.size W W' := by
  unfold bitsV
  by_cases h : 1 ≤ op ∧ op ≤ 6
  · rw [if_pos h]
    obtain ⟨n, rfl⟩ := Int.eq_ofNat_of_zero_le (show 0 ≤ op by omega)
    have h1 : 1 ≤ n := by omega
    have h6 : n ≤ 6 := by omega
    simp only [Int.toNat_natCast]
    have CA := fun W => rbytes_calls a W
    have CB := fun W => rbytes_calls b W
    have CC := fun W => rbytes_calls c W
    have CO : ∀ O, Bits (fun k => bitB n (byteBit (listN a 8) k) (byteBit (listN b 8) k) (byteBit (listN c 8) k)) 128 O → ∀ W : World, Calls Tryd.prog 24 #[.agg (cellsB O)] W fun e W' => e = .returned (vecV (bitsN n a b c)) ∧ Below W.heap.size W W' := by
      intro O hO W
      have := rofBytes_calls O hO.1 hO.2.1 W
      rwa [bits_vec h1 h6 ha hb hc hO] at this
    have hA := listN_length a 8
    have hB := listN_length b 8
    have hC := listN_length c 8
    have lA := list_lanes a 8
    have lB := list_lanes b 8
    have lC := list_lanes c 8
    obtain ⟨⟨p, q⟩, hF⟩ : ∃ F, bitsN n a b c = F := ⟨_, rfl⟩
    rw [hF] at CO ⊢
    obtain ⟨a0, a1⟩ := a
    obtain ⟨b0, b1⟩ := b
    obtain ⟨c0, c1⟩ := c
    clear hF
    generalize listN (a0, a1) 8 = A at *
    generalize listN (b0, b1) 8 = B at *
    generalize listN (c0, c1) 8 = C at *
    unfold arrV at CA CB CC
    exact rbits_walk n a0 a1 b0 b1 c0 c1 p q h1 h6 A B C hA hB hC lA lB lC _ (hide fun k => rfl) (hide fun x y z W => rbit_calls n h1 h6 x y z W) (hide CA) (hide CB) (hide CC) (hide CO) W
  · rw [if_neg h]
    exact rbits_bad op h a b c W
end Go.Proofs.YtdhanapmknlobaaDoor
