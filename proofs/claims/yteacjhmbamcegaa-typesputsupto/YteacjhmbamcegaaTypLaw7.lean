/-
  The law TypesPuts, over what is asked of types (genputs9.py wrote it).
-/
import Derived.Test.YteacjhmbamcegaaTypPutE
import Derived.Test.YteacjhmbamcegaaRefSame
set_option linter.unusedVariables false
set_option linter.unusedSimpArgs false
namespace Go.Proofs.Yteacjhmbamcegaa
open Go.RowKit Typ

def TPutOK : Prop := ∀ (v1 v2 : Value) (l1 l2 : List Int) (w : World), RowT w v1 l1 → RowT w v2 l2 → Leb.Bytes l1 → Leb.Bytes l2 → l1.length ≤ 1048576 → l2.length ≤ 1048576 →
  Calls Try.prog 38 #[funcV v1 v2] w fun e w' => PutPost (putFunc l1 l2) w e w'
def TPutLimOK : Prop := ∀ (n x : Int) (b : Bool) (w : World), U32 n → U32 x → Calls Try.prog 40 #[limV n x b] w fun e w' => PutPost (putLim n x b) w e w'

theorem same_own {w : World} {b : Nat} {v1 v2 : Value} {l : List Int} (h1 : OwnU w b v1 l) (h2 : OwnU w b v2 l) (hl : 1 ≤ l.length) (hy : Leb.Bytes l) :
    Calls Try.prog 37 #[v1, v2] w fun e w' => e = .returned (.bool true) ∧ Below w.heap.size w w' := by
  obtain ⟨g1, c1, rfl, _, r1⟩ := h1.row hl hy
  obtain ⟨g2, c2, rfl, _, r2⟩ := h2.row hl hy
  refine (same_calls' _ _ c1 c2 l.length l w r1 r2).mono ?_
  rintro e w' ⟨he, n, rfl⟩
  exact ⟨he, below_drewNq (Below.refl _ _) _⟩
theorem func_len (l1 l2 : List Int) : 1 ≤ (putFunc l1 l2).length := by simp [putFunc]
theorem lim_len (n x : Int) (b : Bool) : 1 ≤ (putLim n x b).length := by unfold putLim; split <;> simp
theorem bytes_cons {y : Int} {l : List Int} (h0 : 0 ≤ y) (h1 : y ≤ 255) (h : Leb.Bytes l) : Leb.Bytes (y :: l) := by
  intro i
  cases i with
  | zero => simp; omega
  | succ i => simpa using h i
theorem bytes_func {l1 l2 : List Int} (h1 : Leb.Bytes l1) (h2 : Leb.Bytes l2) (k1 : l1.length ≤ 1048576) (k2 : l2.length ≤ 1048576) : Leb.Bytes (putFunc l1 l2) :=
  bytes_cons (by decide) (by decide) (bytes_append (bytes_list h1 (by omega)) (bytes_list h2 (by omega)))
theorem bytes_lim {n x : Int} {b : Bool} (w0 : U32 n) (w1 : U32 x) : Leb.Bytes (putLim n x b) := by
  have h0 := w0.2
  have h1 := w1.2
  unfold putLim
  split
  · exact bytes_cons (by decide) (by decide) (bytes_append (bytes_putU w0.1 (by omega)) (bytes_putU w1.1 (by omega)))
  · exact bytes_cons (by decide) (by decide) (bytes_putU w0.1 (by omega))

def PutsJ (FV LV : Value) (A B : List Int) (wa : World) (d : Nat → Bool) (vs : List Value) (w : World) : Prop :=
  (d 0 = true → vs[0]?.getD undef = FV) ∧ (d 1 = true → OwnU w wa.heap.size (vs[1]?.getD undef) A) ∧ (d 2 = true → vs[2]?.getD undef = FV) ∧ (d 3 = true → OwnU w wa.heap.size (vs[3]?.getD undef) A) ∧ (d 4 = true → vs[4]?.getD undef = .bool true) ∧ (d 5 = true → vs[5]?.getD undef = .bool true) ∧ (d 6 = true → vs[6]?.getD undef = LV) ∧ (d 7 = true → OwnU w wa.heap.size (vs[7]?.getD undef) B) ∧ (d 8 = true → vs[8]?.getD undef = LV) ∧ (d 9 = true → OwnU w wa.heap.size (vs[9]?.getD undef) B) ∧ (d 10 = true → vs[10]?.getD undef = .bool true) ∧ (d 11 = true → vs[11]?.getD undef = .bool true) ∧ (d 12 = true → vs[12]?.getD undef = .bool true) ∧ (d 13 = true → vs[13]?.getD undef = .bool true) ∧ (d 14 = true → vs[14]?.getD undef = .bool true) ∧ (d 15 = true → vs[15]?.getD undef = .bool true) ∧ Below wa.heap.size wa w

set_option maxHeartbeats 16000000 in
theorem typesPuts_law (hF : TFuncOK) (hR : TIsRefOK) (hP : TPutOK) (hQ : TPutLimOK)
    (v1 v2 : Value) (l1 l2 : List Int) (n x : Int) (b : Bool) (w : World) (w0 : U32 n) (w1 : U32 x) (R1 : RowT w v1 l1) (R2 : RowT w v2 l2) (hy1 : Leb.Bytes l1) (hy2 : Leb.Bytes l2) (h1 : l1.length ≤ 1048576) (h2 : l2.length ≤ 1048576) :
    Calls Try.prog 7 #[funcV v1 v2, limV n x b] w fun e w' => e = .returned (.bool true) ∧ Below w.heap.size w w' := by
  obtain ⟨wa, hwa⟩ : ∃ wa, (w.alloc (.cells #[v1, v2] 38)).alloc (.cells #[.int .u32 n, .int .u32 x, .bool b] 33) = wa := ⟨_, rfl⟩
  have BA : Hid (Below w.heap.size w wa) := hideT (by rw [← hwa]; exact ((Below.refl _ _).alloc (Nat.le_refl _) _).alloc (by simp) _)
  have K1 : Hid (SBlk wa w.heap.size 38 #[v1, v2]) := hideT (by rw [← hwa]; exact (sblk_new _ _ _).past _)
  have K2 : Hid (SBlk wa (w.heap.size + 1) 33 #[.int .u32 n, .int .u32 x, .bool b]) := hideT (by
    rw [← hwa]
    have := sblk_new (w.alloc (.cells #[v1, v2] 38)) 33 #[.int .u32 n, .int .u32 x, .bool b]
    simpa using this)
  have C1 := hideT (fun V hV => hP v1 v2 l1 l2 V (R1.later (w' := V) hV) (R2.later (w' := V) hV) hy1 hy2 h1 h2)
  have C2 := hideT (fun V hV => rPut_calls v1 v2 l1 l2 V (R1.later (w' := V) hV) (R2.later (w' := V) hV) hy1 hy2 h1 h2)
  have C3 := hideT (fun V => hQ n x b V w0 w1)
  have C4 := hideT (fun V => rPutLim_calls n x b V w0 w1)
  have CW := hideT (fun V => works9_calls hF hR V)
  have LA := hideT (func_len l1 l2)
  have LB := hideT (lim_len n x b)
  have YA := hideT (bytes_func hy1 hy2 h1 h2)
  have YB := hideT (bytes_lim (b := b) w0 w1)
  have HWA := hideT hwa
  clear hwa hF hR hP hQ hy1 hy2 h1 h2 w0 w1
  obtain ⟨q1, z1, rfl, _⟩ := R1
  obtain ⟨q2, z2, rfl, _⟩ := R2
  unfold funcV at C1 C2 ⊢
  unfold limV at C3 C4 ⊢
  generalize putFunc l1 l2 = A at *
  generalize putLim n x b = B at *
  generalize l1.length = n1 at *
  generalize l2.length = n2 at *
  go_enter Try.func7, Try.ntmps7
  go_wp2_with fail
  rw [HWA.out]
  refine wp_region_par [5, 6, 7, 8, 9, 10, 11, 12, 13, 14, 15, 16, 17, 18, 19, 4] (PutsJ (.agg #[.slice q1 n1 z1, .slice q2 n2 z2]) (.agg #[.int .u32 n, .int .u32 x, .bool b]) A B wa) (by kernel_rfl) (by kernel_rfl) ?_ ?_ ?_
  · intro vs
    exact ⟨(fun h => by cases h), (fun h => by cases h), (fun h => by cases h), (fun h => by cases h), (fun h => by cases h), (fun h => by cases h), (fun h => by cases h), (fun h => by cases h), (fun h => by cases h), (fun h => by cases h), (fun h => by cases h), (fun h => by cases h), (fun h => by cases h), (fun h => by cases h), (fun h => by cases h), (fun h => by cases h), (Below.refl _ _).drew⟩
  · intro d vs wr hd hl hJ
    match vs, hl with
    | [x0, x1, x2, x3, x4, x5, x6, x7, x8, x9, x10, x11, x12, x13, x14, x15], _ =>
    obtain ⟨j0, j1, j2, j3, j4, j5, j6, j7, j8, j9, j10, j11, j12, j13, j14, j15, jb⟩ := hJ
    obtain rfl := j15 (hd 15 (by decide))
    have BW := hideT (BA.out.trans (jb.mono BA.out.size))
    clear hd hl jb j0 j1 j2 j3 j4 j5 j6 j7 j8 j9 j10 j11 j12 j13 j14 j15
    simp only [putL, Act.put, List.setIfInBounds_toArray, List.set_cons_succ, List.set_cons_zero]
    go_wp2
    go_ret
    exact ⟨rfl, BW.out⟩
  · intro i o ho d vs wr hl hJ hi hw
    match vs, hl with
    | [x0, x1, x2, x3, x4, x5, x6, x7, x8, x9, x10, x11, x12, x13, x14, x15], _ =>
    have hin : i < 16 := (List.getElem?_eq_some_iff.1 ho).1
    obtain ⟨j0, j1, j2, j3, j4, j5, j6, j7, j8, j9, j10, j11, j12, j13, j14, j15, jb⟩ := hJ
    simp only [List.getElem?_cons_zero, List.getElem?_cons_succ, Option.some.injEq, Option.getD_some] at j0 j1 j2 j3 j4 j5 j6 j7 j8 j9 j10 j11 j12 j13 j14 j15
    rcases (show i = 0 ∨ i = 1 ∨ i = 2 ∨ i = 3 ∨ i = 4 ∨ i = 5 ∨ i = 6 ∨ i = 7 ∨ i = 8 ∨ i = 9 ∨ i = 10 ∨ i = 11 ∨ i = 12 ∨ i = 13 ∨ i = 14 ∨ i = 15 by omega) with rfl | rfl | rfl | rfl | rfl | rfl | rfl | rfl | rfl | rfl | rfl | rfl | rfl | rfl | rfl | rfl
    · simp only [List.getElem?_cons_zero, List.getElem?_cons_succ, Option.some.injEq] at ho
      subst ho
      have hc0 := (K1.out.later jb K1.out.lt).cell (k := 0) rfl
      have hc1 := (K1.out.later jb K1.out.lt).cell (k := 1) rfl
      simp only [putL, Act.put, List.setIfInBounds_toArray, List.set_cons_succ, List.set_cons_zero] at hc0 hc1 ⊢
      go_wp2
      exact ⟨rfl, [_, x1, x2, x3, x4, x5, x6, x7, x8, x9, x10, x11, x12, x13, x14, x15], rfl, (by simp only [putL, Act.put, List.setIfInBounds_toArray, List.set_cons_succ, List.set_cons_zero]), fun _ => rfl, j1, j2, j3, j4, j5, j6, j7, j8, j9, j10, j11, j12, j13, j14, j15, jb⟩
    · simp only [List.getElem?_cons_zero, List.getElem?_cons_succ, Option.some.injEq] at ho
      subst ho
      have hd0 : d 0 = true := List.all_eq_true.1 hw 0 (by decide)
      obtain rfl := j0 hd0
      have CC := hideT (C1.out wr (BA.out.trans (jb.mono BA.out.size)))
      simp only [putL, Act.put, List.setIfInBounds_toArray, List.set_cons_succ, List.set_cons_zero]
      go_wp2_with ((with_reducible refine CC.out.mono ?_); rintro e w2 ⟨v, rfl, ho, hb⟩)
      exact ⟨rfl, [_, v, x2, x3, x4, x5, x6, x7, x8, x9, x10, x11, x12, x13, x14, x15], rfl, (by simp only [putL, Act.put, List.setIfInBounds_toArray, List.set_cons_succ, List.set_cons_zero]), fun _ => rfl, (fun _ => OwnU.mono (show OwnU w2 wr.heap.size v A from ho) jb.size), j2, (fun h => (j3 h).later hb), j4, j5, j6, (fun h => (j7 h).later hb), j8, (fun h => (j9 h).later hb), j10, j11, j12, j13, j14, j15, jb.trans (hb.mono jb.size)⟩
    · simp only [List.getElem?_cons_zero, List.getElem?_cons_succ, Option.some.injEq] at ho
      subst ho
      have hc0 := (K1.out.later jb K1.out.lt).cell (k := 0) rfl
      have hc1 := (K1.out.later jb K1.out.lt).cell (k := 1) rfl
      simp only [putL, Act.put, List.setIfInBounds_toArray, List.set_cons_succ, List.set_cons_zero] at hc0 hc1 ⊢
      go_wp2
      exact ⟨rfl, [x0, x1, _, x3, x4, x5, x6, x7, x8, x9, x10, x11, x12, x13, x14, x15], rfl, (by simp only [putL, Act.put, List.setIfInBounds_toArray, List.set_cons_succ, List.set_cons_zero]), j0, j1, fun _ => rfl, j3, j4, j5, j6, j7, j8, j9, j10, j11, j12, j13, j14, j15, jb⟩
    · simp only [List.getElem?_cons_zero, List.getElem?_cons_succ, Option.some.injEq] at ho
      subst ho
      have hd2 : d 2 = true := List.all_eq_true.1 hw 2 (by decide)
      obtain rfl := j2 hd2
      have CC := hideT (C2.out wr (BA.out.trans (jb.mono BA.out.size)))
      simp only [putL, Act.put, List.setIfInBounds_toArray, List.set_cons_succ, List.set_cons_zero]
      go_wp2_with ((with_reducible refine CC.out.mono ?_); rintro e w2 ⟨v, rfl, ho, hb⟩)
      exact ⟨rfl, [x0, x1, _, v, x4, x5, x6, x7, x8, x9, x10, x11, x12, x13, x14, x15], rfl, (by simp only [putL, Act.put, List.setIfInBounds_toArray, List.set_cons_succ, List.set_cons_zero]), j0, (fun h => (j1 h).later hb), fun _ => rfl, (fun _ => OwnU.mono (show OwnU w2 wr.heap.size v A from ho) jb.size), j4, j5, j6, (fun h => (j7 h).later hb), j8, (fun h => (j9 h).later hb), j10, j11, j12, j13, j14, j15, jb.trans (hb.mono jb.size)⟩
    · simp only [List.getElem?_cons_zero, List.getElem?_cons_succ, Option.some.injEq] at ho
      subst ho
      have hd1 : d 1 = true := List.all_eq_true.1 hw 1 (by decide)
      have hd3 : d 3 = true := List.all_eq_true.1 hw 3 (by decide)
      have CC := hideT (same_own (j1 hd1) (j3 hd3) LA.out YA.out)
      simp only [putL, Act.put, List.setIfInBounds_toArray, List.set_cons_succ, List.set_cons_zero]
      go_wp2_with ((with_reducible refine CC.out.mono ?_); rintro e w2 ⟨rfl, hb⟩)
      exact ⟨rfl, [x0, x1, x2, x3, _, x5, x6, x7, x8, x9, x10, x11, x12, x13, x14, x15], rfl, (by simp only [putL, Act.put, List.setIfInBounds_toArray, List.set_cons_succ, List.set_cons_zero]), j0, (fun h => (j1 h).later hb), j2, (fun h => (j3 h).later hb), fun _ => rfl, j5, j6, (fun h => (j7 h).later hb), j8, (fun h => (j9 h).later hb), j10, j11, j12, j13, j14, j15, jb.trans (hb.mono jb.size)⟩
    · simp only [List.getElem?_cons_zero, List.getElem?_cons_succ, Option.some.injEq] at ho
      subst ho
      have hd4 : d 4 = true := List.all_eq_true.1 hw 4 (by decide)
      obtain rfl := j4 hd4
      simp only [putL, Act.put, List.setIfInBounds_toArray, List.set_cons_succ, List.set_cons_zero]
      go_wp2
      exact ⟨rfl, [x0, x1, x2, x3, _, _, x6, x7, x8, x9, x10, x11, x12, x13, x14, x15], rfl, (by simp only [putL, Act.put, List.setIfInBounds_toArray, List.set_cons_succ, List.set_cons_zero]), j0, j1, j2, j3, fun _ => rfl, fun _ => rfl, j6, j7, j8, j9, j10, j11, j12, j13, j14, j15, jb⟩
    · simp only [List.getElem?_cons_zero, List.getElem?_cons_succ, Option.some.injEq] at ho
      subst ho
      have hd5 : d 5 = true := List.all_eq_true.1 hw 5 (by decide)
      obtain rfl := j5 hd5
      have hc0 := (K2.out.later jb K2.out.lt).cell (k := 0) rfl
      have hc1 := (K2.out.later jb K2.out.lt).cell (k := 1) rfl
      have hc2 := (K2.out.later jb K2.out.lt).cell (k := 2) rfl
      simp only [putL, Act.put, List.setIfInBounds_toArray, List.set_cons_succ, List.set_cons_zero] at hc0 hc1 hc2 ⊢
      go_wp2
      exact ⟨rfl, [x0, x1, x2, x3, x4, _, _, x7, x8, x9, x10, x11, x12, x13, x14, x15], rfl, (by simp only [putL, Act.put, List.setIfInBounds_toArray, List.set_cons_succ, List.set_cons_zero]), j0, j1, j2, j3, j4, fun _ => rfl, fun _ => rfl, j7, j8, j9, j10, j11, j12, j13, j14, j15, jb⟩
    · simp only [List.getElem?_cons_zero, List.getElem?_cons_succ, Option.some.injEq] at ho
      subst ho
      have hd5 : d 5 = true := List.all_eq_true.1 hw 5 (by decide)
      obtain rfl := j5 hd5
      have hd6 : d 6 = true := List.all_eq_true.1 hw 6 (by decide)
      obtain rfl := j6 hd6
      have CC := hideT (C3.out wr)
      simp only [putL, Act.put, List.setIfInBounds_toArray, List.set_cons_succ, List.set_cons_zero]
      go_wp2_with ((with_reducible refine CC.out.mono ?_); rintro e w2 ⟨v, rfl, ho, hb⟩)
      exact ⟨rfl, [x0, x1, x2, x3, x4, _, _, v, x8, x9, x10, x11, x12, x13, x14, x15], rfl, (by simp only [putL, Act.put, List.setIfInBounds_toArray, List.set_cons_succ, List.set_cons_zero]), j0, (fun h => (j1 h).later hb), j2, (fun h => (j3 h).later hb), j4, fun _ => rfl, fun _ => rfl, (fun _ => OwnU.mono (show OwnU w2 wr.heap.size v B from ho) jb.size), j8, (fun h => (j9 h).later hb), j10, j11, j12, j13, j14, j15, jb.trans (hb.mono jb.size)⟩
    · simp only [List.getElem?_cons_zero, List.getElem?_cons_succ, Option.some.injEq] at ho
      subst ho
      have hd5 : d 5 = true := List.all_eq_true.1 hw 5 (by decide)
      obtain rfl := j5 hd5
      have hc0 := (K2.out.later jb K2.out.lt).cell (k := 0) rfl
      have hc1 := (K2.out.later jb K2.out.lt).cell (k := 1) rfl
      have hc2 := (K2.out.later jb K2.out.lt).cell (k := 2) rfl
      simp only [putL, Act.put, List.setIfInBounds_toArray, List.set_cons_succ, List.set_cons_zero] at hc0 hc1 hc2 ⊢
      go_wp2
      exact ⟨rfl, [x0, x1, x2, x3, x4, _, x6, x7, _, x9, x10, x11, x12, x13, x14, x15], rfl, (by simp only [putL, Act.put, List.setIfInBounds_toArray, List.set_cons_succ, List.set_cons_zero]), j0, j1, j2, j3, j4, fun _ => rfl, j6, j7, fun _ => rfl, j9, j10, j11, j12, j13, j14, j15, jb⟩
    · simp only [List.getElem?_cons_zero, List.getElem?_cons_succ, Option.some.injEq] at ho
      subst ho
      have hd5 : d 5 = true := List.all_eq_true.1 hw 5 (by decide)
      obtain rfl := j5 hd5
      have hd8 : d 8 = true := List.all_eq_true.1 hw 8 (by decide)
      obtain rfl := j8 hd8
      have CC := hideT (C4.out wr)
      simp only [putL, Act.put, List.setIfInBounds_toArray, List.set_cons_succ, List.set_cons_zero]
      go_wp2_with ((with_reducible refine CC.out.mono ?_); rintro e w2 ⟨v, rfl, ho, hb⟩)
      exact ⟨rfl, [x0, x1, x2, x3, x4, _, x6, x7, _, v, x10, x11, x12, x13, x14, x15], rfl, (by simp only [putL, Act.put, List.setIfInBounds_toArray, List.set_cons_succ, List.set_cons_zero]), j0, (fun h => (j1 h).later hb), j2, (fun h => (j3 h).later hb), j4, fun _ => rfl, j6, (fun h => (j7 h).later hb), fun _ => rfl, (fun _ => OwnU.mono (show OwnU w2 wr.heap.size v B from ho) jb.size), j10, j11, j12, j13, j14, j15, jb.trans (hb.mono jb.size)⟩
    · simp only [List.getElem?_cons_zero, List.getElem?_cons_succ, Option.some.injEq] at ho
      subst ho
      have hd5 : d 5 = true := List.all_eq_true.1 hw 5 (by decide)
      obtain rfl := j5 hd5
      have hd7 : d 7 = true := List.all_eq_true.1 hw 7 (by decide)
      have hd9 : d 9 = true := List.all_eq_true.1 hw 9 (by decide)
      have CC := hideT (same_own (j7 hd7) (j9 hd9) LB.out YB.out)
      simp only [putL, Act.put, List.setIfInBounds_toArray, List.set_cons_succ, List.set_cons_zero]
      go_wp2_with ((with_reducible refine CC.out.mono ?_); rintro e w2 ⟨rfl, hb⟩)
      exact ⟨rfl, [x0, x1, x2, x3, x4, _, x6, x7, x8, x9, _, x11, x12, x13, x14, x15], rfl, (by simp only [putL, Act.put, List.setIfInBounds_toArray, List.set_cons_succ, List.set_cons_zero]), j0, (fun h => (j1 h).later hb), j2, (fun h => (j3 h).later hb), j4, fun _ => rfl, j6, (fun h => (j7 h).later hb), j8, (fun h => (j9 h).later hb), fun _ => rfl, j11, j12, j13, j14, j15, jb.trans (hb.mono jb.size)⟩
    · simp only [List.getElem?_cons_zero, List.getElem?_cons_succ, Option.some.injEq] at ho
      subst ho
      have hd5 : d 5 = true := List.all_eq_true.1 hw 5 (by decide)
      obtain rfl := j5 hd5
      have hd10 : d 10 = true := List.all_eq_true.1 hw 10 (by decide)
      obtain rfl := j10 hd10
      simp only [putL, Act.put, List.setIfInBounds_toArray, List.set_cons_succ, List.set_cons_zero]
      go_wp2
      exact ⟨rfl, [x0, x1, x2, x3, x4, _, x6, x7, x8, x9, _, _, x12, x13, x14, x15], rfl, (by simp only [putL, Act.put, List.setIfInBounds_toArray, List.set_cons_succ, List.set_cons_zero]), j0, j1, j2, j3, j4, fun _ => rfl, j6, j7, j8, j9, fun _ => rfl, fun _ => rfl, j12, j13, j14, j15, jb⟩
    · simp only [List.getElem?_cons_zero, List.getElem?_cons_succ, Option.some.injEq] at ho
      subst ho
      have hd11 : d 11 = true := List.all_eq_true.1 hw 11 (by decide)
      obtain rfl := j11 hd11
      simp only [putL, Act.put, List.setIfInBounds_toArray, List.set_cons_succ, List.set_cons_zero]
      go_wp2
      exact ⟨rfl, [x0, x1, x2, x3, x4, x5, x6, x7, x8, x9, x10, _, _, x13, x14, x15], rfl, (by simp only [putL, Act.put, List.setIfInBounds_toArray, List.set_cons_succ, List.set_cons_zero]), j0, j1, j2, j3, j4, j5, j6, j7, j8, j9, j10, fun _ => rfl, fun _ => rfl, j13, j14, j15, jb⟩
    · simp only [List.getElem?_cons_zero, List.getElem?_cons_succ, Option.some.injEq] at ho
      subst ho
      have hd12 : d 12 = true := List.all_eq_true.1 hw 12 (by decide)
      obtain rfl := j12 hd12
      have CC := hideT (CW.out wr)
      simp only [putL, Act.put, List.setIfInBounds_toArray, List.set_cons_succ, List.set_cons_zero]
      go_wp2_with ((with_reducible refine CC.out.mono ?_); rintro e w2 ⟨rfl, hb⟩)
      exact ⟨rfl, [x0, x1, x2, x3, x4, x5, x6, x7, x8, x9, x10, x11, _, _, x14, x15], rfl, (by simp only [putL, Act.put, List.setIfInBounds_toArray, List.set_cons_succ, List.set_cons_zero]), j0, (fun h => (j1 h).later hb), j2, (fun h => (j3 h).later hb), j4, j5, j6, (fun h => (j7 h).later hb), j8, (fun h => (j9 h).later hb), j10, j11, fun _ => rfl, fun _ => rfl, j14, j15, jb.trans (hb.mono jb.size)⟩
    · simp only [List.getElem?_cons_zero, List.getElem?_cons_succ, Option.some.injEq] at ho
      subst ho
      have hd12 : d 12 = true := List.all_eq_true.1 hw 12 (by decide)
      obtain rfl := j12 hd12
      have hd13 : d 13 = true := List.all_eq_true.1 hw 13 (by decide)
      obtain rfl := j13 hd13
      simp only [putL, Act.put, List.setIfInBounds_toArray, List.set_cons_succ, List.set_cons_zero]
      go_wp2
      exact ⟨rfl, [x0, x1, x2, x3, x4, x5, x6, x7, x8, x9, x10, x11, _, _, _, x15], rfl, (by simp only [putL, Act.put, List.setIfInBounds_toArray, List.set_cons_succ, List.set_cons_zero]), j0, j1, j2, j3, j4, j5, j6, j7, j8, j9, j10, j11, fun _ => rfl, fun _ => rfl, fun _ => rfl, j15, jb⟩
    · simp only [List.getElem?_cons_zero, List.getElem?_cons_succ, Option.some.injEq] at ho
      subst ho
      have hd14 : d 14 = true := List.all_eq_true.1 hw 14 (by decide)
      obtain rfl := j14 hd14
      simp only [putL, Act.put, List.setIfInBounds_toArray, List.set_cons_succ, List.set_cons_zero]
      go_wp2
      exact ⟨rfl, [x0, x1, x2, x3, x4, x5, x6, x7, x8, x9, x10, x11, x12, x13, _, _], rfl, (by simp only [putL, Act.put, List.setIfInBounds_toArray, List.set_cons_succ, List.set_cons_zero]), j0, j1, j2, j3, j4, j5, j6, j7, j8, j9, j10, j11, j12, j13, fun _ => rfl, fun _ => rfl, jb⟩
end Go.Proofs.Yteacjhmbamcegaa
