/-
  The document's PutLimits (genput9.py wrote it).
-/
import Derived.Test.YteacjhmbamcegaaTypPutD
set_option linter.unusedVariables false
set_option linter.unusedSimpArgs false
namespace Go.Proofs.Yteacjhmbamcegaa
open Go.RowKit Typ

def PutLJ (p1 p2 n1 n2 x1 x2 : Value) (A B : List Int) (wa : World) (d : Nat → Bool) (vs : List Value) (w : World) : Prop :=
  (d 0 = true → vs[0]?.getD undef = p1) ∧ (d 1 = true → vs[1]?.getD undef = n1) ∧ (d 2 = true → vs[2]?.getD undef = n2) ∧ (d 3 = true → OwnU w wa.heap.size (vs[3]?.getD undef) A) ∧ (d 4 = true → vs[4]?.getD undef = p2) ∧ (d 5 = true → vs[5]?.getD undef = x1) ∧ (d 6 = true → vs[6]?.getD undef = x2) ∧ (d 7 = true → OwnU w wa.heap.size (vs[7]?.getD undef) B) ∧ (d 8 = true → OwnU w wa.heap.size (vs[8]?.getD undef) A) ∧ (d 9 = true → OwnU w wa.heap.size (vs[9]?.getD undef) B) ∧ Below wa.heap.size wa w

set_option maxHeartbeats 8000000 in
theorem rPutLim_calls (n x : Int) (b : Bool) (w : World) (w0 : 0 ≤ n ∧ n ≤ 4294967295) (w1 : 0 ≤ x ∧ x ≤ 4294967295) :
    Calls Try.prog 41 #[limV n x b] w fun e w' => PutPost (putLim n x b) w e w' := by
  obtain ⟨wa, hwa⟩ : ∃ wa, w.alloc (.cells #[.int .u32 n, .int .u32 x, .bool b] 33) = wa := ⟨_, rfl⟩
  have BA : Hid (Below w.heap.size w wa) := hideT (by rw [← hwa]; exact (Below.refl _ _).alloc (Nat.le_refl _) _)
  have K1 : Hid (SBlk wa w.heap.size 33 #[.int .u32 n, .int .u32 x, .bool b]) := hideT (by rw [← hwa]; exact sblk_new _ _ _)
  have HS : Hid (wa.heap.size = w.heap.size + 1) := hideT (by rw [← hwa]; simp)
  obtain ⟨w0, w0'⟩ := w0
  obtain ⟨w1, w1'⟩ := w1
  have C1 := hideT (fun V => refPutU_at n V w0 (by omega))
  have C2 := hideT (fun V => refPutU_at x V w1 (by omega))
  have L1 := hideT (putU_len n)
  have L2 := hideT (putU_len x)
  have Y1 := hideT (bytes_putU (n := n) w0 (by omega))
  have Y2 := hideT (bytes_putU (n := x) w1 (by omega))
  have HWA := hideT hwa
  clear hwa
  unfold putLim limV
  generalize Leb.putU n = A at *
  generalize Leb.putU x = B at *
  go_enter Try.func41, Try.ntmps41
  go_wp2_with fail
  rw [HWA.out]
  refine wp_region_par [6, 7, 8, 9, 10, 11, 12, 13, 3, 4] (PutLJ (.pointer (some ⟨w.heap.size, 0, none⟩)) (.pointer (some ⟨w.heap.size, 1, none⟩)) (.int .u32 n) (.int .u64 n) (.int .u32 x) (.int .u64 x) A B wa) (by kernel_rfl) (by kernel_rfl) ?_ ?_ ?_
  · intro vs
    exact ⟨(fun h => by cases h), (fun h => by cases h), (fun h => by cases h), (fun h => by cases h), (fun h => by cases h), (fun h => by cases h), (fun h => by cases h), (fun h => by cases h), (fun h => by cases h), (fun h => by cases h), (Below.refl _ _).drew⟩
  · intro d vs wr hd hl hJ
    match vs, hl with
    | [x0, x1, x2, x3, x4, x5, x6, x7, x8, x9], _ =>
    obtain ⟨j0, j1, j2, j3, j4, j5, j6, j7, j8, j9, jb⟩ := hJ
    obtain rfl := j0 (hd 0 (by decide))
    obtain rfl := j1 (hd 1 (by decide))
    obtain rfl := j2 (hd 2 (by decide))
    obtain rfl := j4 (hd 4 (by decide))
    obtain rfl := j5 (hd 5 (by decide))
    obtain rfl := j6 (hd 6 (by decide))
    have o8 := j8 (hd 8 (by decide))
    have o9 := j9 (hd 9 (by decide))
    simp only [List.getElem?_cons_zero, List.getElem?_cons_succ, Option.getD_some] at o8 o9
    obtain ⟨g8, c8, rfl, hg8, r8⟩ := o8.row L1.out.1 Y1.out
    obtain ⟨g9, c9, rfl, hg9, r9⟩ := o9.row L2.out.1 Y2.out
    have BW := hideT (BA.out.trans (jb.mono BA.out.size))
    have hc := (K1.out.later jb K1.out.lt).cell (k := 2) rfl
    have HOWN : Hid (∀ z : Int, (wr.alloc (.cells #[.int .u8 z] 5)).ownsRow w.heap.size 5 1 (.slice (some ⟨wr.heap.size, 0, none⟩) 1 1) 1 [Value.int .u8 z]) := hideT (fun z => World.ownsRow_lit (base := w.heap.size) (e := 5) (size := 1) wr #[Value.int .u8 z] 1 BW.out.size (by decide) rfl)
    have HB : Hid (∀ o : Obj, Below w.heap.size w (wr.alloc o)) := hideT (fun o => BW.out.alloc BW.out.size o)
    have R8 := hideT (fun o : Obj => r8.later ((Below.refl wr.heap.size wr).alloc (Nat.le_refl _) o))
    have O9 := hideT (fun o : Obj => OwnU.later o9 ((Below.refl wr.heap.size wr).alloc (Nat.le_refl _) o))
    have R9lt : Hid (g9 < wr.heap.size) := hideT (o9.lt _ rfl).2
    have hz : Hid (∀ o : Obj, w.heap.size ≤ (wr.alloc o).heap.size) := hideT (fun o => (HB.out o).size)
    have hlim1 : 1 + A.length ≤ 4194304 := by have := L1.out; omega
    have hlim2 : 1 + A.length + B.length ≤ 4194304 := by have := L1.out; have := L2.out; omega
    clear hd hl jb j0 j1 j2 j3 j4 j5 j6 j7 j8 j9 o8 o9 r8 r9
    simp only [putL, Act.put, List.setIfInBounds_toArray, List.set_cons_succ, List.set_cons_zero] at hc ⊢
    cases b with
    | false =>
      go_wp2_with (at_builtin; go_must (refine append_row rfl _ _ rfl w.heap.size _ _ _ rfl (HOWN.out _) _ _ c8 A rfl (R8.out _) hlim1 (hz.out _) ?_))
      intro v2 w2 hown2 hgrow2
      have B2 : Hid (Below w.heap.size w w2) := hideT ((HB.out _).grown hgrow2 (hz.out _) (fun k hk => by have := BW.out.size; simp [Value.ownBlock] at hk; omega))
      have O2 := hideT hown2
      clear hown2 hgrow2
      go_wp2
      go_ret
      refine ⟨_, rfl, ?_, B2.out⟩
      simp only [Bool.false_eq_true, if_false]
      rw [show (0 :: A : List Int).length = 1 + A.length by simp; omega]
      simpa using O2.out
    | true =>
      go_wp2_with (at_builtin; go_must (refine append_row rfl _ _ rfl w.heap.size _ _ _ rfl (HOWN.out _) _ _ c8 A rfl (R8.out _) hlim1 (hz.out _) ?_))
      intro v2 w2 hown2 hgrow2
      have B2 : Hid (Below w.heap.size w w2) := hideT ((HB.out _).grown hgrow2 (hz.out _) (fun k hk => by have := BW.out.size; simp [Value.ownBlock] at hk; omega))
      have O2 := hideT hown2
      have r9 : OwnU w2 wa.heap.size (.slice (some ⟨g9, 0, none⟩) B.length c9) B := World.ownsRow.kept (O9.out _) hgrow2 (by
        right
        have := R9lt.out
        simp [Value.ownBlock]
        omega)
      obtain ⟨g9', c9', e9, _, r9⟩ := r9.row L2.out.1 Y2.out
      simp only [Value.slice.injEq, Option.some.injEq, Addr.mk.injEq, and_true, true_and] at e9
      obtain ⟨rfl, rfl⟩ := e9
      have R9 := hideT r9
      have hz2 : w.heap.size ≤ w2.heap.size := B2.out.size
      clear hown2 hgrow2 r9
      go_wp2_with (at_builtin; go_must (refine append_row rfl _ _ rfl w.heap.size _ _ _ rfl O2.out _ _ c9 B rfl R9.out hlim2 hz2 ?_))
      intro v3 w3 hown3 hgrow3
      have B3 : Hid (Below w.heap.size w w3) := hideT (B2.out.grown hgrow3 hz2 (fun k hk => (O2.out.lt k hk).1))
      have O3 := hideT hown3
      clear hown3 hgrow3
      go_wp2
      go_ret
      refine ⟨_, rfl, ?_, B3.out⟩
      simp only [if_true]
      rw [show (1 :: (A ++ B) : List Int).length = 1 + A.length + B.length by simp; omega]
      simpa using O3.out
  · intro i o ho d vs wr hl hJ hi hw
    match vs, hl with
    | [x0, x1, x2, x3, x4, x5, x6, x7, x8, x9], _ =>
    have hin : i < 10 := (List.getElem?_eq_some_iff.1 ho).1
    obtain ⟨j0, j1, j2, j3, j4, j5, j6, j7, j8, j9, jb⟩ := hJ
    simp only [List.getElem?_cons_zero, List.getElem?_cons_succ, Option.some.injEq, Option.getD_some] at j0 j1 j2 j3 j4 j5 j6 j7 j8 j9
    rcases (show i = 0 ∨ i = 1 ∨ i = 2 ∨ i = 3 ∨ i = 4 ∨ i = 5 ∨ i = 6 ∨ i = 7 ∨ i = 8 ∨ i = 9 by omega) with rfl | rfl | rfl | rfl | rfl | rfl | rfl | rfl | rfl | rfl
    · simp only [List.getElem?_cons_zero, List.getElem?_cons_succ, Option.some.injEq] at ho
      subst ho
      simp only [putL, Act.put, List.setIfInBounds_toArray, List.set_cons_succ, List.set_cons_zero]
      go_wp2
      exact ⟨rfl, [_, x1, x2, x3, x4, x5, x6, x7, x8, x9], rfl, (by simp only [putL, Act.put, List.setIfInBounds_toArray, List.set_cons_succ, List.set_cons_zero]), fun _ => rfl, j1, j2, j3, j4, j5, j6, j7, j8, j9, jb⟩
    · simp only [List.getElem?_cons_zero, List.getElem?_cons_succ, Option.some.injEq] at ho
      subst ho
      have hd : d 0 = true := List.all_eq_true.1 hw 0 (by decide)
      obtain rfl := j0 hd
      have hc := (K1.out.later jb K1.out.lt).cell (k := 0) rfl
      simp only [putL, Act.put, List.setIfInBounds_toArray, List.set_cons_succ, List.set_cons_zero] at hc ⊢
      go_wp2
      exact ⟨rfl, [_, _, x2, x3, x4, x5, x6, x7, x8, x9], rfl, (by simp only [putL, Act.put, List.setIfInBounds_toArray, List.set_cons_succ, List.set_cons_zero]), fun _ => rfl, fun _ => rfl, j2, j3, j4, j5, j6, j7, j8, j9, jb⟩
    · simp only [List.getElem?_cons_zero, List.getElem?_cons_succ, Option.some.injEq] at ho
      subst ho
      have hd : d 1 = true := List.all_eq_true.1 hw 1 (by decide)
      obtain rfl := j1 hd
      simp only [putL, Act.put, List.setIfInBounds_toArray, List.set_cons_succ, List.set_cons_zero]
      go_wp2
      exact ⟨rfl, [x0, _, _, x3, x4, x5, x6, x7, x8, x9], rfl, (by simp only [putL, Act.put, List.setIfInBounds_toArray, List.set_cons_succ, List.set_cons_zero]), j0, fun _ => rfl, fun _ => rfl, j3, j4, j5, j6, j7, j8, j9, jb⟩
    · simp only [List.getElem?_cons_zero, List.getElem?_cons_succ, Option.some.injEq] at ho
      subst ho
      have hd : d 2 = true := List.all_eq_true.1 hw 2 (by decide)
      obtain rfl := j2 hd
      have CC := hideT (C1.out wr)
      simp only [putL, Act.put, List.setIfInBounds_toArray, List.set_cons_succ, List.set_cons_zero]
      go_wp2_with ((with_reducible refine CC.out.mono ?_); rintro e w2 ⟨v, rfl, ho, hb⟩)
      exact ⟨rfl, [x0, x1, _, v, x4, x5, x6, x7, x8, x9], rfl, (by simp only [putL, Act.put, List.setIfInBounds_toArray, List.set_cons_succ, List.set_cons_zero]), j0, j1, fun _ => rfl, (fun _ => OwnU.mono (show OwnU w2 wr.heap.size v A from ho) jb.size), j4, j5, j6, (fun h => (j7 h).later hb), (fun h => (j8 h).later hb), (fun h => (j9 h).later hb), jb.trans (hb.mono jb.size)⟩
    · simp only [List.getElem?_cons_zero, List.getElem?_cons_succ, Option.some.injEq] at ho
      subst ho
      simp only [putL, Act.put, List.setIfInBounds_toArray, List.set_cons_succ, List.set_cons_zero]
      go_wp2
      exact ⟨rfl, [x0, x1, x2, x3, _, x5, x6, x7, x8, x9], rfl, (by simp only [putL, Act.put, List.setIfInBounds_toArray, List.set_cons_succ, List.set_cons_zero]), j0, j1, j2, j3, fun _ => rfl, j5, j6, j7, j8, j9, jb⟩
    · simp only [List.getElem?_cons_zero, List.getElem?_cons_succ, Option.some.injEq] at ho
      subst ho
      have hd : d 4 = true := List.all_eq_true.1 hw 4 (by decide)
      obtain rfl := j4 hd
      have hc := (K1.out.later jb K1.out.lt).cell (k := 1) rfl
      simp only [putL, Act.put, List.setIfInBounds_toArray, List.set_cons_succ, List.set_cons_zero] at hc ⊢
      go_wp2
      exact ⟨rfl, [x0, x1, x2, x3, _, _, x6, x7, x8, x9], rfl, (by simp only [putL, Act.put, List.setIfInBounds_toArray, List.set_cons_succ, List.set_cons_zero]), j0, j1, j2, j3, fun _ => rfl, fun _ => rfl, j6, j7, j8, j9, jb⟩
    · simp only [List.getElem?_cons_zero, List.getElem?_cons_succ, Option.some.injEq] at ho
      subst ho
      have hd : d 5 = true := List.all_eq_true.1 hw 5 (by decide)
      obtain rfl := j5 hd
      simp only [putL, Act.put, List.setIfInBounds_toArray, List.set_cons_succ, List.set_cons_zero]
      go_wp2
      exact ⟨rfl, [x0, x1, x2, x3, x4, _, _, x7, x8, x9], rfl, (by simp only [putL, Act.put, List.setIfInBounds_toArray, List.set_cons_succ, List.set_cons_zero]), j0, j1, j2, j3, j4, fun _ => rfl, fun _ => rfl, j7, j8, j9, jb⟩
    · simp only [List.getElem?_cons_zero, List.getElem?_cons_succ, Option.some.injEq] at ho
      subst ho
      have hd : d 6 = true := List.all_eq_true.1 hw 6 (by decide)
      obtain rfl := j6 hd
      have CC := hideT (C2.out wr)
      simp only [putL, Act.put, List.setIfInBounds_toArray, List.set_cons_succ, List.set_cons_zero]
      go_wp2_with ((with_reducible refine CC.out.mono ?_); rintro e w2 ⟨v, rfl, ho, hb⟩)
      exact ⟨rfl, [x0, x1, x2, x3, x4, x5, _, v, x8, x9], rfl, (by simp only [putL, Act.put, List.setIfInBounds_toArray, List.set_cons_succ, List.set_cons_zero]), j0, j1, j2, (fun h => (j3 h).later hb), j4, j5, fun _ => rfl, (fun _ => OwnU.mono (show OwnU w2 wr.heap.size v B from ho) jb.size), (fun h => (j8 h).later hb), (fun h => (j9 h).later hb), jb.trans (hb.mono jb.size)⟩
    · simp only [List.getElem?_cons_zero, List.getElem?_cons_succ, Option.some.injEq] at ho
      subst ho
      have hd : d 3 = true := List.all_eq_true.1 hw 3 (by decide)
      simp only [putL, Act.put, List.setIfInBounds_toArray, List.set_cons_succ, List.set_cons_zero]
      go_wp2
      exact ⟨rfl, [x0, x1, x2, x3, x4, x5, x6, x7, _, x9], rfl, (by simp only [putL, Act.put, List.setIfInBounds_toArray, List.set_cons_succ, List.set_cons_zero]), j0, j1, j2, j3, j4, j5, j6, j7, (fun _ => j3 hd), j9, jb⟩
    · simp only [List.getElem?_cons_zero, List.getElem?_cons_succ, Option.some.injEq] at ho
      subst ho
      have hd : d 7 = true := List.all_eq_true.1 hw 7 (by decide)
      simp only [putL, Act.put, List.setIfInBounds_toArray, List.set_cons_succ, List.set_cons_zero]
      go_wp2
      exact ⟨rfl, [x0, x1, x2, x3, x4, x5, x6, x7, x8, _], rfl, (by simp only [putL, Act.put, List.setIfInBounds_toArray, List.set_cons_succ, List.set_cons_zero]), j0, j1, j2, j3, j4, j5, j6, j7, j8, (fun _ => j7 hd), jb⟩
end Go.Proofs.Yteacjhmbamcegaa
