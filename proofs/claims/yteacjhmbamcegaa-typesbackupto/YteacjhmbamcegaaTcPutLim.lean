/-
  The landed types.PutLimits (gentclim.py wrote it).
-/
import Derived.Test.YteacjhmbamcegaaTcPut
set_option linter.unusedVariables false
set_option linter.unusedSimpArgs false
namespace Go.Proofs.Yteacjhmbamcegaa
open Go.RowKit Typ

def TcLJ (sA p2 x1 x2 : Value) (A B : List Int) (wb : World) (d : Nat → Bool) (vs : List Value) (w : World) : Prop :=
  (d 0 = true → d 2 = false → OwnU w wb.heap.size (vs[0]?.getD undef) [1]) ∧ (d 1 = true → vs[1]?.getD undef = sA) ∧ (d 2 = true → d 7 = false → OwnU w wb.heap.size (vs[2]?.getD undef) (1 :: A)) ∧ (d 3 = true → vs[3]?.getD undef = p2) ∧ (d 4 = true → vs[4]?.getD undef = x1) ∧ (d 5 = true → vs[5]?.getD undef = x2) ∧ (d 6 = true → d 7 = false → OwnU w wb.heap.size (vs[6]?.getD undef) B) ∧ (d 7 = true → OwnU w wb.heap.size (vs[7]?.getD undef) (1 :: (A ++ B))) ∧ (d 8 = true → OwnU w wb.heap.size (vs[8]?.getD undef) (1 :: (A ++ B))) ∧ (d 0 = true → d 6 = true → d 2 = false → (vs[0]?.getD undef).ownBlock ≠ (vs[6]?.getD undef).ownBlock) ∧ (d 7 = true → d 2 = true ∧ d 6 = true) ∧ (d 8 = true → d 7 = true) ∧ Below wb.heap.size wb w

set_option maxHeartbeats 8000000 in
theorem tPutLim_calls (n x : Int) (b : Bool) (w : World) (w0 : U32 n) (w1 : U32 x) :
    Calls Try.prog 40 #[limV n x b] w fun e w' => PutPost (putLim n x b) w e w' := by
  obtain ⟨wa, hwa⟩ : ∃ wa, w.alloc (.cells #[.int .u32 n, .int .u32 x, .bool b] 33) = wa := ⟨_, rfl⟩
  have BA : Hid (Below w.heap.size w wa) := hideT (by rw [← hwa]; exact (Below.refl _ _).alloc (Nat.le_refl _) _)
  have K1 : Hid (SBlk wa w.heap.size 33 #[.int .u32 n, .int .u32 x, .bool b]) := hideT (by rw [← hwa]; exact sblk_new _ _ _)
  obtain ⟨w0, w0'⟩ := w0
  obtain ⟨w1, w1'⟩ := w1
  have C1 : Hid (∀ V : World, Calls Try.prog 50 #[.int .u64 n] V fun e w' => ∃ v, e = .returned v ∧ OwnU w' V.heap.size v (Leb.putU n) ∧ Below V.heap.size V w') := hideT (fun V => (PutU_walkI n V w0 (by omega)).mono fun e w' ⟨v, he, ho, hb⟩ => ⟨v, he, ho.row, hb⟩)
  have C2 : Hid (∀ V : World, Calls Try.prog 50 #[.int .u64 x] V fun e w' => ∃ v, e = .returned v ∧ OwnU w' V.heap.size v (Leb.putU x) ∧ Below V.heap.size V w') := hideT (fun V => (PutU_walkI x V w1 (by omega)).mono fun e w' ⟨v, he, ho, hb⟩ => ⟨v, he, ho.row, hb⟩)
  have L1 := hideT (putU_len n)
  have L2 := hideT (putU_len x)
  have Y1 := hideT (bytes_putU (n := n) w0 (by omega))
  have Y2 := hideT (bytes_putU (n := x) w1 (by omega))
  have u1 := wrap_u32 w0 w0'
  have u2 := wrap_u32 w1 w1'
  have HWA := hideT hwa
  have c0 : wa.cell? ⟨w.heap.size, 0, none⟩ = some (.int .u32 n) := K1.out.cell rfl
  clear hwa w0 w0' w1 w1'
  unfold putLim limV
  generalize Leb.putU n = A at *
  generalize Leb.putU x = B at *
  go_enter Try.func40, Try.ntmps40
  go_wp2_with fail
  rw [HWA.out]
  go_wp2_with fail
  refine (C1.out _).mono ?_
  rintro e wb ⟨va, rfl, hoa, hba⟩
  have BB : Hid (Below w.heap.size w wb) := hideT (BA.out.trans (hba.mono BA.out.size))
  have KB : Hid (SBlk wb w.heap.size 33 #[.int .u32 n, .int .u32 x, .bool b]) := hideT (K1.out.later hba K1.out.lt)
  obtain ⟨ga, ca, rfl, hga, ra⟩ := hoa.row L1.out.1 Y1.out
  have RA := hideT ra
  have OA := hideT hoa
  have c2 : wb.cell? ⟨w.heap.size, 2, none⟩ = some (.bool b) := KB.out.cell rfl
  have HB : Hid (∀ o : Obj, Below w.heap.size w (wb.alloc o)) := hideT (fun o => BB.out.alloc BB.out.size o)
  have hz : Hid (∀ o : Obj, w.heap.size ≤ (wb.alloc o).heap.size) := hideT (fun o => (HB.out o).size)
  have hlim1 : Hid (1 + A.length ≤ 4194304) := by show 1 + A.length ≤ 4194304; have := L1.out; omega
  have hlim2 : Hid ((1 :: A).length + B.length ≤ 4194304) := by show (1 :: A).length + B.length ≤ 4194304; have := L1.out; have := L2.out; simp; omega
  clear hoa hba ra c0 C1 K1 BA
  cases b with
  | false =>
    have R1 := hideT (fun o : Obj => RA.out.later ((Below.refl wb.heap.size wb).alloc (Nat.le_refl _) o))
    have HOWN : Hid (∀ z : Int, (wb.alloc (.cells #[.int .u8 z] 5)).ownsRow w.heap.size 5 1 (.slice (some ⟨wb.heap.size, 0, none⟩) 1 1) 1 [Value.int .u8 z]) := hideT (fun z => World.ownsRow_lit (base := w.heap.size) (e := 5) (size := 1) wb #[Value.int .u8 z] 1 BB.out.size (by decide) rfl)
    go_wp2_with (at_builtin; go_must (refine append_row rfl _ _ rfl w.heap.size _ _ _ rfl (HOWN.out _) _ _ ca A rfl (R1.out _) hlim1.out (hz.out _) ?_))
    intro v2 w2 hown2 hgrow2
    have B2 : Hid (Below w.heap.size w w2) := hideT ((HB.out _).grown hgrow2 (hz.out _) (fun k hk => by have := BB.out.size; simp [Value.ownBlock] at hk; omega))
    have O2 := hideT hown2
    clear hown2 hgrow2
    go_wp2
    go_ret
    refine ⟨_, rfl, ?_, B2.out⟩
    simp only [Bool.false_eq_true, if_false]
    rw [show (0 :: A : List Int).length = 1 + A.length by simp; omega]
    simpa using O2.out
  | true =>
    go_wp2_with fail
    refine wp_region_par [14, 15, 16, 17, 18, 19, 20, 21, 2] (TcLJ (.slice (some ⟨ga, 0, none⟩) A.length ca) (.pointer (some ⟨w.heap.size, 1, none⟩)) (.int .u32 x) (.int .u64 x) A B wb) (by kernel_rfl) (by kernel_rfl) ?_ ?_ ?_
    · intro vs
      exact ⟨(fun h => by cases h), (fun h => by cases h), (fun h => by cases h), (fun h => by cases h), (fun h => by cases h), (fun h => by cases h), (fun h => by cases h), (fun h => by cases h), (fun h => by cases h), (fun h => by cases h), (fun h => by cases h), (fun h => by cases h), (Below.refl _ _).drew⟩
    · intro d vs wr hd hl hJ
      match vs, hl with
      | [x0, x1, x2, x3, x4, x5, x6, x7, x8], _ =>
      obtain ⟨j0, j1, j2, j3, j4, j5, j6, j7, j8, j9, j10, j11, jb⟩ := hJ
      have o8 := j8 (hd 8 (by decide))
      simp only [List.getElem?_cons_zero, List.getElem?_cons_succ, Option.getD_some] at o8
      have BW := hideT (BB.out.trans (jb.mono BB.out.size))
      obtain ⟨g8, c8, e8⟩ : ∃ a c, x8 = .slice a (A.length + B.length + 1) c := by
        have := shape_own o8
        simpa using this
      subst e8
      have o8 := hideT o8
      clear hd hl jb j0 j1 j2 j3 j4 j5 j6 j7 j8 j9 j10 j11
      simp only [putL, Act.put, List.setIfInBounds_toArray, List.set_cons_succ, List.set_cons_zero]
      go_wp2
      go_ret
      refine ⟨_, rfl, ?_, BW.out⟩
      simp only [if_true]
      exact OwnU.mono o8.out BB.out.size
    · intro i o ho d vs wr hl hJ hi hw
      match vs, hl with
      | [x0, x1, x2, x3, x4, x5, x6, x7, x8], _ =>
      have hin : i < 9 := (List.getElem?_eq_some_iff.1 ho).1
      obtain ⟨j0, j1, j2, j3, j4, j5, j6, j7, j8, j9, j10, j11, jb⟩ := hJ
      simp only [List.getElem?_cons_zero, List.getElem?_cons_succ, Option.some.injEq, Option.getD_some] at j0 j1 j2 j3 j4 j5 j6 j7 j8 j9
      rcases (show i = 0 ∨ i = 1 ∨ i = 2 ∨ i = 3 ∨ i = 4 ∨ i = 5 ∨ i = 6 ∨ i = 7 ∨ i = 8 by omega) with rfl | rfl | rfl | rfl | rfl | rfl | rfl | rfl | rfl
      · simp only [List.getElem?_cons_zero, List.getElem?_cons_succ, Option.some.injEq] at ho
        subst ho
        have HOWN : Hid (∀ z : Int, OwnU (wr.alloc (.cells #[.int .u8 z] 5)) wb.heap.size (.slice (some ⟨wr.heap.size, 0, none⟩) 1 1) [z]) := hideT (fun z => World.ownsRow_lit (base := wb.heap.size) (e := 5) (size := 1) wr #[Value.int .u8 z] 1 jb.size (by decide) rfl)
        simp only [putL, Act.put, List.setIfInBounds_toArray, List.set_cons_succ, List.set_cons_zero]
        go_wp2
        exact ⟨rfl, [_, x1, x2, x3, x4, x5, x6, x7, x8], rfl, (by simp only [putL, Act.put, List.setIfInBounds_toArray, List.set_cons_succ, List.set_cons_zero]), (fun _ _ => HOWN.out _), j1, (fun h g => (j2 h g).later ((Below.refl wr.heap.size wr).alloc (Nat.le_refl _) _)), j3, j4, j5, (fun h g => (j6 h g).later ((Below.refl wr.heap.size wr).alloc (Nat.le_refl _) _)), (fun h => (j7 h).later ((Below.refl wr.heap.size wr).alloc (Nat.le_refl _) _)), (fun h => (j8 h).later ((Below.refl wr.heap.size wr).alloc (Nat.le_refl _) _)), (fun _ h g e => by
          have h7 : d 7 = false := by
            cases e7 : d 7 with
            | false => rfl
            | true => exact absurd (j10 e7).1 (by rw [show d 2 = false from g]; decide)
          have hlt := fun k hk => ((j6 h h7).lt k hk).2
          have := hlt wr.heap.size e.symm
          omega), j10, j11, jb.alloc jb.size _⟩
      · simp only [List.getElem?_cons_zero, List.getElem?_cons_succ, Option.some.injEq] at ho
        subst ho
        simp only [putL, Act.put, List.setIfInBounds_toArray, List.set_cons_succ, List.set_cons_zero]
        go_wp2
        exact ⟨rfl, [x0, _, x2, x3, x4, x5, x6, x7, x8], rfl, (by simp only [putL, Act.put, List.setIfInBounds_toArray, List.set_cons_succ, List.set_cons_zero]), j0, fun _ => rfl, j2, j3, j4, j5, j6, j7, j8, j9, j10, j11, jb⟩
      · simp only [List.getElem?_cons_zero, List.getElem?_cons_succ, Option.some.injEq] at ho
        subst ho
        have hd0 : d 0 = true := List.all_eq_true.1 hw 0 (by decide)
        have hd1 : d 1 = true := List.all_eq_true.1 hw 1 (by decide)
        have O0 := hideT (j0 hd0 hi)
        obtain rfl := j1 hd1
        have R1 := hideT (RA.out.later jb)
        obtain ⟨q0, z0, e0⟩ : ∃ a c, x0 = .slice a 1 c := shape_own O0.out
        subst e0
        have J6 : Hid (d 6 = true → d 7 = false → OwnU wr wb.heap.size x6 B) := hideT j6
        have J9 : Hid (d 6 = true → (Value.slice q0 1 z0).ownBlock ≠ x6.ownBlock) := hideT (fun h => j9 hd0 h hi)
        have JB := hideT jb
        have W7 : Hid (d 7 = true → False) := hideT (fun h => by have := (j10 h).1; rw [hi] at this; cases this)
        have W8 : Hid (d 8 = true → False) := hideT (fun h => by have := (j10 (j11 h)).1; rw [hi] at this; cases this)
        simp only [putL, Act.put, List.setIfInBounds_toArray, List.set_cons_succ, List.set_cons_zero]
        go_wp2_with (at_builtin; go_must (refine append_row rfl _ _ rfl wb.heap.size _ _ _ rfl O0.out _ _ ca A rfl R1.out hlim1.out JB.out.size ?_))
        intro v2 w2 hown2 hgrow2
        have B2 := hideT (JB.out.grown hgrow2 JB.out.size (fun k hk => (O0.out.lt k hk).1))
        have O2 : Hid (OwnU w2 wb.heap.size v2 (1 :: A)) := hideT (by
          unfold OwnU
          rw [show (1 :: A : List Int).length = 1 + A.length by simp; omega]
          simpa using hown2)
        have O6 : Hid (d 6 = true → d 7 = false → OwnU w2 wb.heap.size x6 B) := hideT (fun h g => World.ownsRow.kept (J6.out h g) hgrow2 (.inr (fun e => J9.out h e.symm)))
        clear hown2 hgrow2
        go_wp2
        exact ⟨rfl, [.slice q0 1 z0, _, _, x3, x4, x5, x6, x7, x8], rfl, (by simp only [putL, Act.put, List.setIfInBounds_toArray, List.set_cons_succ, List.set_cons_zero]), (fun _ h => absurd h (by simp [upd])), (fun _ => rfl), (fun _ _ => O2.out), j3, j4, j5, O6.out, (fun h => (W7.out h).elim), (fun h => (W8.out h).elim), (fun _ _ h => absurd h (by simp [upd])), (fun h => (W7.out h).elim), j11, B2.out⟩
      · simp only [List.getElem?_cons_zero, List.getElem?_cons_succ, Option.some.injEq] at ho
        subst ho
        simp only [putL, Act.put, List.setIfInBounds_toArray, List.set_cons_succ, List.set_cons_zero]
        go_wp2
        exact ⟨rfl, [x0, x1, x2, _, x4, x5, x6, x7, x8], rfl, (by simp only [putL, Act.put, List.setIfInBounds_toArray, List.set_cons_succ, List.set_cons_zero]), j0, j1, j2, fun _ => rfl, j4, j5, j6, j7, j8, j9, j10, j11, jb⟩
      · simp only [List.getElem?_cons_zero, List.getElem?_cons_succ, Option.some.injEq] at ho
        subst ho
        have hd : d 3 = true := List.all_eq_true.1 hw 3 (by decide)
        obtain rfl := j3 hd
        have hc := (KB.out.later jb KB.out.lt).cell (k := 1) rfl
        simp only [putL, Act.put, List.setIfInBounds_toArray, List.set_cons_succ, List.set_cons_zero] at hc ⊢
        go_wp2
        exact ⟨rfl, [x0, x1, x2, _, _, x5, x6, x7, x8], rfl, (by simp only [putL, Act.put, List.setIfInBounds_toArray, List.set_cons_succ, List.set_cons_zero]), j0, j1, j2, (fun _ => rfl), (fun _ => rfl), j5, j6, j7, j8, j9, j10, j11, jb⟩
      · simp only [List.getElem?_cons_zero, List.getElem?_cons_succ, Option.some.injEq] at ho
        subst ho
        have hd : d 4 = true := List.all_eq_true.1 hw 4 (by decide)
        obtain rfl := j4 hd
        simp only [putL, Act.put, List.setIfInBounds_toArray, List.set_cons_succ, List.set_cons_zero]
        go_wp2
        exact ⟨rfl, [x0, x1, x2, x3, _, _, x6, x7, x8], rfl, (by simp only [putL, Act.put, List.setIfInBounds_toArray, List.set_cons_succ, List.set_cons_zero]), j0, j1, j2, j3, (fun _ => rfl), (fun _ => rfl), j6, j7, j8, j9, j10, j11, jb⟩
      · simp only [List.getElem?_cons_zero, List.getElem?_cons_succ, Option.some.injEq] at ho
        subst ho
        have hd : d 5 = true := List.all_eq_true.1 hw 5 (by decide)
        obtain rfl := j5 hd
        have CC := hideT (C2.out wr)
        simp only [putL, Act.put, List.setIfInBounds_toArray, List.set_cons_succ, List.set_cons_zero]
        go_wp2_with ((with_reducible refine CC.out.mono ?_); rintro e w2 ⟨v, rfl, ho, hb⟩)
        exact ⟨rfl, [x0, x1, x2, x3, x4, _, v, x7, x8], rfl, (by simp only [putL, Act.put, List.setIfInBounds_toArray, List.set_cons_succ, List.set_cons_zero]), (fun h g => (j0 h g).later hb), j1, (fun h g => (j2 h g).later hb), j3, j4, (fun _ => rfl), (fun _ _ => OwnU.mono (show OwnU w2 wr.heap.size v B from ho) jb.size), (fun h => (j7 h).later hb), (fun h => (j8 h).later hb), (fun h _ g e => by
          obtain ⟨gv, cv, ev, hgv, _⟩ := OwnU.row (show OwnU w2 wr.heap.size v B from ho) L2.out.1 Y2.out
          subst ev
          have := ((j0 h g).lt gv e).2
          omega), (fun h => ⟨(j10 h).1, rfl⟩), j11, jb.trans (hb.mono jb.size)⟩
      · simp only [List.getElem?_cons_zero, List.getElem?_cons_succ, Option.some.injEq] at ho
        subst ho
        have hd2 : d 2 = true := List.all_eq_true.1 hw 2 (by decide)
        have hd6 : d 6 = true := List.all_eq_true.1 hw 6 (by decide)
        have O2 := hideT (j2 hd2 hi)
        obtain ⟨g6, c6, e6, _, r6⟩ := (j6 hd6 hi).row L2.out.1 Y2.out
        subst e6
        have R6 := hideT r6
        obtain ⟨q2, z2, e2⟩ : ∃ a c, x2 = .slice a (A.length + 1) c := shape_own O2.out
        subst e2
        have JB := hideT jb
        have W8 : Hid (d 8 = true → False) := hideT (fun h => by have := j11 h; rw [hi] at this; cases this)
        clear r6
        simp only [putL, Act.put, List.setIfInBounds_toArray, List.set_cons_succ, List.set_cons_zero]
        go_wp2_with (at_builtin; go_must (refine append_row rfl _ _ rfl wb.heap.size _ _ _ rfl O2.out _ _ c6 B rfl R6.out hlim2.out JB.out.size ?_))
        intro v2 w2 hown2 hgrow2
        have B2 := hideT (JB.out.grown hgrow2 JB.out.size (fun k hk => (O2.out.lt k hk).1))
        have O3 : Hid (OwnU w2 wb.heap.size v2 (1 :: (A ++ B))) := hideT (by
          unfold OwnU
          rw [show (1 :: (A ++ B) : List Int).length = (1 :: A).length + B.length by simp; omega]
          simpa using hown2)
        clear hown2 hgrow2
        go_wp2
        exact ⟨rfl, [x0, x1, .slice q2 (A.length + 1) z2, x3, x4, x5, .slice (some ⟨g6, 0, none⟩) B.length c6, _, x8], rfl, (by simp only [putL, Act.put, List.setIfInBounds_toArray, List.set_cons_succ, List.set_cons_zero]), (fun _ h => absurd h (by rw [show upd d 7 2 = d 2 from rfl, hd2]; decide)), j1, (fun _ h => absurd h (by simp [upd])), j3, j4, j5, (fun _ h => absurd h (by simp [upd])), (fun _ => O3.out), (fun h => (W8.out h).elim), (fun _ _ h => absurd h (by rw [show upd d 7 2 = d 2 from rfl, hd2]; decide)), (fun _ => ⟨hd2, hd6⟩), (fun _ => rfl), B2.out⟩
      · simp only [List.getElem?_cons_zero, List.getElem?_cons_succ, Option.some.injEq] at ho
        subst ho
        have hd : d 7 = true := List.all_eq_true.1 hw 7 (by decide)
        simp only [putL, Act.put, List.setIfInBounds_toArray, List.set_cons_succ, List.set_cons_zero]
        go_wp2
        exact ⟨rfl, [x0, x1, x2, x3, x4, x5, x6, x7, _], rfl, (by simp only [putL, Act.put, List.setIfInBounds_toArray, List.set_cons_succ, List.set_cons_zero]), j0, j1, j2, j3, j4, j5, j6, j7, (fun _ => j7 hd), j9, j10, (fun _ => hd), jb⟩
end Go.Proofs.Yteacjhmbamcegaa
