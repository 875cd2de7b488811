/-
  The document's Put, PutLimits (genput9.py wrote it).
-/
import Derived.Test.YteacjhmbamcegabTypOrders
import Derived.Test.YteacjhmbamcegabTypFam
import Derived.Test.YteacjhmbamcegabLebBackWalk
set_option linter.unusedVariables false
set_option linter.unusedSimpArgs false
namespace Go.Proofs.Yteacjhmbamcegab
open Go.RowKit Typ

def OwnU (w : World) (b : Nat) (v : Value) (l : List Int) : Prop := w.ownsRow b 5 1 v l.length (l.map (Value.int .u8))
theorem OwnU.later {w w' : World} {b : Nat} {v : Value} {l : List Int} (h : OwnU w b v l) (hb : Below w.heap.size w w') : OwnU w' b v l := by
  unfold OwnU at *
  obtain ⟨h1, h2 | ⟨g, cap, cur, e, hg, hblk, h3⟩⟩ := h
  · exact ⟨h1, .inl h2⟩
  · exact ⟨h1, .inr ⟨g, cap, cur, e, hg, (hb.block g (Array.getElem?_eq_some_iff.1 hblk).1).trans hblk, h3⟩⟩
theorem OwnU.mono {w : World} {b b' : Nat} {v : Value} {l : List Int} (h : OwnU w b v l) (hb : b' ≤ b) : OwnU w b' v l := ownsRow_mono h hb
theorem OwnU.row {w : World} {b : Nat} {v : Value} {l : List Int} (h : OwnU w b v l) (hl : 1 ≤ l.length) (hy : Leb.Bytes l) : ∃ g c, v = .slice (some ⟨g, 0, none⟩) l.length c ∧ b ≤ g ∧ Row w (some ⟨g, 0, none⟩) l.length c l := own_row rfl h hl hy
theorem OwnU.kept {w w' : World} {b : Nat} {v : Value} {l : List Int} {row : Option Nat} (h : OwnU w b v l) (hg : w.grownBy w' row) (hr : ∀ k, row = some k → k < b) : OwnU w' b v l := by
  have h' := h
  unfold OwnU at *
  refine World.ownsRow.kept h hg ?_
  cases hv : v.ownBlock with
  | none => exact .inl rfl
  | some k =>
    right
    intro e
    have h1 := (h.lt k hv).1
    have h2 := hr k e.symm
    omega
theorem bytes_putU {n : Int} (h0 : 0 ≤ n) (h1 : n ≤ 18446744073709551615) : Leb.Bytes (Leb.putU n) := Leb.putUF_bytes 9 n h0 (Int.lt_of_le_of_lt h1 (by decide))
theorem bytes_list {l : List Int} (h : Leb.Bytes l) (hl : l.length ≤ 4194000) : Leb.Bytes (putList l) := bytes_append (bytes_putU (by omega) (by omega)) h

def PutJ (p1 p2 v1 v2 : Value) (A B : List Int) (wa : World) (d : Nat → Bool) (vs : List Value) (w : World) : Prop :=
  (d 0 = true → vs[0]?.getD undef = p1) ∧ (d 1 = true → vs[1]?.getD undef = v1) ∧ (d 2 = true → OwnU w wa.heap.size (vs[2]?.getD undef) A) ∧ (d 3 = true → vs[3]?.getD undef = p2) ∧ (d 4 = true → vs[4]?.getD undef = v2) ∧ (d 5 = true → OwnU w wa.heap.size (vs[5]?.getD undef) B) ∧ (d 6 = true → OwnU w wa.heap.size (vs[6]?.getD undef) A) ∧ (d 7 = true → OwnU w wa.heap.size (vs[7]?.getD undef) B) ∧ Below wa.heap.size wa w

set_option maxHeartbeats 8000000 in
theorem rPut_calls (v1 v2 : Value) (l1 l2 : List Int) (w : World) (H1 : RowT w v1 l1) (H2 : RowT w v2 l2) (hy1 : Leb.Bytes l1) (hy2 : Leb.Bytes l2) (h1 : l1.length ≤ 1048576) (h2 : l2.length ≤ 1048576) :
    Calls Try.prog 21 #[funcV v1 v2] w fun e w' => PutPost (putFunc l1 l2) w e w' := by
  obtain ⟨wa, hwa⟩ : ∃ wa, (w.alloc (.cells #[v1, v2] 33)).alloc (.cells #[.int .u8 96] 5) = wa := ⟨_, rfl⟩
  have BA : Hid (Below w.heap.size w wa) := hideT (by rw [← hwa]; exact ((Below.refl _ _).alloc (Nat.le_refl _) _).alloc (by simp) _)
  have K1 : Hid (SBlk wa w.heap.size 33 #[v1, v2]) := hideT (by rw [← hwa]; exact (sblk_new _ _ _).past _)
  have HS : Hid (wa.heap.size = w.heap.size + 2) := hideT (by rw [← hwa]; simp)
  have O0 : Hid (wa.ownsRow w.heap.size 5 1 (.slice (some ⟨w.heap.size + 1, 0, none⟩) 1 1) 1 [Value.int .u8 96]) := hideT (by
    rw [← hwa]
    have := World.ownsRow_lit (base := w.heap.size) (e := 5) (size := 1) (w.alloc (.cells #[v1, v2] 33)) #[Value.int .u8 96] 1 (by simp) (by decide) rfl
    simpa using this)
  have C1 := hideT (fun V hV => rtypes_calls v1 l1 V (H1.later (w' := V) hV) (by omega))
  have C2 := hideT (fun V hV => rtypes_calls v2 l2 V (H2.later (w' := V) hV) (by omega))
  have hp1 := putU_len (l1.length : Int)
  have hp2 := putU_len (l2.length : Int)
  have L1 : Hid (1 ≤ (putList l1).length ∧ (putList l1).length ≤ 1048586) := hideT (by unfold putList; rw [List.length_append]; omega)
  have L2 : Hid (1 ≤ (putList l2).length ∧ (putList l2).length ≤ 1048586) := hideT (by unfold putList; rw [List.length_append]; omega)
  have Y1 := hideT (bytes_list hy1 (by omega))
  have Y2 := hideT (bytes_list hy2 (by omega))
  have HWA := hideT hwa
  clear hwa hp1 hp2 hy1 hy2 h1 h2
  obtain ⟨q1, z1, rfl, _⟩ := H1
  obtain ⟨q2, z2, rfl, _⟩ := H2
  unfold putFunc funcV
  generalize putList l1 = A at *
  generalize putList l2 = B at *
  generalize l1.length = n1 at *
  generalize l2.length = n2 at *
  go_enter Try.func21, Try.ntmps21
  go_wp2_with fail
  rw [HWA.out]
  refine wp_region_par [7, 8, 9, 10, 11, 12, 4, 5] (PutJ (.pointer (some ⟨w.heap.size, 0, none⟩)) (.pointer (some ⟨w.heap.size, 1, none⟩)) (.slice q1 n1 z1) (.slice q2 n2 z2) A B wa) (by kernel_rfl) (by kernel_rfl) ?_ ?_ ?_
  · intro vs
    exact ⟨(fun h => by cases h), (fun h => by cases h), (fun h => by cases h), (fun h => by cases h), (fun h => by cases h), (fun h => by cases h), (fun h => by cases h), (fun h => by cases h), (Below.refl _ _).drew⟩
  · intro d vs w1 hd hl hJ
    match vs, hl with
    | [x0, x1, x2, x3, x4, x5, x6, x7], _ =>
    obtain ⟨j0, j1, j2, j3, j4, j5, j6, j7, jb⟩ := hJ
    obtain rfl := j0 (hd 0 (by decide))
    obtain rfl := j1 (hd 1 (by decide))
    obtain rfl := j3 (hd 3 (by decide))
    obtain rfl := j4 (hd 4 (by decide))
    have o6 := j6 (hd 6 (by decide))
    have o7 := j7 (hd 7 (by decide))
    simp only [List.getElem?_cons_zero, List.getElem?_cons_succ, Option.getD_some] at o6 o7
    obtain ⟨g6, c6, rfl, hg6, r6⟩ := o6.row L1.out.1 Y1.out
    have R6 := hideT r6
    have O7 := hideT o7
    have OW := hideT (own_below O0.out jb (fun k hk => by simp [Value.ownBlock] at hk; have := HS.out; omega))
    have BW := hideT (BA.out.trans (jb.mono BA.out.size))
    have hz : w.heap.size ≤ w1.heap.size := BW.out.size
    have hlim1 : 1 + A.length ≤ 4194304 := by have := L1.out; omega
    clear hd hl jb j0 j1 j2 j3 j4 j5 j6 j7 o6 o7 r6
    simp only [putL, Act.put, List.setIfInBounds_toArray, List.set_cons_succ, List.set_cons_zero]
    go_wp2_with (at_builtin; go_must (refine append_row rfl _ _ rfl w.heap.size _ _ _ rfl OW.out _ _ c6 A rfl R6.out hlim1 hz ?_))
    intro v2 w2 hown2 hgrow2
    have B2 : Hid (Below w.heap.size w w2) := hideT (BW.out.grown hgrow2 hz (fun k hk => (OW.out.lt k hk).1))
    have O2 := hideT hown2
    have o7 := O7.out.kept hgrow2 (fun k hk => by simp [Value.ownBlock] at hk; have := HS.out; omega)
    obtain ⟨g7, c7, rfl, hg7, r7⟩ := o7.row L2.out.1 Y2.out
    have R7 := hideT r7
    have hz2 : w.heap.size ≤ w2.heap.size := B2.out.size
    have hlim2 : 1 + A.length + B.length ≤ 4194304 := by have := L1.out; have := L2.out; omega
    clear hown2 hgrow2 o7 r7 hz
    go_wp2_with (at_builtin; go_must (refine append_row rfl _ _ rfl w.heap.size _ _ _ rfl O2.out _ _ c7 B rfl R7.out hlim2 hz2 ?_))
    intro v3 w3 hown3 hgrow3
    have B3 : Hid (Below w.heap.size w w3) := hideT (B2.out.grown hgrow3 hz2 (fun k hk => (O2.out.lt k hk).1))
    have O3 := hideT hown3
    clear hown3 hgrow3
    go_wp2
    go_ret
    have E : (96 :: (A ++ B)).length = 1 + A.length + B.length := by simp; omega
    refine ⟨_, rfl, ?_, B3.out⟩
    rw [E]
    simpa using O3.out
  · intro i o ho d vs wr hl hJ hi hw
    match vs, hl with
    | [x0, x1, x2, x3, x4, x5, x6, x7], _ =>
    have hin : i < 8 := (List.getElem?_eq_some_iff.1 ho).1
    obtain ⟨j0, j1, j2, j3, j4, j5, j6, j7, jb⟩ := hJ
    simp only [List.getElem?_cons_zero, List.getElem?_cons_succ, Option.some.injEq, Option.getD_some] at j0 j1 j2 j3 j4 j5 j6 j7
    rcases (show i = 0 ∨ i = 1 ∨ i = 2 ∨ i = 3 ∨ i = 4 ∨ i = 5 ∨ i = 6 ∨ i = 7 by omega) with rfl | rfl | rfl | rfl | rfl | rfl | rfl | rfl
    · simp only [List.getElem?_cons_zero, List.getElem?_cons_succ, Option.some.injEq] at ho
      subst ho
      simp only [putL, Act.put, List.setIfInBounds_toArray, List.set_cons_succ, List.set_cons_zero]
      go_wp2
      exact ⟨rfl, [_, x1, x2, x3, x4, x5, x6, x7], rfl, (by simp only [putL, Act.put, List.setIfInBounds_toArray, List.set_cons_succ, List.set_cons_zero]), fun _ => rfl, j1, j2, j3, j4, j5, j6, j7, jb⟩
    · simp only [List.getElem?_cons_zero, List.getElem?_cons_succ, Option.some.injEq] at ho
      subst ho
      have hd : d 0 = true := List.all_eq_true.1 hw 0 (by decide)
      obtain rfl := j0 hd
      have hc := (K1.out.later jb K1.out.lt).cell (k := 0) rfl
      simp only [putL, Act.put, List.setIfInBounds_toArray, List.set_cons_succ, List.set_cons_zero] at hc ⊢
      go_wp2
      exact ⟨rfl, [_, _, x2, x3, x4, x5, x6, x7], rfl, (by simp only [putL, Act.put, List.setIfInBounds_toArray, List.set_cons_succ, List.set_cons_zero]), fun _ => rfl, fun _ => rfl, j2, j3, j4, j5, j6, j7, jb⟩
    · simp only [List.getElem?_cons_zero, List.getElem?_cons_succ, Option.some.injEq] at ho
      subst ho
      have hd : d 1 = true := List.all_eq_true.1 hw 1 (by decide)
      obtain rfl := j1 hd
      have CC := hideT (C1.out wr (BA.out.trans (jb.mono BA.out.size)))
      simp only [putL, Act.put, List.setIfInBounds_toArray, List.set_cons_succ, List.set_cons_zero]
      go_wp2_with ((with_reducible refine CC.out.mono ?_); rintro e w1 ⟨v, rfl, ho, hb⟩)
      exact ⟨rfl, [x0, _, v, x3, x4, x5, x6, x7], rfl, (by simp only [putL, Act.put, List.setIfInBounds_toArray, List.set_cons_succ, List.set_cons_zero]), j0, fun _ => rfl, (fun _ => OwnU.mono (show OwnU w1 wr.heap.size v A from ho) jb.size), j3, j4, (fun h => (j5 h).later hb), (fun h => (j6 h).later hb), (fun h => (j7 h).later hb), jb.trans (hb.mono jb.size)⟩
    · simp only [List.getElem?_cons_zero, List.getElem?_cons_succ, Option.some.injEq] at ho
      subst ho
      simp only [putL, Act.put, List.setIfInBounds_toArray, List.set_cons_succ, List.set_cons_zero]
      go_wp2
      exact ⟨rfl, [x0, x1, x2, _, x4, x5, x6, x7], rfl, (by simp only [putL, Act.put, List.setIfInBounds_toArray, List.set_cons_succ, List.set_cons_zero]), j0, j1, j2, fun _ => rfl, j4, j5, j6, j7, jb⟩
    · simp only [List.getElem?_cons_zero, List.getElem?_cons_succ, Option.some.injEq] at ho
      subst ho
      have hd : d 3 = true := List.all_eq_true.1 hw 3 (by decide)
      obtain rfl := j3 hd
      have hc := (K1.out.later jb K1.out.lt).cell (k := 1) rfl
      simp only [putL, Act.put, List.setIfInBounds_toArray, List.set_cons_succ, List.set_cons_zero] at hc ⊢
      go_wp2
      exact ⟨rfl, [x0, x1, x2, _, _, x5, x6, x7], rfl, (by simp only [putL, Act.put, List.setIfInBounds_toArray, List.set_cons_succ, List.set_cons_zero]), j0, j1, j2, fun _ => rfl, fun _ => rfl, j5, j6, j7, jb⟩
    · simp only [List.getElem?_cons_zero, List.getElem?_cons_succ, Option.some.injEq] at ho
      subst ho
      have hd : d 4 = true := List.all_eq_true.1 hw 4 (by decide)
      obtain rfl := j4 hd
      have CC := hideT (C2.out wr (BA.out.trans (jb.mono BA.out.size)))
      simp only [putL, Act.put, List.setIfInBounds_toArray, List.set_cons_succ, List.set_cons_zero]
      go_wp2_with ((with_reducible refine CC.out.mono ?_); rintro e w1 ⟨v, rfl, ho, hb⟩)
      exact ⟨rfl, [x0, x1, x2, x3, _, v, x6, x7], rfl, (by simp only [putL, Act.put, List.setIfInBounds_toArray, List.set_cons_succ, List.set_cons_zero]), j0, j1, (fun h => (j2 h).later hb), j3, fun _ => rfl, (fun _ => OwnU.mono (show OwnU w1 wr.heap.size v B from ho) jb.size), (fun h => (j6 h).later hb), (fun h => (j7 h).later hb), jb.trans (hb.mono jb.size)⟩
    · simp only [List.getElem?_cons_zero, List.getElem?_cons_succ, Option.some.injEq] at ho
      subst ho
      have hd : d 2 = true := List.all_eq_true.1 hw 2 (by decide)
      simp only [putL, Act.put, List.setIfInBounds_toArray, List.set_cons_succ, List.set_cons_zero]
      go_wp2
      exact ⟨rfl, [x0, x1, x2, x3, x4, x5, _, x7], rfl, (by simp only [putL, Act.put, List.setIfInBounds_toArray, List.set_cons_succ, List.set_cons_zero]), j0, j1, j2, j3, j4, j5, (fun _ => j2 hd), j7, jb⟩
    · simp only [List.getElem?_cons_zero, List.getElem?_cons_succ, Option.some.injEq] at ho
      subst ho
      have hd : d 5 = true := List.all_eq_true.1 hw 5 (by decide)
      simp only [putL, Act.put, List.setIfInBounds_toArray, List.set_cons_succ, List.set_cons_zero]
      go_wp2
      exact ⟨rfl, [x0, x1, x2, x3, x4, x5, x6, _], rfl, (by simp only [putL, Act.put, List.setIfInBounds_toArray, List.set_cons_succ, List.set_cons_zero]), j0, j1, j2, j3, j4, j5, j6, (fun _ => j5 hd), jb⟩
end Go.Proofs.Yteacjhmbamcegab
