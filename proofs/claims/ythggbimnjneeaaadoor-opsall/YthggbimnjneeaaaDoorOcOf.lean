/-
  ops.Of over what its callees answer (genocof.py wrote it).
-/
import Derived.Test.YthggbimnjneeaaaDoorOcName
import Derived.Test.YthggbimnjneeaaaDoorOpsInfo
set_option linter.unusedVariables false
set_option maxRecDepth 100000
set_option linter.unusedSimpArgs false
namespace Go.Proofs.YthggbimnjneeaaaDoor
open Go.RowKit Opp Opc

def OpJ (W : World) (o g4 g5 k : Nat) (si fi im bi : Int) (fn ty nm tf tt : ByteArray) (fr to : List Int) (pl : Bool) (d : Nat → Bool) (vs : List Value) (w : World) : Prop :=
  (d 0 = true → (vs[0]?.getD undef) = .int .u16 (o : Int)) ∧ (d 1 = true → (vs[1]?.getD undef) = .string nm) ∧ (d 2 = true → (vs[2]?.getD undef) = .pointer (some ⟨g5, 3, none⟩)) ∧ (d 3 = true → (vs[3]?.getD undef) = .int .u8 im) ∧ (d 4 = true → (vs[4]?.getD undef) = .string tf) ∧ (d 5 = true → OwnY w W.heap.size (vs[5]?.getD undef) fr) ∧ (d 6 = true → (vs[6]?.getD undef) = .string tt) ∧ (d 7 = true → OwnY w W.heap.size (vs[7]?.getD undef) to) ∧ (d 8 = true → (vs[8]?.getD undef) = .pointer (some ⟨g5, 4, none⟩)) ∧ (d 9 = true → (vs[9]?.getD undef) = .int .i64 bi) ∧ (d 10 = true → (vs[10]?.getD undef) = .pointer (some ⟨g4, 1, none⟩)) ∧ (d 11 = true → (vs[11]?.getD undef) = .bool pl) ∧ (d 12 = true → (vs[12]?.getD undef) = .agg #[.int .u16 (o : Int), .string nm, .int .u8 im, (vs[5]?.getD undef), (vs[7]?.getD undef), .int .i64 bi, .bool pl]) ∧ (d 14 = true → (vs[13]?.getD undef) = .int .i64 0) ∧ (d 12 = true → d 5 = true) ∧ (d 12 = true → d 7 = true) ∧ (d 13 = true → d 12 = true) ∧ (w.heap[g5]? = some (.cells #[.int .u16 (fi : Int), .string fn, .string ty, .int .u8 im, .int .i64 bi] 46 (0, 0))) ∧ (w.heap[g4]? = some (.cells #[.int .u16 (si : Int), .bool pl, .func (.func k) #[] #[]] 43 (0, 0))) ∧ (∃ cs, w.heap[W.heap.size]? = some (.cells cs 27 (0, 0)) ∧ cs.size = 7 ∧ (d 13 = true → cs = #[.int .u16 (o : Int), .string nm, .int .u8 im, (vs[5]?.getD undef), (vs[7]?.getD undef), .int .i64 bi, .bool pl])) ∧ Below W.heap.size W w
theorem span_one' (fi : Int) (pl : Bool) (fk : Nat) : (#[Value.int .u16 fi, .bool pl, .func (.func fk) #[] #[]]).all (·.oneCell') = true := by kernel_rfl
theorem fam_one' (fi m b : Int) (n t : ByteArray) : (#[Value.int .u16 fi, .string n, .string t, .int .u8 m, .int .i64 b]).all (·.oneCell') = true := by kernel_rfl

theorem results_row2 {P : Program} {fn : Func} {k k2 : Nat} {t : TypeId} (h : fn.results = #[.cell k t, .tmp k2]) {tmps : Array Value} {a : Addr} (hp : tmps.getD k undef = .pointer (some a)) {v u : Value} {w : World}
    (hl : (loadVar t a).run P w = .ok v w) (hq : tmps.getD k2 undef = u) : (results fn tmps).run P w = .ok (.tuple #[v, u]) w := by
  subst hq
  have ha : (asAddr (tmps.getD k undef)).run P w = .ok a w := by rw [hp]; rfl
  unfold results
  rw [h]
  simp only [List.mapM_toArray, List.mapM_cons, List.mapM_nil, Sem.run_bind, ha, Result.andThen_ok, hl, Sem.run_map, Sem.run_pure]
  rfl

set_option maxHeartbeats 16000000 in
theorem of_ok_walk (o k : Nat) (si fi im bi : Int) (fn ty nm tf tt : ByteArray) (fr to : List Int) (pl cb : Bool) (LV : Value) (W : World)
    (hS : ∀ V, Below W.heap.size W V → Calls Tryd.prog 16 #[.int .u16 (o : Int)] V fun e W' => e = .returned (.agg #[.int .u16 (si : Int), .bool pl, .func (.func k) #[] #[]]) ∧ Below V.heap.size V W')
    (eg : ∀ args w, (callFunc k args).run Tryd.prog w = .ok (.enter k args) w) (hF : ∀ V, Calls Tryd.prog k #[] V fun e W' => e = .returned LV ∧ Below V.heap.size V W')
    (hW : ∀ V, Calls Tryd.prog 17 #[LV, .int .u16 (o : Int)] V fun e W' => e = .returned (.agg #[.int .u16 (fi : Int), .string fn, .string ty, .int .u8 im, .int .i64 bi]) ∧ Below V.heap.size V W')
    (hN : ∀ V, Below W.heap.size W V → Calls Tryd.prog 18 #[.agg #[.int .u16 (fi : Int), .string fn, .string ty, .int .u8 im, .int .i64 bi], .int .u16 (o : Int)] V fun e W' => e = .returned (.tuple #[.string nm, .bool true]) ∧ Below V.heap.size V W')
    (hC : ∀ V, Calls Tryd.prog 19 #[.string ty, .string ⟨#[58]⟩] V fun e W' => e = .returned (.tuple #[.string tf, .string tt, .bool cb]) ∧ Below V.heap.size V W')
    (hV1 : ∀ V, Calls Tryd.prog 20 #[.string tf] V fun e W' => ∃ v, e = .returned v ∧ OwnY W' V.heap.size v fr ∧ Below V.heap.size V W')
    (hV2 : ∀ V, Calls Tryd.prog 20 #[.string tt] V fun e W' => ∃ v, e = .returned v ∧ OwnY W' V.heap.size v to ∧ Below V.heap.size V W') :
    Calls Tryd.prog 9 #[.int .u16 (o : Int)] W fun e W' => ∃ v1 v2, e = .returned (.tuple #[.agg #[.int .u16 (o : Int), .string nm, .int .u8 im, v1, v2, .int .i64 bi, .bool pl], .int .i64 0]) ∧ OwnY W' W.heap.size v1 fr ∧ OwnY W' W.heap.size v2 to ∧ Below W.heap.size W W' := by
  obtain ⟨w0, hw0⟩ : ∃ x, W.alloc (.cells #[.int .u16 0, .string ⟨#[]⟩, .int .u8 0, .slice none 0 0, .slice none 0 0, .int .i64 0, .bool false] 27) = x := ⟨_, rfl⟩
  have B0 := hideT (show Below W.heap.size W w0 by rw [← hw0]; exact (Below.refl _ W).alloc (Nat.le_refl _) _)
  have R0 := hideT (show w0.heap[W.heap.size]? = some (.cells #[.int .u16 0, .string ⟨#[]⟩, .int .u8 0, .slice none 0 0, .slice none 0 0, .int .i64 0, .bool false] 27 (0, 0)) by rw [← hw0]; exact heap_alloc_new W _)
  have HW0 := hideT hw0
  have CS := hideT hS
  have CF := hideT hF
  have CW := hideT hW
  have CN := hideT hN
  have CC := hideT hC
  have CT1 := hideT hV1
  have CT2 := hideT hV2
  clear hw0 hS hF hW hN hC hV1 hV2
  go_enter Tryd.func9, Tryd.ntmps9
  go_wp2_with fail
  rw [HW0.out]
  refine (CS.out _ B0.out).mono ?_
  rintro e w1 ⟨rfl, hb⟩
  have B1 := hideT (B0.out.trans (hb.mono B0.out.size))
  have R1 := hideT ((hb.block _ (Array.getElem?_eq_some_iff.1 R0.out).1).trans R0.out)
  have G1 := hideT (show W.heap.size < w1.heap.size from (Array.getElem?_eq_some_iff.1 R1.out).1)
  clear hb B0 R0 CS
  dsimp only
  obtain ⟨w2, hw2⟩ : ∃ x, w1.alloc (.cells #[.int .u16 (si : Int), .bool pl, .func (.func k) #[] #[]] 43) = x := ⟨_, rfl⟩
  have B2 := hideT (show Below W.heap.size W w2 by rw [← hw2]; exact B1.out.alloc B1.out.size _)
  have R2 := hideT (show w2.heap[W.heap.size]? = some (.cells #[.int .u16 0, .string ⟨#[]⟩, .int .u8 0, .slice none 0 0, .slice none 0 0, .int .i64 0, .bool false] 27 (0, 0)) by rw [← hw2]; exact (heap_alloc_old w1 _ _ G1.out).trans R1.out)
  have S2 := hideT (show w2.heap[w1.heap.size]? = some (.cells #[.int .u16 (si : Int), .bool pl, .func (.func k) #[] #[]] 43 (0, 0)) by rw [← hw2]; exact heap_alloc_new w1 _)
  have HW2 := hideT hw2
  obtain ⟨g4, hg4⟩ : ∃ g, w1.heap.size = g := ⟨_, rfl⟩
  have HG4 := hideT hg4
  have G4 := hideT (show W.heap.size < g4 by rw [← hg4]; exact G1.out)
  rw [hg4] at S2
  clear hw2 hg4 R1 B1 G1
  have c2 : w2.cell? ⟨g4, 2, none⟩ = some (.func (.func k) #[] #[]) := by simp [World.cell?, S2.out]
  rw [← HW2.out] at c2
  rw [← HG4.out] at c2
  go_wp2_with (refine wpList_store_row rfl 43 (.tmp 4) (.tmp 12) rfl w1.heap.size #[.int .u16 (si : Int), .bool pl, .func (.func k) #[] #[]] rfl rfl 43 _ (heap_alloc_new w1 _) span_info rfl (span_one' _ _ _) ?_; rw [World.setRow_alloc_new])
  rw [HW2.out]
  refine (CF.out _).mono ?_
  rintro e w3 ⟨rfl, hb⟩
  have B3 := hideT (B2.out.trans (hb.mono B2.out.size))
  have R3 := hideT ((hb.block _ (Array.getElem?_eq_some_iff.1 R2.out).1).trans R2.out)
  have S3 := hideT ((hb.block _ (Array.getElem?_eq_some_iff.1 S2.out).1).trans S2.out)
  rw [HG4.out]
  clear hb B2 R2 S2 CF c2
  dsimp only
  go_wp2_with fail
  refine (CW.out _).mono ?_
  rintro e w4 ⟨rfl, hb⟩
  have B4 := hideT (B3.out.trans (hb.mono B3.out.size))
  have R4 := hideT ((hb.block _ (Array.getElem?_eq_some_iff.1 R3.out).1).trans R3.out)
  have S4 := hideT ((hb.block _ (Array.getElem?_eq_some_iff.1 S3.out).1).trans S3.out)
  clear hb B3 R3 S3 CW
  dsimp only
  obtain ⟨w5, hw5⟩ : ∃ x, w4.alloc (.cells #[.int .u16 (fi : Int), .string fn, .string ty, .int .u8 im, .int .i64 bi] 46) = x := ⟨_, rfl⟩
  have B5 := hideT (show Below W.heap.size W w5 by rw [← hw5]; exact B4.out.alloc B4.out.size _)
  have R5 := hideT (show w5.heap[W.heap.size]? = some (.cells #[.int .u16 0, .string ⟨#[]⟩, .int .u8 0, .slice none 0 0, .slice none 0 0, .int .i64 0, .bool false] 27 (0, 0)) by rw [← hw5]; exact (heap_alloc_old w4 _ _ (Array.getElem?_eq_some_iff.1 R4.out).1).trans R4.out)
  have S5 := hideT (show w5.heap[g4]? = some (.cells #[.int .u16 (si : Int), .bool pl, .func (.func k) #[] #[]] 43 (0, 0)) by rw [← hw5]; exact (heap_alloc_old w4 _ _ (Array.getElem?_eq_some_iff.1 S4.out).1).trans S4.out)
  have F5 := hideT (show w5.heap[w4.heap.size]? = some (.cells #[.int .u16 (fi : Int), .string fn, .string ty, .int .u8 im, .int .i64 bi] 46 (0, 0)) by rw [← hw5]; exact heap_alloc_new w4 _)
  have HW5 := hideT hw5
  obtain ⟨g5, hg5⟩ : ∃ g, w4.heap.size = g := ⟨_, rfl⟩
  have HG5 := hideT hg5
  have G5 := hideT (show W.heap.size < g5 by rw [← hg5]; exact (Array.getElem?_eq_some_iff.1 R4.out).1)
  rw [hg5] at F5
  clear hw5 hg5 R4 B4 S4
  have d0 : w5.cell? ⟨g5, 0, none⟩ = some (.int .u16 (fi : Int)) := by simp [World.cell?, F5.out]
  have d1 : w5.cell? ⟨g5, 1, none⟩ = some (.string fn) := by simp [World.cell?, F5.out]
  have d2 : w5.cell? ⟨g5, 2, none⟩ = some (.string ty) := by simp [World.cell?, F5.out]
  have d3 : w5.cell? ⟨g5, 3, none⟩ = some (.int .u8 im) := by simp [World.cell?, F5.out]
  have d4 : w5.cell? ⟨g5, 4, none⟩ = some (.int .i64 bi) := by simp [World.cell?, F5.out]
  rw [← HW5.out, ← HG5.out] at d0 d1 d2 d3 d4
  go_wp2_with (refine wpList_store_row rfl 46 (.tmp 5) (.tmp 17) rfl w4.heap.size #[.int .u16 (fi : Int), .string fn, .string ty, .int .u8 im, .int .i64 bi] rfl rfl 46 _ (heap_alloc_new w4 _) fam_info rfl (fam_one' _ _ _ _ _) ?_; rw [World.setRow_alloc_new])
  rw [HW5.out]
  refine (CN.out _ B5.out).mono ?_
  rintro e w6 ⟨rfl, hb⟩
  have B6 := hideT (B5.out.trans (hb.mono B5.out.size))
  have R6 := hideT ((hb.block _ (Array.getElem?_eq_some_iff.1 R5.out).1).trans R5.out)
  have S6 := hideT ((hb.block _ (Array.getElem?_eq_some_iff.1 S5.out).1).trans S5.out)
  have F6 := hideT ((hb.block _ (Array.getElem?_eq_some_iff.1 F5.out).1).trans F5.out)
  rw [HG5.out]
  clear hb B5 R5 S5 F5 CN d0 d1 d2 d3 d4
  dsimp only
  have d2 : w6.cell? ⟨g5, 2, none⟩ = some (.string ty) := by simp [World.cell?, F6.out]
  go_wp2_with fail
  refine (CC.out _).mono ?_
  rintro e w7 ⟨rfl, hb⟩
  have B7 := hideT (B6.out.trans (hb.mono B6.out.size))
  have RZ := hideT ((hb.block _ (Array.getElem?_eq_some_iff.1 R6.out).1).trans R6.out)
  have SZ := hideT ((hb.block _ (Array.getElem?_eq_some_iff.1 S6.out).1).trans S6.out)
  have FZ := hideT ((hb.block _ (Array.getElem?_eq_some_iff.1 F6.out).1).trans F6.out)
  have g4lt := G4.out
  have g5lt := G5.out
  clear hb B6 R6 S6 F6 CC d2 HW0 HW2 HW5 HG4 HG5 G4 G5
  dsimp only
  go_wp2_with fail
  refine wp_region_par [34, 35, 36, 37, 38, 39, 40, 41, 42, 43, 44, 45, 46, 3] (OpJ W o g4 g5 k si fi im bi fn ty nm tf tt fr to pl) (by kernel_rfl) (by kernel_rfl) ?_ ?_ ?_
  · intro vs
    exact ⟨(fun h => by cases h), (fun h => by cases h), (fun h => by cases h), (fun h => by cases h), (fun h => by cases h), (fun h => by cases h), (fun h => by cases h), (fun h => by cases h), (fun h => by cases h), (fun h => by cases h), (fun h => by cases h), (fun h => by cases h), (fun h => by cases h), (fun h => by cases h), (fun h => by cases h), (fun h => by cases h), (fun h => by cases h), FZ.out, SZ.out, ⟨_, RZ.out, rfl, fun h => by cases h⟩, B7.out.drew⟩
  · intro d vs wz hd hl hJ
    match vs, hl with
    | [x0, x1, x2, x3, x4, x5, x6, x7, x8, x9, x10, x11, x12, x13], _ =>
    obtain ⟨j0, j1, j2, j3, j4, j5, j6, j7, j8, j9, j10, j11, j12, j14, p12_5, p12_7, p13_12, jf, js, jz, jb⟩ := hJ
    simp only [List.getElem?_cons_zero, List.getElem?_cons_succ, Option.some.injEq, Option.getD_some] at j0 j1 j2 j3 j4 j5 j6 j7 j8 j9 j10 j11 j12 j14 jz
    obtain rfl := j0 (hd 0 (by decide))
    obtain rfl := j1 (hd 1 (by decide))
    obtain rfl := j2 (hd 2 (by decide))
    obtain rfl := j3 (hd 3 (by decide))
    obtain rfl := j4 (hd 4 (by decide))
    have o5 := j5 (hd 5 (by decide))
    obtain rfl := j6 (hd 6 (by decide))
    have o7 := j7 (hd 7 (by decide))
    obtain rfl := j8 (hd 8 (by decide))
    obtain rfl := j9 (hd 9 (by decide))
    obtain rfl := j10 (hd 10 (by decide))
    obtain rfl := j11 (hd 11 (by decide))
    obtain rfl := j12 (hd 12 (by decide))
    obtain rfl := j14 (hd 14 (by decide))
    obtain ⟨cs, hz, _, h9⟩ := jz
    obtain rfl := h9 (hd 13 (by decide))
    obtain ⟨a5, c5, e5⟩ := OwnY.shape o5
    obtain ⟨a7, c7, e7⟩ := OwnY.shape o7
    subst e5
    subst e7
    have HZ := hideT hz
    have O5 := hideT o5
    have O7 := hideT o7
    have BB := hideT jb
    clear hd hl jb hz o5 o7 jf js
    simp only [putL, Act.put, List.setIfInBounds_toArray, List.set_cons_succ, List.set_cons_zero]
    go_wp2
    refine bodyPost_ret (v := .tuple #[.agg #[.int .u16 (o : Int), .string nm, .int .u8 im, .slice a5 fr.length c5, .slice a7 to.length c7, .int .i64 bi, .bool pl], .int .i64 0]) (results_row2 rfl rfl (run_loadVar_row _ _ 27 27 _ (0, 0) _ HZ.out Tryd.underlying27 rfl infoInfo) rfl) rfl ?_
    exact ⟨_, _, rfl, O5.out, O7.out, BB.out⟩
  · intro i o ho d vs wr hl hJ hi hw
    match vs, hl with
    | [x0, x1, x2, x3, x4, x5, x6, x7, x8, x9, x10, x11, x12, x13], _ =>
    have hin : i < 15 := (List.getElem?_eq_some_iff.1 ho).1
    obtain ⟨j0, j1, j2, j3, j4, j5, j6, j7, j8, j9, j10, j11, j12, j14, p12_5, p12_7, p13_12, jf, js, jz, jb⟩ := hJ
    simp only [List.getElem?_cons_zero, List.getElem?_cons_succ, Option.some.injEq, Option.getD_some] at j0 j1 j2 j3 j4 j5 j6 j7 j8 j9 j10 j11 j12 j14 jz
    rcases (show i = 0 ∨ i = 1 ∨ i = 2 ∨ i = 3 ∨ i = 4 ∨ i = 5 ∨ i = 6 ∨ i = 7 ∨ i = 8 ∨ i = 9 ∨ i = 10 ∨ i = 11 ∨ i = 12 ∨ i = 13 ∨ i = 14 by omega) with rfl | rfl | rfl | rfl | rfl | rfl | rfl | rfl | rfl | rfl | rfl | rfl | rfl | rfl | rfl
    · simp only [List.getElem?_cons_zero, List.getElem?_cons_succ, Option.some.injEq] at ho
      subst ho
      simp only [putL, Act.put, List.setIfInBounds_toArray, List.set_cons_succ, List.set_cons_zero]
      go_wp2
      exact ⟨rfl, [_, x1, x2, x3, x4, x5, x6, x7, x8, x9, x10, x11, x12, x13], rfl, (by simp only [putL, Act.put, List.setIfInBounds_toArray, List.set_cons_succ, List.set_cons_zero]), (fun _ => rfl), j1, j2, j3, j4, j5, j6, j7, j8, j9, j10, j11, j12, j14, p12_5, p12_7, p13_12, jf, js, jz, jb⟩
    · simp only [List.getElem?_cons_zero, List.getElem?_cons_succ, Option.some.injEq] at ho
      subst ho
      simp only [putL, Act.put, List.setIfInBounds_toArray, List.set_cons_succ, List.set_cons_zero]
      go_wp2
      exact ⟨rfl, [x0, _, x2, x3, x4, x5, x6, x7, x8, x9, x10, x11, x12, x13], rfl, (by simp only [putL, Act.put, List.setIfInBounds_toArray, List.set_cons_succ, List.set_cons_zero]), j0, (fun _ => rfl), j2, j3, j4, j5, j6, j7, j8, j9, j10, j11, j12, j14, p12_5, p12_7, p13_12, jf, js, jz, jb⟩
    · simp only [List.getElem?_cons_zero, List.getElem?_cons_succ, Option.some.injEq] at ho
      subst ho
      simp only [putL, Act.put, List.setIfInBounds_toArray, List.set_cons_succ, List.set_cons_zero]
      go_wp2
      exact ⟨rfl, [x0, x1, _, x3, x4, x5, x6, x7, x8, x9, x10, x11, x12, x13], rfl, (by simp only [putL, Act.put, List.setIfInBounds_toArray, List.set_cons_succ, List.set_cons_zero]), j0, j1, (fun _ => rfl), j3, j4, j5, j6, j7, j8, j9, j10, j11, j12, j14, p12_5, p12_7, p13_12, jf, js, jz, jb⟩
    · simp only [List.getElem?_cons_zero, List.getElem?_cons_succ, Option.some.injEq] at ho
      subst ho
      have hd2 : d 2 = true := List.all_eq_true.1 hw 2 (by decide)
      obtain rfl := j2 hd2
      have hc : wr.cell? ⟨g5, 3, none⟩ = some (.int .u8 im) := by simp [World.cell?, jf]
      simp only [putL, Act.put, List.setIfInBounds_toArray, List.set_cons_succ, List.set_cons_zero] at hc ⊢
      go_wp2
      exact ⟨rfl, [x0, x1, _, _, x4, x5, x6, x7, x8, x9, x10, x11, x12, x13], rfl, (by simp only [putL, Act.put, List.setIfInBounds_toArray, List.set_cons_succ, List.set_cons_zero]), j0, j1, (fun _ => rfl), (fun _ => rfl), j4, j5, j6, j7, j8, j9, j10, j11, j12, j14, p12_5, p12_7, p13_12, jf, js, jz, jb⟩
    · simp only [List.getElem?_cons_zero, List.getElem?_cons_succ, Option.some.injEq] at ho
      subst ho
      simp only [putL, Act.put, List.setIfInBounds_toArray, List.set_cons_succ, List.set_cons_zero]
      go_wp2
      exact ⟨rfl, [x0, x1, x2, x3, _, x5, x6, x7, x8, x9, x10, x11, x12, x13], rfl, (by simp only [putL, Act.put, List.setIfInBounds_toArray, List.set_cons_succ, List.set_cons_zero]), j0, j1, j2, j3, (fun _ => rfl), j5, j6, j7, j8, j9, j10, j11, j12, j14, p12_5, p12_7, p13_12, jf, js, jz, jb⟩
    · simp only [List.getElem?_cons_zero, List.getElem?_cons_succ, Option.some.injEq] at ho
      subst ho
      have hd4 : d 4 = true := List.all_eq_true.1 hw 4 (by decide)
      obtain rfl := j4 hd4
      have n12 : d 12 = false := by
        cases h : d 12 with
        | false => rfl
        | true => exact nomatch ((p12_5 h).symm.trans hi)
      have n13 : d 13 = false := by
        cases h : d 13 with
        | false => rfl
        | true => exact nomatch ((p12_5 (p13_12 h)).symm.trans hi)
      have CC := hideT (CT1.out wr)
      simp only [putL, Act.put, List.setIfInBounds_toArray, List.set_cons_succ, List.set_cons_zero]
      go_wp2_with ((with_reducible refine CC.out.mono ?_); rintro e w2 ⟨z, rfl, ho, hb⟩)
      exact ⟨rfl, [x0, x1, x2, x3, _, z, x6, x7, x8, x9, x10, x11, x12, x13], rfl, (by simp only [putL, Act.put, List.setIfInBounds_toArray, List.set_cons_succ, List.set_cons_zero]), j0, j1, j2, j3, (fun _ => rfl), (fun _ => OwnY.mono (show OwnY w2 wr.heap.size z fr from ho) jb.size), j6, (fun h => OwnY.later (j7 h) hb), j8, j9, j10, j11, (fun h => nomatch (n12.symm.trans h)), j14, (fun _ => rfl), p12_7, p13_12, ((hb.block _ (Array.getElem?_eq_some_iff.1 jf).1).trans jf), ((hb.block _ (Array.getElem?_eq_some_iff.1 js).1).trans js), (let ⟨cs, h1, h2, h3⟩ := jz; ⟨cs, (hb.block _ (Array.getElem?_eq_some_iff.1 h1).1).trans h1, h2, fun h => nomatch (n13.symm.trans h)⟩), (jb.trans (hb.mono jb.size))⟩
    · simp only [List.getElem?_cons_zero, List.getElem?_cons_succ, Option.some.injEq] at ho
      subst ho
      simp only [putL, Act.put, List.setIfInBounds_toArray, List.set_cons_succ, List.set_cons_zero]
      go_wp2
      exact ⟨rfl, [x0, x1, x2, x3, x4, x5, _, x7, x8, x9, x10, x11, x12, x13], rfl, (by simp only [putL, Act.put, List.setIfInBounds_toArray, List.set_cons_succ, List.set_cons_zero]), j0, j1, j2, j3, j4, j5, (fun _ => rfl), j7, j8, j9, j10, j11, j12, j14, p12_5, p12_7, p13_12, jf, js, jz, jb⟩
    · simp only [List.getElem?_cons_zero, List.getElem?_cons_succ, Option.some.injEq] at ho
      subst ho
      have hd6 : d 6 = true := List.all_eq_true.1 hw 6 (by decide)
      obtain rfl := j6 hd6
      have n12 : d 12 = false := by
        cases h : d 12 with
        | false => rfl
        | true => exact nomatch ((p12_7 h).symm.trans hi)
      have n13 : d 13 = false := by
        cases h : d 13 with
        | false => rfl
        | true => exact nomatch ((p12_7 (p13_12 h)).symm.trans hi)
      have CC := hideT (CT2.out wr)
      simp only [putL, Act.put, List.setIfInBounds_toArray, List.set_cons_succ, List.set_cons_zero]
      go_wp2_with ((with_reducible refine CC.out.mono ?_); rintro e w2 ⟨z, rfl, ho, hb⟩)
      exact ⟨rfl, [x0, x1, x2, x3, x4, x5, _, z, x8, x9, x10, x11, x12, x13], rfl, (by simp only [putL, Act.put, List.setIfInBounds_toArray, List.set_cons_succ, List.set_cons_zero]), j0, j1, j2, j3, j4, (fun h => OwnY.later (j5 h) hb), (fun _ => rfl), (fun _ => OwnY.mono (show OwnY w2 wr.heap.size z to from ho) jb.size), j8, j9, j10, j11, (fun h => nomatch (n12.symm.trans h)), j14, p12_5, (fun _ => rfl), p13_12, ((hb.block _ (Array.getElem?_eq_some_iff.1 jf).1).trans jf), ((hb.block _ (Array.getElem?_eq_some_iff.1 js).1).trans js), (let ⟨cs, h1, h2, h3⟩ := jz; ⟨cs, (hb.block _ (Array.getElem?_eq_some_iff.1 h1).1).trans h1, h2, fun h => nomatch (n13.symm.trans h)⟩), (jb.trans (hb.mono jb.size))⟩
    · simp only [List.getElem?_cons_zero, List.getElem?_cons_succ, Option.some.injEq] at ho
      subst ho
      simp only [putL, Act.put, List.setIfInBounds_toArray, List.set_cons_succ, List.set_cons_zero]
      go_wp2
      exact ⟨rfl, [x0, x1, x2, x3, x4, x5, x6, x7, _, x9, x10, x11, x12, x13], rfl, (by simp only [putL, Act.put, List.setIfInBounds_toArray, List.set_cons_succ, List.set_cons_zero]), j0, j1, j2, j3, j4, j5, j6, j7, (fun _ => rfl), j9, j10, j11, j12, j14, p12_5, p12_7, p13_12, jf, js, jz, jb⟩
    · simp only [List.getElem?_cons_zero, List.getElem?_cons_succ, Option.some.injEq] at ho
      subst ho
      have hd8 : d 8 = true := List.all_eq_true.1 hw 8 (by decide)
      obtain rfl := j8 hd8
      have hc : wr.cell? ⟨g5, 4, none⟩ = some (.int .i64 bi) := by simp [World.cell?, jf]
      simp only [putL, Act.put, List.setIfInBounds_toArray, List.set_cons_succ, List.set_cons_zero] at hc ⊢
      go_wp2
      exact ⟨rfl, [x0, x1, x2, x3, x4, x5, x6, x7, _, _, x10, x11, x12, x13], rfl, (by simp only [putL, Act.put, List.setIfInBounds_toArray, List.set_cons_succ, List.set_cons_zero]), j0, j1, j2, j3, j4, j5, j6, j7, (fun _ => rfl), (fun _ => rfl), j10, j11, j12, j14, p12_5, p12_7, p13_12, jf, js, jz, jb⟩
    · simp only [List.getElem?_cons_zero, List.getElem?_cons_succ, Option.some.injEq] at ho
      subst ho
      simp only [putL, Act.put, List.setIfInBounds_toArray, List.set_cons_succ, List.set_cons_zero]
      go_wp2
      exact ⟨rfl, [x0, x1, x2, x3, x4, x5, x6, x7, x8, x9, _, x11, x12, x13], rfl, (by simp only [putL, Act.put, List.setIfInBounds_toArray, List.set_cons_succ, List.set_cons_zero]), j0, j1, j2, j3, j4, j5, j6, j7, j8, j9, (fun _ => rfl), j11, j12, j14, p12_5, p12_7, p13_12, jf, js, jz, jb⟩
    · simp only [List.getElem?_cons_zero, List.getElem?_cons_succ, Option.some.injEq] at ho
      subst ho
      have hd10 : d 10 = true := List.all_eq_true.1 hw 10 (by decide)
      obtain rfl := j10 hd10
      have hc : wr.cell? ⟨g4, 1, none⟩ = some (.bool pl) := by simp [World.cell?, js]
      simp only [putL, Act.put, List.setIfInBounds_toArray, List.set_cons_succ, List.set_cons_zero] at hc ⊢
      go_wp2
      exact ⟨rfl, [x0, x1, x2, x3, x4, x5, x6, x7, x8, x9, _, _, x12, x13], rfl, (by simp only [putL, Act.put, List.setIfInBounds_toArray, List.set_cons_succ, List.set_cons_zero]), j0, j1, j2, j3, j4, j5, j6, j7, j8, j9, (fun _ => rfl), (fun _ => rfl), j12, j14, p12_5, p12_7, p13_12, jf, js, jz, jb⟩
    · simp only [List.getElem?_cons_zero, List.getElem?_cons_succ, Option.some.injEq] at ho
      subst ho
      have hd0 : d 0 = true := List.all_eq_true.1 hw 0 (by decide)
      obtain rfl := j0 hd0
      have hd1 : d 1 = true := List.all_eq_true.1 hw 1 (by decide)
      obtain rfl := j1 hd1
      have hd3 : d 3 = true := List.all_eq_true.1 hw 3 (by decide)
      obtain rfl := j3 hd3
      have hd5 : d 5 = true := List.all_eq_true.1 hw 5 (by decide)
      have hd7 : d 7 = true := List.all_eq_true.1 hw 7 (by decide)
      have hd9 : d 9 = true := List.all_eq_true.1 hw 9 (by decide)
      obtain rfl := j9 hd9
      have hd11 : d 11 = true := List.all_eq_true.1 hw 11 (by decide)
      obtain rfl := j11 hd11
      have n13 : d 13 = false := by
        cases h : d 13 with
        | false => rfl
        | true => exact nomatch ((p13_12 h).symm.trans hi)
      obtain ⟨a5, c5, e5⟩ := OwnY.shape (j5 hd5)
      subst e5
      obtain ⟨a7, c7, e7⟩ := OwnY.shape (j7 hd7)
      subst e7
      simp only [putL, Act.put, List.setIfInBounds_toArray, List.set_cons_succ, List.set_cons_zero]
      go_wp2
      exact ⟨rfl, [_, _, x2, _, x4, _, x6, _, x8, _, x10, _, .agg #[.int .u16 (o : Int), .string nm, .int .u8 im, (.slice a5 fr.length c5), (.slice a7 to.length c7), .int .i64 bi, .bool pl], x13], rfl, (by simp only [putL, Act.put, List.setIfInBounds_toArray, List.set_cons_succ, List.set_cons_zero]), (fun _ => rfl), (fun _ => rfl), j2, (fun _ => rfl), j4, j5, j6, j7, j8, (fun _ => rfl), j10, (fun _ => rfl), (fun _ => rfl), j14, (fun _ => hd5), (fun _ => hd7), (fun _ => rfl), jf, js, (let ⟨cs, h1, h2, h3⟩ := jz; ⟨cs, h1, h2, fun h => nomatch (n13.symm.trans h)⟩), jb⟩
    · simp only [List.getElem?_cons_zero, List.getElem?_cons_succ, Option.some.injEq] at ho
      subst ho
      have hd12 : d 12 = true := List.all_eq_true.1 hw 12 (by decide)
      obtain rfl := j12 hd12
      obtain ⟨a5, c5, e5⟩ := OwnY.shape (j5 (p12_5 hd12))
      subst e5
      obtain ⟨a7, c7, e7⟩ := OwnY.shape (j7 (p12_7 hd12))
      subst e7
      obtain ⟨cs, hz, hn, _⟩ := jz
      obtain ⟨s0, s1, s2, s3, s4, s5, s6, rfl⟩ : ∃ s0 s1 s2 s3 s4 s5 s6, cs = #[s0, s1, s2, s3, s4, s5, s6] := by
        obtain ⟨l⟩ := cs
        match l, hn with
        | [y0, y1, y2, y3, y4, y5, y6], _ => exact ⟨y0, y1, y2, y3, y4, y5, y6, rfl⟩
      have k0 : wr.cell? ⟨W.heap.size, 0, none⟩ = some s0 := by simp [World.cell?, hz]
      have f0 : wr.frozen? ⟨W.heap.size, 0, none⟩ = false := frozen_of_row wr _ _ _ _ hz
      have k1 : wr.cell? ⟨W.heap.size, 1, none⟩ = some s1 := by simp [World.cell?, hz]
      have f1 : wr.frozen? ⟨W.heap.size, 1, none⟩ = false := frozen_of_row wr _ _ _ _ hz
      have k2 : wr.cell? ⟨W.heap.size, 2, none⟩ = some s2 := by simp [World.cell?, hz]
      have f2 : wr.frozen? ⟨W.heap.size, 2, none⟩ = false := frozen_of_row wr _ _ _ _ hz
      have k3 : wr.cell? ⟨W.heap.size, 3, none⟩ = some s3 := by simp [World.cell?, hz]
      have f3 : wr.frozen? ⟨W.heap.size, 3, none⟩ = false := frozen_of_row wr _ _ _ _ hz
      have k4 : wr.cell? ⟨W.heap.size, 4, none⟩ = some s4 := by simp [World.cell?, hz]
      have f4 : wr.frozen? ⟨W.heap.size, 4, none⟩ = false := frozen_of_row wr _ _ _ _ hz
      have k5 : wr.cell? ⟨W.heap.size, 5, none⟩ = some s5 := by simp [World.cell?, hz]
      have f5 : wr.frozen? ⟨W.heap.size, 5, none⟩ = false := frozen_of_row wr _ _ _ _ hz
      have k6 : wr.cell? ⟨W.heap.size, 6, none⟩ = some s6 := by simp [World.cell?, hz]
      have f6 : wr.frozen? ⟨W.heap.size, 6, none⟩ = false := frozen_of_row wr _ _ _ _ hz
      simp only [putL, Act.put, List.setIfInBounds_toArray, List.set_cons_succ, List.set_cons_zero]
      go_wp2
      exact ⟨rfl, [x0, x1, x2, x3, x4, _, x6, _, x8, x9, x10, x11, .agg #[.int .u16 (o : Int), .string nm, .int .u8 im, (.slice a5 fr.length c5), (.slice a7 to.length c7), .int .i64 bi, .bool pl], x13], rfl, (by simp only [putL, Act.put, List.setIfInBounds_toArray, List.set_cons_succ, List.set_cons_zero]), j0, j1, j2, j3, j4, (fun _ => OwnY.aside (j5 (p12_5 hd12)) hz), j6, (fun _ => OwnY.aside (j7 (p12_7 hd12)) hz), j8, j9, j10, j11, (fun _ => rfl), j14, p12_5, p12_7, (fun _ => hd12), (fam_aside jf (by omega)), (fam_aside js (by omega)), ⟨_, (heap_setCell_same _ _ 6 _ _ _ (heap_setCell_same _ _ 5 _ _ _ (heap_setCell_same _ _ 4 _ _ _ (heap_setCell_same _ _ 3 _ _ _ (heap_setCell_same _ _ 2 _ _ _ (heap_setCell_same _ _ 1 _ _ _ (heap_setCell_same _ _ 0 _ _ _ hz))))))), rfl, fun _ => rfl⟩, (((((((jb.setCell (by simp) _).setCell (by simp) _).setCell (by simp) _).setCell (by simp) _).setCell (by simp) _).setCell (by simp) _).setCell (by simp) _)⟩
    · simp only [List.getElem?_cons_zero, List.getElem?_cons_succ, Option.some.injEq] at ho
      subst ho
      simp only [putL, Act.put, List.setIfInBounds_toArray, List.set_cons_succ, List.set_cons_zero]
      go_wp2
      exact ⟨rfl, [x0, x1, x2, x3, x4, x5, x6, x7, x8, x9, x10, x11, x12, _], rfl, (by simp only [putL, Act.put, List.setIfInBounds_toArray, List.set_cons_succ, List.set_cons_zero]), j0, j1, j2, j3, j4, j5, j6, j7, j8, j9, j10, j11, j12, (fun _ => rfl), p12_5, p12_7, p13_12, jf, js, jz, jb⟩

set_option maxHeartbeats 16000000 in
theorem of_no_walk (o k : Nat) (si fi im bi : Int) (fn ty nm : ByteArray) (pl : Bool) (LV : Value) (W : World)
    (hS : ∀ V, Below W.heap.size W V → Calls Tryd.prog 16 #[.int .u16 (o : Int)] V fun e W' => e = .returned (.agg #[.int .u16 (si : Int), .bool pl, .func (.func k) #[] #[]]) ∧ Below V.heap.size V W')
    (eg : ∀ args w, (callFunc k args).run Tryd.prog w = .ok (.enter k args) w) (hF : ∀ V, Calls Tryd.prog k #[] V fun e W' => e = .returned LV ∧ Below V.heap.size V W')
    (hW : ∀ V, Calls Tryd.prog 17 #[LV, .int .u16 (o : Int)] V fun e W' => e = .returned (.agg #[.int .u16 (fi : Int), .string fn, .string ty, .int .u8 im, .int .i64 bi]) ∧ Below V.heap.size V W')
    (hN : ∀ V, Below W.heap.size W V → Calls Tryd.prog 18 #[.agg #[.int .u16 (fi : Int), .string fn, .string ty, .int .u8 im, .int .i64 bi], .int .u16 (o : Int)] V fun e W' => e = .returned (.tuple #[.string nm, .bool false]) ∧ Below V.heap.size V W') :
    Calls Tryd.prog 9 #[.int .u16 (o : Int)] W fun e W' => e = .returned (.tuple #[.agg #[.int .u16 0, .string ⟨#[]⟩, .int .u8 0, .slice none 0 0, .slice none 0 0, .int .i64 0, .bool false], .int .i64 11]) ∧ Below W.heap.size W W' := by
  obtain ⟨w0, hw0⟩ : ∃ x, W.alloc (.cells #[.int .u16 0, .string ⟨#[]⟩, .int .u8 0, .slice none 0 0, .slice none 0 0, .int .i64 0, .bool false] 27) = x := ⟨_, rfl⟩
  have B0 := hideT (show Below W.heap.size W w0 by rw [← hw0]; exact (Below.refl _ W).alloc (Nat.le_refl _) _)
  have R0 := hideT (show w0.heap[W.heap.size]? = some (.cells #[.int .u16 0, .string ⟨#[]⟩, .int .u8 0, .slice none 0 0, .slice none 0 0, .int .i64 0, .bool false] 27 (0, 0)) by rw [← hw0]; exact heap_alloc_new W _)
  have HW0 := hideT hw0
  have CS := hideT hS
  have CF := hideT hF
  have CW := hideT hW
  have CN := hideT hN
  clear hw0 hS hF hW hN
  go_enter Tryd.func9, Tryd.ntmps9
  go_wp2_with fail
  rw [HW0.out]
  refine (CS.out _ B0.out).mono ?_
  rintro e w1 ⟨rfl, hb⟩
  have B1 := hideT (B0.out.trans (hb.mono B0.out.size))
  have R1 := hideT ((hb.block _ (Array.getElem?_eq_some_iff.1 R0.out).1).trans R0.out)
  have G1 := hideT (show W.heap.size < w1.heap.size from (Array.getElem?_eq_some_iff.1 R1.out).1)
  clear hb B0 R0 CS
  dsimp only
  obtain ⟨w2, hw2⟩ : ∃ x, w1.alloc (.cells #[.int .u16 (si : Int), .bool pl, .func (.func k) #[] #[]] 43) = x := ⟨_, rfl⟩
  have B2 := hideT (show Below W.heap.size W w2 by rw [← hw2]; exact B1.out.alloc B1.out.size _)
  have R2 := hideT (show w2.heap[W.heap.size]? = some (.cells #[.int .u16 0, .string ⟨#[]⟩, .int .u8 0, .slice none 0 0, .slice none 0 0, .int .i64 0, .bool false] 27 (0, 0)) by rw [← hw2]; exact (heap_alloc_old w1 _ _ G1.out).trans R1.out)
  have S2 := hideT (show w2.heap[w1.heap.size]? = some (.cells #[.int .u16 (si : Int), .bool pl, .func (.func k) #[] #[]] 43 (0, 0)) by rw [← hw2]; exact heap_alloc_new w1 _)
  have HW2 := hideT hw2
  obtain ⟨g4, hg4⟩ : ∃ g, w1.heap.size = g := ⟨_, rfl⟩
  have HG4 := hideT hg4
  have G4 := hideT (show W.heap.size < g4 by rw [← hg4]; exact G1.out)
  rw [hg4] at S2
  clear hw2 hg4 R1 B1 G1
  have c2 : w2.cell? ⟨g4, 2, none⟩ = some (.func (.func k) #[] #[]) := by simp [World.cell?, S2.out]
  rw [← HW2.out] at c2
  rw [← HG4.out] at c2
  go_wp2_with (refine wpList_store_row rfl 43 (.tmp 4) (.tmp 12) rfl w1.heap.size #[.int .u16 (si : Int), .bool pl, .func (.func k) #[] #[]] rfl rfl 43 _ (heap_alloc_new w1 _) span_info rfl (span_one' _ _ _) ?_; rw [World.setRow_alloc_new])
  rw [HW2.out]
  refine (CF.out _).mono ?_
  rintro e w3 ⟨rfl, hb⟩
  have B3 := hideT (B2.out.trans (hb.mono B2.out.size))
  have R3 := hideT ((hb.block _ (Array.getElem?_eq_some_iff.1 R2.out).1).trans R2.out)
  have S3 := hideT ((hb.block _ (Array.getElem?_eq_some_iff.1 S2.out).1).trans S2.out)
  rw [HG4.out]
  clear hb B2 R2 S2 CF c2
  dsimp only
  go_wp2_with fail
  refine (CW.out _).mono ?_
  rintro e w4 ⟨rfl, hb⟩
  have B4 := hideT (B3.out.trans (hb.mono B3.out.size))
  have R4 := hideT ((hb.block _ (Array.getElem?_eq_some_iff.1 R3.out).1).trans R3.out)
  have S4 := hideT ((hb.block _ (Array.getElem?_eq_some_iff.1 S3.out).1).trans S3.out)
  clear hb B3 R3 S3 CW
  dsimp only
  obtain ⟨w5, hw5⟩ : ∃ x, w4.alloc (.cells #[.int .u16 (fi : Int), .string fn, .string ty, .int .u8 im, .int .i64 bi] 46) = x := ⟨_, rfl⟩
  have B5 := hideT (show Below W.heap.size W w5 by rw [← hw5]; exact B4.out.alloc B4.out.size _)
  have R5 := hideT (show w5.heap[W.heap.size]? = some (.cells #[.int .u16 0, .string ⟨#[]⟩, .int .u8 0, .slice none 0 0, .slice none 0 0, .int .i64 0, .bool false] 27 (0, 0)) by rw [← hw5]; exact (heap_alloc_old w4 _ _ (Array.getElem?_eq_some_iff.1 R4.out).1).trans R4.out)
  have S5 := hideT (show w5.heap[g4]? = some (.cells #[.int .u16 (si : Int), .bool pl, .func (.func k) #[] #[]] 43 (0, 0)) by rw [← hw5]; exact (heap_alloc_old w4 _ _ (Array.getElem?_eq_some_iff.1 S4.out).1).trans S4.out)
  have F5 := hideT (show w5.heap[w4.heap.size]? = some (.cells #[.int .u16 (fi : Int), .string fn, .string ty, .int .u8 im, .int .i64 bi] 46 (0, 0)) by rw [← hw5]; exact heap_alloc_new w4 _)
  have HW5 := hideT hw5
  obtain ⟨g5, hg5⟩ : ∃ g, w4.heap.size = g := ⟨_, rfl⟩
  have HG5 := hideT hg5
  have G5 := hideT (show W.heap.size < g5 by rw [← hg5]; exact (Array.getElem?_eq_some_iff.1 R4.out).1)
  rw [hg5] at F5
  clear hw5 hg5 R4 B4 S4
  have d0 : w5.cell? ⟨g5, 0, none⟩ = some (.int .u16 (fi : Int)) := by simp [World.cell?, F5.out]
  have d1 : w5.cell? ⟨g5, 1, none⟩ = some (.string fn) := by simp [World.cell?, F5.out]
  have d2 : w5.cell? ⟨g5, 2, none⟩ = some (.string ty) := by simp [World.cell?, F5.out]
  have d3 : w5.cell? ⟨g5, 3, none⟩ = some (.int .u8 im) := by simp [World.cell?, F5.out]
  have d4 : w5.cell? ⟨g5, 4, none⟩ = some (.int .i64 bi) := by simp [World.cell?, F5.out]
  rw [← HW5.out, ← HG5.out] at d0 d1 d2 d3 d4
  go_wp2_with (refine wpList_store_row rfl 46 (.tmp 5) (.tmp 17) rfl w4.heap.size #[.int .u16 (fi : Int), .string fn, .string ty, .int .u8 im, .int .i64 bi] rfl rfl 46 _ (heap_alloc_new w4 _) fam_info rfl (fam_one' _ _ _ _ _) ?_; rw [World.setRow_alloc_new])
  rw [HW5.out]
  refine (CN.out _ B5.out).mono ?_
  rintro e w6 ⟨rfl, hb⟩
  have B6 := hideT (B5.out.trans (hb.mono B5.out.size))
  have R6 := hideT ((hb.block _ (Array.getElem?_eq_some_iff.1 R5.out).1).trans R5.out)
  have S6 := hideT ((hb.block _ (Array.getElem?_eq_some_iff.1 S5.out).1).trans S5.out)
  have F6 := hideT ((hb.block _ (Array.getElem?_eq_some_iff.1 F5.out).1).trans F5.out)
  rw [HG5.out]
  clear hb B5 R5 S5 F5 CN d0 d1 d2 d3 d4
  dsimp only
  go_wp2_with (refine wpList_store_row rfl 27 (.tmp 2) (.tmp 26) rfl W.heap.size #[.int .u16 0, .string ⟨#[]⟩, .int .u8 0, .slice none 0 0, .slice none 0 0, .int .i64 0, .bool false] rfl rfl 27 _ R6.out infoInfo rfl (by kernel_rfl) ?_)
  refine bodyPost_ret (v := .tuple #[.agg #[.int .u16 0, .string ⟨#[]⟩, .int .u8 0, .slice none 0 0, .slice none 0 0, .int .i64 0, .bool false], .int .i64 11]) (results_row2 rfl rfl (run_loadVar_row _ _ 27 27 #[.int .u16 0, .string ⟨#[]⟩, .int .u8 0, .slice none 0 0, .slice none 0 0, .int .i64 0, .bool false] (0, 0) _ (setRow_heap _ _ _ _ _ _ R6.out) Tryd.underlying27 rfl infoInfo) rfl) rfl ?_
  exact ⟨rfl, below_setRow B6.out (Nat.le_refl _) _⟩
end Go.Proofs.YthggbimnjneeaaaDoor
