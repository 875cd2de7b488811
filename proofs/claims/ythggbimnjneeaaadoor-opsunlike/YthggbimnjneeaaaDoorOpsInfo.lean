/-
  The document's info of an instruction of a family (genops3.py wrote it).
-/
import Derived.Test.YthggbimnjneeaaaDoorOpsMath
import Derived.Test.YthggbimnjneeaaaDoorOpsFams
import Derived.Test.YthggbimnjneeaaaDoorOrdersP
set_option linter.unusedVariables false
set_option maxRecDepth 100000
set_option linter.unusedSimpArgs false
namespace Go.Proofs.YthggbimnjneeaaaDoor
open Go.RowKit Opp

theorem infoInfo : (Tryd.prog.info? 27).map (·.size) = some 7 := by kernel_rfl
theorem setCell_asideY {w : World} {b g : Nat} {v : Value} {l : List Int} {cs : Array Value} (h : OwnY w b v l) (hg : w.heap[g]? = some (.cells cs 27 (0, 0))) (k : Nat) (u : Value) : OwnY (w.setCell ⟨g, k, none⟩ u) b v l := by
  obtain ⟨h1, h2 | ⟨g', cap, cur, e, hb, hblk, h3⟩⟩ := h
  · exact ⟨h1, .inl h2⟩
  · refine ⟨h1, .inr ⟨g', cap, cur, e, hb, (heap_setCell_other _ _ _ _ ?_).trans hblk, h3⟩⟩
    rintro rfl
    rw [hg] at hblk
    simp only [Option.some.injEq, Obj.cells.injEq] at hblk
    exact absurd hblk.2.1 (by decide)
theorem fam_aside {w : World} {b g : Nat} {o : Obj} (h : w.heap[b]? = some o) (hg : b ≠ g) {u0 u1 u2 u3 u4 u5 u6 : Value} :
    (((((((w.setCell ⟨g, 0, none⟩ u0).setCell ⟨g, 1, none⟩ u1).setCell ⟨g, 2, none⟩ u2).setCell ⟨g, 3, none⟩ u3).setCell ⟨g, 4, none⟩ u4).setCell ⟨g, 5, none⟩ u5).setCell ⟨g, 6, none⟩ u6).heap[b]? = some o := by
  rw [heap_setCell_other _ _ _ _ hg, heap_setCell_other _ _ _ _ hg, heap_setCell_other _ _ _ _ hg, heap_setCell_other _ _ _ _ hg, heap_setCell_other _ _ _ _ hg, heap_setCell_other _ _ _ _ hg, heap_setCell_other _ _ _ _ hg]
  exact h
theorem OwnY.aside {w : World} {b g : Nat} {v : Value} {l : List Int} {cs : Array Value} (h : OwnY w b v l) (hg : w.heap[g]? = some (.cells cs 27 (0, 0))) {u0 u1 u2 u3 u4 u5 u6 : Value} :
    OwnY (((((((w.setCell ⟨g, 0, none⟩ u0).setCell ⟨g, 1, none⟩ u1).setCell ⟨g, 2, none⟩ u2).setCell ⟨g, 3, none⟩ u3).setCell ⟨g, 4, none⟩ u4).setCell ⟨g, 5, none⟩ u5).setCell ⟨g, 6, none⟩ u6) b v l := by
  have e0 := heap_setCell_same _ _ 0 _ _ u0 hg
  have e1 := heap_setCell_same _ _ 1 _ _ u1 e0
  have e2 := heap_setCell_same _ _ 2 _ _ u2 e1
  have e3 := heap_setCell_same _ _ 3 _ _ u3 e2
  have e4 := heap_setCell_same _ _ 4 _ _ u4 e3
  have e5 := heap_setCell_same _ _ 5 _ _ u5 e4
  exact setCell_asideY (setCell_asideY (setCell_asideY (setCell_asideY (setCell_asideY (setCell_asideY (setCell_asideY h hg 0 u0) e0 1 u1) e1 2 u2) e2 3 u3) e3 4 u4) e4 5 u5) e5 6 u6

def InfoJ (W : World) (first ix op imm bt : Int) (ahead names types name nm ts t1 t2 bits bs : ByteArray) (cut cut1 : Nat) (fr to : List Int) (pl : Bool) (d : Nat → Bool) (vs : List Value) (w : World) : Prop :=
  (d 0 = true → (vs[0]?.getD undef) = .pointer (some ⟨W.heap.size, 0, none⟩)) ∧ (d 1 = true → (vs[1]?.getD undef) = .int .u16 first) ∧ (d 2 = true → (vs[2]?.getD undef) = .int .i64 ix) ∧ (d 3 = true → (vs[3]?.getD undef) = .int .u16 ix) ∧ (d 4 = true → (vs[4]?.getD undef) = .int .u16 op) ∧ (d 5 = true → (vs[5]?.getD undef) = .pointer (some ⟨W.heap.size, 1, none⟩)) ∧ (d 6 = true → (vs[6]?.getD undef) = .string ahead) ∧ (d 7 = true → (vs[7]?.getD undef) = .string name) ∧ (d 8 = true → (vs[8]?.getD undef) = .string nm) ∧ (d 9 = true → (vs[9]?.getD undef) = .pointer (some ⟨W.heap.size, 4, none⟩)) ∧ (d 10 = true → (vs[10]?.getD undef) = .int .u8 imm) ∧ (d 11 = true → (vs[11]?.getD undef) = .string ts) ∧ (d 12 = true → (vs[12]?.getD undef) = .int .i64 (cut : Int)) ∧ (d 13 = true → (vs[13]?.getD undef) = .string t1) ∧ (d 14 = true → OwnY w W.heap.size (vs[14]?.getD undef) fr) ∧ (d 15 = true → (vs[15]?.getD undef) = .string ts) ∧ (d 16 = true → (vs[16]?.getD undef) = .int .i64 (cut : Int)) ∧ (d 17 = true → (vs[17]?.getD undef) = .int .i64 (cut1 : Int)) ∧ (d 18 = true → (vs[18]?.getD undef) = .string t2) ∧ (d 19 = true → OwnY w W.heap.size (vs[19]?.getD undef) to) ∧ (d 20 = true → (vs[20]?.getD undef) = .pointer (some ⟨W.heap.size, 5, none⟩)) ∧ (d 21 = true → (vs[21]?.getD undef) = .string bits) ∧ (d 22 = true → (vs[22]?.getD undef) = .int .i64 ix) ∧ (d 23 = true → (vs[23]?.getD undef) = .string bs) ∧ (d 24 = true → (vs[24]?.getD undef) = .int .i64 bt) ∧ (d 25 = true → (vs[25]?.getD undef) = .pointer (some ⟨W.heap.size, 6, none⟩)) ∧ (d 26 = true → (vs[26]?.getD undef) = .bool pl) ∧ (d 27 = true → (vs[27]?.getD undef) = .agg #[.int .u16 op, .string nm, .int .u8 imm, (vs[14]?.getD undef), (vs[19]?.getD undef), .int .i64 bt, .bool pl]) ∧ (d 27 = true → d 14 = true) ∧ (d 27 = true → d 19 = true) ∧ (d 28 = true → d 27 = true) ∧ (w.heap[W.heap.size]? = some (.cells #[.int .u16 first, .string ahead, .string names, .string types, .int .u8 imm, .string bits, .bool pl] 59 (0, 0))) ∧ (∃ cs, w.heap[(W.heap.size + 1)]? = some (.cells cs 27 (0, 0)) ∧ cs.size = 7 ∧ (d 28 = true → cs = #[.int .u16 op, .string nm, .int .u8 imm, (vs[14]?.getD undef), (vs[19]?.getD undef), .int .i64 bt, .bool pl])) ∧ Below W.heap.size W w

set_option maxRecDepth 100000 in
set_option maxHeartbeats 16000000 in
theorem rinfo_walk (first ix op imm bt : Int) (ahead names types name nm ts t1 t2 bits bs : ByteArray) (cut cut1 : Nat) (fr to : List Int) (pl : Bool) (W : World)
    (hx : IntKind.u16.wrap ix = ix) (ho : IntKind.u16.wrap (first + ix) = op) (hns : ahead.size + name.size ≤ 1000000) (hnm : ahead ++ name = nm)
    (hct : cut < ts.size) (ht1 : ts.extract 0 cut = t1) (hc1 : wrap64 ((cut : Int) + 1) = (cut1 : Int)) (hct1 : cut1 ≤ ts.size) (ht2 : ts.extract cut1 ts.size = t2)
    (hcol : chr ts cut = 58) (hne : ∀ k, k < cut → chr ts k ≠ 58) (hsm : ts.size ≤ 1000000)
    (hE : ∀ W', Calls Tryd.prog 39 #[.string types, .int .i64 ix] W' fun e W'' => e = .returned (.string ts) ∧ Below W'.heap.size W' W'')
    (hE2 : ∀ W', Calls Tryd.prog 39 #[.string bits, .int .i64 ix] W' fun e W'' => e = .returned (.string bs) ∧ Below W'.heap.size W' W'')
    (hT1 : ∀ W', Calls Tryd.prog 40 #[.string t1] W' fun e W'' => ∃ v, e = .returned v ∧ OwnY W'' W'.heap.size v fr ∧ Below W'.heap.size W' W'')
    (hT2 : ∀ W', Calls Tryd.prog 40 #[.string t2] W' fun e W'' => ∃ v, e = .returned v ∧ OwnY W'' W'.heap.size v to ∧ Below W'.heap.size W' W'')
    (hN : ∀ W', Calls Tryd.prog 41 #[.string bs] W' fun e W'' => e = .returned (.int .i64 bt) ∧ Below W'.heap.size W' W'') :
    Calls Tryd.prog 23 #[.agg #[.int .u16 first, .string ahead, .string names, .string types, .int .u8 imm, .string bits, .bool pl], .string name, .int .i64 ix] W fun e W' =>
      ∃ v1 v2, e = .returned (.agg #[.int .u16 op, .string nm, .int .u8 imm, v1, v2, .int .i64 bt, .bool pl]) ∧ OwnY W' W.heap.size v1 fr ∧ OwnY W' W.heap.size v2 to ∧ Below W.heap.size W W' := by
  obtain ⟨wa, hwa⟩ : ∃ wa, (W.alloc (.cells #[.int .u16 first, .string ahead, .string names, .string types, .int .u8 imm, .string bits, .bool pl] 59)).alloc (.cells #[.int .u16 0, .string ⟨#[]⟩, .int .u8 0, .slice none 0 0, .slice none 0 0, .int .i64 0, .bool false] 27) = wa := ⟨_, rfl⟩
  have BA : Hid (Below W.heap.size W wa) := hideT (by rw [← hwa]; exact ((Below.refl _ _).alloc (Nat.le_refl _) _).alloc (by simp) _)
  have FB : wa.heap[W.heap.size]? = some (.cells #[.int .u16 first, .string ahead, .string names, .string types, .int .u8 imm, .string bits, .bool pl] 59 (0, 0)) := by
    rw [← hwa]; exact (heap_alloc_old _ _ (by simp)).trans (heap_alloc_new W _)
  have RB : Hid (wa.heap[W.heap.size + 1]? = some (.cells #[.int .u16 0, .string ⟨#[]⟩, .int .u8 0, .slice none 0 0, .slice none 0 0, .int .i64 0, .bool false] 27 (0, 0))) := hideT (by
    rw [← hwa]
    have := heap_alloc_new (W.alloc (.cells #[.int .u16 first, .string ahead, .string names, .string types, .int .u8 imm, .string bits, .bool pl] 59)) (.cells #[.int .u16 0, .string ⟨#[]⟩, .int .u8 0, .slice none 0 0, .slice none 0 0, .int .i64 0, .bool false] 27)
    simpa using this)
  have FA := hideT FB
  have c3 : wa.cell? ⟨W.heap.size, 3, none⟩ = some (.string types) := by simp [World.cell?, FB]
  have HX := hideT hx
  have HO := hideT ho
  have HNS : Hid (ahead.size + name.size ≤ 9223372036854775807) := hideT (by omega)
  have HNM := hideT hnm
  have HCT := hideT hct
  have HT1 := hideT ht1
  have HC1 := hideT hc1
  have HCT1 := hideT hct1
  have HT2 := hideT ht2
  have HCOL := hideT hcol
  have HNE := hideT hne
  have HSM := hideT hsm
  have CE0 := hideT hE
  have CE := hideT hE2
  have CT1 := hideT hT1
  have CT2 := hideT hT2
  have CN := hideT hN
  have HWA := hideT hwa
  clear hx ho hns hnm hct ht1 hc1 hct1 ht2 hcol hne hsm hE hE2 hT1 hT2 hN hwa FB
  go_enter Tryd.func23, Tryd.ntmps23
  rw [← HWA.out] at c3
  go_wp2_with fail
  rw [HWA.out]
  refine (CE0.out _).mono ?_
  rintro e w1 ⟨rfl, hb⟩
  have FZ := hideT ((hb.block _ (Array.getElem?_eq_some_iff.1 FA.out).1).trans FA.out)
  have RZ := hideT ((hb.block _ (Array.getElem?_eq_some_iff.1 RB.out).1).trans RB.out)
  have B1 := hideT (BA.out.trans (hb.mono BA.out.size))
  have GB : Hid (W.heap.size + 1 < w1.heap.size) := hideT (Array.getElem?_eq_some_iff.1 RZ.out).1
  clear hb c3 HWA RB BA CE0 FA
  go_wp2_with fail
  go_loopw [8] (fun x wr => ∃ k : Nat, x = .int .i64 (k : Int) ∧ k ≤ cut ∧ wr = w1) (fun x _ => cut - (intOf x).toNat)
  case atStart => exact ⟨0, rfl, Nat.zero_le _, rfl⟩
  case round =>
    obtain ⟨k, rfl, hk, rfl⟩ := hrel
    by_cases c0 : k < cut
    · have hks : k < ts.size := by have := HCT.out; omega
      have hn := HNE.out k c0
      unfold chr at hn
      rw [dif_pos hks] at hn
      obtain ⟨c, hc⟩ : ∃ c, (ts[k]'hks).toNat = c := ⟨_, rfl⟩
      rw [hc] at hn
      have b0 : ((c : Int) != 58) = true := by simp; omega
      have HK := hideT c0
      have HS2 := HSM.out
      have HC2 := HCT.out
      clear hn
      go_wp2
      go_roundw
      case rel => clear hc; have := HK.out; exact ⟨k + 1, by go_num, by omega, trivial⟩
      case measure => clear hc; have := HK.out; simp [intOf] <;> omega
    · obtain rfl : cut = k := by omega
      have hks := HCT.out
      have hn := HCOL.out
      unfold chr at hn
      rw [dif_pos hks] at hn
      clear c0
      go_wp2_with fail
      clear hn hks
      refine wp_region_par [19, 20, 21, 22, 23, 24, 25, 26, 27, 28, 29, 30, 31, 32, 33, 34, 35, 36, 37, 38, 39, 40, 41, 42, 43, 44, 45, 46] (InfoJ W first ix op imm bt ahead names types name nm ts t1 t2 bits bs cut cut1 fr to pl) (by kernel_rfl) (by kernel_rfl) ?_ ?_ ?_
      · intro vs
        exact ⟨(fun h => by cases h), (fun h => by cases h), (fun h => by cases h), (fun h => by cases h), (fun h => by cases h), (fun h => by cases h), (fun h => by cases h), (fun h => by cases h), (fun h => by cases h), (fun h => by cases h), (fun h => by cases h), (fun h => by cases h), (fun h => by cases h), (fun h => by cases h), (fun h => by cases h), (fun h => by cases h), (fun h => by cases h), (fun h => by cases h), (fun h => by cases h), (fun h => by cases h), (fun h => by cases h), (fun h => by cases h), (fun h => by cases h), (fun h => by cases h), (fun h => by cases h), (fun h => by cases h), (fun h => by cases h), (fun h => by cases h), (fun h => by cases h), (fun h => by cases h), (fun h => by cases h), FZ.out, ⟨_, RZ.out, rfl, fun h => by cases h⟩, B1.out.drew⟩
      · intro d vs wz hd hl hJ
        match vs, hl with
        | [x0, x1, x2, x3, x4, x5, x6, x7, x8, x9, x10, x11, x12, x13, x14, x15, x16, x17, x18, x19, x20, x21, x22, x23, x24, x25, x26, x27], _ =>
        obtain ⟨j0, j1, j2, j3, j4, j5, j6, j7, j8, j9, j10, j11, j12, j13, j14, j15, j16, j17, j18, j19, j20, j21, j22, j23, j24, j25, j26, j27, p27_14, p27_19, p28_27, jf, jz, jb⟩ := hJ
        simp only [List.getElem?_cons_zero, List.getElem?_cons_succ, Option.some.injEq, Option.getD_some] at j0 j1 j2 j3 j4 j5 j6 j7 j8 j9 j10 j11 j12 j13 j14 j15 j16 j17 j18 j19 j20 j21 j22 j23 j24 j25 j26 j27 jz
        obtain rfl := j0 (hd 0 (by decide))
        obtain rfl := j1 (hd 1 (by decide))
        obtain rfl := j2 (hd 2 (by decide))
        obtain rfl := j3 (hd 3 (by decide))
        obtain rfl := j4 (hd 4 (by decide))
        obtain rfl := j5 (hd 5 (by decide))
        obtain rfl := j6 (hd 6 (by decide))
        obtain rfl := j7 (hd 7 (by decide))
        obtain rfl := j8 (hd 8 (by decide))
        obtain rfl := j9 (hd 9 (by decide))
        obtain rfl := j10 (hd 10 (by decide))
        obtain rfl := j11 (hd 11 (by decide))
        obtain rfl := j12 (hd 12 (by decide))
        obtain rfl := j13 (hd 13 (by decide))
        have o14 := j14 (hd 14 (by decide))
        obtain rfl := j15 (hd 15 (by decide))
        obtain rfl := j16 (hd 16 (by decide))
        obtain rfl := j17 (hd 17 (by decide))
        obtain rfl := j18 (hd 18 (by decide))
        have o19 := j19 (hd 19 (by decide))
        obtain rfl := j20 (hd 20 (by decide))
        obtain rfl := j21 (hd 21 (by decide))
        obtain rfl := j22 (hd 22 (by decide))
        obtain rfl := j23 (hd 23 (by decide))
        obtain rfl := j24 (hd 24 (by decide))
        obtain rfl := j25 (hd 25 (by decide))
        obtain rfl := j26 (hd 26 (by decide))
        obtain rfl := j27 (hd 27 (by decide))
        obtain ⟨cs, hz, _, h9⟩ := jz
        obtain rfl := h9 (hd 28 (by decide))
        obtain ⟨a14, c14, e14⟩ := OwnY.shape o14
        obtain ⟨a19, c19, e19⟩ := OwnY.shape o19
        subst e14
        subst e19
        have HZ := hideT hz
        have O14 := hideT o14
        have O19 := hideT o19
        have BB := hideT jb
        clear hd hl jb hz o14 o19 jf
        simp only [putL, Act.put, List.setIfInBounds_toArray, List.set_cons_succ, List.set_cons_zero]
        go_wp2
        refine bodyPost_ret (v := .agg #[.int .u16 op, .string nm, .int .u8 imm, .slice a14 fr.length c14, .slice a19 to.length c19, .int .i64 bt, .bool pl]) (results_cell_row (by rfl) _ wz (W.heap.size + 1) _ _ (0, 0) _ rfl HZ.out Tryd.underlying27 rfl infoInfo) rfl ?_
        exact ⟨_, _, rfl, O14.out, O19.out, BB.out⟩
      · intro i o ho d vs wr hl hJ hi hw
        match vs, hl with
        | [x0, x1, x2, x3, x4, x5, x6, x7, x8, x9, x10, x11, x12, x13, x14, x15, x16, x17, x18, x19, x20, x21, x22, x23, x24, x25, x26, x27], _ =>
        have hin : i < 29 := (List.getElem?_eq_some_iff.1 ho).1
        obtain ⟨j0, j1, j2, j3, j4, j5, j6, j7, j8, j9, j10, j11, j12, j13, j14, j15, j16, j17, j18, j19, j20, j21, j22, j23, j24, j25, j26, j27, p27_14, p27_19, p28_27, jf, jz, jb⟩ := hJ
        simp only [List.getElem?_cons_zero, List.getElem?_cons_succ, Option.some.injEq, Option.getD_some] at j0 j1 j2 j3 j4 j5 j6 j7 j8 j9 j10 j11 j12 j13 j14 j15 j16 j17 j18 j19 j20 j21 j22 j23 j24 j25 j26 j27 jz
        rcases (show i = 0 ∨ i = 1 ∨ i = 2 ∨ i = 3 ∨ i = 4 ∨ i = 5 ∨ i = 6 ∨ i = 7 ∨ i = 8 ∨ i = 9 ∨ i = 10 ∨ i = 11 ∨ i = 12 ∨ i = 13 ∨ i = 14 ∨ i = 15 ∨ i = 16 ∨ i = 17 ∨ i = 18 ∨ i = 19 ∨ i = 20 ∨ i = 21 ∨ i = 22 ∨ i = 23 ∨ i = 24 ∨ i = 25 ∨ i = 26 ∨ i = 27 ∨ i = 28 by omega) with rfl | rfl | rfl | rfl | rfl | rfl | rfl | rfl | rfl | rfl | rfl | rfl | rfl | rfl | rfl | rfl | rfl | rfl | rfl | rfl | rfl | rfl | rfl | rfl | rfl | rfl | rfl | rfl | rfl
        · simp only [List.getElem?_cons_zero, List.getElem?_cons_succ, Option.some.injEq] at ho
          subst ho
          simp only [putL, Act.put, List.setIfInBounds_toArray, List.set_cons_succ, List.set_cons_zero]
          go_wp2
          exact ⟨rfl, [_, x1, x2, x3, x4, x5, x6, x7, x8, x9, x10, x11, x12, x13, x14, x15, x16, x17, x18, x19, x20, x21, x22, x23, x24, x25, x26, x27], rfl, (by simp only [putL, Act.put, List.setIfInBounds_toArray, List.set_cons_succ, List.set_cons_zero]), (fun _ => rfl), j1, j2, j3, j4, j5, j6, j7, j8, j9, j10, j11, j12, j13, j14, j15, j16, j17, j18, j19, j20, j21, j22, j23, j24, j25, j26, j27, p27_14, p27_19, p28_27, jf, jz, jb⟩
        · simp only [List.getElem?_cons_zero, List.getElem?_cons_succ, Option.some.injEq] at ho
          subst ho
          have hd0 : d 0 = true := List.all_eq_true.1 hw 0 (by decide)
          obtain rfl := j0 hd0
          have hc : wr.cell? ⟨W.heap.size, 0, none⟩ = some (.int .u16 first) := by simp [World.cell?, jf]
          simp only [putL, Act.put, List.setIfInBounds_toArray, List.set_cons_succ, List.set_cons_zero] at hc ⊢
          go_wp2
          exact ⟨rfl, [_, _, x2, x3, x4, x5, x6, x7, x8, x9, x10, x11, x12, x13, x14, x15, x16, x17, x18, x19, x20, x21, x22, x23, x24, x25, x26, x27], rfl, (by simp only [putL, Act.put, List.setIfInBounds_toArray, List.set_cons_succ, List.set_cons_zero]), (fun _ => rfl), (fun _ => rfl), j2, j3, j4, j5, j6, j7, j8, j9, j10, j11, j12, j13, j14, j15, j16, j17, j18, j19, j20, j21, j22, j23, j24, j25, j26, j27, p27_14, p27_19, p28_27, jf, jz, jb⟩
        · simp only [List.getElem?_cons_zero, List.getElem?_cons_succ, Option.some.injEq] at ho
          subst ho
          simp only [putL, Act.put, List.setIfInBounds_toArray, List.set_cons_succ, List.set_cons_zero]
          go_wp2
          exact ⟨rfl, [x0, x1, _, x3, x4, x5, x6, x7, x8, x9, x10, x11, x12, x13, x14, x15, x16, x17, x18, x19, x20, x21, x22, x23, x24, x25, x26, x27], rfl, (by simp only [putL, Act.put, List.setIfInBounds_toArray, List.set_cons_succ, List.set_cons_zero]), j0, j1, (fun _ => rfl), j3, j4, j5, j6, j7, j8, j9, j10, j11, j12, j13, j14, j15, j16, j17, j18, j19, j20, j21, j22, j23, j24, j25, j26, j27, p27_14, p27_19, p28_27, jf, jz, jb⟩
        · simp only [List.getElem?_cons_zero, List.getElem?_cons_succ, Option.some.injEq] at ho
          subst ho
          have hd2 : d 2 = true := List.all_eq_true.1 hw 2 (by decide)
          obtain rfl := j2 hd2
          have w1 := HX.out
          simp only [putL, Act.put, List.setIfInBounds_toArray, List.set_cons_succ, List.set_cons_zero]
          go_wp2
          exact ⟨rfl, [x0, x1, _, _, x4, x5, x6, x7, x8, x9, x10, x11, x12, x13, x14, x15, x16, x17, x18, x19, x20, x21, x22, x23, x24, x25, x26, x27], rfl, (by simp only [putL, Act.put, List.setIfInBounds_toArray, List.set_cons_succ, List.set_cons_zero]), j0, j1, (fun _ => rfl), (fun _ => rfl), j4, j5, j6, j7, j8, j9, j10, j11, j12, j13, j14, j15, j16, j17, j18, j19, j20, j21, j22, j23, j24, j25, j26, j27, p27_14, p27_19, p28_27, jf, jz, jb⟩
        · simp only [List.getElem?_cons_zero, List.getElem?_cons_succ, Option.some.injEq] at ho
          subst ho
          have hd1 : d 1 = true := List.all_eq_true.1 hw 1 (by decide)
          obtain rfl := j1 hd1
          have hd3 : d 3 = true := List.all_eq_true.1 hw 3 (by decide)
          obtain rfl := j3 hd3
          have w1 := HO.out
          simp only [putL, Act.put, List.setIfInBounds_toArray, List.set_cons_succ, List.set_cons_zero]
          go_wp2
          exact ⟨rfl, [x0, _, x2, _, _, x5, x6, x7, x8, x9, x10, x11, x12, x13, x14, x15, x16, x17, x18, x19, x20, x21, x22, x23, x24, x25, x26, x27], rfl, (by simp only [putL, Act.put, List.setIfInBounds_toArray, List.set_cons_succ, List.set_cons_zero]), j0, (fun _ => rfl), j2, (fun _ => rfl), (fun _ => rfl), j5, j6, j7, j8, j9, j10, j11, j12, j13, j14, j15, j16, j17, j18, j19, j20, j21, j22, j23, j24, j25, j26, j27, p27_14, p27_19, p28_27, jf, jz, jb⟩
        · simp only [List.getElem?_cons_zero, List.getElem?_cons_succ, Option.some.injEq] at ho
          subst ho
          simp only [putL, Act.put, List.setIfInBounds_toArray, List.set_cons_succ, List.set_cons_zero]
          go_wp2
          exact ⟨rfl, [x0, x1, x2, x3, x4, _, x6, x7, x8, x9, x10, x11, x12, x13, x14, x15, x16, x17, x18, x19, x20, x21, x22, x23, x24, x25, x26, x27], rfl, (by simp only [putL, Act.put, List.setIfInBounds_toArray, List.set_cons_succ, List.set_cons_zero]), j0, j1, j2, j3, j4, (fun _ => rfl), j6, j7, j8, j9, j10, j11, j12, j13, j14, j15, j16, j17, j18, j19, j20, j21, j22, j23, j24, j25, j26, j27, p27_14, p27_19, p28_27, jf, jz, jb⟩
        · simp only [List.getElem?_cons_zero, List.getElem?_cons_succ, Option.some.injEq] at ho
          subst ho
          have hd5 : d 5 = true := List.all_eq_true.1 hw 5 (by decide)
          obtain rfl := j5 hd5
          have hc : wr.cell? ⟨W.heap.size, 1, none⟩ = some (.string ahead) := by simp [World.cell?, jf]
          simp only [putL, Act.put, List.setIfInBounds_toArray, List.set_cons_succ, List.set_cons_zero] at hc ⊢
          go_wp2
          exact ⟨rfl, [x0, x1, x2, x3, x4, _, _, x7, x8, x9, x10, x11, x12, x13, x14, x15, x16, x17, x18, x19, x20, x21, x22, x23, x24, x25, x26, x27], rfl, (by simp only [putL, Act.put, List.setIfInBounds_toArray, List.set_cons_succ, List.set_cons_zero]), j0, j1, j2, j3, j4, (fun _ => rfl), (fun _ => rfl), j7, j8, j9, j10, j11, j12, j13, j14, j15, j16, j17, j18, j19, j20, j21, j22, j23, j24, j25, j26, j27, p27_14, p27_19, p28_27, jf, jz, jb⟩
        · simp only [List.getElem?_cons_zero, List.getElem?_cons_succ, Option.some.injEq] at ho
          subst ho
          simp only [putL, Act.put, List.setIfInBounds_toArray, List.set_cons_succ, List.set_cons_zero]
          go_wp2
          exact ⟨rfl, [x0, x1, x2, x3, x4, x5, x6, _, x8, x9, x10, x11, x12, x13, x14, x15, x16, x17, x18, x19, x20, x21, x22, x23, x24, x25, x26, x27], rfl, (by simp only [putL, Act.put, List.setIfInBounds_toArray, List.set_cons_succ, List.set_cons_zero]), j0, j1, j2, j3, j4, j5, j6, (fun _ => rfl), j8, j9, j10, j11, j12, j13, j14, j15, j16, j17, j18, j19, j20, j21, j22, j23, j24, j25, j26, j27, p27_14, p27_19, p28_27, jf, jz, jb⟩
        · simp only [List.getElem?_cons_zero, List.getElem?_cons_succ, Option.some.injEq] at ho
          subst ho
          have hd6 : d 6 = true := List.all_eq_true.1 hw 6 (by decide)
          obtain rfl := j6 hd6
          have hd7 : d 7 = true := List.all_eq_true.1 hw 7 (by decide)
          obtain rfl := j7 hd7
          have w1 := HNS.out
          have w2 := HNM.out
          simp only [putL, Act.put, List.setIfInBounds_toArray, List.set_cons_succ, List.set_cons_zero]
          go_wp2
          exact ⟨rfl, [x0, x1, x2, x3, x4, x5, _, _, _, x9, x10, x11, x12, x13, x14, x15, x16, x17, x18, x19, x20, x21, x22, x23, x24, x25, x26, x27], rfl, (by simp only [putL, Act.put, List.setIfInBounds_toArray, List.set_cons_succ, List.set_cons_zero]), j0, j1, j2, j3, j4, j5, (fun _ => rfl), (fun _ => rfl), (fun _ => rfl), j9, j10, j11, j12, j13, j14, j15, j16, j17, j18, j19, j20, j21, j22, j23, j24, j25, j26, j27, p27_14, p27_19, p28_27, jf, jz, jb⟩
        · simp only [List.getElem?_cons_zero, List.getElem?_cons_succ, Option.some.injEq] at ho
          subst ho
          simp only [putL, Act.put, List.setIfInBounds_toArray, List.set_cons_succ, List.set_cons_zero]
          go_wp2
          exact ⟨rfl, [x0, x1, x2, x3, x4, x5, x6, x7, x8, _, x10, x11, x12, x13, x14, x15, x16, x17, x18, x19, x20, x21, x22, x23, x24, x25, x26, x27], rfl, (by simp only [putL, Act.put, List.setIfInBounds_toArray, List.set_cons_succ, List.set_cons_zero]), j0, j1, j2, j3, j4, j5, j6, j7, j8, (fun _ => rfl), j10, j11, j12, j13, j14, j15, j16, j17, j18, j19, j20, j21, j22, j23, j24, j25, j26, j27, p27_14, p27_19, p28_27, jf, jz, jb⟩
        · simp only [List.getElem?_cons_zero, List.getElem?_cons_succ, Option.some.injEq] at ho
          subst ho
          have hd9 : d 9 = true := List.all_eq_true.1 hw 9 (by decide)
          obtain rfl := j9 hd9
          have hc : wr.cell? ⟨W.heap.size, 4, none⟩ = some (.int .u8 imm) := by simp [World.cell?, jf]
          simp only [putL, Act.put, List.setIfInBounds_toArray, List.set_cons_succ, List.set_cons_zero] at hc ⊢
          go_wp2
          exact ⟨rfl, [x0, x1, x2, x3, x4, x5, x6, x7, x8, _, _, x11, x12, x13, x14, x15, x16, x17, x18, x19, x20, x21, x22, x23, x24, x25, x26, x27], rfl, (by simp only [putL, Act.put, List.setIfInBounds_toArray, List.set_cons_succ, List.set_cons_zero]), j0, j1, j2, j3, j4, j5, j6, j7, j8, (fun _ => rfl), (fun _ => rfl), j11, j12, j13, j14, j15, j16, j17, j18, j19, j20, j21, j22, j23, j24, j25, j26, j27, p27_14, p27_19, p28_27, jf, jz, jb⟩
        · simp only [List.getElem?_cons_zero, List.getElem?_cons_succ, Option.some.injEq] at ho
          subst ho
          simp only [putL, Act.put, List.setIfInBounds_toArray, List.set_cons_succ, List.set_cons_zero]
          go_wp2
          exact ⟨rfl, [x0, x1, x2, x3, x4, x5, x6, x7, x8, x9, x10, _, x12, x13, x14, x15, x16, x17, x18, x19, x20, x21, x22, x23, x24, x25, x26, x27], rfl, (by simp only [putL, Act.put, List.setIfInBounds_toArray, List.set_cons_succ, List.set_cons_zero]), j0, j1, j2, j3, j4, j5, j6, j7, j8, j9, j10, (fun _ => rfl), j12, j13, j14, j15, j16, j17, j18, j19, j20, j21, j22, j23, j24, j25, j26, j27, p27_14, p27_19, p28_27, jf, jz, jb⟩
        · simp only [List.getElem?_cons_zero, List.getElem?_cons_succ, Option.some.injEq] at ho
          subst ho
          simp only [putL, Act.put, List.setIfInBounds_toArray, List.set_cons_succ, List.set_cons_zero]
          go_wp2
          exact ⟨rfl, [x0, x1, x2, x3, x4, x5, x6, x7, x8, x9, x10, x11, _, x13, x14, x15, x16, x17, x18, x19, x20, x21, x22, x23, x24, x25, x26, x27], rfl, (by simp only [putL, Act.put, List.setIfInBounds_toArray, List.set_cons_succ, List.set_cons_zero]), j0, j1, j2, j3, j4, j5, j6, j7, j8, j9, j10, j11, (fun _ => rfl), j13, j14, j15, j16, j17, j18, j19, j20, j21, j22, j23, j24, j25, j26, j27, p27_14, p27_19, p28_27, jf, jz, jb⟩
        · simp only [List.getElem?_cons_zero, List.getElem?_cons_succ, Option.some.injEq] at ho
          subst ho
          have hd11 : d 11 = true := List.all_eq_true.1 hw 11 (by decide)
          obtain rfl := j11 hd11
          have hd12 : d 12 = true := List.all_eq_true.1 hw 12 (by decide)
          obtain rfl := j12 hd12
          have w1 := HCT.out
          have w2 := HT1.out
          simp only [putL, Act.put, List.setIfInBounds_toArray, List.set_cons_succ, List.set_cons_zero]
          go_wp2
          exact ⟨rfl, [x0, x1, x2, x3, x4, x5, x6, x7, x8, x9, x10, _, _, _, x14, x15, x16, x17, x18, x19, x20, x21, x22, x23, x24, x25, x26, x27], rfl, (by simp only [putL, Act.put, List.setIfInBounds_toArray, List.set_cons_succ, List.set_cons_zero]), j0, j1, j2, j3, j4, j5, j6, j7, j8, j9, j10, (fun _ => rfl), (fun _ => rfl), (fun _ => rfl), j14, j15, j16, j17, j18, j19, j20, j21, j22, j23, j24, j25, j26, j27, p27_14, p27_19, p28_27, jf, jz, jb⟩
        · simp only [List.getElem?_cons_zero, List.getElem?_cons_succ, Option.some.injEq] at ho
          subst ho
          have hd13 : d 13 = true := List.all_eq_true.1 hw 13 (by decide)
          obtain rfl := j13 hd13
          have n27 : d 27 = false := by
            cases h : d 27 with
            | false => rfl
            | true => exact nomatch ((p27_14 h).symm.trans hi)
          have n28 : d 28 = false := by
            cases h : d 28 with
            | false => rfl
            | true => exact nomatch ((p27_14 (p28_27 h)).symm.trans hi)
          have CC := hideT (CT1.out wr)
          simp only [putL, Act.put, List.setIfInBounds_toArray, List.set_cons_succ, List.set_cons_zero]
          go_wp2_with ((with_reducible refine CC.out.mono ?_); rintro e w2 ⟨z, rfl, ho, hb⟩)
          exact ⟨rfl, [x0, x1, x2, x3, x4, x5, x6, x7, x8, x9, x10, x11, x12, _, z, x15, x16, x17, x18, x19, x20, x21, x22, x23, x24, x25, x26, x27], rfl, (by simp only [putL, Act.put, List.setIfInBounds_toArray, List.set_cons_succ, List.set_cons_zero]), j0, j1, j2, j3, j4, j5, j6, j7, j8, j9, j10, j11, j12, (fun _ => rfl), (fun _ => OwnY.mono (show OwnY w2 wr.heap.size z fr from ho) jb.size), j15, j16, j17, j18, (fun h => OwnY.later (j19 h) hb), j20, j21, j22, j23, j24, j25, j26, (fun h => nomatch (n27.symm.trans h)), (fun _ => rfl), p27_19, p28_27, ((hb.block _ (Array.getElem?_eq_some_iff.1 jf).1).trans jf), (let ⟨cs, h1, h2, h3⟩ := jz; ⟨cs, (hb.block _ (Array.getElem?_eq_some_iff.1 h1).1).trans h1, h2, fun h => nomatch (n28.symm.trans h)⟩), (jb.trans (hb.mono jb.size))⟩
        · simp only [List.getElem?_cons_zero, List.getElem?_cons_succ, Option.some.injEq] at ho
          subst ho
          simp only [putL, Act.put, List.setIfInBounds_toArray, List.set_cons_succ, List.set_cons_zero]
          go_wp2
          exact ⟨rfl, [x0, x1, x2, x3, x4, x5, x6, x7, x8, x9, x10, x11, x12, x13, x14, _, x16, x17, x18, x19, x20, x21, x22, x23, x24, x25, x26, x27], rfl, (by simp only [putL, Act.put, List.setIfInBounds_toArray, List.set_cons_succ, List.set_cons_zero]), j0, j1, j2, j3, j4, j5, j6, j7, j8, j9, j10, j11, j12, j13, j14, (fun _ => rfl), j16, j17, j18, j19, j20, j21, j22, j23, j24, j25, j26, j27, p27_14, p27_19, p28_27, jf, jz, jb⟩
        · simp only [List.getElem?_cons_zero, List.getElem?_cons_succ, Option.some.injEq] at ho
          subst ho
          simp only [putL, Act.put, List.setIfInBounds_toArray, List.set_cons_succ, List.set_cons_zero]
          go_wp2
          exact ⟨rfl, [x0, x1, x2, x3, x4, x5, x6, x7, x8, x9, x10, x11, x12, x13, x14, x15, _, x17, x18, x19, x20, x21, x22, x23, x24, x25, x26, x27], rfl, (by simp only [putL, Act.put, List.setIfInBounds_toArray, List.set_cons_succ, List.set_cons_zero]), j0, j1, j2, j3, j4, j5, j6, j7, j8, j9, j10, j11, j12, j13, j14, j15, (fun _ => rfl), j17, j18, j19, j20, j21, j22, j23, j24, j25, j26, j27, p27_14, p27_19, p28_27, jf, jz, jb⟩
        · simp only [List.getElem?_cons_zero, List.getElem?_cons_succ, Option.some.injEq] at ho
          subst ho
          have hd16 : d 16 = true := List.all_eq_true.1 hw 16 (by decide)
          obtain rfl := j16 hd16
          have w1 := HC1.out
          simp only [putL, Act.put, List.setIfInBounds_toArray, List.set_cons_succ, List.set_cons_zero]
          go_wp2
          exact ⟨rfl, [x0, x1, x2, x3, x4, x5, x6, x7, x8, x9, x10, x11, x12, x13, x14, x15, _, _, x18, x19, x20, x21, x22, x23, x24, x25, x26, x27], rfl, (by simp only [putL, Act.put, List.setIfInBounds_toArray, List.set_cons_succ, List.set_cons_zero]), j0, j1, j2, j3, j4, j5, j6, j7, j8, j9, j10, j11, j12, j13, j14, j15, (fun _ => rfl), (fun _ => rfl), j18, j19, j20, j21, j22, j23, j24, j25, j26, j27, p27_14, p27_19, p28_27, jf, jz, jb⟩
        · simp only [List.getElem?_cons_zero, List.getElem?_cons_succ, Option.some.injEq] at ho
          subst ho
          have hd15 : d 15 = true := List.all_eq_true.1 hw 15 (by decide)
          obtain rfl := j15 hd15
          have hd17 : d 17 = true := List.all_eq_true.1 hw 17 (by decide)
          obtain rfl := j17 hd17
          have w1 := HCT1.out
          have w2 := HT2.out
          simp only [putL, Act.put, List.setIfInBounds_toArray, List.set_cons_succ, List.set_cons_zero]
          go_wp2
          exact ⟨rfl, [x0, x1, x2, x3, x4, x5, x6, x7, x8, x9, x10, x11, x12, x13, x14, _, x16, _, _, x19, x20, x21, x22, x23, x24, x25, x26, x27], rfl, (by simp only [putL, Act.put, List.setIfInBounds_toArray, List.set_cons_succ, List.set_cons_zero]), j0, j1, j2, j3, j4, j5, j6, j7, j8, j9, j10, j11, j12, j13, j14, (fun _ => rfl), j16, (fun _ => rfl), (fun _ => rfl), j19, j20, j21, j22, j23, j24, j25, j26, j27, p27_14, p27_19, p28_27, jf, jz, jb⟩
        · simp only [List.getElem?_cons_zero, List.getElem?_cons_succ, Option.some.injEq] at ho
          subst ho
          have hd18 : d 18 = true := List.all_eq_true.1 hw 18 (by decide)
          obtain rfl := j18 hd18
          have n27 : d 27 = false := by
            cases h : d 27 with
            | false => rfl
            | true => exact nomatch ((p27_19 h).symm.trans hi)
          have n28 : d 28 = false := by
            cases h : d 28 with
            | false => rfl
            | true => exact nomatch ((p27_19 (p28_27 h)).symm.trans hi)
          have CC := hideT (CT2.out wr)
          simp only [putL, Act.put, List.setIfInBounds_toArray, List.set_cons_succ, List.set_cons_zero]
          go_wp2_with ((with_reducible refine CC.out.mono ?_); rintro e w2 ⟨z, rfl, ho, hb⟩)
          exact ⟨rfl, [x0, x1, x2, x3, x4, x5, x6, x7, x8, x9, x10, x11, x12, x13, x14, x15, x16, x17, _, z, x20, x21, x22, x23, x24, x25, x26, x27], rfl, (by simp only [putL, Act.put, List.setIfInBounds_toArray, List.set_cons_succ, List.set_cons_zero]), j0, j1, j2, j3, j4, j5, j6, j7, j8, j9, j10, j11, j12, j13, (fun h => OwnY.later (j14 h) hb), j15, j16, j17, (fun _ => rfl), (fun _ => OwnY.mono (show OwnY w2 wr.heap.size z to from ho) jb.size), j20, j21, j22, j23, j24, j25, j26, (fun h => nomatch (n27.symm.trans h)), p27_14, (fun _ => rfl), p28_27, ((hb.block _ (Array.getElem?_eq_some_iff.1 jf).1).trans jf), (let ⟨cs, h1, h2, h3⟩ := jz; ⟨cs, (hb.block _ (Array.getElem?_eq_some_iff.1 h1).1).trans h1, h2, fun h => nomatch (n28.symm.trans h)⟩), (jb.trans (hb.mono jb.size))⟩
        · simp only [List.getElem?_cons_zero, List.getElem?_cons_succ, Option.some.injEq] at ho
          subst ho
          simp only [putL, Act.put, List.setIfInBounds_toArray, List.set_cons_succ, List.set_cons_zero]
          go_wp2
          exact ⟨rfl, [x0, x1, x2, x3, x4, x5, x6, x7, x8, x9, x10, x11, x12, x13, x14, x15, x16, x17, x18, x19, _, x21, x22, x23, x24, x25, x26, x27], rfl, (by simp only [putL, Act.put, List.setIfInBounds_toArray, List.set_cons_succ, List.set_cons_zero]), j0, j1, j2, j3, j4, j5, j6, j7, j8, j9, j10, j11, j12, j13, j14, j15, j16, j17, j18, j19, (fun _ => rfl), j21, j22, j23, j24, j25, j26, j27, p27_14, p27_19, p28_27, jf, jz, jb⟩
        · simp only [List.getElem?_cons_zero, List.getElem?_cons_succ, Option.some.injEq] at ho
          subst ho
          have hd20 : d 20 = true := List.all_eq_true.1 hw 20 (by decide)
          obtain rfl := j20 hd20
          have hc : wr.cell? ⟨W.heap.size, 5, none⟩ = some (.string bits) := by simp [World.cell?, jf]
          simp only [putL, Act.put, List.setIfInBounds_toArray, List.set_cons_succ, List.set_cons_zero] at hc ⊢
          go_wp2
          exact ⟨rfl, [x0, x1, x2, x3, x4, x5, x6, x7, x8, x9, x10, x11, x12, x13, x14, x15, x16, x17, x18, x19, _, _, x22, x23, x24, x25, x26, x27], rfl, (by simp only [putL, Act.put, List.setIfInBounds_toArray, List.set_cons_succ, List.set_cons_zero]), j0, j1, j2, j3, j4, j5, j6, j7, j8, j9, j10, j11, j12, j13, j14, j15, j16, j17, j18, j19, (fun _ => rfl), (fun _ => rfl), j22, j23, j24, j25, j26, j27, p27_14, p27_19, p28_27, jf, jz, jb⟩
        · simp only [List.getElem?_cons_zero, List.getElem?_cons_succ, Option.some.injEq] at ho
          subst ho
          simp only [putL, Act.put, List.setIfInBounds_toArray, List.set_cons_succ, List.set_cons_zero]
          go_wp2
          exact ⟨rfl, [x0, x1, x2, x3, x4, x5, x6, x7, x8, x9, x10, x11, x12, x13, x14, x15, x16, x17, x18, x19, x20, x21, _, x23, x24, x25, x26, x27], rfl, (by simp only [putL, Act.put, List.setIfInBounds_toArray, List.set_cons_succ, List.set_cons_zero]), j0, j1, j2, j3, j4, j5, j6, j7, j8, j9, j10, j11, j12, j13, j14, j15, j16, j17, j18, j19, j20, j21, (fun _ => rfl), j23, j24, j25, j26, j27, p27_14, p27_19, p28_27, jf, jz, jb⟩
        · simp only [List.getElem?_cons_zero, List.getElem?_cons_succ, Option.some.injEq] at ho
          subst ho
          have hd21 : d 21 = true := List.all_eq_true.1 hw 21 (by decide)
          obtain rfl := j21 hd21
          have hd22 : d 22 = true := List.all_eq_true.1 hw 22 (by decide)
          obtain rfl := j22 hd22
          have CC := hideT (CE.out wr)
          simp only [putL, Act.put, List.setIfInBounds_toArray, List.set_cons_succ, List.set_cons_zero]
          go_wp2_with ((with_reducible refine CC.out.mono ?_); rintro e w2 ⟨rfl, hb⟩)
          exact ⟨rfl, [x0, x1, x2, x3, x4, x5, x6, x7, x8, x9, x10, x11, x12, x13, x14, x15, x16, x17, x18, x19, x20, _, _, _, x24, x25, x26, x27], rfl, (by simp only [putL, Act.put, List.setIfInBounds_toArray, List.set_cons_succ, List.set_cons_zero]), j0, j1, j2, j3, j4, j5, j6, j7, j8, j9, j10, j11, j12, j13, (fun h => OwnY.later (j14 h) hb), j15, j16, j17, j18, (fun h => OwnY.later (j19 h) hb), j20, (fun _ => rfl), (fun _ => rfl), (fun _ => rfl), j24, j25, j26, j27, p27_14, p27_19, p28_27, ((hb.block _ (Array.getElem?_eq_some_iff.1 jf).1).trans jf), (let ⟨cs, h1, h2, h3⟩ := jz; ⟨cs, (hb.block _ (Array.getElem?_eq_some_iff.1 h1).1).trans h1, h2, h3⟩), (jb.trans (hb.mono jb.size))⟩
        · simp only [List.getElem?_cons_zero, List.getElem?_cons_succ, Option.some.injEq] at ho
          subst ho
          have hd23 : d 23 = true := List.all_eq_true.1 hw 23 (by decide)
          obtain rfl := j23 hd23
          have CC := hideT (CN.out wr)
          simp only [putL, Act.put, List.setIfInBounds_toArray, List.set_cons_succ, List.set_cons_zero]
          go_wp2_with ((with_reducible refine CC.out.mono ?_); rintro e w2 ⟨rfl, hb⟩)
          exact ⟨rfl, [x0, x1, x2, x3, x4, x5, x6, x7, x8, x9, x10, x11, x12, x13, x14, x15, x16, x17, x18, x19, x20, x21, x22, _, _, x25, x26, x27], rfl, (by simp only [putL, Act.put, List.setIfInBounds_toArray, List.set_cons_succ, List.set_cons_zero]), j0, j1, j2, j3, j4, j5, j6, j7, j8, j9, j10, j11, j12, j13, (fun h => OwnY.later (j14 h) hb), j15, j16, j17, j18, (fun h => OwnY.later (j19 h) hb), j20, j21, j22, (fun _ => rfl), (fun _ => rfl), j25, j26, j27, p27_14, p27_19, p28_27, ((hb.block _ (Array.getElem?_eq_some_iff.1 jf).1).trans jf), (let ⟨cs, h1, h2, h3⟩ := jz; ⟨cs, (hb.block _ (Array.getElem?_eq_some_iff.1 h1).1).trans h1, h2, h3⟩), (jb.trans (hb.mono jb.size))⟩
        · simp only [List.getElem?_cons_zero, List.getElem?_cons_succ, Option.some.injEq] at ho
          subst ho
          simp only [putL, Act.put, List.setIfInBounds_toArray, List.set_cons_succ, List.set_cons_zero]
          go_wp2
          exact ⟨rfl, [x0, x1, x2, x3, x4, x5, x6, x7, x8, x9, x10, x11, x12, x13, x14, x15, x16, x17, x18, x19, x20, x21, x22, x23, x24, _, x26, x27], rfl, (by simp only [putL, Act.put, List.setIfInBounds_toArray, List.set_cons_succ, List.set_cons_zero]), j0, j1, j2, j3, j4, j5, j6, j7, j8, j9, j10, j11, j12, j13, j14, j15, j16, j17, j18, j19, j20, j21, j22, j23, j24, (fun _ => rfl), j26, j27, p27_14, p27_19, p28_27, jf, jz, jb⟩
        · simp only [List.getElem?_cons_zero, List.getElem?_cons_succ, Option.some.injEq] at ho
          subst ho
          have hd25 : d 25 = true := List.all_eq_true.1 hw 25 (by decide)
          obtain rfl := j25 hd25
          have hc : wr.cell? ⟨W.heap.size, 6, none⟩ = some (.bool pl) := by simp [World.cell?, jf]
          simp only [putL, Act.put, List.setIfInBounds_toArray, List.set_cons_succ, List.set_cons_zero] at hc ⊢
          go_wp2
          exact ⟨rfl, [x0, x1, x2, x3, x4, x5, x6, x7, x8, x9, x10, x11, x12, x13, x14, x15, x16, x17, x18, x19, x20, x21, x22, x23, x24, _, _, x27], rfl, (by simp only [putL, Act.put, List.setIfInBounds_toArray, List.set_cons_succ, List.set_cons_zero]), j0, j1, j2, j3, j4, j5, j6, j7, j8, j9, j10, j11, j12, j13, j14, j15, j16, j17, j18, j19, j20, j21, j22, j23, j24, (fun _ => rfl), (fun _ => rfl), j27, p27_14, p27_19, p28_27, jf, jz, jb⟩
        · simp only [List.getElem?_cons_zero, List.getElem?_cons_succ, Option.some.injEq] at ho
          subst ho
          have hd4 : d 4 = true := List.all_eq_true.1 hw 4 (by decide)
          obtain rfl := j4 hd4
          have hd8 : d 8 = true := List.all_eq_true.1 hw 8 (by decide)
          obtain rfl := j8 hd8
          have hd10 : d 10 = true := List.all_eq_true.1 hw 10 (by decide)
          obtain rfl := j10 hd10
          have hd14 : d 14 = true := List.all_eq_true.1 hw 14 (by decide)
          have hd19 : d 19 = true := List.all_eq_true.1 hw 19 (by decide)
          have hd24 : d 24 = true := List.all_eq_true.1 hw 24 (by decide)
          obtain rfl := j24 hd24
          have hd26 : d 26 = true := List.all_eq_true.1 hw 26 (by decide)
          obtain rfl := j26 hd26
          have n28 : d 28 = false := by
            cases h : d 28 with
            | false => rfl
            | true => exact nomatch ((p28_27 h).symm.trans hi)
          obtain ⟨a14, c14, e14⟩ := OwnY.shape (j14 hd14)
          subst e14
          obtain ⟨a19, c19, e19⟩ := OwnY.shape (j19 hd19)
          subst e19
          simp only [putL, Act.put, List.setIfInBounds_toArray, List.set_cons_succ, List.set_cons_zero]
          go_wp2
          exact ⟨rfl, [x0, x1, x2, x3, _, x5, x6, x7, _, x9, _, x11, x12, x13, _, x15, x16, x17, x18, _, x20, x21, x22, x23, _, x25, _, .agg #[.int .u16 op, .string nm, .int .u8 imm, (.slice a14 fr.length c14), (.slice a19 to.length c19), .int .i64 bt, .bool pl]], rfl, (by simp only [putL, Act.put, List.setIfInBounds_toArray, List.set_cons_succ, List.set_cons_zero]), j0, j1, j2, j3, (fun _ => rfl), j5, j6, j7, (fun _ => rfl), j9, (fun _ => rfl), j11, j12, j13, j14, j15, j16, j17, j18, j19, j20, j21, j22, j23, (fun _ => rfl), j25, (fun _ => rfl), (fun _ => rfl), (fun _ => hd14), (fun _ => hd19), (fun _ => rfl), jf, (let ⟨cs, h1, h2, h3⟩ := jz; ⟨cs, h1, h2, fun h => nomatch (n28.symm.trans h)⟩), jb⟩
        · simp only [List.getElem?_cons_zero, List.getElem?_cons_succ, Option.some.injEq] at ho
          subst ho
          have hd27 : d 27 = true := List.all_eq_true.1 hw 27 (by decide)
          obtain rfl := j27 hd27
          obtain ⟨a14, c14, e14⟩ := OwnY.shape (j14 (p27_14 hd27))
          subst e14
          obtain ⟨a19, c19, e19⟩ := OwnY.shape (j19 (p27_19 hd27))
          subst e19
          obtain ⟨cs, hz, hn, _⟩ := jz
          obtain ⟨s0, s1, s2, s3, s4, s5, s6, rfl⟩ : ∃ s0 s1 s2 s3 s4 s5 s6, cs = #[s0, s1, s2, s3, s4, s5, s6] := by
            obtain ⟨l⟩ := cs
            match l, hn with
            | [y0, y1, y2, y3, y4, y5, y6], _ => exact ⟨y0, y1, y2, y3, y4, y5, y6, rfl⟩
          have k0 : wr.cell? ⟨(W.heap.size + 1), 0, none⟩ = some s0 := by simp [World.cell?, hz]
          have f0 : wr.frozen? ⟨(W.heap.size + 1), 0, none⟩ = false := frozen_of_row wr _ _ _ _ hz
          have k1 : wr.cell? ⟨(W.heap.size + 1), 1, none⟩ = some s1 := by simp [World.cell?, hz]
          have f1 : wr.frozen? ⟨(W.heap.size + 1), 1, none⟩ = false := frozen_of_row wr _ _ _ _ hz
          have k2 : wr.cell? ⟨(W.heap.size + 1), 2, none⟩ = some s2 := by simp [World.cell?, hz]
          have f2 : wr.frozen? ⟨(W.heap.size + 1), 2, none⟩ = false := frozen_of_row wr _ _ _ _ hz
          have k3 : wr.cell? ⟨(W.heap.size + 1), 3, none⟩ = some s3 := by simp [World.cell?, hz]
          have f3 : wr.frozen? ⟨(W.heap.size + 1), 3, none⟩ = false := frozen_of_row wr _ _ _ _ hz
          have k4 : wr.cell? ⟨(W.heap.size + 1), 4, none⟩ = some s4 := by simp [World.cell?, hz]
          have f4 : wr.frozen? ⟨(W.heap.size + 1), 4, none⟩ = false := frozen_of_row wr _ _ _ _ hz
          have k5 : wr.cell? ⟨(W.heap.size + 1), 5, none⟩ = some s5 := by simp [World.cell?, hz]
          have f5 : wr.frozen? ⟨(W.heap.size + 1), 5, none⟩ = false := frozen_of_row wr _ _ _ _ hz
          have k6 : wr.cell? ⟨(W.heap.size + 1), 6, none⟩ = some s6 := by simp [World.cell?, hz]
          have f6 : wr.frozen? ⟨(W.heap.size + 1), 6, none⟩ = false := frozen_of_row wr _ _ _ _ hz
          simp only [putL, Act.put, List.setIfInBounds_toArray, List.set_cons_succ, List.set_cons_zero]
          go_wp2
          exact ⟨rfl, [x0, x1, x2, x3, x4, x5, x6, x7, x8, x9, x10, x11, x12, x13, _, x15, x16, x17, x18, _, x20, x21, x22, x23, x24, x25, x26, .agg #[.int .u16 op, .string nm, .int .u8 imm, (.slice a14 fr.length c14), (.slice a19 to.length c19), .int .i64 bt, .bool pl]], rfl, (by simp only [putL, Act.put, List.setIfInBounds_toArray, List.set_cons_succ, List.set_cons_zero]), j0, j1, j2, j3, j4, j5, j6, j7, j8, j9, j10, j11, j12, j13, (fun _ => OwnY.aside (j14 (p27_14 hd27)) hz), j15, j16, j17, j18, (fun _ => OwnY.aside (j19 (p27_19 hd27)) hz), j20, j21, j22, j23, j24, j25, j26, (fun _ => rfl), p27_14, p27_19, (fun _ => hd27), (fam_aside jf (by omega)), ⟨_, (heap_setCell_same _ _ 6 _ _ _ (heap_setCell_same _ _ 5 _ _ _ (heap_setCell_same _ _ 4 _ _ _ (heap_setCell_same _ _ 3 _ _ _ (heap_setCell_same _ _ 2 _ _ _ (heap_setCell_same _ _ 1 _ _ _ (heap_setCell_same _ _ 0 _ _ _ hz))))))), rfl, fun _ => rfl⟩, (((((((jb.setCell (by simp) _).setCell (by simp) _).setCell (by simp) _).setCell (by simp) _).setCell (by simp) _).setCell (by simp) _).setCell (by simp) _)⟩
end Go.Proofs.YthggbimnjneeaaaDoor
