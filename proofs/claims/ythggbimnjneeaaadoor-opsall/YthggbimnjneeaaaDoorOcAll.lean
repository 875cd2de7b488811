/-
  ops.All: all numbers, rising (genocall.py wrote it).
-/
import Derived.Test.YthggbimnjneeaaaDoorOcLoop
import Derived.Test.YthggbimnjneeaaaDoorOcTOf
set_option linter.unusedVariables false
set_option maxRecDepth 100000
set_option linter.unusedSimpArgs false
namespace Go.Proofs.YthggbimnjneeaaaDoor
open Go.RowKit Go.Shelf Opp Opc
attribute [local go_sem] Oper.semAt_some

def famOps (f : FamC) : List Nat := (List.range (wordsL f.names).length).map (f.first + ·)
def opsUp (i j : Nat) : List Nat := ((List.range i).flatMap fun i => (pad (spanAt i).2.1).flatMap famOps) ++ ((pad (spanAt i).2.1).take j).flatMap famOps
theorem opsUp_next (i : Nat) {j : Nat} (hj : j < 20) : opsUp i (j + 1) = opsUp i j ++ famOps (famAtC (spanAt i).2.1 j) := by
  unfold opsUp
  rw [List.take_add_one, pad_at _ j hj]
  simp
theorem pads : ((List.range 17).all fun i => Nat.beq (pad (spanAt i).2.1).length 20) = true := by kernel_rfl
theorem opsUp_span {i : Nat} (hi : i < 17) : opsUp i 20 = opsUp (i + 1) 0 := by
  have h := List.all_eq_true.1 pads i (List.mem_range.2 hi)
  rw [Nat.beq_eq] at h
  unfold opsUp
  rw [List.take_of_length_le (by omega), List.range_succ, List.flatMap_append]
  simp
theorem opsUp_all : opsUp 17 0 = allOps := (eqL_iff _ _).1 (by kernel_rfl)
theorem opsUp_lens : ((List.range 18).all fun i => (List.range 21).all fun j => Nat.ble (opsUp i j).length 1000) = true := by kernel_rfl
theorem opsUp_len {i j : Nat} (hi : i ≤ 17) (hj : j ≤ 20) : (opsUp i j).length ≤ 1000 :=
  Nat.le_of_ble_eq_true (List.all_eq_true.1 (List.all_eq_true.1 opsUp_lens i (List.mem_range.2 (by omega))) j (List.mem_range.2 (by omega)))
theorem zero_ok : FamOK zeroF := famB_ok (by kernel_rfl)
theorem famAt_ok {i : Nat} (hi : i < 17) (j : Nat) : FamOK (famAtC (spanAt i).2.1 j) := by
  rcases Nat.lt_or_ge j (spanAt i).2.1.length with h | h
  · have hm : famAtC (spanAt i).2.1 j ∈ (spanAt i).2.1 := by
      unfold famAtC
      rw [List.getElem?_eq_getElem h, Option.getD_some]
      exact List.getElem_mem h
    exact famB_ok (List.all_eq_true.1 (List.all_eq_true.1 fams_good _ (span_mem hi)) _ hm)
  · have : famAtC (spanAt i).2.1 j = zeroF := by
      unfold famAtC
      rw [List.getElem?_eq_none h]
      rfl
    rw [this]
    exact zero_ok

/-- What All holds: its box, the row, what lay. -/
structure AlI (w : World) (L : List Nat) (v : Value) (V : World) : Prop where
  ab : Boxed V w.heap.size 37 v
  ow : OwnO V w.heap.size v L
  bl : Below w.heap.size w V
theorem ownO_later {V V' : World} {b : Nat} {v : Value} {L : List Nat} (h : OwnO V b v L) (hb : Below V.heap.size V V') : OwnO V' b v L := by
  obtain ⟨h1, h2 | ⟨g, cap, cur, e, hg, hblk, h3⟩⟩ := h
  · exact ⟨h1, .inl h2⟩
  · exact ⟨h1, .inr ⟨g, cap, cur, e, hg, (hb.block g (Array.getElem?_eq_some_iff.1 hblk).1).trans hblk, h3⟩⟩
theorem AlI.later {w V V' : World} {L : List Nat} {v : Value} (h : AlI w L v V) (hb : Below V.heap.size V V') : AlI w L v V' :=
  ⟨(hb.block _ h.ab.lt).trans h.ab, ownO_later h.ow hb, h.bl.trans (hb.mono h.bl.size)⟩
theorem own_lt {V : World} {b : Nat} {v : Value} {L : List Nat} (h : OwnO V b v L) {g : Nat} (hg : v.ownBlock = some g) : g < V.heap.size := by
  obtain ⟨_, ⟨rfl, _⟩ | ⟨g', cap, cur, rfl, _, hblk, _⟩⟩ := h
  · cases hg
  · obtain rfl : g' = g := by simpa [Value.ownBlock] using hg
    exact (Array.getElem?_eq_some_iff.1 hblk).1
theorem AlI.kept {w V V' : World} {L : List Nat} {v : Value} {row : Option Nat} (h : AlI w L v V) (hg : V.grownBy V' row) (hr : ∀ r, row = some r → w.heap.size < r ∧ ∃ o : Obj, V.heap[r]? = some o ∧ o.isCells = false) : AlI w L v V' := by
  have ne : some w.heap.size ≠ row := fun e => by have := (hr _ e.symm).1; omega
  refine ⟨h.ab.kept hg ne, World.ownsRow.kept h.ow hg ?_, h.bl.grown hg h.bl.size (fun k e => by have := (hr k e).1; omega)⟩
  obtain ⟨_, ⟨rfl, _⟩ | ⟨g', cap, cur, rfl, _, hblk, _⟩⟩ := h.ow
  · exact .inl rfl
  · right
    intro e
    obtain ⟨_, o, ho, hc⟩ := hr g' (by simpa [Value.ownBlock] using e.symm)
    rw [hblk] at ho
    cases ho
    cases hc
/-- Between two words: the row, apart from the number's box and the iterator's. -/
structure AlJ (w : World) (L : List Nat) (go gs m N : Nat) (Ds : List Nat) (V : World) : Prop where
  ex : ∃ v, AlI w L v V ∧ v.ownBlock ≠ some go ∧ v.ownBlock ≠ some gs
  ob : Boxed V go 23 (.int .u16 (m : Int))
  op : Open (w.heap.size + 1) V Ds
  sz : N ≤ V.heap.size
theorem AlJ.kept {w V V' : World} {L : List Nat} {go gs m N : Nat} {Ds : List Nat} {row : Option Nat} (h : AlJ w L go gs m N Ds V) (h1 : w.heap.size < N) (h2 : go < N) (hD : ∀ D ∈ Ds, D < N) (hg : V.grownBy V' row)
    (hr : ∀ r, row = some r → N ≤ r ∧ ∃ o : Obj, V.heap[r]? = some o ∧ o.isCells = false) : AlJ w L go gs m N Ds V' := by
  obtain ⟨v, e1, e2⟩ := h.ex
  exact ⟨⟨v, e1.kept hg (fun r e => ⟨by have := (hr r e).1; omega, (hr r e).2⟩), e2⟩, h.ob.kept hg (fun e => by have := (hr _ e.symm).1; omega), h.op.kept hD hg (fun r e => (hr r e).1), Nat.le_trans h.sz hg.size⟩
theorem KeepB.grown {Bn : Nat} {V V' : World} {row : Option Nat} (hg : V.grownBy V' row) (h1 : Bn < V.heap.size) (h2 : 0 < V.heap.size) (n1 : some Bn ≠ row) (n2 : some 0 ≠ row) : KeepB Bn V V' := ⟨hg.block _ h1 n1, hg.block _ h2 n2⟩
theorem own_ge {V : World} {b : Nat} {v : Value} {L : List Nat} (h : OwnO V b v L) {g : Nat} (hg : v.ownBlock = some g) : b ≤ g := by
  obtain ⟨_, ⟨rfl, _⟩ | ⟨g', cap, cur, rfl, hb, _⟩⟩ := h
  · cases hg
  · obtain rfl : g' = g := by simpa [Value.ownBlock] using hg
    exact hb
theorem infoOp : (Tryd.prog.info? 23).map (fun i => (i.zero, i.size, i.bytes)) = some (some (.int .u16 0), 1, 2) := by kernel_rfl

set_option maxHeartbeats 16000000 in
theorem okAll : TAllOK := by
  intro w hT
  refine (callsIn_wide (n := 8)).1 ?_
  obtain ⟨i0, hi0, hz0, hz1, hz2⟩ := info_parts infoOp
  have HI0 := hideT hi0
  have HZ0 := hideT hz0
  have HZ1 := hideT hz1
  have HZ2 := hideT hz2
  have HT := hideT hT
  obtain ⟨w1, hw1⟩ : ∃ x, w.alloc (.cells #[.slice none 0 0] 37) = x := ⟨_, rfl⟩
  have A1 := hideT (show AlI w [] (.slice none 0 0) w1 by
    rw [← hw1]; exact ⟨Boxed.new w _ _, World.ownsRow_nil _ _ _ _, (Below.refl _ w).alloc (Nat.le_refl _) _⟩)
  have HW1 := hideT hw1
  have CS := (fun V => callsIn_wide (n := 7) |>.2 (spans_calls V))
  have XI := hideT (fun (i : Nat) (hi : i < 17) V => span_index hi V)
  have XF := hideT (fun (l : List FamC) (j : Nat) (hj : j < 20) V => fam_index (l := l) hj V)
  have hS1 : (Tryd.prog.info? 64).map (·.size) = some 51 := by kernel_rfl
  obtain ⟨S, hS⟩ : ∃ S, spansCC.toArray = S := ⟨_, rfl⟩
  simp only [hS] at CS XI
  have CS := hideT CS
  clear hw1 hi0 hz0 hz1 hz2 hT hS hS1
  refine callsIn_of_wp_marks Tryd.func15 rfl trivial ?_ rfl
  simp only [Tryd.ntmps15, List.size_toArray, List.length_cons, List.length_nil, Nat.reduceAdd, Nat.reduceSub, Array.replicate_succ, Array.replicate_zero, List.push_toArray, List.append_toArray, List.nil_append, List.cons_append]
  gi_wp2_with fail
  rw [HW1.out]
  refine ⟨trivial, (CS.out _).mono ?_⟩
  rintro e w2 ⟨rfl, hw2⟩
  have A2 := hideT (A1.out.later (V' := w2) (by rw [hw2]; exact (Below.refl _ _).alloc (Nat.le_refl _) _))
  clear hw2 A1 HW1 CS
  dsimp only
  gi_wp2_with fail
  refine wpIn_loop (fun a V => ∃ u2 u3 u4 u5 u6 u9 u10 u11 u12 u13 u14 u15 u16 u17 u18 u19 u20 u21 u22 u23 u24 u25 u26 u27 u28 u29 u30 u31, ∃ (i : Nat) (Ds : List Nat) (v : Value), a = { tmps := #[.slice none 0 0, .pointer (some ⟨w.heap.size, 0, none⟩), u2, u3, u4, u5, u6, .agg S, .int .i64 (i : Int), u9, u10, u11, u12, u13, u14, u15, u16, u17, u18, u19, u20, u21, u22, u23, u24, u25, u26, u27, u28, u29, u30, u31], defers := Ds.map markOf } ∧ i ≤ 17 ∧ AlI w (opsUp i 0) v V ∧ Open (w.heap.size + 1) V Ds) (fun a _ => 17 - (intOf (a.tmps.getD 8 undef)).toNat) ?_ ?_
  · exact ⟨_, _, _, _, _, _, _, _, _, _, _, _, _, _, _, _, _, _, _, _, _, _, _, _, _, _, _, _, 0, [], _, rfl, by omega, A2.out, Open.nil _ _⟩
  · rintro a V ⟨u2, u3, u4, u5, u6, u9, u10, u11, u12, u13, u14, u15, u16, u17, u18, u19, u20, u21, u22, u23, u24, u25, u26, u27, u28, u29, u30, u31, i, Ds, v, rfl, hi, hA, hO⟩
    have HA := hideT hA
    have HO := hideT hO
    clear hA hO A2
    by_cases c0 : i < 17
    · have c1 : (i : Int) < 17 := by omega
      have hx := XI.out i c0
      have CF := hideT (fun V => callsIn_wide (n := 7) |>.2 (fam_at c0 V))
      have ef := fam_enters c0
      have FO := hideT (fun j => famAt_ok c0 j)
      have FN := hideT (fun (j : Nat) (hj : j < 20) => opsUp_next i hj)
      have FS := hideT (opsUp_span c0)
      obtain ⟨l, hl⟩ : ∃ l, (spanAt i).2.1 = l := ⟨_, rfl⟩
      unfold listVC at CF
      simp only [hl] at CF FO FN
      have XL := hideT (XF.out l)
      obtain ⟨C, hC⟩ : ∃ C, (listCC l).toArray = C := ⟨_, rfl⟩
      simp only [hC] at CF XL
      have CF := hideT CF.out
      have HC0 := hideT c0
      generalize (spanAt i).1 = si at *
      generalize (spanAt i).2.2 = pl at *
      generalize fnAt i = k at *
      clear hl hC
      have w1' : wrap64 ((i : Int) + 1) = ((i + 1 : Nat) : Int) := by unfold wrap64; omega
      obtain ⟨va, hva⟩ : ∃ x, V.alloc (.cells #[.int .u16 (si : Int), .bool pl, .func (.func k) #[] #[]] 43) = x := ⟨_, rfl⟩
      have A3 := hideT (HA.out.later (V' := va) (by rw [← hva]; exact (Below.refl _ _).alloc (Nat.le_refl _) _))
      have O3 := hideT (HO.out.later (V' := va) (by rw [← hva]; exact (Below.refl _ _).alloc (Nat.le_refl _) _))
      have K3 := hideT (show va.heap[V.heap.size]? = some (.cells #[.int .u16 (si : Int), .bool pl, .func (.func k) #[] #[]] 43 (0, 0)) by rw [← hva]; exact heap_alloc_new V _)
      have c2 : va.cell? ⟨V.heap.size, 2, none⟩ = some (.func (.func k) #[] #[]) := by simp [World.cell?, K3.out]
      have HVA := hideT hva
      rw [← hva] at c2
      clear hva c0
      gi_wp2_with (refine wpListIn_store_row rfl 43 (.tmp 3) (.tmp 10) rfl V.heap.size #[.int .u16 (si : Int), .bool pl, .func (.func k) #[] #[]] rfl rfl 43 _ (heap_alloc_new V _) span_info rfl (span_one _ _ _) ?_; rw [World.setRow_alloc_new])
      rw [HVA.out]
      refine ⟨trivial, (CF.out _).mono ?_⟩
      rintro e vb ⟨rfl, hvb⟩
      have A4 := hideT (A3.out.later (V' := vb) (by rw [hvb]; exact (Below.refl _ _).alloc (Nat.le_refl _) _))
      have O4 := hideT (O3.out.later (V' := vb) (by rw [hvb]; exact (Below.refl _ _).alloc (Nat.le_refl _) _))
      clear hvb A3 O3 K3 CF c2 hx ef
      dsimp only
      gi_wp2_with fail
      refine wpIn_loop (fun a V => ∃ u2 u3 u4 u5 u6 u9 u10 u11 u12 u15 u16 u17 u18 u19 u20 u21 u22 u23 u24 u25 u26 u27 u28 u29 u30 u31, ∃ (j : Nat) (Ds : List Nat) (v : Value), a = { tmps := #[.slice none 0 0, .pointer (some ⟨w.heap.size, 0, none⟩), u2, u3, u4, u5, u6, .agg S, .int .i64 (i : Int), u9, u10, u11, u12, .agg C, .int .i64 (j : Int), u15, u16, u17, u18, u19, u20, u21, u22, u23, u24, u25, u26, u27, u28, u29, u30, u31], defers := Ds.map markOf } ∧ j ≤ 20 ∧ AlI w (opsUp i j) v V ∧ Open (w.heap.size + 1) V Ds) (fun a _ => 20 - (intOf (a.tmps.getD 14 undef)).toNat) ?_ ?_
      · exact ⟨_, _, _, _, _, _, _, _, _, _, _, _, _, _, _, _, _, _, _, _, _, _, _, _, _, _, 0, Ds, v, rfl, by omega, A4.out, O4.out⟩
      · clear A4 O4 HA HO
        rintro a V ⟨u2, u3, u4, u5, u6, u9, u10, u11, u12, u15, u16, u17, u18, u19, u20, u21, u22, u23, u24, u25, u26, u27, u28, u29, u30, u31, j, Ds, v, rfl, hj, hA, hO⟩
        have HA := hideT hA
        have HO := hideT hO
        clear hA hO
        by_cases c0 : j < 20
        · have c1 : (j : Int) < 20 := by omega
          have w2' : wrap64 ((j : Int) + 1) = ((j + 1 : Nat) : Int) := by unfold wrap64; omega
          have hx := XL.out j c0
          have F := FO.out j
          have FNJ := FN.out j c0
          have HJ := hideT c0
          have LEN := hideT (opsUp_len (i := i) (j := j) (by have := HC0.out; omega) (by omega))
          generalize famAtC l j = f at *
          obtain ⟨fi, fn, ft, im, bi⟩ := f
          unfold famCC at hx
          simp only at hx
          have HFN := hideT FNJ
          have HF := hideT F
          have fits := F.fits
          simp only at fits
          have FITS := hideT fits
          clear c0 F FNJ fits w1'
          generalize str ft = ty at *
          obtain ⟨gf, hgf⟩ : ∃ g, V.heap.size = g := ⟨_, rfl⟩
          obtain ⟨va, hva⟩ : ∃ x, V.alloc (.cells #[.int .u16 (fi : Int), .string (str fn), .string ty, .int .u8 (im : Int), .int .i64 (bi : Int)] 46) = x := ⟨_, rfl⟩
          obtain ⟨vb, hvb⟩ : ∃ x, va.alloc (.cells #[.int .u16 (fi : Int)] 23) = x := ⟨_, rfl⟩
          obtain ⟨vc, hvc⟩ : ∃ x, vb.alloc (.cells #[.string (str fn)] 9) = x := ⟨_, rfl⟩
          have sa : va.heap.size = gf + 1 := by rw [← hva, ← hgf]; simp
          have sb : vb.heap.size = gf + 2 := by rw [← hvb]; simp; omega
          have sc : vc.heap.size = gf + 3 := by rw [← hvc]; simp; omega
          have Bc : Below V.heap.size V vc := by
            rw [← hvc, ← hvb, ← hva]
            exact (((Below.refl _ V).alloc (Nat.le_refl _) _).alloc (by simp) _).alloc (by simp; omega) _
          have ka : va.heap[gf]? = some (.cells #[.int .u16 (fi : Int), .string (str fn), .string ty, .int .u8 (im : Int), .int .i64 (bi : Int)] 46 (0, 0)) := by rw [← hva, ← hgf]; exact heap_alloc_new V _
          have d0 : va.cell? ⟨gf, 0, none⟩ = some (.int .u16 (fi : Int)) := by simp [World.cell?, ka]
          have kb : vb.heap[gf]? = some (.cells #[.int .u16 (fi : Int), .string (str fn), .string ty, .int .u8 (im : Int), .int .i64 (bi : Int)] 46 (0, 0)) := by rw [← hvb]; exact (((Below.refl va.heap.size va).alloc (Nat.le_refl _) _).block gf (by omega)).trans ka
          have d1 : vb.cell? ⟨gf, 1, none⟩ = some (.string (str fn)) := by simp [World.cell?, kb]
          have bo : Boxed vb (gf + 1) 23 (.int .u16 (fi : Int)) := by rw [← hvb, ← sa]; exact Boxed.new va _ _
          have boc : Boxed vc (gf + 1) 23 (.int .u16 (fi : Int)) := by rw [← hvc]; exact bo.alloc _
          have ksc : vc.heap[gf + 2]? = some (.cells #[.string (str fn)] 9 (0, 0)) := by rw [← hvc, ← sb]; exact heap_alloc_new vb _
          have AC := hideT (HA.out.later Bc)
          have OC := hideT (HO.out.later Bc)
          have ODC := hideT (fun D (hD : D ∈ Ds) => show D < gf from by rw [← hgf]; exact HO.out.lt hD)
          have WLT := hideT (show w.heap.size < gf by rw [← hgf]; exact HA.out.ab.lt)
          have NEO := hideT (show v.ownBlock ≠ some (gf + 1) from fun e => by have := own_lt HA.out.ow e; omega)
          have NES := hideT (show v.ownBlock ≠ some (gf + 2) from fun e => by have := own_lt HA.out.ow e; omega)
          have SC := hideT sc
          have BOC := hideT boc
          have KSC := hideT ksc
          have TC := hideT ((HT.out.later HA.out.bl).later Bc)
          have HVA := hideT hva
          have HVB := hideT hvb
          have HVC := hideT hvc
          have HGF := hideT hgf
          have SA := hideT sa
          have SB := hideT sb
          rw [← hvb] at d1
          clear sc boc ksc Bc ka kb bo hva hvb hvc HA HO
          gi_wp2_with (refine wpListIn_store_row rfl 46 (.tmp 5) (.tmp 16) rfl V.heap.size #[.int .u16 (fi : Int), .string (str fn), .string ty, .int .u8 (im : Int), .int .i64 (bi : Int)] rfl rfl 46 _ (heap_alloc_new V _) fam_info rfl (fam_one _ _ _ _ _) ?_; rw [World.setRow_alloc_new, HVA.out, HGF.out])
          rw [HVA.out, HVB.out]
          refine ⟨trivial, (callsIn_wide.2 (fieldsSeq_calls _ _)).mono ?_⟩
          rintro e w' ⟨rfl, hw'⟩
          rw [HVC.out] at hw'
          subst w'
          clear d0 d1 hx
          dsimp only
          rw [SB.out]
          gi_wp2_with fail
          have hlt0 : 0 < w.heap.size := HT.out.lt
          have HL0 := hideT hlt0
          clear hlt0
          refine wpIn_rangeFunc_ownG rfl (by decide) (gf := 59) (lb := #[.pointer (some ⟨gf + 2, 0, none⟩)]) rfl trivial (enters_of Tryd.func59 (by kernel_rfl) rfl)
            (fields_stops fn HF.out.asc HF.out.len _ (by decide) (gf + 2) vc KSC.out TC.out) KeepB.trans (keepB_b (by have := SC.out; omega) TC.out.lt) (Below.refl _ _) (fun _ => rfl)
            (fun pre V' => AlJ w (opsUp i j ++ (List.range pre.length).map (fi + ·)) (gf + 1) (gf + 2) (fi + pre.length) (gf + 3) Ds V')
            (fun _ _ _ => False)
            (fun s A B row hs hg hr => hs.kept (by have := WLT.out; omega) (by omega) (fun D hD => by have := ODC.out D hD; omega) hg (fun r e => ⟨by have := (hr r e).1; have := SC.out; omega, (hr r e).2⟩))
            (fun _ _ _ _ _ hs _ _ => hs)
            ⟨⟨v, by simpa using AC.out, NEO.out, NES.out⟩, by simpa using BOC.out, OC.out, by have := SC.out; omega⟩
            (fun x => { tmps := #[.slice none 0 0, .pointer (some ⟨w.heap.size, 0, none⟩), u2, u3, u4, .pointer (some ⟨gf, 0, none⟩), .pointer (some ⟨gf + 1, 0, none⟩), .agg S, .int .i64 (i : Int), u9, u10, u11, u12, .agg C, .int .i64 (j : Int), .bool true, .agg #[.int .u16 (fi : Int), .string (str fn), .string ty, .int .u8 (im : Int), .int .i64 (bi : Int)], .pointer (some ⟨gf, 0, none⟩), .int .u16 (fi : Int), .pointer (some ⟨gf, 1, none⟩), .string (str fn), .func (.func 59) #[] #[.pointer (some ⟨gf + 2, 0, none⟩)], .string (str x.1), u23, u24, u25, u26, u27, u28, u29, u30, u31], defers := [] }) ?assign ?body ?done ?stop
          case assign =>
            intro l x V' K hK
            gi_wp2
            simpa using hK
          case body =>
            rintro l' pre x V' ⟨⟨v, hA, hne1, hne2⟩, hb, ho, hsz⟩ hlen
            obtain ⟨L, hL⟩ : ∃ L, opsUp i j ++ (List.range pre.length).map (fi + ·) = L := ⟨_, rfl⟩
            have hLn : opsUp i j ++ (List.range (pre ++ [x]).length).map (fi + ·) = L ++ [fi + pre.length] := by
              rw [← hL, List.length_append, List.length_singleton, List.range_succ]
              simp
            rw [hL] at hA
            have hll : L.length ≤ 70000 := by
              rw [← hL]
              have := LEN.out
              have := FITS.out
              simp
              omega
            have hmn : fi + (pre ++ [x]).length = fi + pre.length + 1 := by simp; omega
            have hmf : fi + pre.length + 1 < 65536 := by have := FITS.out; omega
            obtain ⟨m, hm⟩ : ∃ m, fi + pre.length = m := ⟨_, rfl⟩
            rw [hm] at hb hLn hmn hmf
            have HLN := hideT hLn
            have HMN := hideT hmn
            have HA := hideT hA
            have HO := hideT ho
            have HNE1 := hideT hne1
            have HNE2 := hideT hne2
            have HBX := hideT hb
            have HSZ := hideT hsz
            have LB1 : Hid (L.length + 1 ≤ maxLen) := hideT (by unfold maxLen; omega)
            have LB2 : Hid ((L.length + 1) * 2 ≤ 140737488355328) := hideT (by omega)
            have LB3 : Hid (w.heap.size ≤ (V'.alloc (.cells #[.int .u16 (m : Int)] 23)).heap.size) := hideT (by have := hA.bl.size; simp; omega)
            have ca := hA.ab.cell
            have cb := hb.cell
            have hw := wrap16_up m hmf
            have HOW := hideT (World.ownsRow.alloc hA.ow (.cells #[.int .u16 (m : Int)] 23))
            clear hL hLn hA ho hne1 hne2 hsz hlen hll hmn hmf hm hb
            gi_wp2_with (gi_at_builtin; refine wpListIn_append_at _ rfl _ _ 37 rfl w.heap.size 23 i0 (.int .u16 0) 1 2 Tryd.underlying37 HI0.out HZ0.out HZ1.out HZ2.out rfl (by decide) v L.length (L.map fun (o : Nat) => Value.int .u16 (o : Int)) rfl HOW.out ⟨V'.heap.size, 0, none⟩ 1 1 [.int .u16 (m : Int)] rfl rfl (cell_one_new _ _ _) (by simp [Value.oneCell']) LB1.out LB2.out LB3.out ?_; intro v' w1' hown' hgrow hmv; obtain ⟨g', cap', rfl⟩ := ownsRow_succ hown'; obtain ⟨hv1, hv2, hr2, hk2, hb2⟩ := HA.out.ab.appended (by decide) HA.out.ow HA.out.bl.size (Nat.le_refl _) hown' hgrow; have hbx1 := (HBX.out.alloc (.cells #[.int .u16 (m : Int)] 23)).kept hgrow (fun e => HNE1.out e.symm); have hbx2 := hbx1.other (B' := w.heap.size) (by have := WLT.out; omega) (.slice (some ⟨g', 0, none⟩) (L.length + 1) cap'); have HV2 := hideT hv2; have HR2 := hideT hr2; have HK2 := hideT hk2; have HB2 := hideT hb2; have HBX2 := hideT hbx2; have HGR := hideT hgrow; have HMV := hideT hmv; have hc1 := hv1.cell; have hf1 := hv1.frozen; have hc3 := hbx2.cell; have hf3 := hbx2.frozen; clear hv1 hv2 hr2 hk2 hb2 hbx1 hbx2 hgrow hmv hown' ca cb)
            have s1 := HSZ.out
            have s2 := HL0.out
            have s3 := HBX.out.lt
            have own' : ∀ g, g < V'.heap.size → v.ownBlock ≠ some g → (Value.slice (some ⟨g', 0, none⟩) (L.length + 1) cap').ownBlock ≠ some g := by
              intro g hg hne e
              rcases HMV.out with h | h
              · exact hne (h.symm.trans e)
              · rw [h] at e
                simp at e
                omega
            have n1 := own' (gf + 1) s3 HNE1.out
            have n2 := own' (gf + 2) (by omega) HNE2.out
            have hks := HK2.out.trans (KeepsOthers.setCell (w1'.setCell ⟨w.heap.size, 0, none⟩ (Value.slice (some ⟨g', 0, none⟩) (L.length + 1) cap')) ⟨gf + 1, 0, none⟩ (.int .u16 ((m : Int) + 1)))
            have wl := WLT.out
            refine ⟨hks.from _, ?_, ?_⟩
            · refine KeepB.trans (KeepB.below ((Below.refl V'.heap.size V').alloc (Nat.le_refl _) (.cells #[.int .u16 (m : Int)] 23)) (by omega) (by have := HA.out.ab.lt; omega)) ?_
              refine KeepB.trans (KeepB.grown HGR.out (by first | (simp; omega) | simp) (by have := HA.out.ab.lt; first | (simp; omega) | simp) (fun e => HNE2.out e.symm) (fun e => by have := own_ge HA.out.ow e.symm; omega)) ?_
              exact KeepB.trans (KeepB.setCell _ _ (by omega) (by omega)) (KeepB.setCell _ _ (by omega) (by omega))
            · dsimp only
              rw [HLN.out, HMN.out]
              have hr : OwnO (w1'.setCell ⟨w.heap.size, 0, none⟩ (Value.slice (some ⟨g', 0, none⟩) (L.length + 1) cap')) w.heap.size (Value.slice (some ⟨g', 0, none⟩) (L.length + 1) cap') (L ++ [m]) := by
                unfold OwnO
                simpa using HR2.out
              refine ⟨⟨_, ⟨HV2.out.other (by omega) _, World.ownsRow.kept hr (grownBy_setCell' _ (gf + 1) _) (.inr n1), (HA.out.bl.trans HB2.out).setCell (p := ⟨gf + 1, 0, none⟩) (by simp; omega) _⟩, n1, n2⟩, HBX2.out.set _, HO.out.others hks, Nat.le_trans s1 hks.size⟩
          case done =>
            rintro D ys V' hD hS ⟨⟨v, hA, hne1, hne2⟩, hb, ho, hsz⟩ hK
            have hlen : ys.length = (wordsL fn).length := by rw [← hS]; simp [vals1]
            rw [hlen] at hA
            have hfo : opsUp i j ++ (List.range (wordsL fn).length).map (fi + ·) = opsUp i (j + 1) := HFN.out.symm
            rw [hfo] at hA
            have HA := hideT hA
            have HO2 := hideT (ho.cons (C := vc.heap.size) (D := D) (fun E hE => by have := ODC.out E hE; have := SC.out; omega) (by have := WLT.out; have := SC.out; omega) hD hK)
            clear hS hA hne1 hne2 hb ho hsz hK hD hlen hfo
            gi_wp2
            exact ⟨⟨_, _, _, _, _, _, _, _, _, _, _, _, _, _, _, _, _, _, _, _, _, _, _, _, _, _, j + 1, D :: Ds, v, rfl, by have := HJ.out; omega, HA.out, HO2.out⟩, meas_upS 20 j HJ.out⟩
          case stop =>
            rintro D c pre V' hD _ h _
            exact h.elim
        · obtain rfl : j = 20 := by omega
          gi_wp2_with fail
          exact ⟨⟨_, _, _, _, _, _, _, _, _, _, _, _, _, _, _, _, _, _, _, _, _, _, _, _, _, _, _, _, i + 1, Ds, v, rfl, by have := HC0.out; omega, by rw [← FS.out]; exact HA.out, HO.out⟩, meas_upS 17 i HC0.out⟩
    · obtain rfl : i = 17 := by omega
      have ca := HA.out.ab.cell
      have HA2 : Hid (AlI w allOps v V) := hideT (by have := HA.out; rwa [opsUp_all] at this)
      clear HA
      gi_wp2
      refine leaves_marks (B := w.heap.size + 1) (fun V' => AlI w allOps v V') ?_ ?_ Ds V HO.out HA2.out
      · intro V' D hD hk hA
        exact hA.kept (grownBy_putObj' V' D (.deferred none)) (fun r e => by cases e; exact ⟨by omega, _, hk, rfl⟩)
      · intro V' hA
        exact ⟨v, results_tmp (t := 0) rfl _ _ _, v, rfl, hA.ow, hA.bl⟩
end Go.Proofs.YthggbimnjneeaaaDoor
