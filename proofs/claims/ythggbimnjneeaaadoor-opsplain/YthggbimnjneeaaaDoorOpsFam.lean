/-
  The document's functions that make families (genops2.py wrote it).
-/
import Derived.Test.YthggbimnjneeaaaDoorOpsStr
import Derived.Test.YthggbimnjneeaaaDoorRunOut
import Derived.Test.YthggbimnjneeaaaDoorOpsFamD
set_option linter.unusedVariables false
set_option maxRecDepth 100000
set_option linter.unusedSimpArgs false
namespace Go.Proofs.YthggbimnjneeaaaDoor
open Go.RowKit Opp

def fam0 : Fam := ⟨0, [], [], [], 0, [], false⟩
def FamsPost (L : List Fam) (w : World) (e : Ending) (w' : World) : Prop :=
  ∃ g, e = .returned (.slice (some ⟨g, 0, none⟩) L.length L.length) ∧ w.heap.size ≤ g ∧ w'.heap[g]? = some (.cells (famsCells L) 59 (0, 0)) ∧ Below w.heap.size w w'


theorem rhung_calls (w : World) : Calls Tryd.prog 32 #[] w fun e w' => FamsPost hungF w e w' := by
  refine (calls_closed (v := .slice (some ⟨w.heap.size, 0, none⟩) 30 30) (w' := w.alloc (.cells (famsCells hungF) 59)) 0 Tryd.func32 rfl rfl (by kernel_rfl)).mono ?_
  rintro e w' ⟨rfl, rfl⟩
  exact ⟨_, rfl, Nat.le_refl _, heap_alloc_new w _, (Below.refl _ _).alloc (Nat.le_refl _) _⟩

theorem rscalars_calls (w : World) : Calls Tryd.prog 33 #[] w fun e w' => FamsPost scalarsF w e w' := by
  refine (calls_closed (v := .slice (some ⟨w.heap.size, 0, none⟩) 31 31) (w' := w.alloc (.cells (famsCells scalarsF) 59)) 0 Tryd.func33 rfl rfl (by kernel_rfl)).mono ?_
  rintro e w' ⟨rfl, rfl⟩
  exact ⟨_, rfl, Nat.le_refl _, heap_alloc_new w _, (Below.refl _ _).alloc (Nat.le_refl _) _⟩

theorem rplaces_calls (w : World) : Calls Tryd.prog 34 #[] w fun e w' => FamsPost placesF w e w' := by
  refine (calls_closed (v := .slice (some ⟨w.heap.size, 0, none⟩) 17 17) (w' := w.alloc (.cells (famsCells placesF) 59)) 0 Tryd.func34 rfl rfl (by kernel_rfl)).mono ?_
  rintro e w' ⟨rfl, rfl⟩
  exact ⟨_, rfl, Nat.le_refl _, heap_alloc_new w _, (Below.refl _ _).alloc (Nat.le_refl _) _⟩

theorem wpList_ran {P : Program} {ops : Array Oper} {Q : Exit → Act → World → Prop} {rest : List Oper} {o : Oper} {a : Act} {w w' : World} (hgd : o.guard = none) (v : Value)
    (hrun : (execOp a.eval o).run P w = .ok (.value v) w') (h : wpList P ops Q rest (a.put o.dst v) w') : wpList P ops Q (o :: rest) a w := by
  refine wpList_plain hgd fun K hK => ?_
  unfold Oper.wp
  rw [hrun]
  exact hK _ _ h
theorem wpList_called {P : Program} {ops : Array Oper} {Q : Exit → Act → World → Prop} {rest : List Oper} {o : Oper} {a : Act} {w : World} (hgd : o.guard = none) {f : FuncId} {args : Array Value} {v : Value}
    (hrun : (execOp a.eval o).run P w = .ok (.enter f args) w) (hC : Calls P f args w fun e w' => e = .returned v ∧ Below w.heap.size w w')
    (h : ∀ w', Below w.heap.size w w' → wpList P ops Q rest (a.put o.dst v) w') : wpList P ops Q (o :: rest) a w := by
  refine wpList_plain hgd fun K hK => ?_
  unfold Oper.wp
  rw [hrun]
  refine Calls.mono hC fun e w' he => ?_
  obtain ⟨rfl, hb⟩ := he
  exact hK _ _ (h w' hb)

theorem infoFam : (Tryd.prog.info? 59).map (·.size) = some 7 := by kernel_rfl
set_option maxHeartbeats 1000000 in
theorem rvector_calls (first : Nat) (ahead names types : ByteArray) (w : World) :
    Calls Tryd.prog 65 #[.int .u16 (first : Int), .string ahead, .string names, .string types] w fun e w' =>
      e = .returned (.agg #[.int .u16 (first : Int), .string ahead, .string names, .string types, .int .u8 0, .string (str [48]), .bool true]) ∧ Below w.heap.size w w' := by
  obtain ⟨wa, hwa⟩ : ∃ wa, w.alloc (.cells #[.int .u16 (first : Int), .string ahead, .string names, .string types, .int .u8 0, .string ⟨#[48]⟩, .bool true] 59) = wa := ⟨_, rfl⟩
  have BA : Hid (Below w.heap.size w wa) := hideT (by rw [← hwa]; exact (Below.refl _ _).alloc (Nat.le_refl _) _)
  have KA : Hid (wa.heap[w.heap.size]? = some (.cells #[.int .u16 (first : Int), .string ahead, .string names, .string types, .int .u8 0, .string ⟨#[48]⟩, .bool true] 59 (0, 0))) := hideT (by rw [← hwa]; exact heap_alloc_new w _)
  have HW := hideT hwa
  clear hwa
  go_enter Tryd.func65, Tryd.ntmps65
  go_wp2
  rw [HW.out]
  refine bodyPost_ret (v := .agg #[.int .u16 (first : Int), .string ahead, .string names, .string types, .int .u8 0, .string ⟨#[48]⟩, .bool true]) (results_cell_row (by rfl) _ wa w.heap.size _ _ (0, 0) _ rfl KA.out Tryd.underlying59 rfl infoFam) rfl ?_
  exact ⟨rfl, BA.out⟩

theorem rcompared_calls (w : World) : Calls Tryd.prog 35 #[] w fun e w' => FamsPost comparedF w e w' := by
  refine calls_of_wp Tryd.func35 rfl ?_
  refine wp_seq ?_
  refine wp_region_list ?_
  refine wpList_ran (w' := w) rfl (.slice none 0 0) (by kernel_rfl) ?_
  refine wpList_nil ?_
  refine wp_seq ?_
  refine wp_region_list ?_
  refine wpList_called (v := famV (comparedF[0]?.getD fam0)) rfl (f := 65) (by kernel_rfl) (rvector_calls _ _ _ _ _) ?_
  intro w0 B0
  have C0 : Below w.heap.size w w0 := B0
  refine wpList_called (v := famV (comparedF[1]?.getD fam0)) rfl (f := 65) (by kernel_rfl) (rvector_calls _ _ _ _ _) ?_
  intro w1 B1
  have C1 : Below w.heap.size w w1 := C0.trans (B1.mono C0.size)
  refine wpList_called (v := famV (comparedF[2]?.getD fam0)) rfl (f := 65) (by kernel_rfl) (rvector_calls _ _ _ _ _) ?_
  intro w2 B2
  have C2 : Below w.heap.size w w2 := C1.trans (B2.mono C1.size)
  refine wpList_called (v := famV (comparedF[3]?.getD fam0)) rfl (f := 65) (by kernel_rfl) (rvector_calls _ _ _ _ _) ?_
  intro w3 B3
  have C3 : Below w.heap.size w w3 := C2.trans (B3.mono C2.size)
  refine wpList_called (v := famV (comparedF[4]?.getD fam0)) rfl (f := 65) (by kernel_rfl) (rvector_calls _ _ _ _ _) ?_
  intro w4 B4
  have C4 : Below w.heap.size w w4 := C3.trans (B4.mono C3.size)
  refine wpList_called (v := famV (comparedF[5]?.getD fam0)) rfl (f := 65) (by kernel_rfl) (rvector_calls _ _ _ _ _) ?_
  intro w5 B5
  have C5 : Below w.heap.size w w5 := C4.trans (B5.mono C4.size)
  refine wpList_called (v := famV (comparedF[6]?.getD fam0)) rfl (f := 65) (by kernel_rfl) (rvector_calls _ _ _ _ _) ?_
  intro w6 B6
  have C6 : Below w.heap.size w w6 := C5.trans (B6.mono C5.size)
  refine wpList_called (v := famV (comparedF[7]?.getD fam0)) rfl (f := 65) (by kernel_rfl) (rvector_calls _ _ _ _ _) ?_
  intro w7 B7
  have C7 : Below w.heap.size w w7 := C6.trans (B7.mono C6.size)
  refine wpList_called (v := famV (comparedF[8]?.getD fam0)) rfl (f := 65) (by kernel_rfl) (rvector_calls _ _ _ _ _) ?_
  intro w8 B8
  have C8 : Below w.heap.size w w8 := C7.trans (B8.mono C7.size)
  refine wpList_called (v := famV (comparedF[9]?.getD fam0)) rfl (f := 65) (by kernel_rfl) (rvector_calls _ _ _ _ _) ?_
  intro w9 B9
  have C9 : Below w.heap.size w w9 := C8.trans (B9.mono C8.size)
  refine wpList_called (v := famV (comparedF[10]?.getD fam0)) rfl (f := 65) (by kernel_rfl) (rvector_calls _ _ _ _ _) ?_
  intro w10 B10
  have C10 : Below w.heap.size w w10 := C9.trans (B10.mono C9.size)
  refine wpList_called (v := famV (comparedF[11]?.getD fam0)) rfl (f := 65) (by kernel_rfl) (rvector_calls _ _ _ _ _) ?_
  intro w11 B11
  have C11 : Below w.heap.size w w11 := C10.trans (B11.mono C10.size)
  refine wpList_called (v := famV (comparedF[12]?.getD fam0)) rfl (f := 65) (by kernel_rfl) (rvector_calls _ _ _ _ _) ?_
  intro w12 B12
  have C12 : Below w.heap.size w w12 := C11.trans (B12.mono C11.size)
  refine wpList_ran (w' := w12.alloc (.cells (famsCells comparedF) 59)) rfl (.slice (some ⟨w12.heap.size, 0, none⟩) 13 13) (by kernel_rfl) ?_
  refine wpList_ran (w' := w12.alloc (.cells (famsCells comparedF) 59)) rfl (.slice (some ⟨w12.heap.size, 0, none⟩) 13 13) (by kernel_rfl) ?_
  refine wpList_nil ?_
  refine wp_ret ?_
  refine bodyPost_ret (v := .slice (some ⟨w12.heap.size, 0, none⟩) 13 13) ?_ (by kernel_rfl) ⟨_, rfl, C12.size, heap_alloc_new _ _, C12.alloc C12.size _⟩
  exact (results_tmp rfl _ _ _).trans (by kernel_rfl)

theorem rnarrow_calls (w : World) : Calls Tryd.prog 36 #[] w fun e w' => FamsPost narrowF w e w' := by
  refine calls_of_wp Tryd.func36 rfl ?_
  refine wp_seq ?_
  refine wp_region_list ?_
  refine wpList_ran (w' := w) rfl (.slice none 0 0) (by kernel_rfl) ?_
  refine wpList_nil ?_
  refine wp_seq ?_
  refine wp_region_list ?_
  refine wpList_called (v := famV (narrowF[0]?.getD fam0)) rfl (f := 65) (by kernel_rfl) (rvector_calls _ _ _ _ _) ?_
  intro w0 B0
  have C0 : Below w.heap.size w w0 := B0
  refine wpList_called (v := famV (narrowF[1]?.getD fam0)) rfl (f := 65) (by kernel_rfl) (rvector_calls _ _ _ _ _) ?_
  intro w1 B1
  have C1 : Below w.heap.size w w1 := C0.trans (B1.mono C0.size)
  refine wpList_called (v := famV (narrowF[2]?.getD fam0)) rfl (f := 65) (by kernel_rfl) (rvector_calls _ _ _ _ _) ?_
  intro w2 B2
  have C2 : Below w.heap.size w w2 := C1.trans (B2.mono C1.size)
  refine wpList_called (v := famV (narrowF[3]?.getD fam0)) rfl (f := 65) (by kernel_rfl) (rvector_calls _ _ _ _ _) ?_
  intro w3 B3
  have C3 : Below w.heap.size w w3 := C2.trans (B3.mono C2.size)
  refine wpList_called (v := famV (narrowF[4]?.getD fam0)) rfl (f := 65) (by kernel_rfl) (rvector_calls _ _ _ _ _) ?_
  intro w4 B4
  have C4 : Below w.heap.size w w4 := C3.trans (B4.mono C3.size)
  refine wpList_called (v := famV (narrowF[5]?.getD fam0)) rfl (f := 65) (by kernel_rfl) (rvector_calls _ _ _ _ _) ?_
  intro w5 B5
  have C5 : Below w.heap.size w w5 := C4.trans (B5.mono C4.size)
  refine wpList_called (v := famV (narrowF[6]?.getD fam0)) rfl (f := 65) (by kernel_rfl) (rvector_calls _ _ _ _ _) ?_
  intro w6 B6
  have C6 : Below w.heap.size w w6 := C5.trans (B6.mono C5.size)
  refine wpList_called (v := famV (narrowF[7]?.getD fam0)) rfl (f := 65) (by kernel_rfl) (rvector_calls _ _ _ _ _) ?_
  intro w7 B7
  have C7 : Below w.heap.size w w7 := C6.trans (B7.mono C6.size)
  refine wpList_called (v := famV (narrowF[8]?.getD fam0)) rfl (f := 65) (by kernel_rfl) (rvector_calls _ _ _ _ _) ?_
  intro w8 B8
  have C8 : Below w.heap.size w w8 := C7.trans (B8.mono C7.size)
  refine wpList_called (v := famV (narrowF[9]?.getD fam0)) rfl (f := 65) (by kernel_rfl) (rvector_calls _ _ _ _ _) ?_
  intro w9 B9
  have C9 : Below w.heap.size w w9 := C8.trans (B9.mono C8.size)
  refine wpList_called (v := famV (narrowF[10]?.getD fam0)) rfl (f := 65) (by kernel_rfl) (rvector_calls _ _ _ _ _) ?_
  intro w10 B10
  have C10 : Below w.heap.size w w10 := C9.trans (B10.mono C9.size)
  refine wpList_called (v := famV (narrowF[11]?.getD fam0)) rfl (f := 65) (by kernel_rfl) (rvector_calls _ _ _ _ _) ?_
  intro w11 B11
  have C11 : Below w.heap.size w w11 := C10.trans (B11.mono C10.size)
  refine wpList_called (v := famV (narrowF[12]?.getD fam0)) rfl (f := 65) (by kernel_rfl) (rvector_calls _ _ _ _ _) ?_
  intro w12 B12
  have C12 : Below w.heap.size w w12 := C11.trans (B12.mono C11.size)
  refine wpList_called (v := famV (narrowF[13]?.getD fam0)) rfl (f := 65) (by kernel_rfl) (rvector_calls _ _ _ _ _) ?_
  intro w13 B13
  have C13 : Below w.heap.size w w13 := C12.trans (B13.mono C12.size)
  refine wpList_called (v := famV (narrowF[14]?.getD fam0)) rfl (f := 65) (by kernel_rfl) (rvector_calls _ _ _ _ _) ?_
  intro w14 B14
  have C14 : Below w.heap.size w w14 := C13.trans (B14.mono C13.size)
  refine wpList_called (v := famV (narrowF[15]?.getD fam0)) rfl (f := 65) (by kernel_rfl) (rvector_calls _ _ _ _ _) ?_
  intro w15 B15
  have C15 : Below w.heap.size w w15 := C14.trans (B15.mono C14.size)
  refine wpList_called (v := famV (narrowF[16]?.getD fam0)) rfl (f := 65) (by kernel_rfl) (rvector_calls _ _ _ _ _) ?_
  intro w16 B16
  have C16 : Below w.heap.size w w16 := C15.trans (B16.mono C15.size)
  refine wpList_called (v := famV (narrowF[17]?.getD fam0)) rfl (f := 65) (by kernel_rfl) (rvector_calls _ _ _ _ _) ?_
  intro w17 B17
  have C17 : Below w.heap.size w w17 := C16.trans (B17.mono C16.size)
  refine wpList_ran (w' := w17.alloc (.cells (famsCells narrowF) 59)) rfl (.slice (some ⟨w17.heap.size, 0, none⟩) 18 18) (by kernel_rfl) ?_
  refine wpList_ran (w' := w17.alloc (.cells (famsCells narrowF) 59)) rfl (.slice (some ⟨w17.heap.size, 0, none⟩) 18 18) (by kernel_rfl) ?_
  refine wpList_nil ?_
  refine wp_ret ?_
  refine bodyPost_ret (v := .slice (some ⟨w17.heap.size, 0, none⟩) 18 18) ?_ (by kernel_rfl) ⟨_, rfl, C17.size, heap_alloc_new _ _, C17.alloc C17.size _⟩
  exact (results_tmp rfl _ _ _).trans (by kernel_rfl)

theorem rbroad_calls (w : World) : Calls Tryd.prog 37 #[] w fun e w' => FamsPost broadF w e w' := by
  refine calls_of_wp Tryd.func37 rfl ?_
  refine wp_seq ?_
  refine wp_region_list ?_
  refine wpList_ran (w' := w) rfl (.slice none 0 0) (by kernel_rfl) ?_
  refine wpList_nil ?_
  refine wp_seq ?_
  refine wp_region_list ?_
  refine wpList_called (v := famV (broadF[0]?.getD fam0)) rfl (f := 65) (by kernel_rfl) (rvector_calls _ _ _ _ _) ?_
  intro w0 B0
  have C0 : Below w.heap.size w w0 := B0
  refine wpList_called (v := famV (broadF[1]?.getD fam0)) rfl (f := 65) (by kernel_rfl) (rvector_calls _ _ _ _ _) ?_
  intro w1 B1
  have C1 : Below w.heap.size w w1 := C0.trans (B1.mono C0.size)
  refine wpList_called (v := famV (broadF[2]?.getD fam0)) rfl (f := 65) (by kernel_rfl) (rvector_calls _ _ _ _ _) ?_
  intro w2 B2
  have C2 : Below w.heap.size w w2 := C1.trans (B2.mono C1.size)
  refine wpList_called (v := famV (broadF[3]?.getD fam0)) rfl (f := 65) (by kernel_rfl) (rvector_calls _ _ _ _ _) ?_
  intro w3 B3
  have C3 : Below w.heap.size w w3 := C2.trans (B3.mono C2.size)
  refine wpList_called (v := famV (broadF[4]?.getD fam0)) rfl (f := 65) (by kernel_rfl) (rvector_calls _ _ _ _ _) ?_
  intro w4 B4
  have C4 : Below w.heap.size w w4 := C3.trans (B4.mono C3.size)
  refine wpList_called (v := famV (broadF[5]?.getD fam0)) rfl (f := 65) (by kernel_rfl) (rvector_calls _ _ _ _ _) ?_
  intro w5 B5
  have C5 : Below w.heap.size w w5 := C4.trans (B5.mono C4.size)
  refine wpList_called (v := famV (broadF[6]?.getD fam0)) rfl (f := 65) (by kernel_rfl) (rvector_calls _ _ _ _ _) ?_
  intro w6 B6
  have C6 : Below w.heap.size w w6 := C5.trans (B6.mono C5.size)
  refine wpList_called (v := famV (broadF[7]?.getD fam0)) rfl (f := 65) (by kernel_rfl) (rvector_calls _ _ _ _ _) ?_
  intro w7 B7
  have C7 : Below w.heap.size w w7 := C6.trans (B7.mono C6.size)
  refine wpList_called (v := famV (broadF[8]?.getD fam0)) rfl (f := 65) (by kernel_rfl) (rvector_calls _ _ _ _ _) ?_
  intro w8 B8
  have C8 : Below w.heap.size w w8 := C7.trans (B8.mono C7.size)
  refine wpList_called (v := famV (broadF[9]?.getD fam0)) rfl (f := 65) (by kernel_rfl) (rvector_calls _ _ _ _ _) ?_
  intro w9 B9
  have C9 : Below w.heap.size w w9 := C8.trans (B9.mono C8.size)
  refine wpList_called (v := famV (broadF[10]?.getD fam0)) rfl (f := 65) (by kernel_rfl) (rvector_calls _ _ _ _ _) ?_
  intro w10 B10
  have C10 : Below w.heap.size w w10 := C9.trans (B10.mono C9.size)
  refine wpList_called (v := famV (broadF[11]?.getD fam0)) rfl (f := 65) (by kernel_rfl) (rvector_calls _ _ _ _ _) ?_
  intro w11 B11
  have C11 : Below w.heap.size w w11 := C10.trans (B11.mono C10.size)
  refine wpList_called (v := famV (broadF[12]?.getD fam0)) rfl (f := 65) (by kernel_rfl) (rvector_calls _ _ _ _ _) ?_
  intro w12 B12
  have C12 : Below w.heap.size w w12 := C11.trans (B12.mono C11.size)
  refine wpList_called (v := famV (broadF[13]?.getD fam0)) rfl (f := 65) (by kernel_rfl) (rvector_calls _ _ _ _ _) ?_
  intro w13 B13
  have C13 : Below w.heap.size w w13 := C12.trans (B13.mono C12.size)
  refine wpList_called (v := famV (broadF[14]?.getD fam0)) rfl (f := 65) (by kernel_rfl) (rvector_calls _ _ _ _ _) ?_
  intro w14 B14
  have C14 : Below w.heap.size w w14 := C13.trans (B14.mono C13.size)
  refine wpList_called (v := famV (broadF[15]?.getD fam0)) rfl (f := 65) (by kernel_rfl) (rvector_calls _ _ _ _ _) ?_
  intro w15 B15
  have C15 : Below w.heap.size w w15 := C14.trans (B15.mono C14.size)
  refine wpList_ran (w' := w15.alloc (.cells (famsCells broadF) 59)) rfl (.slice (some ⟨w15.heap.size, 0, none⟩) 16 16) (by kernel_rfl) ?_
  refine wpList_ran (w' := w15.alloc (.cells (famsCells broadF) 59)) rfl (.slice (some ⟨w15.heap.size, 0, none⟩) 16 16) (by kernel_rfl) ?_
  refine wpList_nil ?_
  refine wp_ret ?_
  refine bodyPost_ret (v := .slice (some ⟨w15.heap.size, 0, none⟩) 16 16) ?_ (by kernel_rfl) ⟨_, rfl, C15.size, heap_alloc_new _ _, C15.alloc C15.size _⟩
  exact (results_tmp rfl _ _ _).trans (by kernel_rfl)

theorem rafloat_calls (w : World) : Calls Tryd.prog 38 #[] w fun e w' => FamsPost afloatF w e w' := by
  refine calls_of_wp Tryd.func38 rfl ?_
  refine wp_seq ?_
  refine wp_region_list ?_
  refine wpList_ran (w' := w) rfl (.slice none 0 0) (by kernel_rfl) ?_
  refine wpList_nil ?_
  refine wp_seq ?_
  refine wp_region_list ?_
  refine wpList_called (v := famV (afloatF[0]?.getD fam0)) rfl (f := 65) (by kernel_rfl) (rvector_calls _ _ _ _ _) ?_
  intro w0 B0
  have C0 : Below w.heap.size w w0 := B0
  refine wpList_called (v := famV (afloatF[1]?.getD fam0)) rfl (f := 65) (by kernel_rfl) (rvector_calls _ _ _ _ _) ?_
  intro w1 B1
  have C1 : Below w.heap.size w w1 := C0.trans (B1.mono C0.size)
  refine wpList_called (v := famV (afloatF[2]?.getD fam0)) rfl (f := 65) (by kernel_rfl) (rvector_calls _ _ _ _ _) ?_
  intro w2 B2
  have C2 : Below w.heap.size w w2 := C1.trans (B2.mono C1.size)
  refine wpList_called (v := famV (afloatF[3]?.getD fam0)) rfl (f := 65) (by kernel_rfl) (rvector_calls _ _ _ _ _) ?_
  intro w3 B3
  have C3 : Below w.heap.size w w3 := C2.trans (B3.mono C2.size)
  refine wpList_called (v := famV (afloatF[4]?.getD fam0)) rfl (f := 65) (by kernel_rfl) (rvector_calls _ _ _ _ _) ?_
  intro w4 B4
  have C4 : Below w.heap.size w w4 := C3.trans (B4.mono C3.size)
  refine wpList_called (v := famV (afloatF[5]?.getD fam0)) rfl (f := 65) (by kernel_rfl) (rvector_calls _ _ _ _ _) ?_
  intro w5 B5
  have C5 : Below w.heap.size w w5 := C4.trans (B5.mono C4.size)
  refine wpList_called (v := famV (afloatF[6]?.getD fam0)) rfl (f := 65) (by kernel_rfl) (rvector_calls _ _ _ _ _) ?_
  intro w6 B6
  have C6 : Below w.heap.size w w6 := C5.trans (B6.mono C5.size)
  refine wpList_called (v := famV (afloatF[7]?.getD fam0)) rfl (f := 65) (by kernel_rfl) (rvector_calls _ _ _ _ _) ?_
  intro w7 B7
  have C7 : Below w.heap.size w w7 := C6.trans (B7.mono C6.size)
  refine wpList_called (v := famV (afloatF[8]?.getD fam0)) rfl (f := 65) (by kernel_rfl) (rvector_calls _ _ _ _ _) ?_
  intro w8 B8
  have C8 : Below w.heap.size w w8 := C7.trans (B8.mono C7.size)
  refine wpList_called (v := famV (afloatF[9]?.getD fam0)) rfl (f := 65) (by kernel_rfl) (rvector_calls _ _ _ _ _) ?_
  intro w9 B9
  have C9 : Below w.heap.size w w9 := C8.trans (B9.mono C8.size)
  refine wpList_ran (w' := w9.alloc (.cells (famsCells afloatF) 59)) rfl (.slice (some ⟨w9.heap.size, 0, none⟩) 10 10) (by kernel_rfl) ?_
  refine wpList_ran (w' := w9.alloc (.cells (famsCells afloatF) 59)) rfl (.slice (some ⟨w9.heap.size, 0, none⟩) 10 10) (by kernel_rfl) ?_
  refine wpList_nil ?_
  refine wp_ret ?_
  refine bodyPost_ret (v := .slice (some ⟨w9.heap.size, 0, none⟩) 10 10) ?_ (by kernel_rfl) ⟨_, rfl, C9.size, heap_alloc_new _ _, C9.alloc C9.size _⟩
  exact (results_tmp rfl _ _ _).trans (by kernel_rfl)
end Go.Proofs.YthggbimnjneeaaaDoor
