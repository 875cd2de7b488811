/-
  The last span that does not begin above a number; the last family of a list.
-/
import Derived.Test.YthggbimnjneeaaaDoorOcFams
import Derived.Deep.MidRow
import Derived.Laws.CopyOwn
set_option linter.unusedVariables false
set_option maxRecDepth 100000
set_option linter.unusedSimpArgs false
namespace Go.Proofs.YthggbimnjneeaaaDoor
open Go.RowKit Opp Opc

/-- A block of spans; of families. -/
def SBlk (w : World) (b : Nat) : Prop := w.heap[b]? = some (.cells spansCC.toArray 64 (0, 0))
theorem SBlk.later {w w' : World} {b : Nat} (h : SBlk w b) (hb : Below w.heap.size w w') : SBlk w' b := (hb.block b (Array.getElem?_eq_some_iff.1 h).1).trans h
theorem spansCC_at {i j : Nat} (hi : i < 17) (hj : j < 3) : spansCC[3 * i + j]? = (spanCC i)[j]? := by
  match i, hi, j, hj with
  | 0, _, 0, _ => rfl
  | 0, _, 1, _ => rfl
  | 0, _, 2, _ => rfl
  | 1, _, 0, _ => rfl
  | 1, _, 1, _ => rfl
  | 1, _, 2, _ => rfl
  | 2, _, 0, _ => rfl
  | 2, _, 1, _ => rfl
  | 2, _, 2, _ => rfl
  | 3, _, 0, _ => rfl
  | 3, _, 1, _ => rfl
  | 3, _, 2, _ => rfl
  | 4, _, 0, _ => rfl
  | 4, _, 1, _ => rfl
  | 4, _, 2, _ => rfl
  | 5, _, 0, _ => rfl
  | 5, _, 1, _ => rfl
  | 5, _, 2, _ => rfl
  | 6, _, 0, _ => rfl
  | 6, _, 1, _ => rfl
  | 6, _, 2, _ => rfl
  | 7, _, 0, _ => rfl
  | 7, _, 1, _ => rfl
  | 7, _, 2, _ => rfl
  | 8, _, 0, _ => rfl
  | 8, _, 1, _ => rfl
  | 8, _, 2, _ => rfl
  | 9, _, 0, _ => rfl
  | 9, _, 1, _ => rfl
  | 9, _, 2, _ => rfl
  | 10, _, 0, _ => rfl
  | 10, _, 1, _ => rfl
  | 10, _, 2, _ => rfl
  | 11, _, 0, _ => rfl
  | 11, _, 1, _ => rfl
  | 11, _, 2, _ => rfl
  | 12, _, 0, _ => rfl
  | 12, _, 1, _ => rfl
  | 12, _, 2, _ => rfl
  | 13, _, 0, _ => rfl
  | 13, _, 1, _ => rfl
  | 13, _, 2, _ => rfl
  | 14, _, 0, _ => rfl
  | 14, _, 1, _ => rfl
  | 14, _, 2, _ => rfl
  | 15, _, 0, _ => rfl
  | 15, _, 1, _ => rfl
  | 15, _, 2, _ => rfl
  | 16, _, 0, _ => rfl
  | 16, _, 1, _ => rfl
  | 16, _, 2, _ => rfl
  | n + 17, h, _, _ => exact absurd h (by omega)
  | _, _, n + 3, h => exact absurd h (by omega)
theorem SBlk.range {w : World} {b i : Nat} (h : SBlk w b) (hi : i < 17) : w.rangeAt b (3 * i) (spanCC i) := by
  intro j v hv
  have hj : j < 3 := (List.getElem?_eq_some_iff.1 hv).1
  unfold SBlk at h
  have e := spansCC_at hi hj
  rw [hv] at e
  simp [World.cell?, h, e]
theorem span_info : (Tryd.prog.info? 43).map (·.size) = some 3 := by kernel_rfl
theorem meas_dn (i : Nat) (h : 0 < i) : (intOf (Value.int .i64 ((i : Int) - 1))).toNat < (intOf (Value.int .i64 (i : Int))).toNat := by simp [intOf]; omega
theorem span_one (fi : Nat) (pl : Bool) (fk : Nat) : (#[Value.int .u16 (fi : Int), .bool pl, .func (.func fk) #[] #[]]).all (·.oneCell') = true := by kernel_rfl
theorem span_first {o : Nat} (h : o < (spanAt 0).1) : False := absurd h (by show ¬ o < 0; omega)

set_option maxHeartbeats 1000000 in
theorem spanWith_calls (o : Nat) (ho : o < 65536) (W : World) :
    Calls Tryd.prog 16 #[.int .u16 (o : Int)] W fun e W' => e = .returned (spanVC (spanI o)) ∧ Below W.heap.size W W' := by
  have CS := hideT (fun w => spans_calls w)
  have B0 := hideT ((Below.refl W.heap.size W).alloc (Nat.le_refl _) (.cells #[.int .u16 0, .bool false, .nilFunc] 43))
  obtain ⟨w0, hw0⟩ : ∃ x, W.alloc (.cells #[.int .u16 0, .bool false, .nilFunc] 43) = x := ⟨_, rfl⟩
  have K0 := hideT (show w0.heap[W.heap.size]? = some (.cells #[.int .u16 0, .bool false, .nilFunc] 43 (0, 0)) by rw [← hw0]; exact heap_alloc_new W _)
  have S0 := hideT (show w0.heap.size = W.heap.size + 1 by rw [← hw0]; simp)
  rw [hw0] at B0
  have HW0 := hideT hw0
  clear hw0
  obtain ⟨S, hS⟩ : ∃ S, spansCC.toArray = S := ⟨_, rfl⟩
  have hS1 : S.all (·.oneCell') = true := by rw [← hS]; kernel_rfl
  have hS2 : S.size = 51 := by rw [← hS]; kernel_rfl
  have hS3 : (Tryd.prog.info? 64).map (·.size) = some S.size := by rw [hS2]; kernel_rfl
  have hSB : ∀ (w : World) b, w.heap[b]? = some (.cells S 64 (0, 0)) → SBlk w b := fun w b h => by unfold SBlk; rw [hS]; exact h
  rw [hS] at CS
  clear hS
  have HSB := hideT hSB
  clear hSB
  go_enter Tryd.func16, Tryd.ntmps16
  go_wp2_with fail
  rw [HW0.out]
  refine (CS.out _).mono ?_
  rintro e w1 ⟨rfl, hw1⟩
  have B1 := hideT (show Below W.heap.size W w1 by rw [hw1]; exact B0.out.alloc B0.out.size _)
  have K1 := hideT (show w1.heap[W.heap.size]? = some (.cells #[.int .u16 0, .bool false, .nilFunc] 43 (0, 0)) by rw [hw1]; exact (heap_alloc_old w0 _ (by have := S0.out; omega)).trans K0.out)
  have S1 := hideT (show W.heap.size < w1.heap.size by rw [hw1]; have := S0.out; simp; omega)
  clear hw1 CS
  dsimp only
  obtain ⟨w2, hw2⟩ : ∃ x, w1.alloc (.cells S 64) = x := ⟨_, rfl⟩
  have B2 := hideT (show Below W.heap.size W w2 by rw [← hw2]; exact B1.out.alloc B1.out.size _)
  have K2 := hideT (show w2.heap[W.heap.size]? = some (.cells #[.int .u16 0, .bool false, .nilFunc] 43 (0, 0)) by rw [← hw2]; exact (heap_alloc_old w1 _ S1.out).trans K1.out)
  have SB := hideT (show SBlk w2 w1.heap.size from HSB.out _ _ (by rw [← hw2]; exact heap_alloc_new w1 _))
  have HW2 := hideT hw2
  clear hw2
  go_wp2_with (refine wpList_store_row rfl 64 (.tmp 3) (.tmp 5) rfl w1.heap.size S rfl rfl 64 _ (heap_alloc_new w1 _) hS3 (by rw [hS2]; kernel_rfl) hS1 ?_; rw [World.setRow_alloc_new, HW2.out])
  clear hS1 hS2 hS3
  go_loopw [4] (fun x wr => wr = w2 ∧ ∃ i : Nat, x = .int .i64 (i : Int) ∧ i ≤ 16 ∧ spanI o = downTo (fun i => decide ((spanAt i).1 ≤ o)) i) (fun x _ => (intOf x).toNat)
  case atStart => exact ⟨rfl, 16, rfl, by omega, rfl⟩
  case round =>
    obtain ⟨rfl, i, rfl, hi, hd⟩ := hrel
    have R := SB.out.range (i := i) (by omega)
    have hc := R 0 _ rfl
    have hc1 := R 1 _ rfl
    have hc2 := R 2 _ rfl
    rw [Nat.add_zero] at hc
    have c1 : (i : Int) < 17 := by omega
    have c0 : (0 : Int) ≤ (i : Int) := by omega
    have m1 : i * 3 = 3 * i := by omega
    have HD := hideT hd
    clear hd R
    by_cases hf : (spanAt i).1 ≤ o
    · have n1 : ¬ ((o : Int) < ((spanAt i).1 : Int)) := by omega
      have e : spanI o = i := by
        rw [HD.out]
        cases i with
        | zero => rfl
        | succ n => simp only [downTo]; rw [if_pos (by simpa using hf)]
      have HV : Hid (spanVC (spanI o) = .agg #[.int .u16 ((spanAt i).1 : Int), .bool (spanAt i).2.2, .func (.func (fnAt i)) #[] #[]]) := hideT (by rw [e]; rfl)
      clear e hf
      generalize (spanAt i).1 = fi at *
      generalize (spanAt i).2.2 = pl at *
      generalize fnAt i = fk at *
      clear HD
      go_wp2_with (refine wpList_store_row rfl 43 (.tmp 2) (.tmp 16) rfl W.heap.size #[.int .u16 (fi : Int), .bool pl, .func (.func fk) #[] #[]] rfl rfl 43 _ K2.out span_info rfl (span_one _ _ _) ?_)
      refine bodyPost_ret (results_row rfl rfl (run_loadVar_row _ _ 43 43 #[.int .u16 (fi : Int), .bool pl, .func (.func fk) #[] #[]] _ _ (setRow_heap _ _ _ _ _ _ K2.out) Tryd.underlying43 rfl span_info)) rfl ?_
      exact ⟨by rw [HV.out], below_setRow B2.out (Nat.le_refl _) _⟩
    · have n1 : (o : Int) < ((spanAt i).1 : Int) := by omega
      have h0 : 0 < i := by
        rcases Nat.eq_zero_or_pos i with h | h
        · subst h; exact absurd (show (spanAt 0).1 ≤ o from Nat.zero_le _) hf
        · exact h
      have e : spanI o = downTo (fun i => decide ((spanAt i).1 ≤ o)) (i - 1) := by
        rw [HD.out]
        obtain ⟨n, rfl⟩ : ∃ n, i = n + 1 := ⟨i - 1, by omega⟩
        simp only [downTo]
        rw [if_neg (by simpa using hf)]
        rfl
      have HE := hideT e
      clear e hf HD
      generalize (spanAt i).1 = fi at *
      generalize (spanAt i).2.2 = pl at *
      generalize fnAt i = fk at *
      go_wp2_with fail
      go_roundw
      case rel => exact ⟨by first | trivial | rfl, i - 1, by congr 1; omega, by omega, HE.out⟩
      case measure => exact meas_dn i h0

theorem flat_at : ∀ (L : List FamC) (j k : Nat), k < 5 → (L.flatMap famCC)[5 * j + k]? = (L[j]?).bind fun f => (famCC f)[k]?
  | [], j, k, hk => by simp
  | f :: L, 0, k, hk => by
    rw [List.flatMap_cons, List.getElem?_append_left (by simp [famCC]; omega)]
    simp
  | f :: L, j + 1, k, hk => by
    rw [List.flatMap_cons, List.getElem?_append_right (by simp [famCC]; omega)]
    have : 5 * (j + 1) + k - (famCC f).length = 5 * j + k := by simp [famCC]; omega
    rw [this, flat_at L j k hk]
    simp
theorem pad_at (l : List FamC) (j : Nat) (hj : j < 20) : (pad l)[j]? = some (famAtC l j) := by
  unfold pad famAtC
  rcases Nat.lt_or_ge j l.length with h | h
  · rw [List.getElem?_append_left h, List.getElem?_eq_getElem h]
    rfl
  · rw [List.getElem?_append_right h, List.getElem?_replicate, if_pos (by omega), List.getElem?_eq_none h]
    rfl
theorem listCC_at (l : List FamC) {j k : Nat} (hj : j < 20) (hk : k < 5) : (listCC l)[5 * j + k]? = (famCC (famAtC l j))[k]? := by
  unfold listCC
  rw [flat_at _ _ _ hk, pad_at l j hj]
  rfl
/-- A block of twenty families. -/
def LBlk (w : World) (b : Nat) (l : List FamC) : Prop := w.heap[b]? = some (.cells (listCC l).toArray 49 (0, 0))
theorem LBlk.range {w : World} {b j : Nat} {l : List FamC} (h : LBlk w b l) (hj : j < 20) : w.rangeAt b (5 * j) (famCC (famAtC l j)) := by
  intro k v hv
  have hk : k < 5 := (List.getElem?_eq_some_iff.1 hv).1
  unfold LBlk at h
  have e := listCC_at l hj hk
  rw [hv] at e
  simp [World.cell?, h, e]
theorem fam_info : (Tryd.prog.info? 46).map (·.size) = some 5 := by kernel_rfl
theorem fam_one (fi : Nat) (n t : ByteArray) (m b : Nat) : (#[Value.int .u16 (fi : Int), .string n, .string t, .int .u8 (m : Int), .int .i64 (b : Int)]).all (·.oneCell') = true := by kernel_rfl
theorem str_ne {l : List Nat} (h : l ≠ []) : ¬ (str l).toList = [] := by
  intro hx
  have hs := str_size l
  rw [ByteArray.toList_eq] at hx
  have h2 := congrArg List.length hx
  simp at h2
  simp [ByteArray.size, h2] at hs
  exact h (List.eq_nil_of_length_eq_zero hs.symm)

set_option maxHeartbeats 1000000 in
theorem familyWith_calls (l : List FamC) (o : Nat) (ho : o < 65536) (h0 : (famAtC l 0).names ≠ [] ∧ (famAtC l 0).first ≤ o) (W : World) :
    Calls Tryd.prog 17 #[listVC l, .int .u16 (o : Int)] W fun e W' => e = .returned (famVC (famAtC l (famJ l o))) ∧ Below W.heap.size W W' := by
  have hl : (listCC l).length = (listCC l).length := rfl
  have B0 := hideT ((Below.refl W.heap.size W).alloc (Nat.le_refl _) (.cells (listCC l).toArray 49))
  obtain ⟨w0, hw0⟩ : ∃ x, W.alloc (.cells (listCC l).toArray 49) = x := ⟨_, rfl⟩
  have L0 := hideT (show LBlk w0 W.heap.size l by unfold LBlk; rw [← hw0]; exact heap_alloc_new W _)
  rw [hw0] at B0
  have S0 := hideT (show w0.heap.size = W.heap.size + 1 by rw [← hw0]; simp)
  obtain ⟨w1, hw1⟩ : ∃ x, w0.alloc (.cells #[.int .u16 0, .string ⟨#[]⟩, .string ⟨#[]⟩, .int .u8 0, .int .i64 0] 46) = x := ⟨_, rfl⟩
  have B1 := hideT (show Below W.heap.size W w1 by rw [← hw1]; exact B0.out.alloc B0.out.size _)
  have L1 := hideT (show LBlk w1 W.heap.size l by unfold LBlk; rw [← hw1]; exact (heap_alloc_old w0 _ (by have := S0.out; omega)).trans L0.out)
  have K1 := hideT (show w1.heap[W.heap.size + 1]? = some (.cells #[.int .u16 0, .string ⟨#[]⟩, .string ⟨#[]⟩, .int .u8 0, .int .i64 0] 46 (0, 0)) by rw [← S0.out, ← hw1]; exact heap_alloc_new w0 _)
  have HW0 := hideT hw0
  have HW1 := hideT hw1
  clear hw0 hw1
  unfold listVC
  obtain ⟨C, hC⟩ : ∃ C, (listCC l).toArray = C := ⟨_, rfl⟩
  rw [hC] at HW0 ⊢
  have H0 := hideT h0
  clear hC h0 hl
  go_enter Tryd.func17, Tryd.ntmps17
  go_wp2_with fail
  rw [HW0.out, HW1.out]
  go_loopw [5] (fun x wr => wr = w1 ∧ ∃ i : Nat, x = .int .i64 (i : Int) ∧ i ≤ 19 ∧ famJ l o = downTo (fun j => decide ((famAtC l j).names ≠ []) && decide ((famAtC l j).first ≤ o)) i) (fun x _ => (intOf x).toNat)
  case atStart => exact ⟨rfl, 19, rfl, by omega, rfl⟩
  case round =>
    obtain ⟨rfl, i, rfl, hi, hd⟩ := hrel
    have R := L1.out.range (j := i) (by omega)
    have hc := R 0 _ rfl
    have hc1 := R 1 _ rfl
    have hc2 := R 2 _ rfl
    have hc3 := R 3 _ rfl
    have hc4 := R 4 _ rfl
    rw [Nat.add_zero] at hc
    have c1 : (i : Int) < 20 := by omega
    have c0 : (0 : Int) ≤ (i : Int) := by omega
    have m1 : i * 5 = 5 * i := by omega
    have k1 := K1.out
    have HD := hideT hd
    clear hd R
    by_cases hf : (famAtC l i).names ≠ [] ∧ (famAtC l i).first ≤ o
    · have n1 : ¬ ((o : Int) < ((famAtC l i).first : Int)) := by have := hf.2; omega
      have n2 := str_ne hf.1
      have n3 := List.isEmpty_eq_false_iff.2 n2
      have e : famJ l o = i := by
        rw [HD.out]
        cases i with
        | zero => rfl
        | succ n => simp only [downTo]; rw [if_pos (by simpa using hf)]
      have HV : Hid (famVC (famAtC l (famJ l o)) = .agg #[.int .u16 ((famAtC l i).first : Int), .string (str (famAtC l i).names), .string (str (famAtC l i).types), .int .u8 ((famAtC l i).imm : Int), .int .i64 ((famAtC l i).bits : Int)]) := hideT (by rw [e]; rfl)
      clear e hf
      generalize (famAtC l i).first = fi at *
      generalize str (famAtC l i).names = nm at *
      generalize str (famAtC l i).types = ty at *
      generalize (famAtC l i).imm = im at *
      generalize (famAtC l i).bits = bi at *
      clear HD
      go_wp2_with (refine wpList_store_row rfl 46 (.tmp 4) (.tmp 23) rfl (W.heap.size + 1) #[.int .u16 (fi : Int), .string nm, .string ty, .int .u8 (im : Int), .int .i64 (bi : Int)] rfl rfl 46 _ k1 fam_info rfl (fam_one _ _ _ _ _) ?_)
      refine bodyPost_ret (results_row rfl rfl (run_loadVar_row _ _ 46 46 #[.int .u16 (fi : Int), .string nm, .string ty, .int .u8 (im : Int), .int .i64 (bi : Int)] _ _ (setRow_heap _ _ _ _ _ _ k1) Tryd.underlying46 rfl fam_info)) rfl ?_
      exact ⟨by rw [HV.out], below_setRow B1.out (by omega) _⟩
    · have h0 : 0 < i := by
        rcases Nat.eq_zero_or_pos i with h | h
        · subst h; exact absurd H0.out hf
        · exact h
      have e : famJ l o = downTo (fun j => decide ((famAtC l j).names ≠ []) && decide ((famAtC l j).first ≤ o)) (i - 1) := by
        rw [HD.out]
        obtain ⟨n, rfl⟩ : ∃ n, i = n + 1 := ⟨i - 1, by omega⟩
        simp only [downTo]
        rw [if_neg (by simpa using hf)]
        rfl
      have HE := hideT e
      clear e HD
      by_cases hn : (famAtC l i).names = []
      · rw [hn] at hc1
        clear hf hn
        generalize (famAtC l i).first = fi at *
        generalize str (famAtC l i).types = ty at *
        generalize (famAtC l i).imm = im at *
        generalize (famAtC l i).bits = bi at *
        rw [show str [] = (⟨#[]⟩ : ByteArray) from rfl] at hc1
        go_wp2_with fail
        go_roundw
        case rel => exact ⟨by first | trivial | rfl, i - 1, by congr 1; omega, by omega, HE.out⟩
        case measure => exact meas_dn i h0
      · have n2 := str_ne hn
        have n3 := List.isEmpty_eq_false_iff.2 n2
        have n1 : (o : Int) < ((famAtC l i).first : Int) := by
          rcases Nat.lt_or_ge o (famAtC l i).first with h | h
          · omega
          · exact absurd ⟨hn, h⟩ hf
        clear hf hn
        generalize (famAtC l i).first = fi at *
        generalize str (famAtC l i).names = nm at *
        generalize str (famAtC l i).types = ty at *
        generalize (famAtC l i).imm = im at *
        generalize (famAtC l i).bits = bi at *
        go_wp2_with fail
        go_roundw
        case rel => exact ⟨by first | trivial | rfl, i - 1, by congr 1; omega, by omega, HE.out⟩
        case measure => exact meas_dn i h0
end Go.Proofs.YthggbimnjneeaaaDoor
