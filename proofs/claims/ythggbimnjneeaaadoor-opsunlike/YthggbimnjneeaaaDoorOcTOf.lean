/-
  ops.Of as the document's, of each number.
-/
import Derived.Test.YthggbimnjneeaaaDoorOcOf
import Derived.Test.YthggbimnjneeaaaDoorOcDat
set_option linter.unusedVariables false
set_option maxRecDepth 100000
set_option linter.unusedSimpArgs false
namespace Go.Proofs.YthggbimnjneeaaaDoor
open Go.RowKit Opp Opc

theorem downTo_spec (p : Nat → Bool) : ∀ i, p (downTo p i) = true ∨ downTo p i = 0
  | 0 => .inr rfl
  | i + 1 => by
    unfold downTo
    split
    · next h => exact .inl h
    · exact downTo_spec p i
def ascB (l : List Nat) : Bool := l.all fun x => Nat.beq x 32 || (decide (33 ≤ x) && decide (x < 128))
theorem ascB_asc {l : List Nat} (h : ascB l = true) : Asc l := fun x hx => by
  have := List.all_eq_true.1 h x hx
  simp only [Bool.or_eq_true, Bool.and_eq_true, decide_eq_true_eq, Nat.beq_eq] at this
  exact this
def tyB (l : List Nat) : Bool := decide (l.map tyN = typesL l)
def famB (f : FamC) : Bool :=
  ascB f.names && (decide (f.names.length ≤ 1000000) && (decide (f.first + (wordsL f.names).length < 65536) && (letB f.types && (decide (f.types.length ≤ 1000000) && (tyB (f.types.take (cutOf f.types)) && tyB (f.types.drop (cutOf f.types + 1)))))))
theorem fams_good : (spansC.all fun s => s.2.1.all famB) = true := by kernel_rfl
theorem firsts_good : (spansC.all fun s => decide ((famAtC s.2.1 0).names ≠ []) && Nat.beq (famAtC s.2.1 0).first s.1) = true := by kernel_rfl
structure FamOK (f : FamC) : Prop where
  asc : Asc f.names
  len : f.names.length ≤ 1000000
  fits : f.first + (wordsL f.names).length < 65536
  tl : Let f.types
  tn : f.types.length ≤ 1000000
  t1 : (f.types.take (cutOf f.types)).map tyN = typesL (f.types.take (cutOf f.types))
  t2 : (f.types.drop (cutOf f.types + 1)).map tyN = typesL (f.types.drop (cutOf f.types + 1))
theorem famB_ok {f : FamC} (h : famB f = true) : FamOK f := by
  unfold famB tyB at h
  simp only [Bool.and_eq_true, decide_eq_true_eq] at h
  obtain ⟨h1, h2, h3, h4, h5, h6, h7⟩ := h
  exact ⟨ascB_asc h1, h2, h3, letB_let h4, h5, h6, h7⟩
theorem spanI_lt (o : Nat) : spanI o < 17 := by
  have := downTo_le (fun i => decide ((spanAt i).1 ≤ o)) 16
  unfold spanI
  omega
theorem span_mem {i : Nat} (hi : i < 17) : spanAt i ∈ spansC := by
  have h : i < spansC.length := hi
  unfold spanAt
  rw [List.getElem?_eq_getElem h, Option.getD_some]
  exact List.getElem_mem h
theorem span_le (o : Nat) : (spanAt (spanI o)).1 ≤ o := by
  rcases downTo_spec (fun i => decide ((spanAt i).1 ≤ o)) 16 with h | h
  · exact of_decide_eq_true h
  · unfold spanI
    rw [h]
    exact Nat.zero_le _
theorem famZ {i : Nat} (hi : i < 17) : (famAtC (spanAt i).2.1 0).names ≠ [] ∧ (famAtC (spanAt i).2.1 0).first = (spanAt i).1 := by
  have := List.all_eq_true.1 firsts_good _ (span_mem hi)
  simp only [Bool.and_eq_true, decide_eq_true_eq, Nat.beq_eq] at this
  exact this
theorem famOf_ok (o : Nat) : FamOK (famOf o) := by
  have hi := spanI_lt o
  have hm : famOf o ∈ (spanAt (spanI o)).2.1 := by
    have hn : (famAtC (spanAt (spanI o)).2.1 (famJ (spanAt (spanI o)).2.1 o)).names ≠ [] := by
      rcases downTo_spec (fun j => decide ((famAtC (spanAt (spanI o)).2.1 j).names ≠ []) && decide ((famAtC (spanAt (spanI o)).2.1 j).first ≤ o)) 19 with h | h
      · rw [Bool.and_eq_true, decide_eq_true_eq] at h
        exact h.1
      · unfold famJ
        rw [h]
        exact (famZ hi).1
    unfold famOf
    rcases Nat.lt_or_ge (famJ (spanAt (spanI o)).2.1 o) (spanAt (spanI o)).2.1.length with h | h
    · unfold famAtC
      rw [List.getElem?_eq_getElem h, Option.getD_some]
      exact List.getElem_mem h
    · exfalso
      unfold famAtC at hn
      rw [List.getElem?_eq_none h] at hn
      exact hn rfl
  exact famB_ok (List.all_eq_true.1 (List.all_eq_true.1 fams_good _ (span_mem hi)) _ hm)
theorem cutV58_eq (l : List Nat) : ∃ b, cutV58 l = #[.string (str (l.take (cutOf l))), .string (str (l.drop (cutOf l + 1))), .bool b] := by
  unfold cutV58
  by_cases h : l.findIdx (· == 58) < l.length
  · rw [if_pos h]
    exact ⟨true, rfl⟩
  · rw [if_neg h]
    refine ⟨false, ?_⟩
    have hl : l.length ≤ cutOf l := by unfold cutOf; omega
    rw [List.take_of_length_le hl, List.drop_eq_nil_of_le (by omega)]
    rfl

set_option maxHeartbeats 1000000 in
theorem okOf : TOfOK := by
  intro o w ho hT
  have hi := spanI_lt o
  have F := famOf_ok o
  obtain ⟨cb, hcb⟩ := cutV58_eq (famOf o).types
  have hW := fun V => familyWith_calls (spanAt (spanI o)).2.1 o ho ⟨(famZ hi).1, by rw [(famZ hi).2]; exact span_le o⟩ V
  have hN := fun V (hV : Below w.heap.size w V) => name_calls (famOf o) o ho F.asc F.len F.fits V (hT.later hV)
  have hS := fun V (hV : Below w.heap.size w V) => spanWith_calls o ho V
  have hF := fun V => (fam_at hi V).mono fun e W' h => (⟨h.1, by rw [h.2]; exact (Below.refl _ _).alloc (Nat.le_refl _) _⟩ : e = .returned (listVC (spanAt (spanI o)).2.1) ∧ Below V.heap.size V W')
  have hC := fun V => scut58_calls (famOf o).types F.tl F.tn V
  rw [hcb] at hC
  have l1 : Let ((famOf o).types.take (cutOf (famOf o).types)) := fun x hx => F.tl x (List.mem_of_mem_take hx)
  have l2 : Let ((famOf o).types.drop (cutOf (famOf o).types + 1)) := fun x hx => F.tl x (List.mem_of_mem_drop hx)
  have n1 : ((famOf o).types.take (cutOf (famOf o).types)).length ≤ 1000000 := by have := F.tn; simp; omega
  have n2 : ((famOf o).types.drop (cutOf (famOf o).types + 1)).length ≤ 1000000 := by have := F.tn; simp; omega
  have hV1 := fun V => vals_calls _ l1 n1 V
  have hV2 := fun V => vals_calls _ l2 n2 V
  rw [F.t1] at hV1
  rw [F.t2] at hV2
  have hE := ofC_eq o
  unfold ofC hitC at hE
  by_cases h : (famOf o).first ≤ o ∧ o - (famOf o).first < (wordsL (famOf o).names).length
  · rw [if_pos ⟨h.2, h.1⟩] at hE
    obtain ⟨e1, e2⟩ := ofR_some hE.symm
    unfold nameV at hN
    rw [if_pos h] at hN
    refine (of_ok_walk o _ _ _ _ _ _ _ _ _ _ _ _ _ cb _ w hS (fam_enters hi) hF hW hN hC hV1 hV2).mono ?_
    rintro e W' ⟨v1, v2, rfl, o1, o2, hb⟩
    obtain ⟨a1, c1, rfl⟩ := OwnY.shape o1
    obtain ⟨a2, c2, rfl⟩ := OwnY.shape o2
    unfold OfPost
    rw [e1, e2]
    refine ⟨_, rfl, ⟨a1, c1, a2, c2, ?_, o1, o2⟩, hb⟩
    have ho2 : (famOf o).first + (o - (famOf o).first) = o := by omega
    unfold infoC
    dsimp only
    rw [ho2]
    rfl
  · rw [if_neg (fun hx => h ⟨hx.2, hx.1⟩)] at hE
    obtain ⟨e1, e2⟩ := ofR_none hE.symm
    unfold nameV at hN
    rw [if_neg h] at hN
    refine (of_no_walk o _ _ _ _ _ _ _ _ _ _ w hS (fam_enters hi) hF hW hN).mono ?_
    rintro e W' ⟨rfl, hb⟩
    unfold OfPost
    rw [e1, e2]
    exact ⟨_, rfl, InfoV.zero _ _, hb⟩
end Go.Proofs.YthggbimnjneeaaaDoor
