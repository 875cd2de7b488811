/-
  The document's families, all of them.
-/
import Derived.Test.YthggbimnjneeaaaDoorOpsFam
set_option linter.unusedVariables false
set_option maxRecDepth 100000
set_option linter.unusedSimpArgs false
namespace Go.Proofs.YthggbimnjneeaaaDoor
open Go.RowKit Opp

/-- The i-th list of families. -/
def famAt (i : Nat) : List Fam := allF[i]?.getD []
/-- A list of families lies there. -/
def FamBlk (w : World) (g : Nat) (L : List Fam) : Prop := w.heap[g]? = some (.cells (famsCells L) 59 (0, 0))
theorem FamBlk.later {w w' : World} {g : Nat} {L : List Fam} (h : FamBlk w g L) (hb : Below w.heap.size w w') : FamBlk w' g L := (hb.block g (Array.getElem?_eq_some_iff.1 h).1).trans h
/-- All lists lie there. -/
def AllAtF (w : World) (v : Value) : Prop := ∃ g, v = .slice (some ⟨g, 0, none⟩) 7 7 ∧ ∀ i, i < 7 → ∃ gi, w.cell? ⟨g, i, none⟩ = some (.slice (some ⟨gi, 0, none⟩) (famAt i).length (famAt i).length) ∧ FamBlk w gi (famAt i)
theorem cell_laterF {w w' : World} {g k : Nat} {v : Value} (hb : Below w.heap.size w w') (h : w.cell? ⟨g, k, none⟩ = some v) : w'.cell? ⟨g, k, none⟩ = some v := by
  by_cases hg : g < w.heap.size
  · have := hb.block g hg
    simp only [World.cell?] at h ⊢
    rw [this]
    exact h
  · simp [World.cell?, Array.getElem?_eq_none (show w.heap.size ≤ g by omega)] at h
theorem AllAtF.later {w w' : World} {v : Value} (h : AllAtF w v) (hb : Below w.heap.size w w') : AllAtF w' v := by
  obtain ⟨g, hv, hi⟩ := h
  refine ⟨g, hv, fun i h7 => ?_⟩
  obtain ⟨gi, hc, hf⟩ := hi i h7
  exact ⟨gi, cell_laterF hb hc, hf.later hb⟩

set_option maxHeartbeats 4000000 in
theorem rfamilies_calls (w : World) : Calls Tryd.prog 21 #[] w fun e w' => ∃ v, e = .returned v ∧ AllAtF w' v ∧ Below w.heap.size w w' := by
  go_enter Tryd.func21, Tryd.ntmps21
  go_wp2_with fail
  refine (rhung_calls _).mono ?_
  rintro e w1 ⟨g1, rfl, h1, f1, b1⟩
  have F1 := hideT (show FamBlk w1 g1 hungF from f1)
  have B1 := hideT b1
  clear h1 f1 b1
  go_wp2_with fail
  refine (rscalars_calls _).mono ?_
  rintro e w2 ⟨g2, rfl, h2, f2, b2⟩
  have F1 := hideT (F1.out.later b2)
  have F2 := hideT (show FamBlk w2 g2 scalarsF from f2)
  have B2 := hideT (B1.out.trans (b2.mono B1.out.size))
  clear h2 f2 b2 B1
  go_wp2_with fail
  refine (rplaces_calls _).mono ?_
  rintro e w3 ⟨g3, rfl, h3, f3, b3⟩
  have F1 := hideT (F1.out.later b3)
  have F2 := hideT (F2.out.later b3)
  have F3 := hideT (show FamBlk w3 g3 placesF from f3)
  have B3 := hideT (B2.out.trans (b3.mono B2.out.size))
  clear h3 f3 b3 B2
  go_wp2_with fail
  refine (rcompared_calls _).mono ?_
  rintro e w4 ⟨g4, rfl, h4, f4, b4⟩
  have F1 := hideT (F1.out.later b4)
  have F2 := hideT (F2.out.later b4)
  have F3 := hideT (F3.out.later b4)
  have F4 := hideT (show FamBlk w4 g4 comparedF from f4)
  have B4 := hideT (B3.out.trans (b4.mono B3.out.size))
  clear h4 f4 b4 B3
  go_wp2_with fail
  refine (rnarrow_calls _).mono ?_
  rintro e w5 ⟨g5, rfl, h5, f5, b5⟩
  have F1 := hideT (F1.out.later b5)
  have F2 := hideT (F2.out.later b5)
  have F3 := hideT (F3.out.later b5)
  have F4 := hideT (F4.out.later b5)
  have F5 := hideT (show FamBlk w5 g5 narrowF from f5)
  have B5 := hideT (B4.out.trans (b5.mono B4.out.size))
  clear h5 f5 b5 B4
  go_wp2_with fail
  refine (rbroad_calls _).mono ?_
  rintro e w6 ⟨g6, rfl, h6, f6, b6⟩
  have F1 := hideT (F1.out.later b6)
  have F2 := hideT (F2.out.later b6)
  have F3 := hideT (F3.out.later b6)
  have F4 := hideT (F4.out.later b6)
  have F5 := hideT (F5.out.later b6)
  have F6 := hideT (show FamBlk w6 g6 broadF from f6)
  have B6 := hideT (B5.out.trans (b6.mono B5.out.size))
  clear h6 f6 b6 B5
  go_wp2_with fail
  refine (rafloat_calls _).mono ?_
  rintro e w7 ⟨g7, rfl, h7, f7, b7⟩
  have F1 := hideT (F1.out.later b7)
  have F2 := hideT (F2.out.later b7)
  have F3 := hideT (F3.out.later b7)
  have F4 := hideT (F4.out.later b7)
  have F5 := hideT (F5.out.later b7)
  have F6 := hideT (F6.out.later b7)
  have F7 := hideT (show FamBlk w7 g7 afloatF from f7)
  have B7 := hideT (B6.out.trans (b7.mono B6.out.size))
  clear h7 f7 b7 B6
  obtain ⟨wb, hwb⟩ : ∃ wb, w7.alloc (.cells #[.slice (some ⟨g1, 0, none⟩) hungF.length hungF.length, .slice (some ⟨g2, 0, none⟩) scalarsF.length scalarsF.length, .slice (some ⟨g3, 0, none⟩) placesF.length placesF.length, .slice (some ⟨g4, 0, none⟩) comparedF.length comparedF.length, .slice (some ⟨g5, 0, none⟩) narrowF.length narrowF.length, .slice (some ⟨g6, 0, none⟩) broadF.length broadF.length, .slice (some ⟨g7, 0, none⟩) afloatF.length afloatF.length] 57) = wb := ⟨_, rfl⟩
  have HB : Hid (Below w7.heap.size w7 wb) := hideT (by rw [← hwb]; exact (Below.refl _ _).alloc (Nat.le_refl _) _)
  have HC : Hid (wb.heap[w7.heap.size]? = some (.cells #[.slice (some ⟨g1, 0, none⟩) hungF.length hungF.length, .slice (some ⟨g2, 0, none⟩) scalarsF.length scalarsF.length, .slice (some ⟨g3, 0, none⟩) placesF.length placesF.length, .slice (some ⟨g4, 0, none⟩) comparedF.length comparedF.length, .slice (some ⟨g5, 0, none⟩) narrowF.length narrowF.length, .slice (some ⟨g6, 0, none⟩) broadF.length broadF.length, .slice (some ⟨g7, 0, none⟩) afloatF.length afloatF.length] 57 (0, 0))) := hideT (by rw [← hwb]; exact heap_alloc_new w7 _)
  have HW := hideT hwb
  clear hwb
  go_wp2
  rw [HW.out]
  go_ret
  refine ⟨_, rfl, ⟨w7.heap.size, rfl, fun i h7 => ?_⟩, B7.out.trans (HB.out.mono B7.out.size)⟩
  have hc : ∀ (k : Nat) (v : Value), (#[.slice (some ⟨g1, 0, none⟩) hungF.length hungF.length, .slice (some ⟨g2, 0, none⟩) scalarsF.length scalarsF.length, .slice (some ⟨g3, 0, none⟩) placesF.length placesF.length, .slice (some ⟨g4, 0, none⟩) comparedF.length comparedF.length, .slice (some ⟨g5, 0, none⟩) narrowF.length narrowF.length, .slice (some ⟨g6, 0, none⟩) broadF.length broadF.length, .slice (some ⟨g7, 0, none⟩) afloatF.length afloatF.length] : Array Value)[k]? = some v → wb.cell? ⟨w7.heap.size, k, none⟩ = some v := fun k v h => by
    simp only [World.cell?, HC.out]
    exact h
  match i, h7 with
  | 0, _ => exact ⟨g1, hc 0 _ rfl, F1.out.later HB.out⟩
  | 1, _ => exact ⟨g2, hc 1 _ rfl, F2.out.later HB.out⟩
  | 2, _ => exact ⟨g3, hc 2 _ rfl, F3.out.later HB.out⟩
  | 3, _ => exact ⟨g4, hc 3 _ rfl, F4.out.later HB.out⟩
  | 4, _ => exact ⟨g5, hc 4 _ rfl, F5.out.later HB.out⟩
  | 5, _ => exact ⟨g6, hc 5 _ rfl, F6.out.later HB.out⟩
  | 6, _ => exact ⟨g7, hc 6 _ rfl, F7.out.later HB.out⟩
end Go.Proofs.YthggbimnjneeaaaDoor
