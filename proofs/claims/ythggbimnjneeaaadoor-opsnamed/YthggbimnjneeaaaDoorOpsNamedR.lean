/-
  The document's Named.
-/
import Derived.Test.YthggbimnjneeaaaDoorOpsTab
set_option linter.unusedVariables false
set_option maxRecDepth 100000
set_option linter.unusedSimpArgs false
namespace Go.Proofs.YthggbimnjneeaaaDoor
open Go.RowKit Opp

theorem TabRow.cellsAt {w : World} {b : Nat} {v : Value} {L : List InfoD} (h : TabRow w b v L) (h0 : 0 < L.length) : ∃ g c, v = .slice (some ⟨g, 0, none⟩) L.length c ∧ ∀ (i : Nat) (R : InfoD), L[i]? = some R → w.cell? ⟨g, i * 7, none⟩ = some (.int .u16 (R.op : Int)) ∧ w.cell? ⟨g, i * 7 + 1, none⟩ = some (.string (str R.name)) := by
  obtain ⟨xs, hown, hx⟩ := h
  obtain ⟨hl, ⟨rfl, h1⟩ | ⟨g, cap, cur, rfl, _⟩⟩ := id hown
  · omega
  · refine ⟨g, cap, rfl, fun i R hR => ?_⟩
    have hi : i < L.length := (List.getElem?_eq_some_iff.1 hR).1
    obtain ⟨a, b⟩ := hx i R hR
    constructor
    · rw [World.ownsRow.cellAt hown (i * 7) (by omega)]; exact a
    · rw [World.ownsRow.cellAt hown (i * 7 + 1) (by omega)]; exact b
theorem namedD_none {s : ByteArray} (h : ∀ (i : Nat) (R : InfoD), rowsD[i]? = some R → str R.name ≠ s) : namedD s = none := by
  unfold namedD
  rw [Option.map_eq_none_iff, List.find?_eq_none]
  intro R hR
  obtain ⟨i, hi⟩ := List.mem_iff_getElem?.1 hR
  simpa using h i R hi

set_option maxRecDepth 100000 in
set_option maxHeartbeats 4000000 in
theorem rNamed_calls (s : ByteArray) (w : World) : Calls Tryd.prog 14 #[.string s] w fun e w' => e = .returned (namedV s) ∧ Below w.heap.size w w' := by
  have CT := hideT (fun V => rTable_calls V)
  go_enter Tryd.func14, Tryd.ntmps14
  go_wp2_with fail
  refine (CT.out _).mono ?_
  rintro e w1 ⟨v, rfl, htab, hb1⟩
  obtain ⟨g, c, rfl, hcells⟩ := htab.cellsAt (by rw [rows_len]; decide)
  rw [rows_len]
  have HC := hideT hcells
  have B1 := hideT hb1
  clear hcells hb1 htab CT
  dsimp only
  go_wp2_with fail
  go_loopw [5] (fun x wr => ∃ k : Nat, x = .int .i64 (k : Int) ∧ k ≤ 435 ∧ (∀ (i : Nat) (R : InfoD), i < k → rowsD[i]? = some R → str R.name ≠ s) ∧ wr = w1) (fun x _ => 435 - (intOf x).toNat)
  case atStart => exact ⟨0, rfl, by omega, fun i R hi => by omega, rfl⟩
  case round =>
    obtain ⟨k, rfl, hk, hno, hww⟩ := hrel
    subst hww
    have NO := hideT hno
    clear hno
    by_cases c0 : k < 435
    · obtain ⟨R, hR⟩ : ∃ R, rowsD[k]? = some R := ⟨_, List.getElem?_eq_getElem (by rw [rows_len]; exact c0)⟩
      obtain ⟨z0, z1⟩ := HC.out k R hR
      have ck : (k : Int) < 435 := by omega
      by_cases hs : str R.name = s
      · have E : Hid (namedD s = some R.op) := hideT (by rw [← hs]; exact namedD_of (List.mem_of_getElem? hR))
        subst hs
        clear hR
        go_wp2_with fail
        refine bodyPost_ret (v := .tuple #[.int .u16 (R.op : Int), .int .i64 0]) (by simp [results, Tryd.results14, go_sem]) rfl ?_
        exact ⟨by unfold namedV; rw [E.out]; rfl, B1.out⟩
      · have t1 : ¬ (str R.name).toList = s.toList := fun h => hs (toList_injB h)
        have t2 : ((str R.name).toList == s.toList) = false := by
          cases h : ((str R.name).toList == s.toList) with
          | false => rfl
          | true => exact absurd (eq_of_beq h) t1
        have N2 := hideT (show ∀ (i : Nat) (S : InfoD), i < k + 1 → rowsD[i]? = some S → str S.name ≠ s from fun i S hi hS => by
          by_cases e : i = k
          · subst e
            rw [hR] at hS
            injection hS with hS
            subst hS
            exact hs
          · exact NO.out i S (by omega) hS)
        clear hR hs
        generalize str R.name = nm at *
        go_wp2_with fail
        go_roundw
        case rel => exact ⟨k + 1, by go_num, by omega, N2.out, trivial⟩
        case measure => simp [intOf]; omega
    · have hk5 : k = 435 := by omega
      have E : Hid (namedD s = none) := hideT (namedD_none fun i R hR => NO.out i R (by have := (List.getElem?_eq_some_iff.1 hR).1; rw [rows_len] at this; omega) hR)
      subst hk5
      clear c0 hk
      go_wp2_with fail
      refine bodyPost_ret (v := .tuple #[.int .u16 0, .int .i64 11]) (by simp [results, Tryd.results14, go_sem]) rfl ?_
      exact ⟨by unfold namedV; rw [E.out]; rfl, B1.out⟩
theorem okRNamed : RNamedOK := fun s w => rNamed_calls s w
end Go.Proofs.YthggbimnjneeaaaDoor
