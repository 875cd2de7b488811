/-
  The lists of families, and the spans, as the landed code's functions answer them (genocfams.py wrote it).
-/
import Derived.Test.YthggbimnjneeaabDoorOcRun
import Derived.Test.YthggbimnjneeaabDoorOcWhole
set_option linter.unusedVariables false
set_option maxRecDepth 100000
set_option linter.unusedSimpArgs false
namespace Go.Proofs.YthggbimnjneeaabDoor
open Go.RowKit Opp Opc

/-- A list's cells: twenty families, empty ones behind. -/
def pad (l : List FamC) : List FamC := l ++ List.replicate (20 - l.length) zeroF
def listCC (l : List FamC) : List Value := (pad l).flatMap famCC
def listVC (l : List FamC) : Value := .agg (listCC l).toArray
def zerosL : Array Value := (listCC []).toArray
theorem list_under : Tryd.prog.underlying 45 = some (.array 20 42) := Tryd.underlying45
theorem list_info : (Tryd.prog.info? 45).map (·.size) = some 100 := by kernel_rfl
theorem controls_calls (w : World) : Calls Tryd.prog 24 #[] w fun e W => e = .returned (listVC controlsC) ∧ W = w.alloc (.cells (listCC controlsC).toArray 45) :=
  calls_row (d := .array 20 42) (zs := zerosL) 13 13 _ Tryd.func24 rfl rfl (by kernel_rfl) (fun p V => by kernel_rfl) rfl rfl rfl rfl list_under rfl (by rw [list_info]; kernel_rfl) (by kernel_rfl) (by kernel_rfl)
theorem controls_enters (args : Array Value) (w : World) : (callFunc 24 args).run Tryd.prog w = .ok (.enter 24 args) w := enters_of Tryd.func24 (by kernel_rfl) rfl args w
theorem places_calls (w : World) : Calls Tryd.prog 25 #[] w fun e W => e = .returned (listVC placesC) ∧ W = w.alloc (.cells (listCC placesC).toArray 45) :=
  calls_row (d := .array 20 42) (zs := zerosL) 21 21 _ Tryd.func25 rfl rfl (by kernel_rfl) (fun p V => by kernel_rfl) rfl rfl rfl rfl list_under rfl (by rw [list_info]; kernel_rfl) (by kernel_rfl) (by kernel_rfl)
theorem places_enters (args : Array Value) (w : World) : (callFunc 25 args).run Tryd.prog w = .ok (.enter 25 args) w := enters_of Tryd.func25 (by kernel_rfl) rfl args w
theorem comparisons_calls (w : World) : Calls Tryd.prog 26 #[] w fun e W => e = .returned (listVC comparisonsC) ∧ W = w.alloc (.cells (listCC comparisonsC).toArray 45) :=
  calls_row (d := .array 20 42) (zs := zerosL) 11 11 _ Tryd.func26 rfl rfl (by kernel_rfl) (fun p V => by kernel_rfl) rfl rfl rfl rfl list_under rfl (by rw [list_info]; kernel_rfl) (by kernel_rfl) (by kernel_rfl)
theorem comparisons_enters (args : Array Value) (w : World) : (callFunc 26 args).run Tryd.prog w = .ok (.enter 26 args) w := enters_of Tryd.func26 (by kernel_rfl) rfl args w
theorem operators_calls (w : World) : Calls Tryd.prog 27 #[] w fun e W => e = .returned (listVC operatorsC) ∧ W = w.alloc (.cells (listCC operatorsC).toArray 45) :=
  calls_row (d := .array 20 42) (zs := zerosL) 9 9 _ Tryd.func27 rfl rfl (by kernel_rfl) (fun p V => by kernel_rfl) rfl rfl rfl rfl list_under rfl (by rw [list_info]; kernel_rfl) (by kernel_rfl) (by kernel_rfl)
theorem operators_enters (args : Array Value) (w : World) : (callFunc 27 args).run Tryd.prog w = .ok (.enter 27 args) w := enters_of Tryd.func27 (by kernel_rfl) rfl args w
theorem conversions_calls (w : World) : Calls Tryd.prog 28 #[] w fun e W => e = .returned (listVC conversionsC) ∧ W = w.alloc (.cells (listCC conversionsC).toArray 45) :=
  calls_row (d := .array 20 42) (zs := zerosL) 19 19 _ Tryd.func28 rfl rfl (by kernel_rfl) (fun p V => by kernel_rfl) rfl rfl rfl rfl list_under rfl (by rw [list_info]; kernel_rfl) (by kernel_rfl) (by kernel_rfl)
theorem conversions_enters (args : Array Value) (w : World) : (callFunc 28 args).run Tryd.prog w = .ok (.enter 28 args) w := enters_of Tryd.func28 (by kernel_rfl) rfl args w
theorem references_calls (w : World) : Calls Tryd.prog 29 #[] w fun e W => e = .returned (listVC referencesC) ∧ W = w.alloc (.cells (listCC referencesC).toArray 45) :=
  calls_row (d := .array 20 42) (zs := zerosL) 4 4 _ Tryd.func29 rfl rfl (by kernel_rfl) (fun p V => by kernel_rfl) rfl rfl rfl rfl list_under rfl (by rw [list_info]; kernel_rfl) (by kernel_rfl) (by kernel_rfl)
theorem references_enters (args : Array Value) (w : World) : (callFunc 29 args).run Tryd.prog w = .ok (.enter 29 args) w := enters_of Tryd.func29 (by kernel_rfl) rfl args w
theorem heldCuts_calls (w : World) : Calls Tryd.prog 30 #[] w fun e W => e = .returned (listVC heldCutsC) ∧ W = w.alloc (.cells (listCC heldCutsC).toArray 45) :=
  calls_row (d := .array 20 42) (zs := zerosL) 5 5 _ Tryd.func30 rfl rfl (by kernel_rfl) (fun p V => by kernel_rfl) rfl rfl rfl rfl list_under rfl (by rw [list_info]; kernel_rfl) (by kernel_rfl) (by kernel_rfl)
theorem heldCuts_enters (args : Array Value) (w : World) : (callFunc 30 args).run Tryd.prog w = .ok (.enter 30 args) w := enters_of Tryd.func30 (by kernel_rfl) rfl args w
theorem bulks_calls (w : World) : Calls Tryd.prog 31 #[] w fun e W => e = .returned (listVC bulksC) ∧ W = w.alloc (.cells (listCC bulksC).toArray 45) :=
  calls_row (d := .array 20 42) (zs := zerosL) 9 9 _ Tryd.func31 rfl rfl (by kernel_rfl) (fun p V => by kernel_rfl) rfl rfl rfl rfl list_under rfl (by rw [list_info]; kernel_rfl) (by kernel_rfl) (by kernel_rfl)
theorem bulks_enters (args : Array Value) (w : World) : (callFunc 31 args).run Tryd.prog w = .ok (.enter 31 args) w := enters_of Tryd.func31 (by kernel_rfl) rfl args w
theorem vectorPlaces_calls (w : World) : Calls Tryd.prog 32 #[] w fun e W => e = .returned (listVC vectorPlacesC) ∧ W = w.alloc (.cells (listCC vectorPlacesC).toArray 45) :=
  calls_row (d := .array 20 42) (zs := zerosL) 8 8 _ Tryd.func32 rfl rfl (by kernel_rfl) (fun p V => by kernel_rfl) rfl rfl rfl rfl list_under rfl (by rw [list_info]; kernel_rfl) (by kernel_rfl) (by kernel_rfl)
theorem vectorPlaces_enters (args : Array Value) (w : World) : (callFunc 32 args).run Tryd.prog w = .ok (.enter 32 args) w := enters_of Tryd.func32 (by kernel_rfl) rfl args w
theorem laneMoves_calls (w : World) : Calls Tryd.prog 33 #[] w fun e W => e = .returned (listVC laneMovesC) ∧ W = w.alloc (.cells (listCC laneMovesC).toArray 45) :=
  calls_row (d := .array 20 42) (zs := zerosL) 20 20 _ Tryd.func33 rfl rfl (by kernel_rfl) (fun p V => by kernel_rfl) rfl rfl rfl rfl list_under rfl (by rw [list_info]; kernel_rfl) (by kernel_rfl) (by kernel_rfl)
theorem laneMoves_enters (args : Array Value) (w : World) : (callFunc 33 args).run Tryd.prog w = .ok (.enter 33 args) w := enters_of Tryd.func33 (by kernel_rfl) rfl args w
theorem vectorComparisons_calls (w : World) : Calls Tryd.prog 34 #[] w fun e W => e = .returned (listVC vectorComparisonsC) ∧ W = w.alloc (.cells (listCC vectorComparisonsC).toArray 45) :=
  calls_row (d := .array 20 42) (zs := zerosL) 10 10 _ Tryd.func34 rfl rfl (by kernel_rfl) (fun p V => by kernel_rfl) rfl rfl rfl rfl list_under rfl (by rw [list_info]; kernel_rfl) (by kernel_rfl) (by kernel_rfl)
theorem vectorComparisons_enters (args : Array Value) (w : World) : (callFunc 34 args).run Tryd.prog w = .ok (.enter 34 args) w := enters_of Tryd.func34 (by kernel_rfl) rfl args w
theorem lanePlaces_calls (w : World) : Calls Tryd.prog 35 #[] w fun e W => e = .returned (listVC lanePlacesC) ∧ W = w.alloc (.cells (listCC lanePlacesC).toArray 45) :=
  calls_row (d := .array 20 42) (zs := zerosL) 11 11 _ Tryd.func35 rfl rfl (by kernel_rfl) (fun p V => by kernel_rfl) rfl rfl rfl rfl list_under rfl (by rw [list_info]; kernel_rfl) (by kernel_rfl) (by kernel_rfl)
theorem lanePlaces_enters (args : Array Value) (w : World) : (callFunc 35 args).run Tryd.prog w = .ok (.enter 35 args) w := enters_of Tryd.func35 (by kernel_rfl) rfl args w
theorem lanes8_calls (w : World) : Calls Tryd.prog 36 #[] w fun e W => e = .returned (listVC lanes8C) ∧ W = w.alloc (.cells (listCC lanes8C).toArray 45) :=
  calls_row (d := .array 20 42) (zs := zerosL) 14 14 _ Tryd.func36 rfl rfl (by kernel_rfl) (fun p V => by kernel_rfl) rfl rfl rfl rfl list_under rfl (by rw [list_info]; kernel_rfl) (by kernel_rfl) (by kernel_rfl)
theorem lanes8_enters (args : Array Value) (w : World) : (callFunc 36 args).run Tryd.prog w = .ok (.enter 36 args) w := enters_of Tryd.func36 (by kernel_rfl) rfl args w
theorem lanes16_calls (w : World) : Calls Tryd.prog 37 #[] w fun e W => e = .returned (listVC lanes16C) ∧ W = w.alloc (.cells (listCC lanes16C).toArray 45) :=
  calls_row (d := .array 20 42) (zs := zerosL) 13 13 _ Tryd.func37 rfl rfl (by kernel_rfl) (fun p V => by kernel_rfl) rfl rfl rfl rfl list_under rfl (by rw [list_info]; kernel_rfl) (by kernel_rfl) (by kernel_rfl)
theorem lanes16_enters (args : Array Value) (w : World) : (callFunc 37 args).run Tryd.prog w = .ok (.enter 37 args) w := enters_of Tryd.func37 (by kernel_rfl) rfl args w
theorem lanes32_calls (w : World) : Calls Tryd.prog 38 #[] w fun e W => e = .returned (listVC lanes32C) ∧ W = w.alloc (.cells (listCC lanes32C).toArray 45) :=
  calls_row (d := .array 20 42) (zs := zerosL) 10 10 _ Tryd.func38 rfl rfl (by kernel_rfl) (fun p V => by kernel_rfl) rfl rfl rfl rfl list_under rfl (by rw [list_info]; kernel_rfl) (by kernel_rfl) (by kernel_rfl)
theorem lanes32_enters (args : Array Value) (w : World) : (callFunc 38 args).run Tryd.prog w = .ok (.enter 38 args) w := enters_of Tryd.func38 (by kernel_rfl) rfl args w
theorem lanes64_calls (w : World) : Calls Tryd.prog 39 #[] w fun e W => e = .returned (listVC lanes64C) ∧ W = w.alloc (.cells (listCC lanes64C).toArray 45) :=
  calls_row (d := .array 20 42) (zs := zerosL) 10 10 _ Tryd.func39 rfl rfl (by kernel_rfl) (fun p V => by kernel_rfl) rfl rfl rfl rfl list_under rfl (by rw [list_info]; kernel_rfl) (by kernel_rfl) (by kernel_rfl)
theorem lanes64_enters (args : Array Value) (w : World) : (callFunc 39 args).run Tryd.prog w = .ok (.enter 39 args) w := enters_of Tryd.func39 (by kernel_rfl) rfl args w
theorem floatLanes_calls (w : World) : Calls Tryd.prog 40 #[] w fun e W => e = .returned (listVC floatLanesC) ∧ W = w.alloc (.cells (listCC floatLanesC).toArray 45) :=
  calls_row (d := .array 20 42) (zs := zerosL) 11 11 _ Tryd.func40 rfl rfl (by kernel_rfl) (fun p V => by kernel_rfl) rfl rfl rfl rfl list_under rfl (by rw [list_info]; kernel_rfl) (by kernel_rfl) (by kernel_rfl)
theorem floatLanes_enters (args : Array Value) (w : World) : (callFunc 40 args).run Tryd.prog w = .ok (.enter 40 args) w := enters_of Tryd.func40 (by kernel_rfl) rfl args w
/-- The function that answers span i's families. -/
def fnOf : List FuncId := [24, 25, 26, 27, 28, 29, 30, 31, 32, 33, 34, 35, 36, 37, 38, 39, 40]
def fnAt (i : Nat) : FuncId := fnOf[i]?.getD 0
def spanCC (i : Nat) : List Value := [.int .u16 ((spanAt i).1 : Int), .bool (spanAt i).2.2, .func (.func (fnAt i)) #[] #[]]
def spanVC (i : Nat) : Value := .agg (spanCC i).toArray
def spansCC : List Value := (List.range 17).flatMap spanCC
def zerosS : Array Value := ((List.range 17).flatMap fun _ => [Value.int .u16 0, .bool false, .nilFunc]).toArray
theorem spans_calls (w : World) : Calls Tryd.prog 15 #[] w fun e W => e = .returned (.agg spansCC.toArray) ∧ W = w.alloc (.cells spansCC.toArray 51) :=
  calls_row (d := .array 17 39) (zs := zerosS) 18 18 _ Tryd.func15 rfl rfl (by kernel_rfl) (fun p V => by kernel_rfl) rfl rfl rfl rfl Tryd.underlying51 rfl (by kernel_rfl) (by kernel_rfl) (by kernel_rfl)
theorem fam_at {i : Nat} (hi : i < 17) (w : World) : Calls Tryd.prog (fnAt i) #[] w fun e W => e = .returned (listVC (spanAt i).2.1) ∧ W = w.alloc (.cells (listCC (spanAt i).2.1).toArray 45) := by
  match i, hi with
  | 0, _ => exact controls_calls w
  | 1, _ => exact places_calls w
  | 2, _ => exact comparisons_calls w
  | 3, _ => exact operators_calls w
  | 4, _ => exact conversions_calls w
  | 5, _ => exact references_calls w
  | 6, _ => exact heldCuts_calls w
  | 7, _ => exact bulks_calls w
  | 8, _ => exact vectorPlaces_calls w
  | 9, _ => exact laneMoves_calls w
  | 10, _ => exact vectorComparisons_calls w
  | 11, _ => exact lanePlaces_calls w
  | 12, _ => exact lanes8_calls w
  | 13, _ => exact lanes16_calls w
  | 14, _ => exact lanes32_calls w
  | 15, _ => exact lanes64_calls w
  | 16, _ => exact floatLanes_calls w
  | n + 17, h => exact absurd h (by omega)
theorem fam_enters {i : Nat} (hi : i < 17) (args : Array Value) (w : World) : (callFunc (fnAt i) args).run Tryd.prog w = .ok (.enter (fnAt i) args) w := by
  match i, hi with
  | 0, _ => exact controls_enters args w
  | 1, _ => exact places_enters args w
  | 2, _ => exact comparisons_enters args w
  | 3, _ => exact operators_enters args w
  | 4, _ => exact conversions_enters args w
  | 5, _ => exact references_enters args w
  | 6, _ => exact heldCuts_enters args w
  | 7, _ => exact bulks_enters args w
  | 8, _ => exact vectorPlaces_enters args w
  | 9, _ => exact laneMoves_enters args w
  | 10, _ => exact vectorComparisons_enters args w
  | 11, _ => exact lanePlaces_enters args w
  | 12, _ => exact lanes8_enters args w
  | 13, _ => exact lanes16_enters args w
  | 14, _ => exact lanes32_enters args w
  | 15, _ => exact lanes64_enters args w
  | 16, _ => exact floatLanes_enters args w
  | n + 17, h => exact absurd h (by omega)
end Go.Proofs.YthggbimnjneeaabDoor
