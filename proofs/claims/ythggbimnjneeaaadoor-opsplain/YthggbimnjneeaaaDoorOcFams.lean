/-
  The lists of families, and the spans, as the landed code's functions answer them (genocfams.py wrote it).
-/
import Derived.Test.YthggbimnjneeaaaDoorOcRun
import Derived.Test.YthggbimnjneeaaaDoorOcWhole
set_option linter.unusedVariables false
set_option maxRecDepth 100000
set_option linter.unusedSimpArgs false
namespace Go.Proofs.YthggbimnjneeaaaDoor
open Go.RowKit Opp Opc

/-- A list's cells: twenty families, empty ones behind. -/
def pad (l : List FamC) : List FamC := l ++ List.replicate (20 - l.length) zeroF
def listCC (l : List FamC) : List Value := (pad l).flatMap famCC
def listVC (l : List FamC) : Value := .agg (listCC l).toArray
def zerosL : Array Value := (listCC []).toArray
theorem list_under : Tryd.prog.underlying 49 = some (.array 20 46) := Tryd.underlying49
theorem list_info : (Tryd.prog.info? 49).map (·.size) = some 100 := by kernel_rfl
theorem controls_calls (w : World) : Calls Tryd.prog 42 #[] w fun e W => e = .returned (listVC controlsC) ∧ W = w.alloc (.cells (listCC controlsC).toArray 49) :=
  calls_row (d := .array 20 46) (zs := zerosL) 13 13 _ Tryd.func42 rfl rfl (by kernel_rfl) (fun p V => by kernel_rfl) rfl rfl rfl rfl list_under rfl (by rw [list_info]; kernel_rfl) (by kernel_rfl) (by kernel_rfl)
theorem controls_enters (args : Array Value) (w : World) : (callFunc 42 args).run Tryd.prog w = .ok (.enter 42 args) w := enters_of Tryd.func42 (by kernel_rfl) rfl args w
theorem places_calls (w : World) : Calls Tryd.prog 43 #[] w fun e W => e = .returned (listVC placesC) ∧ W = w.alloc (.cells (listCC placesC).toArray 49) :=
  calls_row (d := .array 20 46) (zs := zerosL) 21 21 _ Tryd.func43 rfl rfl (by kernel_rfl) (fun p V => by kernel_rfl) rfl rfl rfl rfl list_under rfl (by rw [list_info]; kernel_rfl) (by kernel_rfl) (by kernel_rfl)
theorem places_enters (args : Array Value) (w : World) : (callFunc 43 args).run Tryd.prog w = .ok (.enter 43 args) w := enters_of Tryd.func43 (by kernel_rfl) rfl args w
theorem comparisons_calls (w : World) : Calls Tryd.prog 44 #[] w fun e W => e = .returned (listVC comparisonsC) ∧ W = w.alloc (.cells (listCC comparisonsC).toArray 49) :=
  calls_row (d := .array 20 46) (zs := zerosL) 11 11 _ Tryd.func44 rfl rfl (by kernel_rfl) (fun p V => by kernel_rfl) rfl rfl rfl rfl list_under rfl (by rw [list_info]; kernel_rfl) (by kernel_rfl) (by kernel_rfl)
theorem comparisons_enters (args : Array Value) (w : World) : (callFunc 44 args).run Tryd.prog w = .ok (.enter 44 args) w := enters_of Tryd.func44 (by kernel_rfl) rfl args w
theorem operators_calls (w : World) : Calls Tryd.prog 45 #[] w fun e W => e = .returned (listVC operatorsC) ∧ W = w.alloc (.cells (listCC operatorsC).toArray 49) :=
  calls_row (d := .array 20 46) (zs := zerosL) 9 9 _ Tryd.func45 rfl rfl (by kernel_rfl) (fun p V => by kernel_rfl) rfl rfl rfl rfl list_under rfl (by rw [list_info]; kernel_rfl) (by kernel_rfl) (by kernel_rfl)
theorem operators_enters (args : Array Value) (w : World) : (callFunc 45 args).run Tryd.prog w = .ok (.enter 45 args) w := enters_of Tryd.func45 (by kernel_rfl) rfl args w
theorem conversions_calls (w : World) : Calls Tryd.prog 46 #[] w fun e W => e = .returned (listVC conversionsC) ∧ W = w.alloc (.cells (listCC conversionsC).toArray 49) :=
  calls_row (d := .array 20 46) (zs := zerosL) 19 19 _ Tryd.func46 rfl rfl (by kernel_rfl) (fun p V => by kernel_rfl) rfl rfl rfl rfl list_under rfl (by rw [list_info]; kernel_rfl) (by kernel_rfl) (by kernel_rfl)
theorem conversions_enters (args : Array Value) (w : World) : (callFunc 46 args).run Tryd.prog w = .ok (.enter 46 args) w := enters_of Tryd.func46 (by kernel_rfl) rfl args w
theorem references_calls (w : World) : Calls Tryd.prog 47 #[] w fun e W => e = .returned (listVC referencesC) ∧ W = w.alloc (.cells (listCC referencesC).toArray 49) :=
  calls_row (d := .array 20 46) (zs := zerosL) 4 4 _ Tryd.func47 rfl rfl (by kernel_rfl) (fun p V => by kernel_rfl) rfl rfl rfl rfl list_under rfl (by rw [list_info]; kernel_rfl) (by kernel_rfl) (by kernel_rfl)
theorem references_enters (args : Array Value) (w : World) : (callFunc 47 args).run Tryd.prog w = .ok (.enter 47 args) w := enters_of Tryd.func47 (by kernel_rfl) rfl args w
theorem heldCuts_calls (w : World) : Calls Tryd.prog 48 #[] w fun e W => e = .returned (listVC heldCutsC) ∧ W = w.alloc (.cells (listCC heldCutsC).toArray 49) :=
  calls_row (d := .array 20 46) (zs := zerosL) 5 5 _ Tryd.func48 rfl rfl (by kernel_rfl) (fun p V => by kernel_rfl) rfl rfl rfl rfl list_under rfl (by rw [list_info]; kernel_rfl) (by kernel_rfl) (by kernel_rfl)
theorem heldCuts_enters (args : Array Value) (w : World) : (callFunc 48 args).run Tryd.prog w = .ok (.enter 48 args) w := enters_of Tryd.func48 (by kernel_rfl) rfl args w
theorem bulks_calls (w : World) : Calls Tryd.prog 49 #[] w fun e W => e = .returned (listVC bulksC) ∧ W = w.alloc (.cells (listCC bulksC).toArray 49) :=
  calls_row (d := .array 20 46) (zs := zerosL) 9 9 _ Tryd.func49 rfl rfl (by kernel_rfl) (fun p V => by kernel_rfl) rfl rfl rfl rfl list_under rfl (by rw [list_info]; kernel_rfl) (by kernel_rfl) (by kernel_rfl)
theorem bulks_enters (args : Array Value) (w : World) : (callFunc 49 args).run Tryd.prog w = .ok (.enter 49 args) w := enters_of Tryd.func49 (by kernel_rfl) rfl args w
theorem vectorPlaces_calls (w : World) : Calls Tryd.prog 50 #[] w fun e W => e = .returned (listVC vectorPlacesC) ∧ W = w.alloc (.cells (listCC vectorPlacesC).toArray 49) :=
  calls_row (d := .array 20 46) (zs := zerosL) 8 8 _ Tryd.func50 rfl rfl (by kernel_rfl) (fun p V => by kernel_rfl) rfl rfl rfl rfl list_under rfl (by rw [list_info]; kernel_rfl) (by kernel_rfl) (by kernel_rfl)
theorem vectorPlaces_enters (args : Array Value) (w : World) : (callFunc 50 args).run Tryd.prog w = .ok (.enter 50 args) w := enters_of Tryd.func50 (by kernel_rfl) rfl args w
theorem laneMoves_calls (w : World) : Calls Tryd.prog 51 #[] w fun e W => e = .returned (listVC laneMovesC) ∧ W = w.alloc (.cells (listCC laneMovesC).toArray 49) :=
  calls_row (d := .array 20 46) (zs := zerosL) 20 20 _ Tryd.func51 rfl rfl (by kernel_rfl) (fun p V => by kernel_rfl) rfl rfl rfl rfl list_under rfl (by rw [list_info]; kernel_rfl) (by kernel_rfl) (by kernel_rfl)
theorem laneMoves_enters (args : Array Value) (w : World) : (callFunc 51 args).run Tryd.prog w = .ok (.enter 51 args) w := enters_of Tryd.func51 (by kernel_rfl) rfl args w
theorem vectorComparisons_calls (w : World) : Calls Tryd.prog 52 #[] w fun e W => e = .returned (listVC vectorComparisonsC) ∧ W = w.alloc (.cells (listCC vectorComparisonsC).toArray 49) :=
  calls_row (d := .array 20 46) (zs := zerosL) 10 10 _ Tryd.func52 rfl rfl (by kernel_rfl) (fun p V => by kernel_rfl) rfl rfl rfl rfl list_under rfl (by rw [list_info]; kernel_rfl) (by kernel_rfl) (by kernel_rfl)
theorem vectorComparisons_enters (args : Array Value) (w : World) : (callFunc 52 args).run Tryd.prog w = .ok (.enter 52 args) w := enters_of Tryd.func52 (by kernel_rfl) rfl args w
theorem lanePlaces_calls (w : World) : Calls Tryd.prog 53 #[] w fun e W => e = .returned (listVC lanePlacesC) ∧ W = w.alloc (.cells (listCC lanePlacesC).toArray 49) :=
  calls_row (d := .array 20 46) (zs := zerosL) 11 11 _ Tryd.func53 rfl rfl (by kernel_rfl) (fun p V => by kernel_rfl) rfl rfl rfl rfl list_under rfl (by rw [list_info]; kernel_rfl) (by kernel_rfl) (by kernel_rfl)
theorem lanePlaces_enters (args : Array Value) (w : World) : (callFunc 53 args).run Tryd.prog w = .ok (.enter 53 args) w := enters_of Tryd.func53 (by kernel_rfl) rfl args w
theorem lanes8_calls (w : World) : Calls Tryd.prog 54 #[] w fun e W => e = .returned (listVC lanes8C) ∧ W = w.alloc (.cells (listCC lanes8C).toArray 49) :=
  calls_row (d := .array 20 46) (zs := zerosL) 14 14 _ Tryd.func54 rfl rfl (by kernel_rfl) (fun p V => by kernel_rfl) rfl rfl rfl rfl list_under rfl (by rw [list_info]; kernel_rfl) (by kernel_rfl) (by kernel_rfl)
theorem lanes8_enters (args : Array Value) (w : World) : (callFunc 54 args).run Tryd.prog w = .ok (.enter 54 args) w := enters_of Tryd.func54 (by kernel_rfl) rfl args w
theorem lanes16_calls (w : World) : Calls Tryd.prog 55 #[] w fun e W => e = .returned (listVC lanes16C) ∧ W = w.alloc (.cells (listCC lanes16C).toArray 49) :=
  calls_row (d := .array 20 46) (zs := zerosL) 13 13 _ Tryd.func55 rfl rfl (by kernel_rfl) (fun p V => by kernel_rfl) rfl rfl rfl rfl list_under rfl (by rw [list_info]; kernel_rfl) (by kernel_rfl) (by kernel_rfl)
theorem lanes16_enters (args : Array Value) (w : World) : (callFunc 55 args).run Tryd.prog w = .ok (.enter 55 args) w := enters_of Tryd.func55 (by kernel_rfl) rfl args w
theorem lanes32_calls (w : World) : Calls Tryd.prog 56 #[] w fun e W => e = .returned (listVC lanes32C) ∧ W = w.alloc (.cells (listCC lanes32C).toArray 49) :=
  calls_row (d := .array 20 46) (zs := zerosL) 10 10 _ Tryd.func56 rfl rfl (by kernel_rfl) (fun p V => by kernel_rfl) rfl rfl rfl rfl list_under rfl (by rw [list_info]; kernel_rfl) (by kernel_rfl) (by kernel_rfl)
theorem lanes32_enters (args : Array Value) (w : World) : (callFunc 56 args).run Tryd.prog w = .ok (.enter 56 args) w := enters_of Tryd.func56 (by kernel_rfl) rfl args w
theorem lanes64_calls (w : World) : Calls Tryd.prog 57 #[] w fun e W => e = .returned (listVC lanes64C) ∧ W = w.alloc (.cells (listCC lanes64C).toArray 49) :=
  calls_row (d := .array 20 46) (zs := zerosL) 10 10 _ Tryd.func57 rfl rfl (by kernel_rfl) (fun p V => by kernel_rfl) rfl rfl rfl rfl list_under rfl (by rw [list_info]; kernel_rfl) (by kernel_rfl) (by kernel_rfl)
theorem lanes64_enters (args : Array Value) (w : World) : (callFunc 57 args).run Tryd.prog w = .ok (.enter 57 args) w := enters_of Tryd.func57 (by kernel_rfl) rfl args w
theorem floatLanes_calls (w : World) : Calls Tryd.prog 58 #[] w fun e W => e = .returned (listVC floatLanesC) ∧ W = w.alloc (.cells (listCC floatLanesC).toArray 49) :=
  calls_row (d := .array 20 46) (zs := zerosL) 11 11 _ Tryd.func58 rfl rfl (by kernel_rfl) (fun p V => by kernel_rfl) rfl rfl rfl rfl list_under rfl (by rw [list_info]; kernel_rfl) (by kernel_rfl) (by kernel_rfl)
theorem floatLanes_enters (args : Array Value) (w : World) : (callFunc 58 args).run Tryd.prog w = .ok (.enter 58 args) w := enters_of Tryd.func58 (by kernel_rfl) rfl args w
/-- The function that answers span i's families. -/
def fnOf : List FuncId := [42, 43, 44, 45, 46, 47, 48, 49, 50, 51, 52, 53, 54, 55, 56, 57, 58]
def fnAt (i : Nat) : FuncId := fnOf[i]?.getD 0
def spanCC (i : Nat) : List Value := [.int .u16 ((spanAt i).1 : Int), .bool (spanAt i).2.2, .func (.func (fnAt i)) #[] #[]]
def spanVC (i : Nat) : Value := .agg (spanCC i).toArray
def spansCC : List Value := (List.range 17).flatMap spanCC
def zerosS : Array Value := ((List.range 17).flatMap fun _ => [Value.int .u16 0, .bool false, .nilFunc]).toArray
theorem spans_calls (w : World) : Calls Tryd.prog 25 #[] w fun e W => e = .returned (.agg spansCC.toArray) ∧ W = w.alloc (.cells spansCC.toArray 64) :=
  calls_row (d := .array 17 43) (zs := zerosS) 18 18 _ Tryd.func25 rfl rfl (by kernel_rfl) (fun p V => by kernel_rfl) rfl rfl rfl rfl Tryd.underlying64 rfl (by kernel_rfl) (by kernel_rfl) (by kernel_rfl)
theorem fam_at {i : Nat} (hi : i < 17) (w : World) : Calls Tryd.prog (fnAt i) #[] w fun e W => e = .returned (listVC (spanAt i).2.1) ∧ W = w.alloc (.cells (listCC (spanAt i).2.1).toArray 49) := by
  match i, hi with
  | 0, _ => exact controls_calls w
  | 1, _ => exact places_calls w
  | 2, _ => exact comparisons_calls w
  | 3, _ => exact operators_calls w
  | 4, _ => exact conversions_calls w
  | 5, _ => exact references_calls w
  | 6, _ => exact heldCuts_calls w
  | 7, _ => exact bulks_calls w
  | 8, _ => exact vectorPlaces_calls w
  | 9, _ => exact laneMoves_calls w
  | 10, _ => exact vectorComparisons_calls w
  | 11, _ => exact lanePlaces_calls w
  | 12, _ => exact lanes8_calls w
  | 13, _ => exact lanes16_calls w
  | 14, _ => exact lanes32_calls w
  | 15, _ => exact lanes64_calls w
  | 16, _ => exact floatLanes_calls w
  | n + 17, h => exact absurd h (by omega)
theorem fam_enters {i : Nat} (hi : i < 17) (args : Array Value) (w : World) : (callFunc (fnAt i) args).run Tryd.prog w = .ok (.enter (fnAt i) args) w := by
  match i, hi with
  | 0, _ => exact controls_enters args w
  | 1, _ => exact places_enters args w
  | 2, _ => exact comparisons_enters args w
  | 3, _ => exact operators_enters args w
  | 4, _ => exact conversions_enters args w
  | 5, _ => exact references_enters args w
  | 6, _ => exact heldCuts_enters args w
  | 7, _ => exact bulks_enters args w
  | 8, _ => exact vectorPlaces_enters args w
  | 9, _ => exact laneMoves_enters args w
  | 10, _ => exact vectorComparisons_enters args w
  | 11, _ => exact lanePlaces_enters args w
  | 12, _ => exact lanes8_enters args w
  | 13, _ => exact lanes16_enters args w
  | 14, _ => exact lanes32_enters args w
  | 15, _ => exact lanes64_enters args w
  | 16, _ => exact floatLanes_enters args w
  | n + 17, h => exact absurd h (by omega)
end Go.Proofs.YthggbimnjneeaaaDoor
