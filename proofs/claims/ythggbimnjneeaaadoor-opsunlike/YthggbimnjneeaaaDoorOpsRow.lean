/-
  The document's rows, as data; its info at each place.
-/
import Derived.Test.YthggbimnjneeaaaDoorOpsInfo
import Derived.Test.YthggbimnjneeaaaDoorOpsMath
set_option linter.unusedVariables false
set_option maxRecDepth 100000
set_option linter.unusedSimpArgs false
namespace Go.Proofs.YthggbimnjneeaaaDoor
open Go.RowKit Opp

namespace Opp
structure InfoD where
  op : Nat
  name : List Nat
  imm : Nat
  fr : List Int
  to : List Int
  bits : Nat
  plain : Bool
deriving DecidableEq
end Opp
def cutOf (l : List Nat) : Nat := l.findIdx (· == 58)
def nameAt (f : Fam) (n : Nat) : List Nat := (wordsL f.names)[n]?.getD []
def infoD (f : Fam) (n : Nat) : InfoD :=
  ⟨f.first + n, f.ahead ++ nameAt f n, f.imm, typesL ((eachL f.types n).take (cutOf (eachL f.types n))), typesL ((eachL f.types n).drop (cutOf (eachL f.types n) + 1)), numL (eachL f.bits n), f.plain⟩
def letB (l : List Nat) : Bool := l.all (fun c => decide (c < 256))
theorem letB_let {l : List Nat} (h : letB l = true) : Let l := fun x hx => by
  have := List.all_eq_true.1 h x hx
  exact of_decide_eq_true this
def goodB (f : Fam) (n : Nat) : Bool :=
  letB f.ahead && (letB (nameAt f n) && (letB f.types && (letB f.bits && (letB (eachL f.types n) && (letB (eachL f.bits n) && (decide (f.first + n < 65536) && (decide (f.ahead.length + (nameAt f n).length ≤ 1000) &&
  (decide (cutOf (eachL f.types n) < (eachL f.types n).length) && (decide ((eachL f.types n).length ≤ 1000) && (decide (f.types.length ≤ 1000) && (decide (f.bits.length ≤ 1000) &&
  (((wordsL f.types).length == 1 || decide (n < (wordsL f.types).length)) && (((wordsL f.bits).length == 1 || decide (n < (wordsL f.bits).length)) && (decide ((eachL f.bits n).length ≤ 4) && ((eachL f.bits n).all (fun c => decide (48 ≤ c) && decide (c ≤ 57)) && decide (n < 1000))))))))))))))))
theorem good_all : (allF.flatten.all fun f => (List.range (wordsL f.names).length).all fun n => goodB f n) = true := by kernel_rfl
theorem good_at {f : Fam} (hf : f ∈ allF.flatten) {n : Nat} (hn : n < (wordsL f.names).length) : goodB f n = true :=
  List.all_eq_true.1 (List.all_eq_true.1 good_all f hf) n (List.mem_range.2 hn)
theorem str_let_chr {l : List Nat} (h : letB l = true) (k : Nat) : chr (str l) k = l[k]?.getD 0 := str_chr (letB_let h) k

/-- What the document's info answers. -/
def InfoPost (R : InfoD) (w : World) (e : Ending) (w' : World) : Prop :=
  ∃ v1 v2, e = .returned (.agg #[.int .u16 (R.op : Int), .string (str R.name), .int .u8 (R.imm : Int), v1, v2, .int .i64 (R.bits : Int), .bool R.plain]) ∧ OwnY w' w.heap.size v1 R.fr ∧ OwnY w' w.heap.size v2 R.to ∧ Below w.heap.size w w'

theorem rinfo_calls {f : Fam} (hf : f ∈ allF.flatten) {n : Nat} (hn : n < (wordsL f.names).length) (W : World) :
    Calls Tryd.prog 23 #[famV f, .string (str (nameAt f n)), .int .i64 (n : Int)] W fun e W' => InfoPost (infoD f n) W e W' := by
  have g := good_at hf hn
  unfold goodB at g
  simp only [Bool.and_eq_true, Bool.or_eq_true, decide_eq_true_eq, beq_iff_eq] at g
  obtain ⟨ga, gn, gt, gb, gte, gbe, g1, g2, g3, g4, g5, g6, g7, g8, g9, g10, g11⟩ := g
  have hx : IntKind.u16.wrap (n : Int) = (n : Int) := by show ((n : Int) % 65536) = _; omega
  have ho : IntKind.u16.wrap ((f.first : Int) + (n : Int)) = ((f.first + n : Nat) : Int) := by show (((f.first : Int) + (n : Int)) % 65536) = _; omega
  have hdig : digits (str (eachL f.bits n)) := by
    refine ⟨by rw [str_size]; exact g9, fun k hk => ?_⟩
    rw [str_let_chr gbe]
    rw [str_size] at hk
    rw [List.getElem?_eq_getElem hk, Option.getD_some]
    have := List.all_eq_true.1 g10 _ (List.getElem_mem hk)
    simp only [Bool.and_eq_true, decide_eq_true_eq] at this
    exact this
  have hcut : chr (str (eachL f.types n)) (cutOf (eachL f.types n)) = 58 := by
    rw [str_let_chr gte, List.getElem?_eq_getElem g3, Option.getD_some]
    have := List.findIdx_getElem (p := (· == 58)) (w := g3)
    exact eq_of_beq this
  have hne : ∀ k, k < cutOf (eachL f.types n) → chr (str (eachL f.types n)) k ≠ 58 := by
    intro k hk
    rw [str_let_chr gte, List.getElem?_eq_getElem (by omega), Option.getD_some]
    have := List.not_of_lt_findIdx (p := (· == 58)) (xs := eachL f.types n) hk
    intro e
    rw [e] at this
    exact absurd this (by decide)
  have hEt : ∀ W', Calls Tryd.prog 39 #[.string (str f.types), .int .i64 (n : Int)] W' fun e W'' => e = .returned (.string (str (eachL f.types n))) ∧ Below W'.heap.size W' W'' := by
    intro W'
    have := reach_calls (str f.types) n (by rw [str_size]; omega) (by rw [words_str (letB_let gt), List.length_map]; exact g7) W'
    rw [each_str (letB_let gt)] at this
    exact this
  have hEb : ∀ W', Calls Tryd.prog 39 #[.string (str f.bits), .int .i64 (n : Int)] W' fun e W'' => e = .returned (.string (str (eachL f.bits n))) ∧ Below W'.heap.size W' W'' := by
    intro W'
    have := reach_calls (str f.bits) n (by rw [str_size]; omega) (by rw [words_str (letB_let gb), List.length_map]; exact g8) W'
    rw [each_str (letB_let gb)] at this
    exact this
  have lt1 : Let ((eachL f.types n).take (cutOf (eachL f.types n))) := fun x hx => letB_let gte x (List.mem_of_mem_take hx)
  have lt2 : Let ((eachL f.types n).drop (cutOf (eachL f.types n) + 1)) := fun x hx => letB_let gte x (List.mem_of_mem_drop hx)
  have hT1 : ∀ W', Calls Tryd.prog 40 #[.string (str ((eachL f.types n).take (cutOf (eachL f.types n))))] W' fun e W'' => ∃ v, e = .returned v ∧ OwnY W'' W'.heap.size v (infoD f n).fr ∧ Below W'.heap.size W' W'' := by
    intro W'
    have := rtypes_calls (str ((eachL f.types n).take (cutOf (eachL f.types n)))) (by rw [str_size]; simp; omega) W'
    rw [types_str lt1] at this
    exact this
  have hT2 : ∀ W', Calls Tryd.prog 40 #[.string (str ((eachL f.types n).drop (cutOf (eachL f.types n) + 1)))] W' fun e W'' => ∃ v, e = .returned v ∧ OwnY W'' W'.heap.size v (infoD f n).to ∧ Below W'.heap.size W' W'' := by
    intro W'
    have := rtypes_calls (str ((eachL f.types n).drop (cutOf (eachL f.types n) + 1))) (by rw [str_size]; simp; omega) W'
    rw [types_str lt2] at this
    exact this
  have hN : ∀ W', Calls Tryd.prog 41 #[.string (str (eachL f.bits n))] W' fun e W'' => e = .returned (.int .i64 ((infoD f n).bits : Int)) ∧ Below W'.heap.size W' W'' := by
    intro W'
    have := (rnumber_calls (str (eachL f.bits n)) hdig W').mono fun e W'' h => (⟨h.1, by rw [h.2]; exact Below.refl _ _⟩ : e = .returned (.int .i64 (numOf (str (eachL f.bits n)) : Int)) ∧ Below W'.heap.size W' W'')
    rw [num_str (letB_let gbe)] at this
    exact this
  exact rinfo_walk (f.first : Int) (n : Int) _ (f.imm : Int) _ (str f.ahead) (str f.names) (str f.types) (str (nameAt f n)) _ (str (eachL f.types n)) _ _ (str f.bits) (str (eachL f.bits n))
    (cutOf (eachL f.types n)) (cutOf (eachL f.types n) + 1) _ _ f.plain W hx ho (by rw [str_size, str_size]; omega) (str_append _ _) (by rw [str_size]; exact g3)
    (by rw [str_extract]) (by unfold wrap64; omega) (by rw [str_size]; omega) (by rw [str_extract, str_size, List.take_of_length_le (by simp)]) hcut hne (by rw [str_size]; omega) hEt hEb
    (by simpa using hT1) hT2 hN
end Go.Proofs.YthggbimnjneeaaaDoor
