/-
  The document's words, types, numbers over lists of letters (what the kernel can reckon).
-/
import Derived.Test.YthggbimnjneeaaaDoorOpsTy
import Derived.Test.YthggbimnjneeaaaDoorOpsFamD
set_option linter.unusedVariables false
set_option maxRecDepth 100000
set_option linter.unusedSimpArgs false
namespace Go.Proofs.YthggbimnjneeaaaDoor
open Go.RowKit Opp

def Let (l : List Nat) : Prop := ∀ x ∈ l, x < 256
theorem str_size (l : List Nat) : (str l).size = l.length := by simp [str, ByteArray.size]
theorem str_get {l : List Nat} (hl : Let l) {k : Nat} (h : k < (str l).size) : ((str l)[k]'h).toNat = l[k]?.getD 0 := by
  have hk : k < l.length := by rwa [str_size] at h
  have e : (str l)[k]'h = Nat.toUInt8 (l[k]'hk) := by
    show ((l.map Nat.toUInt8).toArray)[k]'(by simpa using hk) = _
    simp only [List.getElem_toArray, List.getElem_map]
  rw [e, List.getElem?_eq_getElem hk, Option.getD_some]
  have hb := hl _ (List.getElem_mem hk)
  simp [Nat.toUInt8, UInt8.ofNat, UInt8.toNat, BitVec.toNat_ofNat]
  omega
theorem str_chr {l : List Nat} (hl : Let l) (k : Nat) : chr (str l) k = l[k]?.getD 0 := by
  unfold chr
  by_cases h : k < (str l).size
  · rw [dif_pos h, str_get hl h]
  · rw [dif_neg h, List.getElem?_eq_none (by rw [str_size] at h; omega)]
    rfl
theorem str_extract (l : List Nat) (a b : Nat) : (str l).extract a b = str ((l.drop a).take (b - a)) := by
  apply ByteArray.ext
  simp only [str, ByteArray.extract_mk]
  apply Array.ext'
  simp [List.extract_eq_take_drop]
theorem str_append (a b : List Nat) : str a ++ str b = str (a ++ b) := by
  unfold str
  rw [ByteArray.mk_append_mk]
  simp
theorem str_inj {a b : List Nat} (ha : Let a) (hb : Let b) (h : str a = str b) : a = b := by
  have hn : a.length = b.length := by rw [← str_size, ← str_size, h]
  apply List.ext_getElem hn
  intro k h1 h2
  have e1 := str_chr ha k
  have e2 := str_chr hb k
  rw [h, e2, List.getElem?_eq_getElem h1, List.getElem?_eq_getElem h2] at e1
  exact e1.symm

/-- Words: what is left, and the one that is begun. -/
def wGo : List Nat → List Nat → List (List Nat)
  | [], cur => if cur = [] then [] else [cur]
  | c :: t, cur => if c = 32 then (if cur = [] then wGo t [] else cur :: wGo t []) else wGo t (cur ++ [c])
def wordsL (l : List Nat) : List (List Nat) := wGo l []

theorem words_go {l : List Nat} (hl : Let l) : ∀ (d k : Nat), l.length - k = d → k ≤ l.length →
    wordsOf (str l) = (wTo (str l) k).1 ++ (wGo (l.drop k) ((l.drop (wTo (str l) k).2).take (k - (wTo (str l) k).2))).map str := by
  intro d
  induction d with
  | zero =>
    intro k hd hk
    obtain rfl : k = l.length := by omega
    have hf := (wTo_len (str l) l.length).2
    have hnb : ∀ h : l.length < (str l).size, ((str l)[l.length]'h).toNat = 32 := fun h => by rw [str_size] at h; omega
    unfold wordsOf
    rw [str_size, wTo_break hnb, List.drop_length]
    generalize (wTo (str l) l.length).1 = L
    generalize (wTo (str l) l.length).2 = f at hf ⊢
    by_cases c : f < l.length
    · have hne : (l.drop f).take (l.length - f) ≠ [] := by
        intro e
        have := congrArg List.length e
        simp at this
        omega
      rw [if_pos c, str_extract]
      simp only [wGo]
      rw [if_neg hne]
      rfl
    · rw [if_neg c]
      have he : (l.drop f).take (l.length - f) = [] := List.eq_nil_of_length_eq_zero (by simp; omega)
      simp only [wGo]
      rw [if_pos he]
      simp
  | succ d ih =>
    intro k hd hk
    have hk' : k < l.length := by omega
    have hks : k < (str l).size := by rw [str_size]; exact hk'
    have hf := (wTo_len (str l) k).2
    have hg := str_get hl hks
    rw [List.getElem?_eq_getElem hk', Option.getD_some] at hg
    rw [ih (k + 1) (by omega) (by omega), List.drop_eq_getElem_cons hk']
    by_cases c : l[k] = 32
    · rw [wTo_break (fun h => by rw [hg, c])]
      generalize (wTo (str l) k).1 = L
      generalize (wTo (str l) k).2 = f at hf ⊢
      simp only [Nat.sub_self, List.take_zero]
      simp only [wGo]
      rw [if_pos c]
      by_cases c2 : f < k
      · have hne : (l.drop f).take (k - f) ≠ [] := by
          intro e
          have := congrArg List.length e
          simp at this
          omega
        rw [if_pos c2, if_neg hne, str_extract]
        simp
      · rw [if_neg c2]
        have he : (l.drop f).take (k - f) = [] := List.eq_nil_of_length_eq_zero (by simp; omega)
        rw [if_pos he]
    · rw [wTo_letter hks (by rw [hg]; exact c)]
      generalize (wTo (str l) k).1 = L
      generalize (wTo (str l) k).2 = f at hf ⊢
      have e : (l.drop f).take (k + 1 - f) = (l.drop f).take (k - f) ++ [l[k]] := by
        rw [show k + 1 - f = (k - f) + 1 by omega, List.take_add_one, List.getElem?_drop, show f + (k - f) = k by omega, List.getElem?_eq_getElem hk']
        rfl
      rw [e]
      congr 2
      show _ = wGo (l[k] :: l.drop (k + 1)) _
      simp only [wGo]
      rw [if_neg c]
theorem words_str {l : List Nat} (hl : Let l) : wordsOf (str l) = (wordsL l).map str := by
  have := words_go hl l.length 0 (by omega) (by omega)
  simpa [wTo, wordsL] using this

def typesL (l : List Nat) : List Int := l.flatMap tyC
theorem tyTo_str {l : List Nat} (hl : Let l) : ∀ k, k ≤ l.length → tyTo (str l) k = typesL (l.take k)
  | 0, _ => by simp [tyTo, typesL]
  | k + 1, hk => by
    simp only [tyTo]
    rw [tyTo_str hl k (by omega), str_chr hl, List.getElem?_eq_getElem (by omega), Option.getD_some, List.take_add_one, List.getElem?_eq_getElem (by omega)]
    simp only [typesL, List.flatMap_append, Option.toList, List.flatMap_cons, List.flatMap_nil, List.append_nil]
theorem types_str {l : List Nat} (hl : Let l) : typesOf (str l) = typesL l := by
  unfold typesOf
  rw [str_size, tyTo_str hl l.length (Nat.le_refl _), List.take_length]
def numL (l : List Nat) : Nat := l.foldl (fun n c => 10 * n + (c - 48)) 0
theorem numTo_str {l : List Nat} (hl : Let l) : ∀ k, k ≤ l.length → numTo (str l) k = numL (l.take k)
  | 0, _ => by simp [numTo, numL]
  | k + 1, hk => by
    simp only [numTo]
    rw [numTo_str hl k (by omega), str_chr hl, List.getElem?_eq_getElem (by omega), Option.getD_some, List.take_add_one, List.getElem?_eq_getElem (by omega)]
    simp only [numL, List.foldl_append, Option.toList, List.foldl_cons, List.foldl_nil]
theorem num_str {l : List Nat} (hl : Let l) : numOf (str l) = numL l := by
  unfold numOf
  rw [str_size, numTo_str hl l.length (Nat.le_refl _), List.take_length]
def eachL (l : List Nat) (i : Nat) : List Nat := if (wordsL l).length = 1 then (wordsL l)[0]?.getD [] else (wordsL l)[i]?.getD []
theorem str_nil : str [] = ⟨#[]⟩ := rfl
theorem each_str {l : List Nat} (hl : Let l) (i : Nat) : eachOf (str l) i = str (eachL l i) := by
  unfold eachOf eachL
  rw [words_str hl, List.length_map]
  have h : ∀ k, ((wordsL l).map str)[k]?.getD ⟨#[]⟩ = str ((wordsL l)[k]?.getD []) := fun k => by
    rw [List.getElem?_map]
    cases (wordsL l)[k]? <;> rfl
  split
  · exact h 0
  · exact h i
end Go.Proofs.YthggbimnjneeaaaDoor
