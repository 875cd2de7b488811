/-
  What follows of the table of instructions.
-/
import Derived.Test.YthggbimnjneeaaaDoorOpsDat
set_option linter.unusedVariables false
set_option maxRecDepth 100000
set_option linter.unusedSimpArgs false
namespace Go.Proofs.YthggbimnjneeaaaDoor
open Go.RowKit Opp

theorem hitD_some {o : Nat} {f : Fam} {R : InfoD} (h : hitD o f = some R) : f.first ≤ o ∧ o - f.first < (wordsL f.names).length ∧ R = infoD f (o - f.first) := by
  unfold hitD at h
  split at h
  · cases h
  · rename_i c
    split at h
    · rename_i c2
      injection h with h
      exact ⟨by omega, c2, h.symm⟩
    · cases h
theorem ofD_mem {o : Nat} {R : InfoD} (h : ofD o = some R) : R ∈ rowsD ∧ R.op = o := by
  unfold ofD at h
  obtain ⟨l1, f, l2, he, hh, _⟩ := List.findSome?_eq_some_iff.1 h
  obtain ⟨h1, h2, h3⟩ := hitD_some hh
  subst h3
  refine ⟨?_, ?_⟩
  · unfold rowsD
    refine List.mem_flatMap.2 ⟨f, by rw [he]; simp, ?_⟩
    exact List.mem_map.2 ⟨o - f.first, List.mem_range.2 h2, rfl⟩
  · show f.first + (o - f.first) = o
    omega
theorem ofD_of {R : InfoD} (h : R ∈ rowsD) : ofD R.op = some R := of_decide_eq_true (List.all_eq_true.1 rows_of R h)
theorem row_let {R : InfoD} (h : R ∈ rowsD) : Let R.name ∧ R.name.length ≤ 100 ∧ 0 < R.name.length := by
  have := List.all_eq_true.1 rows_let R h
  simp only [Bool.and_eq_true, decide_eq_true_eq] at this
  exact ⟨letB_let this.1.1, this.1.2, this.2⟩
theorem unlike_of : ∀ {l : List InfoD}, unlikeB l = true → ∀ {a b : InfoD}, a ∈ l → b ∈ l → a.name = b.name → a = b
  | [], _, a, b, ha, _, _ => by simp at ha
  | r :: l, h, a, b, ha, hb, hn => by
    simp only [unlikeB, Bool.and_eq_true] at h
    have other : ∀ q ∈ l, q.name ≠ r.name := fun q hq e => by
      have := List.all_eq_true.1 h.1 q hq
      rw [(eqL_iff q.name r.name).2 e] at this
      cases this
    rcases List.mem_cons.1 ha with har | ha
    · rcases List.mem_cons.1 hb with hbr | hb
      · rw [har, hbr]
      · exact absurd (by rw [← hn, har]) (other b hb)
    · rcases List.mem_cons.1 hb with hbr | hb
      · exact absurd (by rw [hn, hbr]) (other a ha)
      · exact unlike_of h.2 ha hb hn
theorem row_unlike {a b : InfoD} (ha : a ∈ rowsD) (hb : b ∈ rowsD) (h : str a.name = str b.name) : a = b :=
  unlike_of rows_unlike ha hb (str_inj (row_let ha).1 (row_let hb).1 h)
theorem namedD_of {R : InfoD} (h : R ∈ rowsD) : namedD (str R.name) = some R.op := by
  unfold namedD
  cases hf : rowsD.find? (fun r => decide (str r.name = str R.name)) with
  | none =>
    have := List.find?_eq_none.1 hf R h
    simp at this
  | some q =>
    have h1 := List.find?_some hf
    have h2 := List.mem_of_find?_eq_some hf
    have := row_unlike h2 h (of_decide_eq_true h1)
    subst this
    rfl
theorem namedD_some {s : ByteArray} {o : Nat} : namedD s = some o ↔ ∃ R ∈ rowsD, str R.name = s ∧ R.op = o := by
  constructor
  · intro h
    unfold namedD at h
    obtain ⟨q, hq, rfl⟩ := Option.map_eq_some_iff.1 h
    have h1 := List.find?_some hq
    exact ⟨q, List.mem_of_find?_eq_some hq, of_decide_eq_true h1, rfl⟩
  · rintro ⟨R, hR, rfl, rfl⟩
    exact namedD_of hR
theorem mem_allOps (o : Nat) : o ∈ allOps ↔ (ofD o).isSome = true := by
  constructor
  · exact fun h => List.all_eq_true.1 ops_of o h
  · intro h
    obtain ⟨R, hR⟩ := Option.isSome_iff_exists.1 h
    obtain ⟨h1, rfl⟩ := ofD_mem hR
    exact (memB_iff _ _).1 (List.all_eq_true.1 ops_in R h1)
theorem rises_at : ∀ {l : List Nat}, risesB l = true → ∀ {i : Nat}, i + 1 < l.length → l[i]?.getD 0 < l[i + 1]?.getD 0
  | [], _, i, h => by simp at h
  | [a], _, i, h => by simp at h
  | a :: b :: l, hr, i, h => by
    simp only [risesB, Bool.and_eq_true, decide_eq_true_eq] at hr
    cases i with
    | zero => simpa using hr.1
    | succ i => simpa using rises_at (l := b :: l) hr.2 (i := i) (by simpa using h)

/-- A row's parts, where there is one; else nothing. -/
theorem ofR_some {o : Nat} {R : InfoD} (h : ofD o = some R) : ofR o = R ∧ ofE o = 0 := by
  unfold ofR ofE
  rw [h]
  exact ⟨rfl, rfl⟩
theorem ofR_none {o : Nat} (h : ofD o = none) : ofR o = zeroD ∧ ofE o = 11 := by
  unfold ofR ofE
  rw [h]
  exact ⟨rfl, rfl⟩
end Go.Proofs.YthggbimnjneeaaaDoor
