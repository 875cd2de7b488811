/-
  The document's list of values' types.
-/
import Derived.Test.YteacjhmbamcegabTypReads
import Derived.Test.YteacjhmbamcegabLebPuts
set_option linter.unusedVariables false
set_option linter.unusedSimpArgs false
namespace Go.Proofs.Yteacjhmbamcegab
open Go.RowKit Typ

theorem listAt_err {l : List Int} {p x : Int} (hx : x = 2 ∨ x = 4) (h : Leb.readU l p 32 = (0, 0, x)) : listAt l p = ([], 0, x) := by
  unfold listAt
  rw [rowAt_err hx h]
  simp only
  rw [if_pos (by omega)]
theorem listAt_short {l : List Int} {p : Int} {N f : Nat} (h : Leb.readU l p 32 = ((N : Int), (f : Int), 0)) (hs : l.length < f + N) (hf : f ≤ l.length) : listAt l p = ([], 0, 4) := by
  unfold listAt
  rw [rowAt_short h hs hf]
  simp
theorem take_get {l : List Int} {f N i : Nat} (hi : i < N) (hs : f + N ≤ l.length) : ((l.drop f).take N)[i]? = some (l[f + i]?.getD 0) := by
  rw [List.getElem?_take, if_pos hi, List.getElem?_drop, List.getElem?_eq_getElem (by omega)]
  rfl
theorem all_take {l : List Int} {f N : Nat} (hs : f + N ≤ l.length) : ((l.drop f).take N).all isT = true ↔ ∀ i, i < N → isT (l[f + i]?.getD 0) = true := by
  rw [List.all_eq_true]
  constructor
  · intro h i hi
    exact h _ (List.mem_of_getElem? (take_get hi hs))
  · intro h x hx
    obtain ⟨i, hi⟩ := List.mem_iff_getElem?.1 hx
    have hlt : i < N := by
      have := (List.getElem?_eq_some_iff.1 hi).1
      simp at this
      omega
    rw [take_get hlt hs] at hi
    injection hi with hi
    rw [← hi]
    exact h i hlt
theorem listAt_yes {l : List Int} {p : Int} {N f : Nat} (h : Leb.readU l p 32 = ((N : Int), (f : Int), 0)) (hs : f + N ≤ l.length) (ha : ∀ i, i < N → isT (l[f + i]?.getD 0) = true) : listAt l p = ((l.drop f).take N, (f : Int) + N, 0) := by
  unfold listAt
  rw [rowAt_yes h hs]
  simp only
  rw [if_neg (by simp), if_pos ((all_take hs).2 ha)]
theorem listAt_no {l : List Int} {p : Int} {N f k : Nat} (h : Leb.readU l p 32 = ((N : Int), (f : Int), 0)) (hs : f + N ≤ l.length) (hk : k < N) (ha : isT (l[f + k]?.getD 0) = false) : listAt l p = ([], 0, 4) := by
  unfold listAt
  rw [rowAt_yes h hs]
  simp only
  rw [if_neg (by simp), if_neg]
  intro c
  have := (all_take hs).1 c k hk
  rw [ha] at this
  cases this
theorem take_more {l : List Int} {f k : Nat} (hs : f + k + 1 ≤ l.length) : (l.drop f).take (k + 1) = (l.drop f).take k ++ [l[f + k]?.getD 0] := by
  rw [List.take_add_one, List.getElem?_drop, List.getElem?_eq_getElem (by omega)]
  rfl

/-- What the list is: a row of the call's own. -/
def TysPost (l : List Int) (p : Int) (w : World) (e : Ending) (w' : World) : Prop :=
  Below w.heap.size w w' ∧ ∃ v, e = .returned (.tuple #[v, .int .i64 (listAt l p).2.1, .int .i64 (listAt l p).2.2]) ∧ w'.ownsRow w.heap.size 22 1 v (listAt l p).1.length ((listAt l p).1.map (Value.int .u8))
theorem infoT : (Try.prog.info? 22).map (fun i => (i.zero, i.size, i.bytes)) = some (some (.int .u8 0), 1, 1) := by kernel_rfl
theorem shape_own {w : World} {base e size : Nat} {v : Value} {n : Nat} {xs : List Value} (h : w.ownsRow base e size v n xs) : ∃ a c, v = .slice a n c := by
  obtain ⟨_, ⟨rfl, rfl⟩ | ⟨g, cap, cur, rfl, _⟩⟩ := h
  · exact ⟨_, _, rfl⟩
  · exact ⟨_, _, rfl⟩
theorem ownsRow_mono {w : World} {b b' e size : Nat} {v : Value} {n : Nat} {xs : List Value} (h : w.ownsRow b e size v n xs) (hb : b' ≤ b) : w.ownsRow b' e size v n xs := by
  obtain ⟨h1, h2 | ⟨g, cap, cur, e, hg, h3⟩⟩ := h
  · exact ⟨h1, .inl h2⟩
  · exact ⟨h1, .inr ⟨g, cap, cur, e, Nat.le_trans hb hg, h3⟩⟩
theorem wrap_small {k N : Nat} (h : k < N) (hN : N < 4294967296) : wrap64 ((k : Int) + 1) = ((k + 1 : Nat) : Int) := by
  unfold wrap64
  omega
theorem one_cell8 (x : Int) : ∀ u ∈ [Value.int .u8 x], u.oneCell' = true := by
  intro u hu; simp at hu; subst hu; rfl

end Go.Proofs.Yteacjhmbamcegab
