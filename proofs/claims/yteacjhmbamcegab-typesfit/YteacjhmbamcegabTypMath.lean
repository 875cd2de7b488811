/-
  What values' types, limits, functions', tables' and globals' types are, and their bytes. No program is named here.
-/
import Derived.Test.YteacjhmbamcegabLebFacts
import Derived.Test.YteacjhmbamcegabLebShorts
set_option linter.unusedVariables false
namespace Go.Proofs.Yteacjhmbamcegab.Typ
open Go.Proofs.Yteacjhmbamcegab

def isR (t : Int) : Bool := t == 112 || t == 111
def isT (t : Int) : Bool := (decide (123 ≤ t) && decide (t ≤ 127)) || isR t
theorem isT_cases {t : Int} (h : isT t = true) : t = 127 ∨ t = 126 ∨ t = 125 ∨ t = 124 ∨ t = 123 ∨ t = 112 ∨ t = 111 := by
  unfold isT isR at h
  simp at h
  omega
theorem isT_not {t : Int} (h : isT t = false) : t ≠ 127 ∧ t ≠ 126 ∧ t ≠ 125 ∧ t ≠ 124 ∧ t ≠ 123 ∧ t ≠ 112 ∧ t ≠ 111 := by
  unfold isT isR at h
  simp at h
  omega
theorem isR_cases {t : Int} (h : isR t = true) : t = 112 ∨ t = 111 := by
  unfold isR at h
  simpa using h
theorem isR_not {t : Int} (h : isR t = false) : t ≠ 112 ∧ t ≠ 111 := by
  unfold isR at h
  simpa using h
/-- Is the value one of its type? -/
def hasT (t lo hi : Int) : Bool :=
  if t = 127 ∨ t = 125 then decide (lo ≤ 4294967295) && hi == 0 else if t = 126 ∨ t = 124 then hi == 0 else if t = 112 ∨ t = 111 then decide (lo ≤ 4294967296) && hi == 0 else t == 123

/-- Limits: at least, at most, whether so. -/
def mayL (n x : Int) (b : Bool) (bound : Int) : Bool := if b then decide (n ≤ x) && decide (x ≤ bound) else decide (n ≤ bound) && x == 0
def fitL (n x : Int) (b : Bool) (n' x' : Int) (b' : Bool) : Bool := decide (n' ≤ n) && (!b' || (b && decide (x ≤ x')))
theorem fit_self (n x : Int) (b : Bool) : fitL n x b n x b = true := by
  unfold fitL
  cases b <;> simp
theorem fit_on {n1 x1 n2 x2 n3 x3 : Int} {b1 b2 b3 : Bool} (h : fitL n1 x1 b1 n2 x2 b2 = true) (k : fitL n2 x2 b2 n3 x3 b3 = true) : fitL n1 x1 b1 n3 x3 b3 = true := by
  unfold fitL at *
  cases b1 <;> cases b2 <;> cases b3 <;> simp at * <;> omega

/-- The row of numbers that is counted at a place. -/
def rowAt (l : List Int) (p : Int) : List Int × Int × Int :=
  if (Leb.readU l p 32).2.2 ≠ 0 then ([], 0, (Leb.readU l p 32).2.2)
  else if (l.length : Int) - (Leb.readU l p 32).2.1 < (Leb.readU l p 32).1 then ([], 0, 4)
  else ((l.drop (Leb.readU l p 32).2.1.toNat).take (Leb.readU l p 32).1.toNat, (Leb.readU l p 32).2.1 + (Leb.readU l p 32).1, 0)
theorem readU_parts (l : List Int) (p : Int) : (∃ x, (x = 2 ∨ x = 4) ∧ Leb.readU l p 32 = (0, 0, x)) ∨ ∃ N from' : Nat, Leb.readU l p 32 = ((N : Int), (from' : Int), 0) ∧ N < 4294967296 ∧ 1 ≤ from' ∧ from' ≤ l.length := by
  rcases Leb.readU_cases l p 32 with h | h | ⟨q, k, h⟩
  · exact .inl ⟨2, .inl rfl, h⟩
  · exact .inl ⟨4, .inr rfl, h⟩
  · right
    have h1 := Leb.readU_of h
    have h2 := h.ends
    obtain ⟨_, _, _, _, _, h5⟩ := h
    have h0 := Leb.val_nonneg (l.drop q) (k + 1)
    have e32 : (2 : Int) ^ (32 : Int).toNat = 4294967296 := by decide
    rw [e32] at h5
    refine ⟨(Leb.val (l.drop q) (k + 1)).toNat, q + k + 1, ?_, by omega, by omega, h2⟩
    rw [h1]
    have e1 : (((Leb.val (l.drop q) (k + 1)).toNat : Nat) : Int) = Leb.val (l.drop q) (k + 1) := by omega
    rw [e1]
    simp
/-- From a place within, on: an error is 4. -/
theorem readU_in {l : List Int} {p : Int} (h0 : 0 ≤ p) (h1 : p ≤ l.length) : Leb.readU l p 32 = (0, 0, 4) ∨ ∃ N from' : Nat, Leb.readU l p 32 = ((N : Int), (from' : Int), 0) ∧ N < 4294967296 ∧ 1 ≤ from' ∧ from' ≤ l.length := by
  rcases readU_parts l p with ⟨x, hx, h⟩ | h
  · rcases hx with rfl | rfl
    · exfalso
      unfold Leb.readU at h
      rw [if_neg (by omega)] at h
      split at h
      · simp at h
      · split at h <;> simp at h
    · exact .inl h
  · exact .inr h

/-- A value's type at a place: it, the place behind, the error. -/
def valAt (l : List Int) (p : Int) : Int × Int × Int :=
  if p < 0 ∨ (l.length : Int) < p then (0, 0, 2) else if (p = l.length) ∨ isT (l[p.toNat]?.getD 0) = false then (0, 0, 4) else (l[p.toNat]?.getD 0, p + 1, 0)
/-- A counted list of values' types. -/
def listAt (l : List Int) (p : Int) : List Int × Int × Int :=
  if (rowAt l p).2.2 ≠ 0 then ([], 0, (rowAt l p).2.2) else if (rowAt l p).1.all isT then rowAt l p else ([], 0, 4)
def funcAt (l : List Int) (p : Int) : (List Int × List Int) × Int × Int :=
  if p < 0 ∨ (l.length : Int) < p then (([], []), 0, 2) else if (p = l.length) ∨ (l[p.toNat]?.getD 0) ≠ 96 then (([], []), 0, 4)
  else if (listAt l (p + 1)).2.2 ≠ 0 then (([], []), 0, 4) else if (listAt l (listAt l (p + 1)).2.1).2.2 ≠ 0 then (([], []), 0, 4)
  else (((listAt l (p + 1)).1, (listAt l (listAt l (p + 1)).2.1).1), (listAt l (listAt l (p + 1)).2.1).2.1, 0)
def limAt (l : List Int) (p : Int) : (Int × Int × Bool) × Int × Int :=
  if p < 0 ∨ (l.length : Int) < p then ((0, 0, false), 0, 2) else if (p = l.length) ∨ 1 < (l[p.toNat]?.getD 0) then ((0, 0, false), 0, 4)
  else if (Leb.readU l (p + 1) 32).2.2 ≠ 0 then ((0, 0, false), 0, 4)
  else if l[p.toNat]?.getD 0 = 0 then (((Leb.readU l (p + 1) 32).1, 0, false), (Leb.readU l (p + 1) 32).2.1, 0)
  else if (Leb.readU l (Leb.readU l (p + 1) 32).2.1 32).2.2 ≠ 0 then ((0, 0, false), 0, 4)
  else (((Leb.readU l (p + 1) 32).1, (Leb.readU l (Leb.readU l (p + 1) 32).2.1 32).1, true), (Leb.readU l (Leb.readU l (p + 1) 32).2.1 32).2.1, 0)
def tabAt (l : List Int) (p : Int) : (Int × Int × Int × Bool) × Int × Int :=
  if (valAt l p).2.2 ≠ 0 then ((0, 0, 0, false), 0, (valAt l p).2.2) else if isR (valAt l p).1 = false then ((0, 0, 0, false), 0, 4)
  else if (limAt l (valAt l p).2.1).2.2 ≠ 0 then ((0, 0, 0, false), 0, (limAt l (valAt l p).2.1).2.2)
  else (((valAt l p).1, (limAt l (valAt l p).2.1).1), (limAt l (valAt l p).2.1).2.1, 0)
def globAt (l : List Int) (p : Int) : (Int × Bool) × Int × Int :=
  if (valAt l p).2.2 ≠ 0 then ((0, false), 0, (valAt l p).2.2) else if (valAt l p).2.1 = l.length ∨ 1 < (l[(valAt l p).2.1.toNat]?.getD 0) then ((0, false), 0, 4)
  else (((valAt l p).1, (l[(valAt l p).2.1.toNat]?.getD 0) == 1), (valAt l p).2.1 + 1, 0)

def putList (l : List Int) : List Int := Leb.putU (l.length : Int) ++ l
def putFunc (p r : List Int) : List Int := 96 :: (putList p ++ putList r)
def putLim (n x : Int) (b : Bool) : List Int := if b then 1 :: (Leb.putU n ++ Leb.putU x) else 0 :: Leb.putU n

theorem rowAt_err {l : List Int} {p x : Int} (hx : x = 2 ∨ x = 4) (h : Leb.readU l p 32 = (0, 0, x)) : rowAt l p = ([], 0, x) := by
  unfold rowAt; rw [h]; simp only; rw [if_pos (by omega)]
theorem rowAt_short {l : List Int} {p : Int} {N from' : Nat} (h : Leb.readU l p 32 = ((N : Int), (from' : Int), 0)) (hs : l.length < from' + N) (hf : from' ≤ l.length) : rowAt l p = ([], 0, 4) := by
  unfold rowAt; rw [h]; simp only; rw [if_neg (by simp), if_pos (by omega)]
theorem rowAt_yes {l : List Int} {p : Int} {N from' : Nat} (h : Leb.readU l p 32 = ((N : Int), (from' : Int), 0)) (hs : from' + N ≤ l.length) : rowAt l p = ((l.drop from').take N, (from' : Int) + N, 0) := by
  unfold rowAt; rw [h]; simp only; rw [if_neg (by simp), if_neg (by omega)]; simp
end Go.Proofs.Yteacjhmbamcegab.Typ
