/-
  The document's 'first': the letter whose bytes begin at a place.
-/
import Derived.Test.YthillphedjjhjabDoorRef2Bytes
set_option linter.unusedVariables false
set_option linter.unusedSimpArgs false
namespace Go.Proofs.YthillphedjjhjabDoor
open Go.RowKit

def firstV (x : Int × Nat) : Value := .tuple #[.int .i32 x.1, .int .i64 x.2]

/-- The number of the first 'i' of a letter's bytes, 'c' of the first. -/
def pv (L : List Int) (c : Int) : Nat → Int
  | 0 => c
  | i + 1 => 64 * pv L c i + L[i + 1]?.getD 0 - 128

theorem first_2 (L : List Int) (c : Int) (hc : L[0]?.getD 0 = c) (h1 : 192 ≤ c) (h2 : c < 224) (hl : 2 ≤ L.length) (ht : ∀ j : Nat, 1 ≤ j → j < 2 → Utf.tail (L[j]?.getD 0)) : Utf.first L = Utf.chk (pv L (c - 192) 1) 2 := by
  match L, hl with
  | x :: d :: t, _ =>
    simp at hc
    subst hc
    simp only [Utf.first]
    rw [if_neg (by omega), if_pos (by omega)]
    have hh : Utf.tail d := by simpa using ht 1 (by decide) (by decide)
    simp only [hh, and_self, if_true, pv]
    simp
theorem first_2_no (L : List Int) (c : Int) (hc : L[0]?.getD 0 = c) (h1 : 192 ≤ c) (h2 : c < 224) (hl : 2 ≤ L.length) (j : Nat) (hj : 1 ≤ j) (hj2 : j < 2) (ht : ¬ Utf.tail (L[j]?.getD 0)) : Utf.first L = (0, 0) := by
  match L, hl with
  | x :: d :: t, _ =>
    simp at hc
    subst hc
    simp only [Utf.first]
    rw [if_neg (by omega), if_pos (by omega), if_neg]
    intro hh
    match j, hj, hj2 with
    | 1, _, _ => exact ht (by simpa using hh)
theorem first_2_short (L : List Int) (c : Int) (hc : L[0]?.getD 0 = c) (h1 : 192 ≤ c) (h2 : c < 224) (hl : L.length < 2) : Utf.first L = (0, 0) := by
  match L with
  | [] => rfl
  | [x] => simp at hc; subst hc; simp only [Utf.first]; rw [if_neg (by omega), if_pos (by omega)]
  | x :: _ :: t => simp at hl; omega

theorem first_3 (L : List Int) (c : Int) (hc : L[0]?.getD 0 = c) (h1 : 224 ≤ c) (h2 : c < 240) (hl : 3 ≤ L.length) (ht : ∀ j : Nat, 1 ≤ j → j < 3 → Utf.tail (L[j]?.getD 0)) : Utf.first L = Utf.chk (pv L (c - 224) 2) 3 := by
  match L, hl with
  | x :: d :: e :: t, _ =>
    simp at hc
    subst hc
    simp only [Utf.first]
    rw [if_neg (by omega), if_neg (by omega), if_pos (by omega)]
    have hh : Utf.tail d ∧ Utf.tail e := ⟨by simpa using ht 1 (by decide) (by decide), by simpa using ht 2 (by decide) (by decide)⟩
    simp only [hh, and_self, if_true, pv]
    simp
theorem first_3_no (L : List Int) (c : Int) (hc : L[0]?.getD 0 = c) (h1 : 224 ≤ c) (h2 : c < 240) (hl : 3 ≤ L.length) (j : Nat) (hj : 1 ≤ j) (hj2 : j < 3) (ht : ¬ Utf.tail (L[j]?.getD 0)) : Utf.first L = (0, 0) := by
  match L, hl with
  | x :: d :: e :: t, _ =>
    simp at hc
    subst hc
    simp only [Utf.first]
    rw [if_neg (by omega), if_neg (by omega), if_pos (by omega), if_neg]
    intro hh
    match j, hj, hj2 with
    | 1, _, _ => exact ht (by simpa using hh.1)
    | 2, _, _ => exact ht (by simpa using hh.2)
theorem first_3_short (L : List Int) (c : Int) (hc : L[0]?.getD 0 = c) (h1 : 224 ≤ c) (h2 : c < 240) (hl : L.length < 3) : Utf.first L = (0, 0) := by
  match L with
  | [] => rfl
  | [x] => simp at hc; subst hc; simp only [Utf.first]; rw [if_neg (by omega), if_neg (by omega), if_pos (by omega)]
  | [x, d] => simp at hc; subst hc; simp only [Utf.first]; rw [if_neg (by omega), if_neg (by omega), if_pos (by omega)]
  | x :: _ :: _ :: t => simp at hl; omega

theorem first_4 (L : List Int) (c : Int) (hc : L[0]?.getD 0 = c) (h1 : 240 ≤ c) (h2 : c < 248) (hl : 4 ≤ L.length) (ht : ∀ j : Nat, 1 ≤ j → j < 4 → Utf.tail (L[j]?.getD 0)) : Utf.first L = Utf.chk (pv L (c - 240) 3) 4 := by
  match L, hl with
  | x :: d :: e :: f :: t, _ =>
    simp at hc
    subst hc
    simp only [Utf.first]
    rw [if_neg (by omega), if_neg (by omega), if_neg (by omega), if_pos (by omega)]
    have hh : Utf.tail d ∧ Utf.tail e ∧ Utf.tail f := ⟨by simpa using ht 1 (by decide) (by decide), by simpa using ht 2 (by decide) (by decide), by simpa using ht 3 (by decide) (by decide)⟩
    simp only [hh, and_self, if_true, pv]
    simp
theorem first_4_no (L : List Int) (c : Int) (hc : L[0]?.getD 0 = c) (h1 : 240 ≤ c) (h2 : c < 248) (hl : 4 ≤ L.length) (j : Nat) (hj : 1 ≤ j) (hj2 : j < 4) (ht : ¬ Utf.tail (L[j]?.getD 0)) : Utf.first L = (0, 0) := by
  match L, hl with
  | x :: d :: e :: f :: t, _ =>
    simp at hc
    subst hc
    simp only [Utf.first]
    rw [if_neg (by omega), if_neg (by omega), if_neg (by omega), if_pos (by omega), if_neg]
    intro hh
    match j, hj, hj2 with
    | 1, _, _ => exact ht (by simpa using hh.1)
    | 2, _, _ => exact ht (by simpa using hh.2.1)
    | 3, _, _ => exact ht (by simpa using hh.2.2)
theorem first_4_short (L : List Int) (c : Int) (hc : L[0]?.getD 0 = c) (h1 : 240 ≤ c) (h2 : c < 248) (hl : L.length < 4) : Utf.first L = (0, 0) := by
  match L with
  | [] => rfl
  | [x] => simp at hc; subst hc; simp only [Utf.first]; rw [if_neg (by omega), if_neg (by omega), if_neg (by omega), if_pos (by omega)]
  | [x, d] => simp at hc; subst hc; simp only [Utf.first]; rw [if_neg (by omega), if_neg (by omega), if_neg (by omega), if_pos (by omega)]
  | [x, d, e] => simp at hc; subst hc; simp only [Utf.first]; rw [if_neg (by omega), if_neg (by omega), if_neg (by omega), if_pos (by omega)]
  | x :: _ :: _ :: _ :: t => simp at hl; omega

theorem first_low (L : List Int) (c : Int) (hc : L[0]?.getD 0 = c) (h0 : 0 < L.length) (h1 : c < 128) : Utf.first L = (c, 1) := by
  cases L with
  | nil => simp at h0
  | cons x t => simp at hc; subst hc; simp [Utf.first, h1]
theorem first_else (L : List Int) (c : Int) (hc : L[0]?.getD 0 = c) (h0 : 0 < L.length) (h1 : 128 ≤ c ∧ c < 192 ∨ 248 ≤ c) : Utf.first L = (0, 0) := by
  cases L with
  | nil => simp at h0
  | cons x t => simp at hc; subst hc; simp only [Utf.first]; rw [if_neg (by omega), if_neg (by omega), if_neg (by omega), if_neg (by omega)]

end Go.Proofs.YthillphedjjhjabDoor
