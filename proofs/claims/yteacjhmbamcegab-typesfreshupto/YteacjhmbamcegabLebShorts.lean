/-
  Plain mathematics of the short forms.
-/
import Derived.Test.YteacjhmbamcegabLebFacts
namespace Go.Proofs.Yteacjhmbamcegab.Leb

/-- The short form, unsigned: at most 'f + 1' digits. -/
def putUF : Nat → Int → List Int
  | 0, n => [n]
  | f + 1, n => if n < 128 then [n] else (n % 128 + 128) :: putUF f (n / 128)
def putU (n : Int) : List Int := putUF 9 n

/-- The short form, signed. -/
def putSF : Nat → Int → List Int
  | 0, n => [n % 128]
  | f + 1, n => if -64 ≤ n ∧ n < 64 then [n % 128] else (n % 128 + 128) :: putSF f (n / 128)
def putS (n : Int) : List Int := putSF 9 n

theorem putUF_small (f : Nat) {n : Int} (h : n < 128) : putUF f n = [n] := by
  cases f with
  | zero => rfl
  | succ f => unfold putUF; rw [if_pos h]

theorem putUF_more {f : Nat} {n : Int} (h : 128 ≤ n) : putUF (f + 1) n = (n % 128 + 128) :: putUF f (n / 128) := by
  show (if n < 128 then _ else _) = _
  rw [if_neg (by omega)]

theorem putSF_small (f : Nat) {n : Int} (h : -64 ≤ n ∧ n < 64) : putSF f n = [n % 128] := by
  cases f with
  | zero => rfl
  | succ f => unfold putSF; rw [if_pos h]

theorem putSF_more {f : Nat} {n : Int} (h : ¬ (-64 ≤ n ∧ n < 64)) : putSF (f + 1) n = (n % 128 + 128) :: putSF f (n / 128) := by
  show (if -64 ≤ n ∧ n < 64 then _ else _) = _
  rw [if_neg h]

theorem putUF_length (f : Nat) (n : Int) : 1 ≤ (putUF f n).length ∧ (putUF f n).length ≤ f + 1 := by
  induction f generalizing n with
  | zero => simp [putUF]
  | succ f ih =>
    unfold putUF
    split
    · simp
    · have := ih (n / 128); simp; omega

theorem putSF_length (f : Nat) (n : Int) : 1 ≤ (putSF f n).length ∧ (putSF f n).length ≤ f + 1 := by
  induction f generalizing n with
  | zero => simp [putSF]
  | succ f ih =>
    unfold putSF
    split
    · simp
    · have := ih (n / 128); simp; omega

theorem bytes_cons {x : Int} {l : List Int} (hx : 0 ≤ x ∧ x ≤ 255) (hl : Bytes l) : Bytes (x :: l) := by
  intro i
  cases i with
  | zero => simpa using hx
  | succ i => simpa using hl i

theorem bytes_one {x : Int} (hx : 0 ≤ x ∧ x ≤ 255) : Bytes [x] := bytes_cons hx (fun i => by simp)

theorem putUF_bytes (f : Nat) (n : Int) (h0 : 0 ≤ n) (h : n < 128 ^ (f + 1)) : Bytes (putUF f n) := by
  induction f generalizing n with
  | zero => exact bytes_one ⟨h0, by simp at h; omega⟩
  | succ f ih =>
    unfold putUF
    split
    · exact bytes_one (by omega)
    · exact bytes_cons (by omega) (ih (n / 128) (by omega) (by rw [Int.pow_succ] at h; omega))

theorem putSF_bytes (f : Nat) (n : Int) : Bytes (putSF f n) := by
  induction f generalizing n with
  | zero => exact bytes_one (by omega)
  | succ f ih =>
    unfold putSF
    split
    · exact bytes_one (by omega)
    · exact bytes_cons (by omega) (ih (n / 128))

theorem pow128_succ (f : Nat) : (128 : Int) ^ (f + 1) = 128 * 128 ^ f := by rw [Int.pow_succ, Int.mul_comm]

/-- What is put is where its digits end, and they are the number, whatever is behind. -/
theorem putUF_fin (f : Nat) (n : Int) (h0 : 0 ≤ n) (h : n < 128 ^ (f + 1)) (r : List Int) {m : Nat} (hm : (putUF f n).length ≤ m) :
    fin (putUF f n ++ r) m = some ((putUF f n).length - 1) ∧ val (putUF f n ++ r) (putUF f n).length = n := by
  induction f generalizing n m with
  | zero =>
    have hn : n < 128 := by simpa using h
    obtain ⟨m, rfl⟩ : ∃ k, m = k + 1 := ⟨m - 1, by simp [putUF] at hm; omega⟩
    simp [putUF, fin, val, hn]
    omega
  | succ f ih =>
    by_cases hn : n < 128
    · rw [putUF_small _ hn] at hm ⊢
      obtain ⟨m, rfl⟩ : ∃ k, m = k + 1 := ⟨m - 1, by simp at hm; omega⟩
      simp [fin, val, hn]
      omega
    · rw [putUF_more (by omega)] at hm ⊢
      obtain ⟨m, rfl⟩ : ∃ k, m = k + 1 := ⟨m - 1, by simp at hm; omega⟩
      have hl := putUF_length f (n / 128)
      obtain ⟨e1, e2⟩ := ih (n / 128) (by omega) (by rw [pow128_succ] at h; omega) (m := m) (by simp at hm; omega)
      constructor
      · simp only [List.cons_append, fin]
        rw [if_neg (by omega), e1]
        simp; omega
      · simp only [List.cons_append, List.length_cons, val]
        rw [e2]; omega

theorem putUF_least (f : Nat) (n : Int) (k : Nat) (h : n < 128 ^ (k + 1)) (h0 : 0 ≤ n) : (putUF f n).length ≤ k + 1 := by
  induction f generalizing n k with
  | zero => simp [putUF]
  | succ f ih =>
    by_cases hn : n < 128
    · rw [putUF_small _ hn]; simp
    · rw [putUF_more (by omega)]
      cases k with
      | zero => simp at h; omega
      | succ k =>
        have := ih (n / 128) k (by rw [pow128_succ] at h; omega) (by omega)
        simp; omega

theorem putSF_fin (f : Nat) (n : Int) (h0 : -(64 * 128 ^ f) ≤ n) (h : n < 64 * 128 ^ f) (r : List Int) {m : Nat} (hm : (putSF f n).length ≤ m) :
    fin (putSF f n ++ r) m = some ((putSF f n).length - 1) ∧ sval (putSF f n ++ r) ((putSF f n).length - 1) = n := by
  induction f generalizing n m with
  | zero =>
    have hn : -64 ≤ n ∧ n < 64 := by simp at h h0; omega
    obtain ⟨m, rfl⟩ : ∃ k, m = k + 1 := ⟨m - 1, by simp [putSF] at hm; omega⟩
    constructor
    · simp [putSF, fin]; omega
    · simp [putSF, sval, val]; split <;> omega
  | succ f ih =>
    by_cases hn : -64 ≤ n ∧ n < 64
    · rw [putSF_small _ hn] at hm ⊢
      obtain ⟨m, rfl⟩ : ∃ k, m = k + 1 := ⟨m - 1, by simp at hm; omega⟩
      constructor
      · simp [fin]; omega
      · simp [sval, val]; split <;> omega
    · rw [putSF_more hn] at hm ⊢
      obtain ⟨m, rfl⟩ : ∃ k, m = k + 1 := ⟨m - 1, by simp at hm; omega⟩
      have hl := putSF_length f (n / 128)
      obtain ⟨e1, e2⟩ := ih (n / 128) (by rw [pow128_succ] at h0; omega) (by rw [pow128_succ] at h; omega) (m := m) (by simp at hm; omega)
      generalize putSF f (n / 128) = P at *
      obtain ⟨j, hj⟩ : ∃ j, P.length = j + 1 := ⟨P.length - 1, by omega⟩
      rw [hj] at e1 e2
      constructor
      · simp only [List.cons_append, fin]
        rw [if_neg (by omega), e1]
        simp [hj]
      · simp only [List.cons_append, List.length_cons, sval, val, hj, Nat.add_sub_cancel, List.getElem?_cons_succ] at e2 ⊢
        rw [pow128_succ (j + 1)]
        split at e2 <;> rename_i hs
        · rw [if_pos hs]; omega
        · rw [if_neg hs]; omega

theorem putSF_least (f : Nat) (n : Int) (k : Nat) (h : n < 64 * 128 ^ k) (h0 : -(64 * 128 ^ k) ≤ n) : (putSF f n).length ≤ k + 1 := by
  induction f generalizing n k with
  | zero => simp [putSF]
  | succ f ih =>
    by_cases hn : -64 ≤ n ∧ n < 64
    · rw [putSF_small _ hn]; simp
    · rw [putSF_more hn]
      cases k with
      | zero => simp at h h0; omega
      | succ k =>
        have := ih (n / 128) k (by rw [pow128_succ] at h; omega) (by rw [pow128_succ] at h0; omega)
        simp; omega
end Go.Proofs.Yteacjhmbamcegab.Leb
