/-
  Plain mathematics of letters and texts: a letter's bytes, the letter that a row of bytes begins with, the letters of a text. No program is named here.
-/
import Derived.Test.YthillphedjjhjabDoorLebMath
namespace Go.Proofs.YthillphedjjhjabDoor.Utf
open Go.Proofs.YthillphedjjhjabDoor.Leb (Bytes)

def letter (r : Int) : Bool := decide (0 ≤ r ∧ r ≤ 1114111 ∧ (r < 55296 ∨ 57343 < r))

/-- A letter's bytes. -/
def enc (r : Int) : List Int :=
  if r < 128 then [r]
  else if r < 2048 then [192 + r / 64, 128 + r % 64]
  else if r < 65536 then [224 + r / 4096, 128 + r / 64 % 64, 128 + r % 64]
  else [240 + r / 262144, 128 + r / 4096 % 64, 128 + r / 64 % 64, 128 + r % 64]

def chk (r : Int) (n : Nat) : Int × Nat := if letter r = true ∧ (enc r).length = n then (r, n) else (0, 0)
def tail (d : Int) : Prop := 128 ≤ d ∧ d < 192
instance (d : Int) : Decidable (tail d) := by unfold tail; infer_instance

/-- The letter that bytes begin with, and of how many it is; of 0: none. -/
def first : List Int → Int × Nat
  | [] => (0, 0)
  | c :: t =>
    if c < 128 then (c, 1)
    else if 192 ≤ c ∧ c < 224 then
      match t with
      | d :: _ => if tail d then chk (64 * (c - 192) + d - 128) 2 else (0, 0)
      | _ => (0, 0)
    else if 224 ≤ c ∧ c < 240 then
      match t with
      | d :: e :: _ => if tail d ∧ tail e then chk (64 * (64 * (c - 224) + d - 128) + e - 128) 3 else (0, 0)
      | _ => (0, 0)
    else if 240 ≤ c ∧ c < 248 then
      match t with
      | d :: e :: f :: _ => if tail d ∧ tail e ∧ tail f then chk (64 * (64 * (64 * (c - 240) + d - 128) + e - 128) + f - 128) 4 else (0, 0)
      | _ => (0, 0)
    else (0, 0)

theorem enc_len (r : Int) : 1 ≤ (enc r).length ∧ (enc r).length ≤ 4 := by
  unfold enc; repeat' split
  all_goals simp

theorem enc_bytes (r : Int) (h : letter r = true) : Bytes (enc r) := by
  simp [letter] at h
  intro i
  unfold enc
  repeat' split
  all_goals (rcases i with _ | _ | _ | _ | i <;> simp <;> omega)

theorem first_enc (r : Int) (l : List Int) (h : letter r = true) : first (enc r ++ l) = (r, (enc r).length) := by
  have hl := h
  simp [letter] at h
  unfold enc
  repeat' split
  · simp [first]; omega
  · simp only [List.cons_append, List.nil_append, first]
    rw [if_neg (by omega), if_pos (by omega), if_pos (by unfold tail; omega)]
    have e : 64 * (192 + r / 64 - 192) + (128 + r % 64) - 128 = r := by omega
    rw [e, chk, if_pos ⟨hl, by unfold enc; rw [if_neg (by omega), if_pos (by omega)]; rfl⟩]; rfl
  · simp only [List.cons_append, List.nil_append, first]
    rw [if_neg (by omega), if_neg (by omega), if_pos (by omega), if_pos (by unfold tail; omega)]
    have e : 64 * (64 * (224 + r / 4096 - 224) + (128 + r / 64 % 64) - 128) + (128 + r % 64) - 128 = r := by omega
    rw [e, chk, if_pos ⟨hl, by unfold enc; rw [if_neg (by omega), if_neg (by omega), if_pos (by omega)]; rfl⟩]; rfl
  · simp only [List.cons_append, List.nil_append, first]
    rw [if_neg (by omega), if_neg (by omega), if_neg (by omega), if_pos (by omega), if_pos (by unfold tail; omega)]
    have e : 64 * (64 * (64 * (240 + r / 262144 - 240) + (128 + r / 4096 % 64) - 128) + (128 + r / 64 % 64) - 128) + (128 + r % 64) - 128 = r := by omega
    rw [e, chk, if_pos ⟨hl, by unfold enc; rw [if_neg (by omega), if_neg (by omega), if_neg (by omega)]; rfl⟩]; rfl

theorem chk_some {r : Int} {n : Nat} (h : (chk r n).2 ≠ 0) : chk r n = (r, n) ∧ letter r = true ∧ (enc r).length = n := by
  unfold chk at h ⊢
  split at h
  · rename_i hh; exact ⟨by rw [if_pos hh], hh⟩
  · simp at h

theorem enc2 {r : Int} (h : (enc r).length = 2) : 128 ≤ r ∧ r < 2048 ∧ enc r = [192 + r / 64, 128 + r % 64] := by
  unfold enc at h ⊢
  split at h
  · simp at h
  · split at h
    · rename_i a b; rw [if_neg a, if_pos b]; exact ⟨by omega, b, rfl⟩
    · split at h <;> simp at h
theorem enc3 {r : Int} (h : (enc r).length = 3) : 2048 ≤ r ∧ r < 65536 ∧ enc r = [224 + r / 4096, 128 + r / 64 % 64, 128 + r % 64] := by
  unfold enc at h ⊢
  split at h
  · simp at h
  · split at h
    · simp at h
    · split at h
      · rename_i a b c; rw [if_neg a, if_neg b, if_pos c]; exact ⟨by omega, c, rfl⟩
      · simp at h
theorem enc4 {r : Int} (h : (enc r).length = 4) : 65536 ≤ r ∧ enc r = [240 + r / 262144, 128 + r / 4096 % 64, 128 + r / 64 % 64, 128 + r % 64] := by
  unfold enc at h ⊢
  split at h
  · simp at h
  · split at h
    · simp at h
    · split at h
      · simp at h
      · rename_i a b c; rw [if_neg a, if_neg b, if_neg c]; exact ⟨by omega, rfl⟩

/-- What 'first' finds is a letter whose bytes stand there. -/
theorem enc_first {l : List Int} (hb : Bytes l) (hn : (first l).2 ≠ 0) : letter (first l).1 = true ∧ (first l).2 = (enc (first l).1).length ∧ l = enc (first l).1 ++ l.drop (first l).2 := by
  cases l with
  | nil => simp [first] at hn
  | cons c t =>
    have hc := hb 0
    simp at hc
    simp only [first] at hn ⊢
    split at hn
    · rename_i h1
      rw [if_pos h1]
      have e : enc c = [c] := by unfold enc; rw [if_pos h1]
      simp [e, letter]; omega
    · rename_i h1
      rw [if_neg h1]
      split at hn
      · rename_i h2
        rw [if_pos h2]
        cases t with
        | nil => simp at hn
        | cons d t =>
          simp only at hn ⊢
          split at hn
          · rename_i h3
            rw [if_pos h3]
            obtain ⟨e1, e2, e3⟩ := chk_some hn
            rw [e1]
            refine ⟨e2, e3.symm, ?_⟩
            obtain ⟨g1, g2, g3⟩ := enc2 e3
            simp only [tail] at h3
            rw [g3]
            simp
            constructor <;> omega
          · simp at hn
      · rename_i h2
        rw [if_neg h2]
        split at hn
        · rename_i h2b
          rw [if_pos h2b]
          match t, hn with
          | [], hn => simp at hn
          | [_], hn => simp at hn
          | d :: e :: t, hn =>
            simp only at hn ⊢
            split at hn
            · rename_i h3
              rw [if_pos h3]
              obtain ⟨e1, e2, e3⟩ := chk_some hn
              rw [e1]
              refine ⟨e2, e3.symm, ?_⟩
              obtain ⟨g1, g2, g3⟩ := enc3 e3
              simp only [tail] at h3
              rw [g3]
              simp
              refine ⟨?_, ?_, ?_⟩ <;> omega
            · simp at hn
        · rename_i h2b
          rw [if_neg h2b]
          split at hn
          · rename_i h2c
            rw [if_pos h2c]
            match t, hn with
            | [], hn => simp at hn
            | [_], hn => simp at hn
            | [_, _], hn => simp at hn
            | d :: e :: f :: t, hn =>
              simp only at hn ⊢
              split at hn
              · rename_i h3
                rw [if_pos h3]
                obtain ⟨e1, e2, e3⟩ := chk_some hn
                rw [e1]
                refine ⟨e2, e3.symm, ?_⟩
                obtain ⟨g1, g3⟩ := enc4 e3
                simp only [tail] at h3
                rw [g3]
                simp
                refine ⟨?_, ?_, ?_, ?_⟩ <;> omega
              · simp at hn
          · simp at hn

/-- The letters of bytes; none, if they are no text. -/
def lettersF : Nat → List Int → Option (List Int)
  | _, [] => some []
  | 0, _ :: _ => none
  | f + 1, c :: t => if (first (c :: t)).2 = 0 then none else (lettersF f ((c :: t).drop (first (c :: t)).2)).map ((first (c :: t)).1 :: ·)
def letters (l : List Int) : Option (List Int) := lettersF l.length l

def text (ls : List Int) : List Int := ls.flatMap enc
def allLetters (ls : List Int) : Bool := ls.all letter

@[simp] theorem text_nil : text [] = [] := rfl
theorem text_cons (r : Int) (ls : List Int) : text (r :: ls) = enc r ++ text ls := by simp [text]
theorem text_append (a b : List Int) : text (a ++ b) = text a ++ text b := by simp [text]
theorem all_append (a b : List Int) : allLetters (a ++ b) = (allLetters a && allLetters b) := by simp [allLetters]
theorem all_cons (r : Int) (b : List Int) : allLetters (r :: b) = (letter r && allLetters b) := by simp [allLetters]

theorem text_len (ls : List Int) : ls.length ≤ (text ls).length ∧ (text ls).length ≤ 4 * ls.length := by
  induction ls with
  | nil => simp
  | cons r ls ih => have := enc_len r; rw [text_cons, List.length_append, List.length_cons]; omega

theorem bytes_app {l r : List Int} (hl : Bytes l) (hr : Bytes r) : Bytes (l ++ r) := by
  intro i
  by_cases h : i < l.length
  · rw [List.getElem?_append_left h]; exact hl i
  · rw [List.getElem?_append_right (by omega)]; exact hr _
theorem bytes_dropU {l : List Int} (h : Bytes l) (p : Nat) : Bytes (l.drop p) := by
  intro i; rw [List.getElem?_drop]; exact h (p + i)

theorem text_bytes (ls : List Int) (h : allLetters ls = true) : Bytes (text ls) := by
  induction ls with
  | nil => intro i; simp
  | cons r ls ih =>
    rw [all_cons] at h; simp at h
    rw [text_cons]; exact bytes_app (enc_bytes r h.1) (ih h.2)

theorem lettersF_text (ls : List Int) (h : allLetters ls = true) : ∀ f, (text ls).length ≤ f → lettersF f (text ls) = some ls := by
  induction ls with
  | nil => intro f _; cases f <;> rfl
  | cons r ls ih =>
    intro f hf
    rw [all_cons] at h; simp at h
    rw [text_cons] at hf ⊢
    have hl := enc_len r
    have hfe := first_enc r (text ls) h.1
    rw [List.length_append] at hf
    obtain ⟨f, rfl⟩ : ∃ g, f = g + 1 := ⟨f - 1, by omega⟩
    cases hx : enc r ++ text ls with
    | nil => have := congrArg List.length hx; rw [List.length_append, List.length_nil] at this; omega
    | cons c t =>
      rw [hx] at hfe
      rw [lettersF, hfe, if_neg (by simp only; omega)]
      simp only
      rw [← hx, List.drop_left, ih h.2 f (by omega)]; rfl

theorem text_letters : ∀ (f : Nat) (l ls : List Int), Bytes l → lettersF f l = some ls → allLetters ls = true ∧ l = text ls := by
  intro f
  induction f with
  | zero =>
    intro l ls _ h
    cases l with
    | nil => simp [lettersF] at h; subst h; exact ⟨rfl, rfl⟩
    | cons c t => simp [lettersF] at h
  | succ f ih =>
    intro l ls hb h
    cases l with
    | nil => simp [lettersF] at h; subst h; exact ⟨rfl, rfl⟩
    | cons c t =>
      rw [lettersF] at h
      split at h
      · simp at h
      · rename_i hn
        obtain ⟨h1, h2, h3⟩ := enc_first hb hn
        rw [Option.map_eq_some_iff] at h
        obtain ⟨ks, hk, rfl⟩ := h
        obtain ⟨g1, g2⟩ := ih _ _ (bytes_dropU hb _) hk
        refine ⟨by rw [all_cons, h1, g1]; rfl, ?_⟩
        rw [text_cons, ← g2]; exact h3

theorem letters_some {l ls : List Int} (hb : Bytes l) : letters l = some ls ↔ allLetters ls = true ∧ l = text ls :=
  ⟨text_letters _ l ls hb, fun ⟨h1, h2⟩ => by unfold letters; rw [h2]; exact lettersF_text ls h1 _ (Nat.le_refl _)⟩

theorem letters_text (ls : List Int) (h : allLetters ls = true) : letters (text ls) = some ls := lettersF_text ls h _ (Nat.le_refl _)

theorem letters_none {l : List Int} (hb : Bytes l) : letters l = none ↔ ∀ ls, allLetters ls = true → l ≠ text ls := by
  constructor
  · intro h ls h1 h2; rw [h2, letters_text ls h1] at h; simp at h
  · intro h
    cases hx : letters l with
    | none => rfl
    | some ls => obtain ⟨h1, h2⟩ := (letters_some hb).1 hx; exact absurd h2 (h ls h1)

@[simp] theorem letters_nil : letters [] = some [] := rfl

/-- One step: no letter stands there. -/
theorem letters_stop {l : List Int} (hb : Bytes l) (hl : l ≠ []) (h : (first l).2 = 0) : letters l = none := by
  rw [letters_none hb]
  intro ls h1 h2
  cases ls with
  | nil => exact hl h2
  | cons r ls =>
    rw [all_cons] at h1; simp at h1
    rw [text_cons] at h2
    rw [h2, first_enc r _ h1.1] at h
    have := enc_len r
    simp at h; rw [h] at this; simp at this

/-- One step: a letter stands there. -/
theorem letters_go {l : List Int} (hb : Bytes l) (h : (first l).2 ≠ 0) : letters l = (letters (l.drop (first l).2)).map ((first l).1 :: ·) := by
  obtain ⟨h1, h2, h3⟩ := enc_first hb h
  have hbd := bytes_dropU hb (first l).2
  cases hx : letters (l.drop (first l).2) with
  | some ks =>
    obtain ⟨g1, g2⟩ := (letters_some hbd).1 hx
    rw [Option.map_some, letters_some hb]
    refine ⟨by rw [all_cons, h1, g1]; rfl, ?_⟩
    rw [text_cons, ← g2]; exact h3
  | none =>
    rw [Option.map_none, letters_none hb]
    rw [letters_none hbd] at hx
    intro ls g1 g2
    cases ls with
    | nil => rw [g2] at h; simp [first] at h
    | cons r ls =>
      rw [all_cons] at g1; simp at g1
      rw [text_cons] at g2
      refine hx ls g1.2 ?_
      have hf := first_enc r (text ls) g1.1
      rw [← g2] at hf
      rw [hf]
      simp only
      rw [g2, List.drop_left]

end Go.Proofs.YthillphedjjhjabDoor.Utf
