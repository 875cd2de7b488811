/-
  Plain: a text cut in two: either both parts are texts, or neither.
-/
import Derived.Test.YthillphedjjhjabDoorNameLead
set_option linter.unusedVariables false
set_option linter.unusedSimpArgs false
namespace Go.Proofs.YthillphedjjhjabDoor.Utf
open Go.Proofs.YthillphedjjhjabDoor.Leb (Bytes)

theorem isText_of_text (ls : List Int) (h : allLetters ls = true) : isText (text ls) = true := by unfold isText; rw [letters_text ls h]; rfl

theorem isText_enc (r : Int) (x : List Int) (hr : letter r = true) (hb : Bytes x) : isText (enc r ++ x) = isText x := by
  have h := text_skip (L := enc r ++ x) (bytes_app (enc_bytes r hr) hb) (enc r).length (by rw [first_enc r x hr]) (by have := enc_len r; omega)
  rw [List.drop_left] at h
  exact h.symm

theorem isText_some {x : List Int} (hb : Bytes x) (h : isText x = true) : ∃ ks, allLetters ks = true ∧ x = text ks := by
  unfold isText at h
  cases hx : letters x with
  | none => rw [hx] at h; simp at h
  | some ks => exact ⟨ks, (letters_some hb).1 hx⟩

theorem enc_tails (r : Int) (hr : letter r = true) (i : Nat) (h0 : 0 < i) (h1 : i < (enc r).length) : (128 : Int) ≤ (enc r)[i]?.getD 0 ∧ (enc r)[i]?.getD 0 < 192 := by
  simp [letter] at hr
  rw [encLen] at h1
  unfold enc
  by_cases a : r < 128
  · rw [if_pos a] at h1; omega
  · rw [if_neg a] at h1 ⊢
    by_cases b : r < 2048
    · rw [if_pos b] at h1 ⊢
      obtain rfl : i = 1 := by omega
      simp; omega
    · rw [if_neg b] at h1 ⊢
      by_cases c : r < 65536
      · rw [if_pos c] at h1 ⊢
        rcases (show i = 1 ∨ i = 2 by omega) with rfl | rfl <;> (simp; omega)
      · rw [if_neg c] at h1 ⊢
        rcases (show i = 1 ∨ i = 2 ∨ i = 3 by omega) with rfl | rfl | rfl <;> (simp; omega)

theorem enc_zero (r : Int) : (enc r)[0]?.getD 0 = if r < 128 then r else if r < 2048 then 192 + r / 64 else if r < 65536 then 224 + r / 4096 else 240 + r / 262144 := by
  unfold enc
  repeat' split
  all_goals rfl

theorem enc_head (r : Int) (hr : letter r = true) : (enc r)[0]?.getD 0 < 128 ∨ (192 : Int) ≤ (enc r)[0]?.getD 0 := by
  simp [letter] at hr
  rw [enc_zero]
  repeat' split
  all_goals omega

theorem enc_same (r q : Int) (hr : letter r = true) (hq : letter q = true) (h : (enc r)[0]?.getD 0 = (enc q)[0]?.getD 0) : (enc r).length = (enc q).length := by
  simp [letter] at hr hq
  rw [enc_zero, enc_zero] at h
  rw [encLen, encLen]
  repeat' split
  all_goals (simp_all <;> omega)

theorem getD_left {x y : List Int} {i : Nat} (h : i < x.length) : (x ++ y)[i]?.getD 0 = x[i]?.getD 0 := by rw [List.getElem?_append_left h]

theorem text_head {js : List Int} (h : allLetters js = true) (hne : text js ≠ []) : (text js)[0]?.getD 0 < 128 ∨ (192 : Int) ≤ (text js)[0]?.getD 0 := by
  cases js with
  | nil => simp at hne
  | cons q js =>
    rw [all_cons] at h; simp at h
    rw [text_cons, getD_left (by have := enc_len q; omega)]
    exact enc_head q h.1

theorem join_cut (ls : List Int) (h : allLetters ls = true) : ∀ at', at' ≤ (text ls).length → isText ((text ls).take at') = isText ((text ls).drop at') := by
  induction ls with
  | nil => intro at' ha; simp at ha; subst ha; rfl
  | cons r ls ih =>
    intro at' ha
    have hb := text_bytes _ h
    rw [all_cons] at h; simp at h
    have hbl := text_bytes ls h.2
    have hl := enc_len r
    rw [text_cons] at ha hb ⊢
    rw [List.length_append] at ha
    by_cases h0 : at' = 0
    · subst h0
      rw [List.take_zero, List.drop_zero, isText_enc r _ h.1 hbl, isText_of_text ls h.2]; rfl
    · by_cases h1 : at' < (enc r).length
      · have e1 : isText ((enc r ++ text ls).take at') = false := by
          cases hx : isText ((enc r ++ text ls).take at') with
          | false => rfl
          | true =>
            exfalso
            have hbt : Bytes ((enc r ++ text ls).take at') := by
              intro i; rw [List.getElem?_take]; split
              · exact hb i
              · simp
            obtain ⟨ks, hk1, hk2⟩ := isText_some hbt hx
            cases ks with
            | nil =>
              have := congrArg List.length hk2
              rw [List.length_take, List.length_append] at this
              simp at this
              have hh := congrArg List.length (show enc r = enc r from rfl)
              rcases this with h | h
              · omega
              · rw [h.1] at hl; simp at hl
            | cons q ks =>
              rw [all_cons] at hk1; simp at hk1
              rw [text_cons] at hk2
              have hq := enc_len q
              have hlen := congrArg List.length hk2
              rw [List.length_take, List.length_append, List.length_append] at hlen
              have hh : ((enc r ++ text ls).take at')[0]?.getD 0 = (enc q ++ text ks)[0]?.getD 0 := by rw [hk2]
              rw [List.getElem?_take, if_pos (by omega), getD_left (by omega), getD_left (by omega)] at hh
              have := enc_same r q h.1 hk1.1 hh
              omega
        have e2 : isText ((enc r ++ text ls).drop at') = false := by
          cases hx : isText ((enc r ++ text ls).drop at') with
          | false => rfl
          | true =>
            exfalso
            obtain ⟨js, hj1, hj2⟩ := isText_some (bytes_dropU hb at') hx
            have hh : ((enc r ++ text ls).drop at')[0]?.getD 0 = (enc r)[at']?.getD 0 := by
              rw [List.getElem?_drop, Nat.add_zero, getD_left h1]
            have ht := enc_tails r h.1 at' (by omega) h1
            have hd := text_head hj1 (by
              intro hn
              rw [hn] at hj2
              have := congrArg List.length hj2
              rw [List.length_drop, List.length_append, List.length_nil] at this
              omega)
            rw [← hj2, hh] at hd
            omega
        rw [e1, e2]
      · have e1 : (enc r ++ text ls).take at' = enc r ++ (text ls).take (at' - (enc r).length) := by rw [List.take_append]; rw [List.take_of_length_le (by omega)]
        have e2 : (enc r ++ text ls).drop at' = (text ls).drop (at' - (enc r).length) := by rw [List.drop_append]; rw [List.drop_eq_nil_of_le (by omega)]; rfl
        rw [e1, e2, isText_enc r _ h.1 (by
          intro i; rw [List.getElem?_take]; split
          · exact hbl i
          · simp)]
        exact ih h.2 (at' - (enc r).length) (by omega)

end Go.Proofs.YthillphedjjhjabDoor.Utf
