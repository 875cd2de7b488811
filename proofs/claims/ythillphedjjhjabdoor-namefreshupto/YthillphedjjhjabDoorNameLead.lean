/-
  Plain: what the first byte from 128 on says of the letter that it begins; Go's own two tables.
-/
import Derived.Test.YthillphedjjhjabDoorNameMath
import Derived.Lib.DecodeN
namespace Go.Proofs.YthillphedjjhjabDoor.Utf
open Go.Proofs.YthillphedjjhjabDoor.Leb (Bytes)
open Go.Lib (firstT accLo accHi)

theorem chk_2 (r : Int) (n : Nat) : (chk r n).2 = if letter r = true ∧ (enc r).length = n then n else 0 := by unfold chk; split <;> rfl
theorem encLen (r : Int) : (enc r).length = if r < 128 then 1 else if r < 2048 then 2 else if r < 65536 then 3 else 4 := by
  unfold enc; repeat' split
  all_goals rfl

theorem lead_no (c : Int) (t : List Int) (hb : Bytes (c :: t)) (h : 128 ≤ c ∧ c < 194 ∨ 245 ≤ c) : (first (c :: t)).2 = 0 := by
  have hc := hb 0; have h1 := hb 1; have h2 := hb 2; have h3 := hb 3
  simp only [first]
  rw [if_neg (by omega)]
  split
  · cases t with
    | nil => rfl
    | cons d t =>
      simp at h1
      simp only
      split
      · rename_i _ ht; unfold tail at ht; rw [chk_2, encLen, if_neg]; rw [if_pos (by omega)]; simp
      · rfl
  · split
    · omega
    · split
      · match t, h1, h2, h3 with
        | [], _, _, _ => rfl
        | [_], _, _, _ => rfl
        | [_, _], _, _, _ => rfl
        | d :: e :: f :: t, h1, h2, h3 =>
          simp at h1 h2 h3
          simp only
          split
          · rename_i ht; unfold tail at ht; rw [chk_2, if_neg]; simp [letter]; omega
          · rfl
      · rfl

theorem lead2 (c : Int) (t : List Int) (h : 194 ≤ c) (h' : c < 224) : (first (c :: t)).2 = if 1 ≤ t.length ∧ (128 : Int) ≤ t[0]?.getD 0 ∧ t[0]?.getD 0 ≤ 191 then 2 else 0 := by
  simp only [first]
  rw [if_neg (by omega), if_pos ⟨by omega, by omega⟩]
  cases t with
  | nil => rfl
  | cons d t =>
    simp only [List.length_cons, List.getElem?_cons_zero, Option.getD_some]
    by_cases hd : tail d
    · rw [if_pos hd]
      unfold tail at hd
      rw [if_pos (c := 1 ≤ t.length + 1 ∧ _) (by omega), chk_2, encLen, if_pos]
      refine ⟨by simp [letter]; omega, ?_⟩
      rw [if_neg (by omega), if_pos (by omega)]
    · rw [if_neg hd]
      unfold tail at hd
      rw [if_neg (by omega)]

theorem lead3 (c : Int) (t : List Int) (h : 224 ≤ c) (h' : c < 240) (lo hi : Int) (hlo : lo = if c = 224 then 160 else 128) (hhi : hi = if c = 237 then 159 else 191) :
    (first (c :: t)).2 = if 2 ≤ t.length ∧ (lo ≤ t[0]?.getD 0 ∧ t[0]?.getD 0 ≤ hi) ∧ (128 : Int) ≤ t[1]?.getD 0 ∧ t[1]?.getD 0 ≤ 191 then 3 else 0 := by
  simp only [first]
  rw [if_neg (by omega), if_neg (by omega), if_pos ⟨by omega, by omega⟩]
  match t with
  | [] => rfl
  | [_] => simp
  | d :: e :: t =>
    simp only [List.length_cons, List.getElem?_cons_zero, List.getElem?_cons_succ, Option.getD_some]
    by_cases hd : tail d ∧ tail e
    · rw [if_pos hd, chk_2, encLen]
      unfold tail at hd
      by_cases hin : lo ≤ d ∧ d ≤ hi
      · rw [if_pos (c := 2 ≤ t.length + 1 + 1 ∧ _) ⟨by omega, hin, by omega⟩, if_pos]
        refine ⟨by simp [letter]; split at hhi <;> split at hlo <;> omega, ?_⟩
        rw [if_neg (by split at hhi <;> split at hlo <;> omega), if_neg (by split at hhi <;> split at hlo <;> omega), if_pos (by omega)]
      · rw [if_neg (c := 2 ≤ t.length + 1 + 1 ∧ _) (fun x => hin x.2.1), if_neg]
        intro ⟨x1, x2⟩
        simp [letter] at x1
        split at x2 <;> try omega
        split at x2 <;> try omega
    · rw [if_neg hd, if_neg]
      unfold tail at hd
      split at hhi <;> split at hlo <;> omega

theorem lead4 (c : Int) (t : List Int) (h : 240 ≤ c) (h' : c < 245) (lo hi : Int) (hlo : lo = if c = 240 then 144 else 128) (hhi : hi = if c = 244 then 143 else 191) :
    (first (c :: t)).2 = if 3 ≤ t.length ∧ (lo ≤ t[0]?.getD 0 ∧ t[0]?.getD 0 ≤ hi) ∧ ((128 : Int) ≤ t[1]?.getD 0 ∧ t[1]?.getD 0 ≤ 191) ∧ (128 : Int) ≤ t[2]?.getD 0 ∧ t[2]?.getD 0 ≤ 191 then 4 else 0 := by
  simp only [first]
  rw [if_neg (by omega), if_neg (by omega), if_neg (by omega), if_pos ⟨by omega, by omega⟩]
  match t with
  | [] => rfl
  | [_] => simp
  | [_, _] => simp
  | d :: e :: f :: t =>
    simp only [List.length_cons, List.getElem?_cons_zero, List.getElem?_cons_succ, Option.getD_some]
    by_cases hd : tail d ∧ tail e ∧ tail f
    · rw [if_pos hd, chk_2, encLen]
      unfold tail at hd
      by_cases hin : lo ≤ d ∧ d ≤ hi
      · rw [if_pos (c := 3 ≤ t.length + 1 + 1 + 1 ∧ _) ⟨by omega, hin, by omega⟩, if_pos]
        refine ⟨by simp [letter]; split at hhi <;> split at hlo <;> omega, ?_⟩
        rw [if_neg (by split at hhi <;> split at hlo <;> omega), if_neg (by split at hhi <;> split at hlo <;> omega), if_neg (by split at hhi <;> split at hlo <;> omega)]
      · rw [if_neg (c := 3 ≤ t.length + 1 + 1 + 1 ∧ _) (fun x => hin x.2.1), if_neg]
        intro ⟨x1, x2⟩
        simp [letter] at x1
        split at x2 <;> try omega
        split at x2 <;> try omega
        split at x2 <;> try omega
    · rw [if_neg hd, if_neg]
      unfold tail at hd
      split at hhi <;> split at hlo <;> omega

/-- Are they a text? -/
def isText (L : List Int) : Bool := (letters L).isSome

theorem text_skip {L : List Int} (hb : Bytes L) (k : Nat) (hk : (first L).2 = k) (h0 : k ≠ 0) : isText (L.drop k) = isText L := by
  unfold isText
  rw [letters_go hb (by rw [hk]; exact h0), hk]
  cases letters (L.drop k) <;> rfl
theorem text_stop {L : List Int} (hb : Bytes L) (hl : L ≠ []) (h : (first L).2 = 0) : isText L = false := by
  unfold isText; rw [letters_stop hb hl h]; rfl
theorem text_ascii {L : List Int} (hb : Bytes L) (hl : 0 < L.length) (h : L[0]?.getD 0 < 128) : isText (L.drop 1) = isText L := by
  refine text_skip hb 1 ?_ (by decide)
  cases L with
  | nil => simp at hl
  | cons c t => simp at h; simp [first, h]

theorem text_asciis (k : Nat) : ∀ {L : List Int}, Bytes L → k ≤ L.length → (∀ i, i < k → L[i]?.getD 0 < 128) → isText (L.drop k) = isText L := by
  induction k with
  | zero => intro L _ _ _; rfl
  | succ k ih =>
    intro L hb hl h
    have h1 := text_ascii hb (by omega) (h 0 (by omega))
    have h2 := ih (L := L.drop 1) (bytes_dropU hb 1) (by simp; omega) (fun i hi => by rw [List.getElem?_drop, Nat.add_comm]; exact h (i + 1) (by omega))
    rw [List.drop_drop, Nat.add_comm 1 k] at h2
    rw [h2, h1]

/-- What Go's table says of a first byte from 128 on. -/
theorem lead_tab (L : List Int) (hb : Bytes L) (hl : 0 < L.length) (X LO HI : Nat) (hX : firstT (L[0]?.getD (0 : Int)).toNat = X) (hLO : accLo (X / 16) = LO) (hHI : accHi (X / 16) = HI) (h : (128 : Int) ≤ L[0]?.getD 0) :
    (X % 8 = 2 → (L.length < 2 ∨ L[1]?.getD 0 < (LO : Int) ∨ (HI : Int) < L[1]?.getD 0 → isText L = false) ∧ (¬ (L.length < 2 ∨ L[1]?.getD 0 < (LO : Int) ∨ (HI : Int) < L[1]?.getD 0) → isText (L.drop 2) = isText L)) ∧
    (X % 8 = 3 → (L.length < 3 ∨ L[1]?.getD 0 < (LO : Int) ∨ (HI : Int) < L[1]?.getD 0 ∨ L[2]?.getD 0 < 128 ∨ (191 : Int) < L[2]?.getD 0 → isText L = false) ∧ (¬ (L.length < 3 ∨ L[1]?.getD 0 < (LO : Int) ∨ (HI : Int) < L[1]?.getD 0 ∨ L[2]?.getD 0 < 128 ∨ (191 : Int) < L[2]?.getD 0) → isText (L.drop 3) = isText L)) ∧
    (X % 8 = 4 → (L.length < 4 ∨ L[1]?.getD 0 < (LO : Int) ∨ (HI : Int) < L[1]?.getD 0 ∨ L[2]?.getD 0 < 128 ∨ (191 : Int) < L[2]?.getD 0 ∨ L[3]?.getD 0 < 128 ∨ (191 : Int) < L[3]?.getD 0 → isText L = false) ∧ (¬ (L.length < 4 ∨ L[1]?.getD 0 < (LO : Int) ∨ (HI : Int) < L[1]?.getD 0 ∨ L[2]?.getD 0 < 128 ∨ (191 : Int) < L[2]?.getD 0 ∨ L[3]?.getD 0 < 128 ∨ (191 : Int) < L[3]?.getD 0) → isText (L.drop 4) = isText L)) ∧
    (X % 8 ≠ 2 → X % 8 ≠ 3 → X % 8 ≠ 4 → isText L = false ∧ X % 8 = 1) ∧ X < 256 := by
  cases L with
  | nil => simp at hl
  | cons c t =>
    have hne : c :: t ≠ [] := by simp
    have hc := hb 0
    simp only [List.getElem?_cons_zero, Option.getD_some, List.getElem?_cons_succ, List.length_cons] at hX h hc ⊢
    obtain ⟨n, rfl⟩ : ∃ n : Nat, c = n := ⟨c.toNat, by omega⟩
    rw [Int.toNat_natCast] at hX
    by_cases g0 : n < 194 ∨ 245 ≤ n
    · have hx : X = 241 := by rw [← hX]; unfold firstT; rw [if_neg (by omega)]; repeat' split
                              all_goals omega
      subst hx
      refine ⟨fun h => by simp at h, fun h => by simp at h, fun h => by simp at h, fun _ _ _ => ⟨text_stop hb hne (lead_no _ t hb (by omega)), by decide⟩, by decide⟩
    by_cases g1 : n < 224
    · have hx : X = 2 := by rw [← hX]; unfold firstT; rw [if_neg (by omega), if_neg (by omega), if_pos (by omega)]
      subst hx
      have e1 : LO = 128 := by rw [← hLO]; rfl
      have e2 : HI = 191 := by rw [← hHI]; rfl
      subst e1 e2
      have hf := lead2 n t (by omega) (by omega)
      refine ⟨fun _ => ⟨fun hbad => text_stop hb hne (by rw [hf, if_neg (by omega)]), fun hok => text_skip hb 2 (by rw [hf, if_pos (by omega)]) (by decide)⟩, fun h => by simp at h, fun h => by simp at h, fun h => by simp at h, by decide⟩
    by_cases g2 : n < 240
    · have hx : X = if n = 224 then 19 else if n = 237 then 35 else 3 := by
        rw [← hX]; unfold firstT; rw [if_neg (by omega), if_neg (by omega), if_neg (by omega)]
        repeat' split
        all_goals omega
      have e0 : X % 8 = 3 ∧ X < 256 := by rw [hx]; repeat' split
                                          all_goals decide
      have e1 : (LO : Int) = if (n : Int) = 224 then 160 else 128 := by
        rw [← hLO, hx]
        by_cases a : n = 224
        · rw [if_pos a, if_pos (by omega)]; rfl
        · rw [if_neg a, if_neg (show ¬ (n : Int) = 224 by omega)]; split <;> rfl
      have e2 : (HI : Int) = if (n : Int) = 237 then 159 else 191 := by
        rw [← hHI, hx]
        by_cases a : n = 237
        · rw [if_neg (by omega), if_pos a, if_pos (by omega)]; rfl
        · rw [if_neg (show ¬ (n : Int) = 237 by omega)]; split <;> (try rw [if_neg a]) <;> rfl
      have hf := lead3 n t (by omega) (by omega) LO HI e1 e2
      refine ⟨fun h => by omega, fun _ => ⟨fun hbad => text_stop hb hne (by rw [hf, if_neg (by omega)]), fun hok => text_skip hb 3 (by rw [hf, if_pos (by omega)]) (by decide)⟩, fun h => by omega, fun _ h => by omega, e0.2⟩
    · have hx : X = if n = 240 then 52 else if n = 244 then 68 else 4 := by
        rw [← hX]; unfold firstT; rw [if_neg (by omega), if_neg (by omega), if_neg (by omega)]
        repeat' split
        all_goals omega
      have e0 : X % 8 = 4 ∧ X < 256 := by rw [hx]; repeat' split
                                          all_goals decide
      have e1 : (LO : Int) = if (n : Int) = 240 then 144 else 128 := by
        rw [← hLO, hx]
        by_cases a : n = 240
        · rw [if_pos a, if_pos (by omega)]; rfl
        · rw [if_neg a, if_neg (show ¬ (n : Int) = 240 by omega)]; split <;> rfl
      have e2 : (HI : Int) = if (n : Int) = 244 then 143 else 191 := by
        rw [← hHI, hx]
        by_cases a : n = 244
        · rw [if_neg (by omega), if_pos a, if_pos (by omega)]; rfl
        · rw [if_neg (show ¬ (n : Int) = 244 by omega)]; split <;> (try rw [if_neg a]) <;> rfl
      have hf := lead4 n t (by omega) (by omega) LO HI e1 e2
      refine ⟨fun h => by omega, fun h => by omega, fun _ => ⟨fun hbad => text_stop hb hne (by rw [hf, if_neg (by omega)]), fun hok => text_skip hb 4 (by rw [hf, if_pos (by omega)]) (by decide)⟩, fun _ _ h => by omega, e0.2⟩

end Go.Proofs.YthillphedjjhjabDoor.Utf
