/-
  The document's 'first': the letter whose bytes begin at a place.
-/
import Derived.Test.YthillphedjjhjaaDoorRef2Bytes
set_option linter.unusedVariables false
set_option linter.unusedSimpArgs false
namespace Go.Proofs.YthillphedjjhjaaDoor
open Go.RowKit

def firstV (x : Int × Nat) : Value := .tuple #[.int .i32 x.1, .int .i64 x.2]

/-- The number of the first 'i' of a letter's bytes, 'c' of the first. -/
def pv (L : List Int) (c : Int) : Nat → Int
  | 0 => c
  | i + 1 => 64 * pv L c i + L[i + 1]?.getD 0 - 128

theorem first_2 (L : List Int) (c : Int) (hc : L[0]?.getD 0 = c) (h1 : 192 ≤ c) (h2 : c < 224) (hl : 2 ≤ L.length) (ht : ∀ j : Nat, 1 ≤ j → j < 2 → Utf.tail (L[j]?.getD 0)) : Utf.first L = Utf.chk (pv L (c - 192) 1) 2 := by
  match L, hl with
  | x :: d :: t, _ =>
    simp at hc
    subst hc
    simp only [Utf.first]
    rw [if_neg (by omega), if_pos (by omega)]
    have hh : Utf.tail d := by simpa using ht 1 (by decide) (by decide)
    simp only [hh, and_self, if_true, pv]
    simp
theorem first_2_no (L : List Int) (c : Int) (hc : L[0]?.getD 0 = c) (h1 : 192 ≤ c) (h2 : c < 224) (hl : 2 ≤ L.length) (j : Nat) (hj : 1 ≤ j) (hj2 : j < 2) (ht : ¬ Utf.tail (L[j]?.getD 0)) : Utf.first L = (0, 0) := by
  match L, hl with
  | x :: d :: t, _ =>
    simp at hc
    subst hc
    simp only [Utf.first]
    rw [if_neg (by omega), if_pos (by omega), if_neg]
    intro hh
    match j, hj, hj2 with
    | 1, _, _ => exact ht (by simpa using hh)
theorem first_2_short (L : List Int) (c : Int) (hc : L[0]?.getD 0 = c) (h1 : 192 ≤ c) (h2 : c < 224) (hl : L.length < 2) : Utf.first L = (0, 0) := by
  match L with
  | [] => rfl
  | [x] => simp at hc; subst hc; simp only [Utf.first]; rw [if_neg (by omega), if_pos (by omega)]
  | x :: _ :: t => simp at hl; omega

theorem first_3 (L : List Int) (c : Int) (hc : L[0]?.getD 0 = c) (h1 : 224 ≤ c) (h2 : c < 240) (hl : 3 ≤ L.length) (ht : ∀ j : Nat, 1 ≤ j → j < 3 → Utf.tail (L[j]?.getD 0)) : Utf.first L = Utf.chk (pv L (c - 224) 2) 3 := by
  match L, hl with
  | x :: d :: e :: t, _ =>
    simp at hc
    subst hc
    simp only [Utf.first]
    rw [if_neg (by omega), if_neg (by omega), if_pos (by omega)]
    have hh : Utf.tail d ∧ Utf.tail e := ⟨by simpa using ht 1 (by decide) (by decide), by simpa using ht 2 (by decide) (by decide)⟩
    simp only [hh, and_self, if_true, pv]
    simp
theorem first_3_no (L : List Int) (c : Int) (hc : L[0]?.getD 0 = c) (h1 : 224 ≤ c) (h2 : c < 240) (hl : 3 ≤ L.length) (j : Nat) (hj : 1 ≤ j) (hj2 : j < 3) (ht : ¬ Utf.tail (L[j]?.getD 0)) : Utf.first L = (0, 0) := by
  match L, hl with
  | x :: d :: e :: t, _ =>
    simp at hc
    subst hc
    simp only [Utf.first]
    rw [if_neg (by omega), if_neg (by omega), if_pos (by omega), if_neg]
    intro hh
    match j, hj, hj2 with
    | 1, _, _ => exact ht (by simpa using hh.1)
    | 2, _, _ => exact ht (by simpa using hh.2)
theorem first_3_short (L : List Int) (c : Int) (hc : L[0]?.getD 0 = c) (h1 : 224 ≤ c) (h2 : c < 240) (hl : L.length < 3) : Utf.first L = (0, 0) := by
  match L with
  | [] => rfl
  | [x] => simp at hc; subst hc; simp only [Utf.first]; rw [if_neg (by omega), if_neg (by omega), if_pos (by omega)]
  | [x, d] => simp at hc; subst hc; simp only [Utf.first]; rw [if_neg (by omega), if_neg (by omega), if_pos (by omega)]
  | x :: _ :: _ :: t => simp at hl; omega

theorem first_4 (L : List Int) (c : Int) (hc : L[0]?.getD 0 = c) (h1 : 240 ≤ c) (h2 : c < 248) (hl : 4 ≤ L.length) (ht : ∀ j : Nat, 1 ≤ j → j < 4 → Utf.tail (L[j]?.getD 0)) : Utf.first L = Utf.chk (pv L (c - 240) 3) 4 := by
  match L, hl with
  | x :: d :: e :: f :: t, _ =>
    simp at hc
    subst hc
    simp only [Utf.first]
    rw [if_neg (by omega), if_neg (by omega), if_neg (by omega), if_pos (by omega)]
    have hh : Utf.tail d ∧ Utf.tail e ∧ Utf.tail f := ⟨by simpa using ht 1 (by decide) (by decide), by simpa using ht 2 (by decide) (by decide), by simpa using ht 3 (by decide) (by decide)⟩
    simp only [hh, and_self, if_true, pv]
    simp
theorem first_4_no (L : List Int) (c : Int) (hc : L[0]?.getD 0 = c) (h1 : 240 ≤ c) (h2 : c < 248) (hl : 4 ≤ L.length) (j : Nat) (hj : 1 ≤ j) (hj2 : j < 4) (ht : ¬ Utf.tail (L[j]?.getD 0)) : Utf.first L = (0, 0) := by
  match L, hl with
  | x :: d :: e :: f :: t, _ =>
    simp at hc
    subst hc
    simp only [Utf.first]
    rw [if_neg (by omega), if_neg (by omega), if_neg (by omega), if_pos (by omega), if_neg]
    intro hh
    match j, hj, hj2 with
    | 1, _, _ => exact ht (by simpa using hh.1)
    | 2, _, _ => exact ht (by simpa using hh.2.1)
    | 3, _, _ => exact ht (by simpa using hh.2.2)
theorem first_4_short (L : List Int) (c : Int) (hc : L[0]?.getD 0 = c) (h1 : 240 ≤ c) (h2 : c < 248) (hl : L.length < 4) : Utf.first L = (0, 0) := by
  match L with
  | [] => rfl
  | [x] => simp at hc; subst hc; simp only [Utf.first]; rw [if_neg (by omega), if_neg (by omega), if_neg (by omega), if_pos (by omega)]
  | [x, d] => simp at hc; subst hc; simp only [Utf.first]; rw [if_neg (by omega), if_neg (by omega), if_neg (by omega), if_pos (by omega)]
  | [x, d, e] => simp at hc; subst hc; simp only [Utf.first]; rw [if_neg (by omega), if_neg (by omega), if_neg (by omega), if_pos (by omega)]
  | x :: _ :: _ :: _ :: t => simp at hl; omega

theorem first_low (L : List Int) (c : Int) (hc : L[0]?.getD 0 = c) (h0 : 0 < L.length) (h1 : c < 128) : Utf.first L = (c, 1) := by
  cases L with
  | nil => simp at h0
  | cons x t => simp at hc; subst hc; simp [Utf.first, h1]
theorem first_else (L : List Int) (c : Int) (hc : L[0]?.getD 0 = c) (h0 : 0 < L.length) (h1 : 128 ≤ c ∧ c < 192 ∨ 248 ≤ c) : Utf.first L = (0, 0) := by
  cases L with
  | nil => simp at h0
  | cons x t => simp at hc; subst hc; simp only [Utf.first]; rw [if_neg (by omega), if_neg (by omega), if_neg (by omega), if_neg (by omega)]

theorem rfirst_low (b off n cap p : Nat) (L : List Int) (c : Int) (w : World) (hL : L.length = n - p) (hp : p < n) (hm : n ≤ 2 ^ 62) (hb : Leb.Bytes L)
    (hc : ∀ i, i < n - p → w.cell? ⟨b, off + (p + i), none⟩ = some (.int .u8 (L[i]?.getD 0))) (hce : L[0]?.getD 0 = c) (h1 : c < 128) :
    Calls Tryd.prog 24 #[.slice (some ⟨b, off, none⟩) n cap, .int .i64 p] w fun e w' => e = .returned (firstV (Utf.first L)) ∧ Below w.heap.size w w' := by
  have hc0 := hc 0 (by omega)
  rw [Nat.add_zero, hce] at hc0
  have hcb := hb 0
  rw [hce] at hcb
  have hpz : (p : Int) < (n : Int) := by omega
  have t1 : decide (c < 128) = true := by simp; omega
  rw [first_low L c hce (by omega) h1]
  clear hc hb hce
  go_enter Tryd.func24, Tryd.ntmps24
  go_wp2
  refine bodyPost_ret (v := .tuple #[.int .i32 c, .int .i64 1]) (by simp [results, Tryd.results24, go_sem]) rfl ?_
  exact ⟨rfl, Below.refl _ _⟩

set_option maxHeartbeats 1000000 in
theorem rfirst_else (b off n cap p : Nat) (L : List Int) (c : Int) (w : World) (hL : L.length = n - p) (hp : p < n) (hm : n ≤ 2 ^ 62) (hb : Leb.Bytes L)
    (hc : ∀ i, i < n - p → w.cell? ⟨b, off + (p + i), none⟩ = some (.int .u8 (L[i]?.getD 0))) (hce : L[0]?.getD 0 = c) (h1 : 128 ≤ c ∧ c < 192 ∨ 248 ≤ c) :
    Calls Tryd.prog 24 #[.slice (some ⟨b, off, none⟩) n cap, .int .i64 p] w fun e w' => e = .returned (firstV (Utf.first L)) ∧ Below w.heap.size w w' := by
  have hc0 := hc 0 (by omega)
  rw [Nat.add_zero, hce] at hc0
  have hcb := hb 0
  rw [hce] at hcb
  have hpz : (p : Int) < (n : Int) := by omega
  rw [first_else L c hce (by omega) h1]
  have t1 : decide (c < 128) = false := by simp; omega
  clear hc hb hce
  by_cases g : c < 192
  · have t2 : decide (192 ≤ c) = false := by simp; omega
    have t3 : decide (224 ≤ c) = false := by simp; omega
    have t4 : decide (240 ≤ c) = false := by simp; omega
    clear h1
    go_enter Tryd.func24, Tryd.ntmps24
    go_wp2
    refine bodyPost_ret (v := .tuple #[.int .i32 0, .int .i64 0]) (by simp [results, Tryd.results24, go_sem]) rfl ?_
    exact ⟨rfl, Below.refl _ _⟩
  · have t2 : decide (192 ≤ c) = true := by simp; omega
    have t3 : decide (224 ≤ c) = true := by simp; omega
    have t4 : decide (240 ≤ c) = true := by simp; omega
    have t5 : decide (c < 224) = false := by simp; omega
    have t6 : decide (c < 240) = false := by simp; omega
    have t7 : decide (c < 248) = false := by simp; omega
    clear h1
    go_enter Tryd.func24, Tryd.ntmps24
    go_wp2
    refine bodyPost_ret (v := .tuple #[.int .i32 0, .int .i64 0]) (by simp [results, Tryd.results24, go_sem]) rfl ?_
    exact ⟨rfl, Below.refl _ _⟩

set_option maxHeartbeats 1000000 in
theorem rfirst_2_short (b off n cap p : Nat) (L : List Int) (c : Int) (w : World) (hL : L.length = n - p) (hp : p < n) (hm : n ≤ 2 ^ 62) (hb : Leb.Bytes L)
    (hc : ∀ i, i < n - p → w.cell? ⟨b, off + (p + i), none⟩ = some (.int .u8 (L[i]?.getD 0))) (hce : L[0]?.getD 0 = c) (h1 : 192 ≤ c) (h2 : c < 224) (hs : n < p + 2) :
    Calls Tryd.prog 24 #[.slice (some ⟨b, off, none⟩) n cap, .int .i64 p] w fun e w' => e = .returned (firstV (Utf.first L)) ∧ Below w.heap.size w w' := by
  have hc0 := hc 0 (by omega)
  rw [Nat.add_zero, hce] at hc0
  have hcb := hb 0
  rw [hce] at hcb
  have hpz : (p : Int) < (n : Int) := by omega
  have t1 : decide (c < 128) = false := by simp; omega
  have t2 : decide (192 ≤ c) = true := by simp; omega
  have t3 : decide (c < 224) = true := by simp; omega
  have t8 : decide ((n : Int) < (p : Int) + 2) = true := by simp; omega
  rw [first_2_short L c hce h1 h2 (by omega)]
  clear hc hb hce
  go_enter Tryd.func24, Tryd.ntmps24
  go_wp2
  refine bodyPost_ret (v := .tuple #[.int .i32 0, .int .i64 0]) (by simp [results, Tryd.results24, go_sem]) rfl ?_
  exact ⟨rfl, Below.refl _ _⟩

set_option maxHeartbeats 2000000 in
theorem rfirst_2 (b off n cap p : Nat) (L : List Int) (c : Int) (w : World) (hL : L.length = n - p) (hp : p < n) (hm : n ≤ 2 ^ 62) (hb : Leb.Bytes L)
    (hc : ∀ i, i < n - p → w.cell? ⟨b, off + (p + i), none⟩ = some (.int .u8 (L[i]?.getD 0))) (hce : L[0]?.getD 0 = c) (h1 : 192 ≤ c) (h2 : c < 224) (hs : p + 2 ≤ n) :
    Calls Tryd.prog 24 #[.slice (some ⟨b, off, none⟩) n cap, .int .i64 p] w fun e w' => e = .returned (firstV (Utf.first L)) ∧ Below w.heap.size w w' := by
  have hc0 := hc 0 (by omega)
  rw [Nat.add_zero, hce] at hc0
  have hcb := hb 0
  rw [hce] at hcb
  have hpz : (p : Int) < (n : Int) := by omega
  have t1 : decide (c < 128) = false := by simp; omega
  have t2 : decide (192 ≤ c) = true := by simp; omega
  have t3 : decide (c < 224) = true := by simp; omega
  have t8 : decide ((n : Int) < (p : Int) + 2) = false := by simp; omega
  have hsz : (p : Int) + 2 ≤ (n : Int) := by omega
  go_enter Tryd.func24, Tryd.ntmps24
  go_wp2
  go_loop [8, 9] (fun x y => ∃ i : Nat, y = .int .i64 ((i : Int) + 1) ∧ x = .int .i64 (pv L (c - 192) i) ∧ i + 1 ≤ 2 ∧ (∀ j : Nat, 1 ≤ j → j < i + 1 → Utf.tail (L[j]?.getD 0)) ∧ 0 ≤ pv L (c - 192) i ∧ (i < 1 → pv L (c - 192) i < 32) ∧ (i < 2 → pv L (c - 192) i < 2048) ∧ (i < 3 → pv L (c - 192) i < 131072) ∧ pv L (c - 192) i < 8388608) (fun _ y => 2 - (intOf y).toNat)
  case atStart => exact ⟨0, by simp, by simp [pv], by omega, fun j a b => by omega, by simp only [pv]; omega, fun _ => by simp only [pv]; omega, fun _ => by simp only [pv]; omega, fun _ => by simp only [pv]; omega, by simp only [pv]; omega⟩
  case round =>
    obtain ⟨i, rfl, rfl, hi, htl, hv0, hv1, hv2, hv3, hv4⟩ := hrel
    by_cases hlt : i + 1 < 2
    · have u1 : decide ((i : Int) + 1 < 2) = true := by simp; omega
      have hci := hc (i + 1) (by omega)
      have hbi := hb (i + 1)
      have hix : (p : Int) + ((i : Int) + 1) < (n : Int) := by omega
      have hpv : pv L (c - 192) (i + 1) = 64 * pv L (c - 192) i + L[i + 1]?.getD 0 - 128 := rfl
      have hv3' := hv3 (by omega)
      have w1 := hv1
      have w2 := hv2
      obtain ⟨d, hd⟩ : ∃ d, L[i + 1]?.getD 0 = d := ⟨_, rfl⟩
      rw [hd] at hci hbi hpv
      obtain ⟨x, hx⟩ : ∃ x, pv L (c - 192) i = x := ⟨_, rfl⟩
      rw [hx] at hpv hv0 hv3' w1 w2
      have HV := hide hpv
      have W1 := hide w1
      have W2 := hide w2
      have HT := hide htl
      have HD := hide hd
      have HX := hide hx
      by_cases hd1 : d < 128
      · have u2 : decide (d < 128) = true := by simp; omega
        have hno := first_2_no L c hce h1 h2 (by omega) (i + 1) (by omega) hlt (by rw [hd]; unfold Utf.tail; omega)
        rw [hx]
        have HN := hide hno
        clear hno htl hv1 hv2 hv3 hv4 hpv w1 w2 hd hx hc hb hce HV W1 W2 HT HD HX
        go_wp2
        refine bodyPost_ret (v := .tuple #[.int .i32 0, .int .i64 0]) (by simp [results, Tryd.results24, go_sem]) rfl ?_
        exact ⟨by rw [HN.out]; rfl, Below.refl _ _⟩
      · have u2 : decide (d < 128) = false := by simp; omega
        by_cases hd2 : 192 ≤ d
        · have u3 : decide (192 ≤ d) = true := by simp; omega
          have hno := first_2_no L c hce h1 h2 (by omega) (i + 1) (by omega) hlt (by rw [hd]; unfold Utf.tail; omega)
          rw [hx]
          have HN := hide hno
          clear hno htl hv1 hv2 hv3 hv4 hpv w1 w2 hd hx hc hb hce HV W1 W2 HT HD HX
          go_wp2
          refine bodyPost_ret (v := .tuple #[.int .i32 0, .int .i64 0]) (by simp [results, Tryd.results24, go_sem]) rfl ?_
          exact ⟨by rw [HN.out]; rfl, Below.refl _ _⟩
        · have u3 : decide (192 ≤ d) = false := by simp; omega
          rw [hx]
          clear htl hv1 hv2 hv3 hv4 hpv w1 w2 hd hx hc hb hce
          go_wp2
          go_round
          case rel =>
            refine ⟨i + 1, by simp, by rw [HV.out], by omega, fun j a b => ?_, by rw [HV.out]; omega, fun g => by omega, fun g => by rw [HV.out]; have := W1.out (by omega); omega, fun g => by rw [HV.out]; have := W2.out (by omega); omega, by rw [HV.out]; omega⟩
            by_cases e : j = i + 1
            · subst e; rw [HD.out]; unfold Utf.tail; omega
            · exact HT.out j a (by omega)
          case measure => simp [intOf]; omega
    · obtain rfl : i = 1 := by omega
      have hf := first_2 L c hce h1 h2 (by omega) (fun j a b => htl j a (by omega))
      obtain ⟨x, hx⟩ : ∃ x, pv L (c - 192) 1 = x := ⟨_, rfl⟩
      rw [hx] at hv0 hv4 hf ⊢
      have C1 := hide (Letter_calls x w)
      unfold Utf.chk at hf
      have hel := Utf.enc_len x
      cases hlx : Utf.letter x with
      | false =>
        rw [hlx] at C1
        rw [if_neg (by rw [hlx]; simp)] at hf
        have HN := hide hf
        clear htl hv1 hv2 hv3 hx hc hb hce hel hf
        go_wp2_with fail
        refine C1.out.mono ?_
        rintro e w1 ⟨rfl, rfl⟩
        go_wp2
        refine bodyPost_ret (v := .tuple #[.int .i32 0, .int .i64 0]) (by simp [results, Tryd.results24, go_sem]) rfl ?_
        exact ⟨by rw [HN.out]; rfl, Below.refl _ _⟩
      | true =>
        rw [hlx] at C1
        have hxl := letter_true hlx
        have C2 := hide (bytes_calls x w hxl.1 hxl.2.1)
        obtain ⟨N, hN⟩ : ∃ N, (Utf.enc x).length = N := ⟨_, rfl⟩
        by_cases hne : N = 2
        · have u2 : ((N : Int) != 2) = false := by simp; omega
          rw [if_pos ⟨hlx, by rw [hN]; exact hne⟩] at hf
          have HN := hide hf
          clear htl hv1 hv2 hv3 hx hc hb hce hel hf
          go_wp2_with fail
          refine C1.out.mono ?_
          rintro e w1 ⟨rfl, rfl⟩
          go_wp2_with fail
          refine C2.out.mono ?_
          rintro e w2 ⟨rfl, rfl⟩
          rw [hN]
          subst hne
          have HB : Hid (Below w1.heap.size w1 (w1.alloc (.cells ((Utf.enc x).map (Value.int .u8)).toArray 5))) := (Below.refl _ _).alloc (Nat.le_refl _) _
          generalize w1.alloc (.cells ((Utf.enc x).map (Value.int .u8)).toArray 5) = w3 at HB ⊢
          clear C1 C2 hN
          go_wp2
          refine bodyPost_ret (v := .tuple #[.int .i32 x, .int .i64 2]) (by simp [results, Tryd.results24, go_sem]) rfl ?_
          exact ⟨by rw [HN.out]; rfl, HB.out⟩
        · have u2 : ((N : Int) != 2) = true := by simp; omega
          have u3 : ¬ ((N : Int) = 2) := by omega
          rw [if_neg (by rw [hN]; exact fun h => hne h.2)] at hf
          have HN := hide hf
          clear htl hv1 hv2 hv3 hx hc hb hce hel hf
          go_wp2_with fail
          refine C1.out.mono ?_
          rintro e w1 ⟨rfl, rfl⟩
          go_wp2_with fail
          refine C2.out.mono ?_
          rintro e w2 ⟨rfl, rfl⟩
          rw [hN]
          have HB : Hid (Below w1.heap.size w1 (w1.alloc (.cells ((Utf.enc x).map (Value.int .u8)).toArray 5))) := (Below.refl _ _).alloc (Nat.le_refl _) _
          generalize w1.alloc (.cells ((Utf.enc x).map (Value.int .u8)).toArray 5) = w3 at HB ⊢
          clear C1 C2 hN
          go_wp2
          refine bodyPost_ret (v := .tuple #[.int .i32 0, .int .i64 0]) (by simp [results, Tryd.results24, go_sem]) rfl ?_
          exact ⟨by rw [HN.out]; rfl, HB.out⟩

set_option maxHeartbeats 1000000 in
theorem rfirst_3_short (b off n cap p : Nat) (L : List Int) (c : Int) (w : World) (hL : L.length = n - p) (hp : p < n) (hm : n ≤ 2 ^ 62) (hb : Leb.Bytes L)
    (hc : ∀ i, i < n - p → w.cell? ⟨b, off + (p + i), none⟩ = some (.int .u8 (L[i]?.getD 0))) (hce : L[0]?.getD 0 = c) (h1 : 224 ≤ c) (h2 : c < 240) (hs : n < p + 3) :
    Calls Tryd.prog 24 #[.slice (some ⟨b, off, none⟩) n cap, .int .i64 p] w fun e w' => e = .returned (firstV (Utf.first L)) ∧ Below w.heap.size w w' := by
  have hc0 := hc 0 (by omega)
  rw [Nat.add_zero, hce] at hc0
  have hcb := hb 0
  rw [hce] at hcb
  have hpz : (p : Int) < (n : Int) := by omega
  have t1 : decide (c < 128) = false := by simp; omega
  have t2 : decide (192 ≤ c) = true := by simp; omega
  have t3 : decide (c < 224) = false := by simp; omega
  have t4 : decide (224 ≤ c) = true := by simp; omega
  have t5 : decide (c < 240) = true := by simp; omega
  have t8 : decide ((n : Int) < (p : Int) + 3) = true := by simp; omega
  rw [first_3_short L c hce h1 h2 (by omega)]
  clear hc hb hce
  go_enter Tryd.func24, Tryd.ntmps24
  go_wp2
  refine bodyPost_ret (v := .tuple #[.int .i32 0, .int .i64 0]) (by simp [results, Tryd.results24, go_sem]) rfl ?_
  exact ⟨rfl, Below.refl _ _⟩

set_option maxHeartbeats 2000000 in
theorem rfirst_3 (b off n cap p : Nat) (L : List Int) (c : Int) (w : World) (hL : L.length = n - p) (hp : p < n) (hm : n ≤ 2 ^ 62) (hb : Leb.Bytes L)
    (hc : ∀ i, i < n - p → w.cell? ⟨b, off + (p + i), none⟩ = some (.int .u8 (L[i]?.getD 0))) (hce : L[0]?.getD 0 = c) (h1 : 224 ≤ c) (h2 : c < 240) (hs : p + 3 ≤ n) :
    Calls Tryd.prog 24 #[.slice (some ⟨b, off, none⟩) n cap, .int .i64 p] w fun e w' => e = .returned (firstV (Utf.first L)) ∧ Below w.heap.size w w' := by
  have hc0 := hc 0 (by omega)
  rw [Nat.add_zero, hce] at hc0
  have hcb := hb 0
  rw [hce] at hcb
  have hpz : (p : Int) < (n : Int) := by omega
  have t1 : decide (c < 128) = false := by simp; omega
  have t2 : decide (192 ≤ c) = true := by simp; omega
  have t3 : decide (c < 224) = false := by simp; omega
  have t4 : decide (224 ≤ c) = true := by simp; omega
  have t5 : decide (c < 240) = true := by simp; omega
  have t8 : decide ((n : Int) < (p : Int) + 3) = false := by simp; omega
  have hsz : (p : Int) + 3 ≤ (n : Int) := by omega
  go_enter Tryd.func24, Tryd.ntmps24
  go_wp2
  go_loop [8, 9] (fun x y => ∃ i : Nat, y = .int .i64 ((i : Int) + 1) ∧ x = .int .i64 (pv L (c - 224) i) ∧ i + 1 ≤ 3 ∧ (∀ j : Nat, 1 ≤ j → j < i + 1 → Utf.tail (L[j]?.getD 0)) ∧ 0 ≤ pv L (c - 224) i ∧ (i < 1 → pv L (c - 224) i < 32) ∧ (i < 2 → pv L (c - 224) i < 2048) ∧ (i < 3 → pv L (c - 224) i < 131072) ∧ pv L (c - 224) i < 8388608) (fun _ y => 3 - (intOf y).toNat)
  case atStart => exact ⟨0, by simp, by simp [pv], by omega, fun j a b => by omega, by simp only [pv]; omega, fun _ => by simp only [pv]; omega, fun _ => by simp only [pv]; omega, fun _ => by simp only [pv]; omega, by simp only [pv]; omega⟩
  case round =>
    obtain ⟨i, rfl, rfl, hi, htl, hv0, hv1, hv2, hv3, hv4⟩ := hrel
    by_cases hlt : i + 1 < 3
    · have u1 : decide ((i : Int) + 1 < 3) = true := by simp; omega
      have hci := hc (i + 1) (by omega)
      have hbi := hb (i + 1)
      have hix : (p : Int) + ((i : Int) + 1) < (n : Int) := by omega
      have hpv : pv L (c - 224) (i + 1) = 64 * pv L (c - 224) i + L[i + 1]?.getD 0 - 128 := rfl
      have hv3' := hv3 (by omega)
      have w1 := hv1
      have w2 := hv2
      obtain ⟨d, hd⟩ : ∃ d, L[i + 1]?.getD 0 = d := ⟨_, rfl⟩
      rw [hd] at hci hbi hpv
      obtain ⟨x, hx⟩ : ∃ x, pv L (c - 224) i = x := ⟨_, rfl⟩
      rw [hx] at hpv hv0 hv3' w1 w2
      have HV := hide hpv
      have W1 := hide w1
      have W2 := hide w2
      have HT := hide htl
      have HD := hide hd
      have HX := hide hx
      by_cases hd1 : d < 128
      · have u2 : decide (d < 128) = true := by simp; omega
        have hno := first_3_no L c hce h1 h2 (by omega) (i + 1) (by omega) hlt (by rw [hd]; unfold Utf.tail; omega)
        rw [hx]
        have HN := hide hno
        clear hno htl hv1 hv2 hv3 hv4 hpv w1 w2 hd hx hc hb hce HV W1 W2 HT HD HX
        go_wp2
        refine bodyPost_ret (v := .tuple #[.int .i32 0, .int .i64 0]) (by simp [results, Tryd.results24, go_sem]) rfl ?_
        exact ⟨by rw [HN.out]; rfl, Below.refl _ _⟩
      · have u2 : decide (d < 128) = false := by simp; omega
        by_cases hd2 : 192 ≤ d
        · have u3 : decide (192 ≤ d) = true := by simp; omega
          have hno := first_3_no L c hce h1 h2 (by omega) (i + 1) (by omega) hlt (by rw [hd]; unfold Utf.tail; omega)
          rw [hx]
          have HN := hide hno
          clear hno htl hv1 hv2 hv3 hv4 hpv w1 w2 hd hx hc hb hce HV W1 W2 HT HD HX
          go_wp2
          refine bodyPost_ret (v := .tuple #[.int .i32 0, .int .i64 0]) (by simp [results, Tryd.results24, go_sem]) rfl ?_
          exact ⟨by rw [HN.out]; rfl, Below.refl _ _⟩
        · have u3 : decide (192 ≤ d) = false := by simp; omega
          rw [hx]
          clear htl hv1 hv2 hv3 hv4 hpv w1 w2 hd hx hc hb hce
          go_wp2
          go_round
          case rel =>
            refine ⟨i + 1, by simp, by rw [HV.out], by omega, fun j a b => ?_, by rw [HV.out]; omega, fun g => by omega, fun g => by rw [HV.out]; have := W1.out (by omega); omega, fun g => by rw [HV.out]; have := W2.out (by omega); omega, by rw [HV.out]; omega⟩
            by_cases e : j = i + 1
            · subst e; rw [HD.out]; unfold Utf.tail; omega
            · exact HT.out j a (by omega)
          case measure => simp [intOf]; omega
    · obtain rfl : i = 2 := by omega
      have hf := first_3 L c hce h1 h2 (by omega) (fun j a b => htl j a (by omega))
      obtain ⟨x, hx⟩ : ∃ x, pv L (c - 224) 2 = x := ⟨_, rfl⟩
      rw [hx] at hv0 hv4 hf ⊢
      have C1 := hide (Letter_calls x w)
      unfold Utf.chk at hf
      have hel := Utf.enc_len x
      cases hlx : Utf.letter x with
      | false =>
        rw [hlx] at C1
        rw [if_neg (by rw [hlx]; simp)] at hf
        have HN := hide hf
        clear htl hv1 hv2 hv3 hx hc hb hce hel hf
        go_wp2_with fail
        refine C1.out.mono ?_
        rintro e w1 ⟨rfl, rfl⟩
        go_wp2
        refine bodyPost_ret (v := .tuple #[.int .i32 0, .int .i64 0]) (by simp [results, Tryd.results24, go_sem]) rfl ?_
        exact ⟨by rw [HN.out]; rfl, Below.refl _ _⟩
      | true =>
        rw [hlx] at C1
        have hxl := letter_true hlx
        have C2 := hide (bytes_calls x w hxl.1 hxl.2.1)
        obtain ⟨N, hN⟩ : ∃ N, (Utf.enc x).length = N := ⟨_, rfl⟩
        by_cases hne : N = 3
        · have u2 : ((N : Int) != 3) = false := by simp; omega
          rw [if_pos ⟨hlx, by rw [hN]; exact hne⟩] at hf
          have HN := hide hf
          clear htl hv1 hv2 hv3 hx hc hb hce hel hf
          go_wp2_with fail
          refine C1.out.mono ?_
          rintro e w1 ⟨rfl, rfl⟩
          go_wp2_with fail
          refine C2.out.mono ?_
          rintro e w2 ⟨rfl, rfl⟩
          rw [hN]
          subst hne
          have HB : Hid (Below w1.heap.size w1 (w1.alloc (.cells ((Utf.enc x).map (Value.int .u8)).toArray 5))) := (Below.refl _ _).alloc (Nat.le_refl _) _
          generalize w1.alloc (.cells ((Utf.enc x).map (Value.int .u8)).toArray 5) = w3 at HB ⊢
          clear C1 C2 hN
          go_wp2
          refine bodyPost_ret (v := .tuple #[.int .i32 x, .int .i64 3]) (by simp [results, Tryd.results24, go_sem]) rfl ?_
          exact ⟨by rw [HN.out]; rfl, HB.out⟩
        · have u2 : ((N : Int) != 3) = true := by simp; omega
          have u3 : ¬ ((N : Int) = 3) := by omega
          rw [if_neg (by rw [hN]; exact fun h => hne h.2)] at hf
          have HN := hide hf
          clear htl hv1 hv2 hv3 hx hc hb hce hel hf
          go_wp2_with fail
          refine C1.out.mono ?_
          rintro e w1 ⟨rfl, rfl⟩
          go_wp2_with fail
          refine C2.out.mono ?_
          rintro e w2 ⟨rfl, rfl⟩
          rw [hN]
          have HB : Hid (Below w1.heap.size w1 (w1.alloc (.cells ((Utf.enc x).map (Value.int .u8)).toArray 5))) := (Below.refl _ _).alloc (Nat.le_refl _) _
          generalize w1.alloc (.cells ((Utf.enc x).map (Value.int .u8)).toArray 5) = w3 at HB ⊢
          clear C1 C2 hN
          go_wp2
          refine bodyPost_ret (v := .tuple #[.int .i32 0, .int .i64 0]) (by simp [results, Tryd.results24, go_sem]) rfl ?_
          exact ⟨by rw [HN.out]; rfl, HB.out⟩

set_option maxHeartbeats 1000000 in
theorem rfirst_4_short (b off n cap p : Nat) (L : List Int) (c : Int) (w : World) (hL : L.length = n - p) (hp : p < n) (hm : n ≤ 2 ^ 62) (hb : Leb.Bytes L)
    (hc : ∀ i, i < n - p → w.cell? ⟨b, off + (p + i), none⟩ = some (.int .u8 (L[i]?.getD 0))) (hce : L[0]?.getD 0 = c) (h1 : 240 ≤ c) (h2 : c < 248) (hs : n < p + 4) :
    Calls Tryd.prog 24 #[.slice (some ⟨b, off, none⟩) n cap, .int .i64 p] w fun e w' => e = .returned (firstV (Utf.first L)) ∧ Below w.heap.size w w' := by
  have hc0 := hc 0 (by omega)
  rw [Nat.add_zero, hce] at hc0
  have hcb := hb 0
  rw [hce] at hcb
  have hpz : (p : Int) < (n : Int) := by omega
  have t1 : decide (c < 128) = false := by simp; omega
  have t2 : decide (192 ≤ c) = true := by simp; omega
  have t3 : decide (c < 224) = false := by simp; omega
  have t4 : decide (224 ≤ c) = true := by simp; omega
  have t5 : decide (c < 240) = false := by simp; omega
  have t6 : decide (240 ≤ c) = true := by simp; omega
  have t7 : decide (c < 248) = true := by simp; omega
  have t8 : decide ((n : Int) < (p : Int) + 4) = true := by simp; omega
  rw [first_4_short L c hce h1 h2 (by omega)]
  clear hc hb hce
  go_enter Tryd.func24, Tryd.ntmps24
  go_wp2
  refine bodyPost_ret (v := .tuple #[.int .i32 0, .int .i64 0]) (by simp [results, Tryd.results24, go_sem]) rfl ?_
  exact ⟨rfl, Below.refl _ _⟩

set_option maxHeartbeats 2000000 in
theorem rfirst_4 (b off n cap p : Nat) (L : List Int) (c : Int) (w : World) (hL : L.length = n - p) (hp : p < n) (hm : n ≤ 2 ^ 62) (hb : Leb.Bytes L)
    (hc : ∀ i, i < n - p → w.cell? ⟨b, off + (p + i), none⟩ = some (.int .u8 (L[i]?.getD 0))) (hce : L[0]?.getD 0 = c) (h1 : 240 ≤ c) (h2 : c < 248) (hs : p + 4 ≤ n) :
    Calls Tryd.prog 24 #[.slice (some ⟨b, off, none⟩) n cap, .int .i64 p] w fun e w' => e = .returned (firstV (Utf.first L)) ∧ Below w.heap.size w w' := by
  have hc0 := hc 0 (by omega)
  rw [Nat.add_zero, hce] at hc0
  have hcb := hb 0
  rw [hce] at hcb
  have hpz : (p : Int) < (n : Int) := by omega
  have t1 : decide (c < 128) = false := by simp; omega
  have t2 : decide (192 ≤ c) = true := by simp; omega
  have t3 : decide (c < 224) = false := by simp; omega
  have t4 : decide (224 ≤ c) = true := by simp; omega
  have t5 : decide (c < 240) = false := by simp; omega
  have t6 : decide (240 ≤ c) = true := by simp; omega
  have t7 : decide (c < 248) = true := by simp; omega
  have t8 : decide ((n : Int) < (p : Int) + 4) = false := by simp; omega
  have hsz : (p : Int) + 4 ≤ (n : Int) := by omega
  go_enter Tryd.func24, Tryd.ntmps24
  go_wp2
  go_loop [8, 9] (fun x y => ∃ i : Nat, y = .int .i64 ((i : Int) + 1) ∧ x = .int .i64 (pv L (c - 240) i) ∧ i + 1 ≤ 4 ∧ (∀ j : Nat, 1 ≤ j → j < i + 1 → Utf.tail (L[j]?.getD 0)) ∧ 0 ≤ pv L (c - 240) i ∧ (i < 1 → pv L (c - 240) i < 32) ∧ (i < 2 → pv L (c - 240) i < 2048) ∧ (i < 3 → pv L (c - 240) i < 131072) ∧ pv L (c - 240) i < 8388608) (fun _ y => 4 - (intOf y).toNat)
  case atStart => exact ⟨0, by simp, by simp [pv], by omega, fun j a b => by omega, by simp only [pv]; omega, fun _ => by simp only [pv]; omega, fun _ => by simp only [pv]; omega, fun _ => by simp only [pv]; omega, by simp only [pv]; omega⟩
  case round =>
    obtain ⟨i, rfl, rfl, hi, htl, hv0, hv1, hv2, hv3, hv4⟩ := hrel
    by_cases hlt : i + 1 < 4
    · have u1 : decide ((i : Int) + 1 < 4) = true := by simp; omega
      have hci := hc (i + 1) (by omega)
      have hbi := hb (i + 1)
      have hix : (p : Int) + ((i : Int) + 1) < (n : Int) := by omega
      have hpv : pv L (c - 240) (i + 1) = 64 * pv L (c - 240) i + L[i + 1]?.getD 0 - 128 := rfl
      have hv3' := hv3 (by omega)
      have w1 := hv1
      have w2 := hv2
      obtain ⟨d, hd⟩ : ∃ d, L[i + 1]?.getD 0 = d := ⟨_, rfl⟩
      rw [hd] at hci hbi hpv
      obtain ⟨x, hx⟩ : ∃ x, pv L (c - 240) i = x := ⟨_, rfl⟩
      rw [hx] at hpv hv0 hv3' w1 w2
      have HV := hide hpv
      have W1 := hide w1
      have W2 := hide w2
      have HT := hide htl
      have HD := hide hd
      have HX := hide hx
      by_cases hd1 : d < 128
      · have u2 : decide (d < 128) = true := by simp; omega
        have hno := first_4_no L c hce h1 h2 (by omega) (i + 1) (by omega) hlt (by rw [hd]; unfold Utf.tail; omega)
        rw [hx]
        have HN := hide hno
        clear hno htl hv1 hv2 hv3 hv4 hpv w1 w2 hd hx hc hb hce HV W1 W2 HT HD HX
        go_wp2
        refine bodyPost_ret (v := .tuple #[.int .i32 0, .int .i64 0]) (by simp [results, Tryd.results24, go_sem]) rfl ?_
        exact ⟨by rw [HN.out]; rfl, Below.refl _ _⟩
      · have u2 : decide (d < 128) = false := by simp; omega
        by_cases hd2 : 192 ≤ d
        · have u3 : decide (192 ≤ d) = true := by simp; omega
          have hno := first_4_no L c hce h1 h2 (by omega) (i + 1) (by omega) hlt (by rw [hd]; unfold Utf.tail; omega)
          rw [hx]
          have HN := hide hno
          clear hno htl hv1 hv2 hv3 hv4 hpv w1 w2 hd hx hc hb hce HV W1 W2 HT HD HX
          go_wp2
          refine bodyPost_ret (v := .tuple #[.int .i32 0, .int .i64 0]) (by simp [results, Tryd.results24, go_sem]) rfl ?_
          exact ⟨by rw [HN.out]; rfl, Below.refl _ _⟩
        · have u3 : decide (192 ≤ d) = false := by simp; omega
          rw [hx]
          clear htl hv1 hv2 hv3 hv4 hpv w1 w2 hd hx hc hb hce
          go_wp2
          go_round
          case rel =>
            refine ⟨i + 1, by simp, by rw [HV.out], by omega, fun j a b => ?_, by rw [HV.out]; omega, fun g => by omega, fun g => by rw [HV.out]; have := W1.out (by omega); omega, fun g => by rw [HV.out]; have := W2.out (by omega); omega, by rw [HV.out]; omega⟩
            by_cases e : j = i + 1
            · subst e; rw [HD.out]; unfold Utf.tail; omega
            · exact HT.out j a (by omega)
          case measure => simp [intOf]; omega
    · obtain rfl : i = 3 := by omega
      have hf := first_4 L c hce h1 h2 (by omega) (fun j a b => htl j a (by omega))
      obtain ⟨x, hx⟩ : ∃ x, pv L (c - 240) 3 = x := ⟨_, rfl⟩
      rw [hx] at hv0 hv4 hf ⊢
      have C1 := hide (Letter_calls x w)
      unfold Utf.chk at hf
      have hel := Utf.enc_len x
      cases hlx : Utf.letter x with
      | false =>
        rw [hlx] at C1
        rw [if_neg (by rw [hlx]; simp)] at hf
        have HN := hide hf
        clear htl hv1 hv2 hv3 hx hc hb hce hel hf
        go_wp2_with fail
        refine C1.out.mono ?_
        rintro e w1 ⟨rfl, rfl⟩
        go_wp2
        refine bodyPost_ret (v := .tuple #[.int .i32 0, .int .i64 0]) (by simp [results, Tryd.results24, go_sem]) rfl ?_
        exact ⟨by rw [HN.out]; rfl, Below.refl _ _⟩
      | true =>
        rw [hlx] at C1
        have hxl := letter_true hlx
        have C2 := hide (bytes_calls x w hxl.1 hxl.2.1)
        obtain ⟨N, hN⟩ : ∃ N, (Utf.enc x).length = N := ⟨_, rfl⟩
        by_cases hne : N = 4
        · have u2 : ((N : Int) != 4) = false := by simp; omega
          rw [if_pos ⟨hlx, by rw [hN]; exact hne⟩] at hf
          have HN := hide hf
          clear htl hv1 hv2 hv3 hx hc hb hce hel hf
          go_wp2_with fail
          refine C1.out.mono ?_
          rintro e w1 ⟨rfl, rfl⟩
          go_wp2_with fail
          refine C2.out.mono ?_
          rintro e w2 ⟨rfl, rfl⟩
          rw [hN]
          subst hne
          have HB : Hid (Below w1.heap.size w1 (w1.alloc (.cells ((Utf.enc x).map (Value.int .u8)).toArray 5))) := (Below.refl _ _).alloc (Nat.le_refl _) _
          generalize w1.alloc (.cells ((Utf.enc x).map (Value.int .u8)).toArray 5) = w3 at HB ⊢
          clear C1 C2 hN
          go_wp2
          refine bodyPost_ret (v := .tuple #[.int .i32 x, .int .i64 4]) (by simp [results, Tryd.results24, go_sem]) rfl ?_
          exact ⟨by rw [HN.out]; rfl, HB.out⟩
        · have u2 : ((N : Int) != 4) = true := by simp; omega
          have u3 : ¬ ((N : Int) = 4) := by omega
          rw [if_neg (by rw [hN]; exact fun h => hne h.2)] at hf
          have HN := hide hf
          clear htl hv1 hv2 hv3 hx hc hb hce hel hf
          go_wp2_with fail
          refine C1.out.mono ?_
          rintro e w1 ⟨rfl, rfl⟩
          go_wp2_with fail
          refine C2.out.mono ?_
          rintro e w2 ⟨rfl, rfl⟩
          rw [hN]
          have HB : Hid (Below w1.heap.size w1 (w1.alloc (.cells ((Utf.enc x).map (Value.int .u8)).toArray 5))) := (Below.refl _ _).alloc (Nat.le_refl _) _
          generalize w1.alloc (.cells ((Utf.enc x).map (Value.int .u8)).toArray 5) = w3 at HB ⊢
          clear C1 C2 hN
          go_wp2
          refine bodyPost_ret (v := .tuple #[.int .i32 0, .int .i64 0]) (by simp [results, Tryd.results24, go_sem]) rfl ?_
          exact ⟨by rw [HN.out]; rfl, HB.out⟩

theorem rfirst_calls (b off n cap p : Nat) (L : List Int) (w : World) (hL : L.length = n - p) (hp : p < n) (hm : n ≤ 2 ^ 62) (hb : Leb.Bytes L)
    (hc : ∀ i, i < n - p → w.cell? ⟨b, off + (p + i), none⟩ = some (.int .u8 (L[i]?.getD 0))) :
    Calls Tryd.prog 24 #[.slice (some ⟨b, off, none⟩) n cap, .int .i64 p] w fun e w' => e = .returned (firstV (Utf.first L)) ∧ Below w.heap.size w w' := by
  obtain ⟨c, hce⟩ : ∃ c, L[0]?.getD 0 = c := ⟨_, rfl⟩
  by_cases g1 : c < 128
  · exact rfirst_low b off n cap p L c w hL hp hm hb hc hce g1
  by_cases g2 : c < 192 ∨ 248 ≤ c
  · exact rfirst_else b off n cap p L c w hL hp hm hb hc hce (by omega)
  by_cases g3 : c < 224
  · by_cases s : p + 2 ≤ n
    · exact rfirst_2 b off n cap p L c w hL hp hm hb hc hce (by omega) g3 s
    · exact rfirst_2_short b off n cap p L c w hL hp hm hb hc hce (by omega) g3 (by omega)
  by_cases g4 : c < 240
  · by_cases s : p + 3 ≤ n
    · exact rfirst_3 b off n cap p L c w hL hp hm hb hc hce (by omega) g4 s
    · exact rfirst_3_short b off n cap p L c w hL hp hm hb hc hce (by omega) g4 (by omega)
  · by_cases s : p + 4 ≤ n
    · exact rfirst_4 b off n cap p L c w hL hp hm hb hc hce (by omega) (by omega) s
    · exact rfirst_4_short b off n cap p L c w hL hp hm hb hc hce (by omega) (by omega) (by omega)

end Go.Proofs.YthillphedjjhjaaDoor
