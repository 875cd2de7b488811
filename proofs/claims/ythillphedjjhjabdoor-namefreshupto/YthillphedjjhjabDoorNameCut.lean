/-
  'name.cut': a piece of the bytes themselves.
-/
import Derived.Test.YthillphedjjhjabDoorLebReads
import Derived.Test.YthillphedjjhjabDoorLebWorks
import Derived.Test.YthillphedjjhjabDoorNameLead
import Derived.Test.YthillphedjjhjabDoorLebFacts
set_option linter.unusedVariables false
namespace Go.Proofs.YthillphedjjhjabDoor
open Go.RowKit

/-- The counted row at a place: its bytes, the place behind, the error. -/
def rowAt (l : List Int) (p : Int) : List Int × Int × Int :=
  if (Leb.readU l p 32).2.2 ≠ 0 then ([], 0, (Leb.readU l p 32).2.2)
  else if (l.length : Int) - (Leb.readU l p 32).2.1 < (Leb.readU l p 32).1 then ([], 0, 4)
  else ((l.drop (Leb.readU l p 32).2.1.toNat).take (Leb.readU l p 32).1.toNat, (Leb.readU l p 32).2.1 + (Leb.readU l p 32).1, 0)
def nameAt (l : List Int) (p : Int) : List Int × Int × Int :=
  if (rowAt l p).2.2 ≠ 0 then ([], 0, (rowAt l p).2.2) else if Utf.isText (rowAt l p).1 then rowAt l p else ([], 0, 4)

theorem readU_parts (l : List Int) (p : Int) : (∃ x, (x = 2 ∨ x = 4) ∧ Leb.readU l p 32 = (0, 0, x)) ∨ ∃ N from' : Nat, Leb.readU l p 32 = ((N : Int), (from' : Int), 0) ∧ N < 4294967296 ∧ 1 ≤ from' ∧ from' ≤ l.length := by
  rcases Leb.readU_cases l p 32 with h | h | ⟨q, k, h⟩
  · exact .inl ⟨2, .inl rfl, h⟩
  · exact .inl ⟨4, .inr rfl, h⟩
  · right
    have h1 := Leb.readU_of h
    have h2 := h.ends
    obtain ⟨_, _, _, _, _, h5⟩ := h
    have h0 := Leb.val_nonneg (l.drop q) (k + 1)
    have e32 : (2 : Int) ^ (32 : Int).toNat = 4294967296 := by decide
    rw [e32] at h5
    refine ⟨(Leb.val (l.drop q) (k + 1)).toNat, q + k + 1, ?_, by omega, by omega, h2⟩
    rw [h1]
    have e1 : (((Leb.val (l.drop q) (k + 1)).toNat : Nat) : Int) = Leb.val (l.drop q) (k + 1) := by omega
    rw [e1]
    simp

theorem rowAt_err {l : List Int} {p x : Int} (hx : x = 2 ∨ x = 4) (h : Leb.readU l p 32 = (0, 0, x)) : rowAt l p = ([], 0, x) := by
  unfold rowAt; rw [h]; simp only; rw [if_pos (by omega)]
theorem rowAt_short {l : List Int} {p : Int} {N from' : Nat} (h : Leb.readU l p 32 = ((N : Int), (from' : Int), 0)) (hs : l.length < from' + N) (hf : from' ≤ l.length) : rowAt l p = ([], 0, 4) := by
  unfold rowAt; rw [h]; simp only; rw [if_neg (by simp), if_pos (by omega)]
theorem rowAt_yes {l : List Int} {p : Int} {N from' : Nat} (h : Leb.readU l p 32 = ((N : Int), (from' : Int), 0)) (hs : from' + N ≤ l.length) : rowAt l p = ((l.drop from').take N, (from' : Int) + N, 0) := by
  unfold rowAt; rw [h]; simp only; rw [if_neg (by simp), if_neg (by omega)]; simp

theorem rowAt_len (l : List Int) (p : Int) : (rowAt l p).1.length ≤ l.length ∧ (rowAt l p).1.length < 4294967296 := by
  rcases readU_parts l p with ⟨x, hx, h⟩ | ⟨N, f, h, h1, h2, h3⟩
  · rw [rowAt_err hx h]; simp
  · by_cases hs : l.length < f + N
    · rw [rowAt_short h hs h3]; simp
    · rw [rowAt_yes h (by omega)]; simp; omega
theorem rowAt_bytes (l : List Int) (p : Int) (hb : Leb.Bytes l) : Leb.Bytes (rowAt l p).1 := by
  rcases readU_parts l p with ⟨x, hx, h⟩ | ⟨N, f, h, h1, h2, h3⟩
  · rw [rowAt_err hx h]; intro i; simp
  · by_cases hs : l.length < f + N
    · rw [rowAt_short h hs h3]; intro i; simp
    · rw [rowAt_yes h (by omega)]
      intro i
      rw [List.getElem?_take]
      split
      · rw [List.getElem?_drop]; exact hb _
      · simp

theorem row_none (w : World) : Row w none 0 0 [] := ⟨rfl, Nat.le_refl _, by unfold maxLen; omega, fun i => by simp, fun _ => rfl, fun h => absurd h (by decide)⟩

/-- What 'cut' hands out: a piece of the bytes themselves. -/
def CutPost (l : List Int) (p : Int) (w : World) (e : Ending) (w' : World) : Prop :=
  ∃ a m c, e = .returned (.tuple #[.slice a m c, .int .i64 (rowAt l p).2.1, .int .i64 (rowAt l p).2.2]) ∧ Row w' a m c (rowAt l p).1 ∧ ∃ n, w' = w.drewN n

set_option maxHeartbeats 1000000 in
theorem cut_calls (a : Option Addr) (len cap : Nat) (l : List Int) (p : Int) (w : World) (H : Row w a len cap l) :
    Calls Tryd.prog 18 #[.slice a len cap, .int .i64 p] w fun e w' => CutPost l p w e w' := by
  have C1 := hide (U_calls a len cap l p 32 w H)
  have HH := hide H
  obtain ⟨hl, hcap, hcm, hb, ha, hc⟩ := H
  unfold maxLen at hcm
  rcases readU_parts l p with ⟨x, hx, h⟩ | ⟨N, f, h, h1, h2, h3⟩
  · have hr := hide (rowAt_err hx h)
    rw [h] at C1
    have hx0 : (x != 0) = true := by rcases hx with rfl | rfl <;> rfl
    have hx1 : ¬ (x = 0) := by omega
    clear hc hb h ha hx
    go_enter Tryd.func18, Tryd.ntmps18
    go_wp2_with fail
    refine C1.out.mono ?_
    rintro e w1 ⟨rfl, n1, rfl⟩
    simp only [triU]
    go_wp2
    refine bodyPost_ret (v := .tuple #[.slice none 0 0, .int .i64 0, .int .i64 x]) (by simp [results, Tryd.results18, go_sem]) rfl ?_
    exact ⟨none, 0, 0, by rw [hr.out], by rw [hr.out]; exact row_none _, n1, rfl⟩
  · rw [h] at C1
    rw [hl] at h3
    have hfz : (f : Int) ≤ (len : Int) := by omega
    have hm : len ≤ 2 ^ 63 - 1 := by omega
    by_cases hs : len < f + N
    · have hr := hide (rowAt_short h (by omega) (by omega))
      have t1 : decide ((len : Int) - (f : Int) < (N : Int)) = true := by simp; omega
      clear hc hb h ha hcm
      go_enter Tryd.func18, Tryd.ntmps18
      go_wp2_with fail
      refine C1.out.mono ?_
      rintro e w1 ⟨rfl, n1, rfl⟩
      simp only [triU]
      go_wp2
      refine bodyPost_ret (v := .tuple #[.slice none 0 0, .int .i64 0, .int .i64 4]) (by simp [results, Tryd.results18, go_sem]) rfl ?_
      exact ⟨none, 0, 0, by rw [hr.out], by rw [hr.out]; exact row_none _, n1, rfl⟩
    · have hr := hide (rowAt_yes h (by omega))
      have t1 : decide ((len : Int) - (f : Int) < (N : Int)) = false := by simp; omega
      obtain ⟨b, off, rfl, hcell⟩ := hc (by omega)
      have hfn : (f : Int) + (N : Int) ≤ (len : Int) := by omega
      have hfc : (f : Int) + (N : Int) ≤ (cap : Int) := by omega
      have hfc2 : f + N ≤ cap := by omega
      have hcz : (len : Int) ≤ (cap : Int) := by omega
      have HC := hide hcell
      have HL := hide hl
      have HB := hide hb
      clear hc hb h ha hcm hcell hl
      by_cases hN : N = 0
      · subst hN
        go_enter Tryd.func18, Tryd.ntmps18
        go_wp2_with fail
        refine C1.out.mono ?_
        rintro e w1 ⟨rfl, n1, rfl⟩
        simp only [triU]
        go_wp2
        refine bodyPost_ret (v := .tuple #[.slice (some ⟨b, off, none⟩) 0 0, .int .i64 (f : Int), .int .i64 0]) (by simp [results, Tryd.results18, go_sem]) rfl ?_
        exact ⟨some ⟨b, off, none⟩, 0, 0, by rw [hr.out]; simp, by rw [hr.out]; exact ⟨by simp, Nat.le_refl _, by unfold maxLen; omega, fun i => by simp, fun h => rfl, fun h => absurd h (by decide)⟩, n1, rfl⟩
      · have hN1 : ¬ ((N : Int) = 0) := by omega
        have hN2 : (0 : Int) < (N : Int) := by omega
        go_enter Tryd.func18, Tryd.ntmps18
        go_wp2_with fail
        refine C1.out.mono ?_
        rintro e w1 ⟨rfl, n1, rfl⟩
        simp only [triU]
        go_wp2
        refine bodyPost_ret (v := .tuple #[.slice (some ⟨b, off + f, none⟩) N N, .int .i64 ((f : Int) + N), .int .i64 0]) (by simp [results, Tryd.results18, go_sem]) rfl ?_
        have hlen : ((l.drop f).take N).length = N := by have := HL.out; simp; omega
        have hby : Leb.Bytes ((l.drop f).take N) := by
          intro i
          rw [List.getElem?_take]
          split
          · rw [List.getElem?_drop]; exact HB.out _
          · simp
        refine ⟨_, N, N, by rw [hr.out], ?_, n1, rfl⟩
        rw [hr.out]
        refine ⟨hlen, Nat.le_refl _, by unfold maxLen; omega, hby, (fun h => by cases h), fun _ => ⟨b, off + f, rfl, fun i hi => ?_⟩⟩
        have hx := HC.out (f + i) (by omega)
        rw [List.getElem?_take, if_pos hi, List.getElem?_drop, Nat.add_assoc]
        exact hx

end Go.Proofs.YthillphedjjhjabDoor
