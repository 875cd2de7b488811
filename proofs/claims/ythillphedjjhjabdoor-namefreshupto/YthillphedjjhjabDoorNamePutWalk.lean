/-
  'name.Put': the text of letters; what a walk is told of a slice of runes.
-/
import Derived.Test.YthillphedjjhjabDoorNamePut
import Derived.Test.YthillphedjjhjabDoorRefNumber
set_option linter.unusedVariables false
namespace Go.Proofs.YthillphedjjhjabDoor
open Go.RowKit

def Runes32 (l : List Int) : Prop := ∀ i : Nat, -2147483648 ≤ l[i]?.getD 0 ∧ l[i]?.getD 0 ≤ 2147483647

/-- What a walk is told of a slice of runes. -/
def RowR (w : World) (a : Option Addr) (len cap : Nat) (l : List Int) : Prop :=
  l.length = len ∧ len ≤ cap ∧ cap ≤ maxLen ∧ Runes32 l ∧ (a = none → cap = 0) ∧
  (0 < len → ∃ b off, a = some ⟨b, off, none⟩ ∧ ∀ i, i < len → w.cell? ⟨b, off + i, none⟩ = some (.int .i32 (l[i]?.getD 0)))

theorem RowR.later {w w' : World} {a : Option Addr} {len cap : Nat} {l : List Int} (H : RowR w a len cap l) (hb : Below w.heap.size w w') : RowR w' a len cap l := by
  obtain ⟨h1, h2, h3, h4, h5, h6⟩ := H
  refine ⟨h1, h2, h3, h4, h5, fun h => ?_⟩
  obtain ⟨b, off, rfl, hc⟩ := h6 h
  exact ⟨b, off, rfl, fun i hi => cell_later hb (hc i hi)⟩

def PutPostN (ls : List Int) (w : World) (e : Ending) (w' : World) : Prop :=
  Below w.heap.size w w' ∧
    ((Utf.allLetters ls = true ∧ ∃ v, e = .returned (.tuple #[v, .int .i64 0]) ∧ w'.ownsRow w.heap.size 5 1 v (Utf.text ls).length ((Utf.text ls).map (Value.int .u8))) ∨
     (Utf.allLetters ls = false ∧ e = .returned (.tuple #[.slice none 0 0, .int .i64 2])))

theorem take_next {l : List Int} {k : Nat} (h : k < l.length) : l.take (k + 1) = l.take k ++ [l[k]?.getD 0] := by
  rw [List.take_add_one, List.getElem?_eq_getElem h]; rfl

theorem all_next {l : List Int} {k : Nat} (h : k < l.length) (ha : Utf.allLetters (l.take k) = true) : Utf.allLetters (l.take (k + 1)) = Utf.letter (l[k]?.getD 0) := by
  rw [take_next h, Utf.all_append, ha]; simp [Utf.allLetters]
theorem all_stop {l : List Int} {k : Nat} (h : k < l.length) (hr : Utf.letter (l[k]?.getD 0) = false) : Utf.allLetters l = false := by
  rw [List.getElem?_eq_getElem h] at hr
  simp only [Option.getD_some] at hr
  unfold Utf.allLetters
  rw [List.all_eq_false]
  exact ⟨l[k], List.getElem_mem h, by rw [hr]; decide⟩
theorem text_next {l : List Int} {k : Nat} (h : k < l.length) : Utf.text (l.take (k + 1)) = Utf.text (l.take k) ++ Utf.enc (l[k]?.getD 0) := by
  rw [take_next h, Utf.text_append]; simp [Utf.text]

set_option maxHeartbeats 1000000 in
theorem Put_calls (a : Option Addr) (len cap : Nat) (l : List Int) (w : World) (H : RowR w a len cap l) (hb : len * 4 ≤ 140737488355328) :
    Calls Tryd.prog 7 #[.slice a len cap] w fun e w' => PutPostN l w e w' := by
  obtain ⟨hl, hcap, hcm, hr32, _, hc⟩ := H
  unfold maxLen at hcm
  have hm : len ≤ 2 ^ 63 - 1 := by omega
  clear hcm
  go_enter Tryd.func7, Tryd.ntmps7
  go_wp2
  go_loopw [4, 9] (fun v i wr => ∃ k : Nat, i = .int .i64 k ∧ k ≤ len ∧ Hid (Utf.allLetters (l.take k) = true) ∧ Hid (wr.ownsRow w.heap.size 5 1 v (Utf.text (l.take k)).length ((Utf.text (l.take k)).map (Value.int .u8))) ∧ Hid (Below w.heap.size w wr)) (fun _ i _ => len - (intOf i).toNat)
  case atStart => exact ⟨0, rfl, by omega, rfl, World.ownsRow_nil _ _ _ _, Below.refl _ _⟩
  case round =>
    obtain ⟨k, rfl, hk, hall, hown, hbel⟩ := hrel
    by_cases hlt : k < len
    · have t1 : decide ((k : Int) < (len : Int)) = true := by simp; omega
      have hltz : (k : Int) < (len : Int) := by omega
      obtain ⟨b, off, rfl, hcell⟩ := hc (by omega)
      have hcell' := hcell k hlt
      have hrk := hr32 k
      have hck : wr.cell? ⟨b, off + k, none⟩ = some (.int .i32 (l[k]?.getD 0)) := cell_later hbel.out hcell'
      have hnx := text_next (l := l) (k := k) (by omega)
      have han := all_next (l := l) (k := k) (by omega) hall.out
      have htl := Utf.text_len (l.take k)
      rw [List.length_take] at htl
      obtain ⟨r, hre⟩ : ∃ r, l[k]?.getD 0 = r := ⟨_, rfl⟩
      rw [hre] at hrk hck hnx han
      have C1 := hide (ValidRune_calls r wr)
      cases hlr : Utf.letter r with
      | true =>
        rw [hlr] at C1
        have C2 := hide (AppendRune_calls r (Utf.text (l.take k)) w.heap.size _ wr hown.out hbel.out.size (by omega) hlr)
        rw [← hnx] at C2
        have HN := hide hnx
        have HA := hide (han.trans hlr)
        clear hc hcell hcell' hr32 hnx han hre htl hl
        go_wp2_with fail
        refine C1.out.mono ?_
        rintro e w1 ⟨rfl, rfl⟩
        go_wp2_with fail
        refine C2.out.mono ?_
        rintro e w2 ⟨v2, rfl, hown2, hbel2⟩
        have H2 := hide hown2
        have H3 := hide (hbel.out.trans hbel2)
        clear hown2 hbel2 C1 C2
        go_wp2
        go_roundw
        case rel => exact ⟨k + 1, by simp, by omega, HA, H2, H3⟩
        case measure => simp [intOf]; omega
      | false =>
        rw [hlr] at C1
        have hst : Utf.allLetters l = false := all_stop (k := k) (by omega) (by rw [hre]; exact hlr)
        clear hc hcell hcell' hr32 hnx han hre htl hl
        go_wp2_with fail
        refine C1.out.mono ?_
        rintro e w1 ⟨rfl, rfl⟩
        have HS := hide hst
        clear hst
        go_wp2
        refine bodyPost_ret (v := .tuple #[.slice none 0 0, .int .i64 2]) (by simp [results, Tryd.results7, go_sem]) rfl ?_
        exact ⟨hbel.out, .inr ⟨HS.out, rfl⟩⟩
    · have t1 : decide ((k : Int) < (len : Int)) = false := by simp; omega
      have hkl : k = len := by omega
      subst hkl
      rw [List.take_of_length_le (by omega)] at hall hown
      obtain ⟨av, cv, hv⟩ := own_shape hown.out
      subst hv
      go_wp2
      refine bodyPost_ret (v := .tuple #[.slice av (Utf.text l).length cv, .int .i64 0]) (by simp [results, Tryd.results7, go_sem]) rfl ?_
      exact ⟨hbel.out, .inl ⟨hall.out, _, rfl, hown.out⟩⟩

end Go.Proofs.YthillphedjjhjabDoor
