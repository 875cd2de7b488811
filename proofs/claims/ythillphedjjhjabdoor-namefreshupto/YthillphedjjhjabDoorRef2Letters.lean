/-
  The document's 'Letters' and 'Is'.
-/
import Derived.Test.YthillphedjjhjabDoorRef2First
import Derived.Test.YthillphedjjhjabDoorNameLead
set_option linter.unusedVariables false
namespace Go.Proofs.YthillphedjjhjabDoor
open Go.RowKit

def LettersPost (l : List Int) (w : World) (e : Ending) (w' : World) : Prop :=
  Below w.heap.size w w' ∧
    ((∃ ks v, Utf.letters l = some ks ∧ e = .returned (.tuple #[v, .int .i64 0]) ∧ w'.ownsRow w.heap.size 21 1 v ks.length (ks.map (Value.int .i32))) ∨
     (Utf.letters l = none ∧ e = .returned (.tuple #[.slice none 0 0, .int .i64 4])))

theorem letters_at {l ks : List Int} {p : Nat} (hb : Leb.Bytes l) (h : Utf.letters l = (Utf.letters (l.drop p)).map (ks ++ ·)) (hn : (Utf.first (l.drop p)).2 ≠ 0) :
    Utf.letters l = (Utf.letters (l.drop (p + (Utf.first (l.drop p)).2))).map ((ks ++ [(Utf.first (l.drop p)).1]) ++ ·) := by
  rw [h, Utf.letters_go (Utf.bytes_dropU hb p) hn, List.drop_drop]
  cases Utf.letters (l.drop (p + (Utf.first (l.drop p)).2)) with
  | none => rfl
  | some x => simp

theorem first_in {l : List Int} {p : Nat} (hb : Leb.Bytes l) (hp : p ≤ l.length) (hn : (Utf.first (l.drop p)).2 ≠ 0) :
    p + (Utf.first (l.drop p)).2 ≤ l.length ∧ 1 ≤ (Utf.first (l.drop p)).2 ∧ (Utf.first (l.drop p)).2 ≤ 4 ∧ 0 ≤ (Utf.first (l.drop p)).1 ∧ (Utf.first (l.drop p)).1 ≤ 1114111 := by
  obtain ⟨h1, h2, h3⟩ := Utf.enc_first (Utf.bytes_dropU hb p) hn
  have hl := congrArg List.length h3
  have he := Utf.enc_len (Utf.first (l.drop p)).1
  have hr : 0 ≤ (Utf.first (l.drop p)).1 ∧ (Utf.first (l.drop p)).1 ≤ 1114111 ∧ ((Utf.first (l.drop p)).1 < 55296 ∨ 57343 < (Utf.first (l.drop p)).1) := by simpa [Utf.letter] using h1
  rw [List.length_append, List.length_drop, List.length_drop, List.length_drop] at hl
  omega

end Go.Proofs.YthillphedjjhjabDoor
