/-
  'works', and the contracts in the form that the laws take.
-/
import Derived.Test.YthillphedjjhjabDoorNameLetters
import Derived.Test.YthillphedjjhjabDoorRefRunes
import Derived.Test.YthillphedjjhjabDoorRefSame
set_option linter.unusedVariables false
namespace Go.Proofs.YthillphedjjhjabDoor
open Go.RowKit

def lets (l : List Int) : List Int := (Utf.letters l).getD []
def lerr (l : List Int) : Int := if Utf.isText l then 0 else 4
def puts (ls : List Int) : List Int := if Utf.allLetters ls then Utf.text ls else []
def perr (ls : List Int) : Int := if Utf.allLetters ls then 0 else 2

theorem row_lit (w : World) (l : List Int) (hb : Leb.Bytes l) (hm : l.length ≤ 1000) : Row (w.alloc (.cells (l.map (Value.int .u8)).toArray 5)) (some ⟨w.heap.size, 0, none⟩) l.length l.length l := by
  refine ⟨rfl, Nat.le_refl _, by unfold maxLen; omega, hb, (fun h => by cases h), fun _ => ⟨_, 0, rfl, fun i hi => ?_⟩⟩
  rw [Nat.zero_add]
  simp [hi]

theorem rowR_lit (w : World) (l : List Int) (hb : Runes32 l) (hm : l.length ≤ 1000) : RowR (w.alloc (.cells (l.map (Value.int .i32)).toArray 21)) (some ⟨w.heap.size, 0, none⟩) l.length l.length l := by
  refine ⟨rfl, Nat.le_refl _, by unfold maxLen; omega, hb, (fun h => by cases h), fun _ => ⟨_, 0, rfl, fun i hi => ?_⟩⟩
  rw [Nat.zero_add]
  simp [hi]

/-- An own row, as what a walk is told of a slice. -/
theorem own_rowB {w : World} {base : Nat} {v : Value} {l : List Int} (h : w.ownsRow base 5 1 v l.length (l.map (Value.int .u8))) (hb : Leb.Bytes l) :
    ∃ a cap, v = .slice a l.length cap ∧ Row w a l.length cap l := by
  obtain ⟨_, ⟨rfl, h0⟩ | ⟨g, cap, cur, rfl, hbase, hblk, hn, hm, hsz, htake⟩⟩ := id h
  · refine ⟨none, 0, by rw [h0], rfl, by omega, by unfold maxLen; omega, hb, fun _ => rfl, fun h => by omega⟩
  · refine ⟨_, cap, rfl, rfl, hn, hm, hb, (fun h => by cases h), fun _ => ⟨g, 0, rfl, fun i hi => ?_⟩⟩
    have hc := h.cellAt i (by omega)
    rw [Nat.zero_add, hc, List.getElem?_map, List.getElem?_eq_getElem hi]
    simp

theorem own_rowR {w : World} {base : Nat} {v : Value} {l : List Int} (h : w.ownsRow base 21 1 v l.length (l.map (Value.int .i32))) (hb : Runes32 l) :
    ∃ a cap, v = .slice a l.length cap ∧ RowR w a l.length cap l := by
  obtain ⟨_, ⟨rfl, h0⟩ | ⟨g, cap, cur, rfl, hbase, hblk, hn, hm, hsz, htake⟩⟩ := id h
  · refine ⟨none, 0, by rw [h0], rfl, by omega, by unfold maxLen; omega, hb, fun _ => rfl, fun h => by omega⟩
  · refine ⟨_, cap, rfl, rfl, hn, hm, hb, (fun h => by cases h), fun _ => ⟨g, 0, rfl, fun i hi => ?_⟩⟩
    have hc := h.cellAt i (by omega)
    rw [Nat.zero_add, hc, List.getElem?_map, List.getElem?_eq_getElem hi]
    simp

theorem runes_of_letters {ls : List Int} (h : Utf.allLetters ls = true) : Runes32 ls := by
  intro i
  by_cases hi : i < ls.length
  · rw [List.getElem?_eq_getElem hi]
    unfold Utf.allLetters at h
    have := letter_true (List.all_eq_true.1 h _ (List.getElem_mem hi))
    simp
    omega
  · rw [List.getElem?_eq_none (by omega)]; simp

theorem lets_runes (l : List Int) (hb : Leb.Bytes l) : Runes32 (lets l) := by
  unfold lets
  cases h : Utf.letters l with
  | none => intro i; simp
  | some ks => exact runes_of_letters ((Utf.letters_some hb).1 h).1

theorem puts_bytes (ls : List Int) : Leb.Bytes (puts ls) := by
  unfold puts
  split
  · rename_i h; exact Utf.text_bytes ls h
  · intro i; simp

theorem LettersPost.one {l : List Int} {w w' : World} {e : Ending} (hb : Leb.Bytes l) (h : LettersPost l w e w') :
    Below w.heap.size w w' ∧ ∃ a c, e = .returned (.tuple #[.slice a (lets l).length c, .int .i64 (lerr l)]) ∧ RowR w' a (lets l).length c (lets l) ∧ w'.ownsRow w.heap.size 21 1 (.slice a (lets l).length c) (lets l).length ((lets l).map (Value.int .i32)) := by
  obtain ⟨h1, ⟨ks, v, hks, rfl, hown⟩ | ⟨hks, rfl⟩⟩ := h
  · have e1 : lets l = ks := by unfold lets; rw [hks]; rfl
    have e2 : lerr l = 0 := by unfold lerr Utf.isText; rw [hks]; rfl
    rw [← e1] at hown
    obtain ⟨a, c, hv, hr⟩ := own_rowR hown (lets_runes l hb)
    subst hv
    exact ⟨h1, a, c, by rw [e2], hr, hown⟩
  · have e1 : lets l = [] := by unfold lets; rw [hks]; rfl
    have e2 : lerr l = 4 := by unfold lerr Utf.isText; rw [hks]; rfl
    rw [e1, e2]
    exact ⟨h1, none, 0, rfl, ⟨rfl, Nat.le_refl _, by unfold maxLen; omega, fun i => by simp, fun _ => rfl, fun h => absurd h (by decide)⟩, World.ownsRow_nil _ _ _ _⟩

theorem PutPostN.one {ls : List Int} {w w' : World} {e : Ending} (h : PutPostN ls w e w') :
    Below w.heap.size w w' ∧ ∃ a c, e = .returned (.tuple #[.slice a (puts ls).length c, .int .i64 (perr ls)]) ∧ Row w' a (puts ls).length c (puts ls) ∧ w'.ownsRow w.heap.size 5 1 (.slice a (puts ls).length c) (puts ls).length ((puts ls).map (Value.int .u8)) := by
  obtain ⟨h1, ⟨hks, v, rfl, hown⟩ | ⟨hks, rfl⟩⟩ := h
  · have e1 : puts ls = Utf.text ls := by unfold puts; rw [hks]; rfl
    have e2 : perr ls = 0 := by unfold perr; rw [hks]; rfl
    rw [← e1] at hown
    obtain ⟨a, c, hv, hr⟩ := own_rowB hown (puts_bytes ls)
    subst hv
    exact ⟨h1, a, c, by rw [e2], hr, hown⟩
  · have e1 : puts ls = [] := by unfold puts; rw [hks]; rfl
    have e2 : perr ls = 2 := by unfold perr; rw [hks]; rfl
    rw [e1, e2]
    exact ⟨h1, none, 0, rfl, ⟨rfl, Nat.le_refl _, by unfold maxLen; omega, fun i => by simp, fun _ => rfl, fun h => absurd h (by decide)⟩, World.ownsRow_nil _ _ _ _⟩

theorem works_text : Utf.letters [36, 194, 162, 226, 130, 172] = some [36, 162, 8364] := by decide
theorem works_lets : lets [36, 194, 162, 226, 130, 172] = [36, 162, 8364] ∧ lerr [36, 194, 162, 226, 130, 172] = 0 ∧ Utf.isText [192, 128] = false ∧ Utf.isText [] = true := by decide

theorem row_nil (w : World) : Row w none 0 0 [] := ⟨rfl, Nat.le_refl _, by unfold maxLen; omega, fun i => by simp, fun _ => rfl, fun h => absurd h (by decide)⟩

theorem bytes_of {l : List Int} (h : ∀ z ∈ l, 0 ≤ z ∧ z ≤ 255) : Leb.Bytes l := by
  intro i
  by_cases hi : i < l.length
  · rw [List.getElem?_eq_getElem hi]; exact h _ (List.getElem_mem hi)
  · rw [List.getElem?_eq_none (by omega)]; simp

set_option maxHeartbeats 1000000 in
theorem works_calls (w : World) (hT : Tabs w) : Calls Tryd.prog 6 #[] w fun e w' => e = .returned (.bool true) ∧ Below w.heap.size w w' := by
  have HT := hide hT
  have hb0 : Leb.Bytes [36, 194, 162, 226, 130, 172] := bytes_of (by decide)
  have HBY := hide hb0
  clear hT hb0
  go_enter Tryd.func6, Tryd.ntmps6
  go_wp2_with fail
  have b0 : Below w.heap.size w (w.alloc (.cells (([36, 194, 162, 226, 130, 172] : List Int).map (Value.int .u8)).toArray 5)) := (Below.refl _ _).alloc (Nat.le_refl _) _
  refine (Letters_calls _ 6 6 [36, 194, 162, 226, 130, 172] _ (row_lit w _ HBY.out (by decide)) (HT.out.later b0) (by decide)).mono ?_
  intro e w1 hp
  obtain ⟨hb1, a1, c1, rfl, hr1, _⟩ := hp.one HBY.out
  clear hp
  rw [works_lets.1] at hr1 ⊢
  rw [works_lets.2.1]
  have B1 := hide (b0.trans (hb1.mono b0.size))
  have R1 := hide hr1
  clear b0 hb1 hr1
  go_wp2_with fail
  refine (runes_calls' _ _ _ 3 3 [36, 162, 8364] _ (R1.out.later ((Below.refl _ _).alloc (Nat.le_refl _) _)) (rowR_lit w1 [36, 162, 8364] (fun i => by rcases i with _ | _ | _ | i <;> simp) (by decide))).mono ?_
  rintro e w2 ⟨rfl, n2, rfl⟩
  have b2 : Below w.heap.size w ((w1.alloc (.cells (([36, 162, 8364] : List Int).map (Value.int .i32)).toArray 21)).drewN n2) := below_drewNq (B1.out.alloc B1.out.size _) _
  have B2 := hide b2
  clear b2
  generalize ((w1.alloc (.cells (([36, 162, 8364] : List Int).map (Value.int .i32)).toArray 21)).drewN n2) = w3 at B2 ⊢
  go_wp2_with fail
  have b3 : Below w.heap.size w (w3.alloc (.cells (([192, 128] : List Int).map (Value.int .u8)).toArray 5)) := B2.out.alloc B2.out.size _
  refine (Is_calls _ 2 2 [192, 128] _ (row_lit w3 [192, 128] (bytes_of (by decide)) (by decide)) (HT.out.later b3)).mono ?_
  rintro e w4 ⟨rfl, hb4⟩
  rw [works_lets.2.2.1]
  have B4 := hide (b3.trans (hb4.mono b3.size))
  clear b3 hb4
  go_wp2_with fail
  refine (Is_calls none 0 0 [] w4 (row_nil w4) (HT.out.later B4.out)).mono ?_
  rintro e w5 ⟨rfl, hb5⟩
  rw [works_lets.2.2.2]
  have B5 := hide (B4.out.trans (hb5.mono B4.out.size))
  clear hb5
  go_wp2
  go_ret
  exact ⟨rfl, B5.out⟩

end Go.Proofs.YthillphedjjhjabDoor
