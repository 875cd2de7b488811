/-
  The walks of 'Spoil', 'Wide' and 'Left'.
-/
import Derived.Test.YteacjhmbamcegaaLebPutsI
import Derived.Test.YteacjhmbamcegaaRefSame
import Derived.Laws.CopyOwn
import Derived.OpenShut
namespace Go.Proofs.Yteacjhmbamcegaa
open Go.RowKit
set_option linter.unusedVariables false

theorem get_map8 {zs : List Int} {j : Nat} (h : j < zs.length) : (zs.map (Value.int .u8))[j]? = some (.int .u8 (zs[j]?.getD 0)) := by
  rw [List.getElem?_map, List.getElem?_eq_getElem h]; rfl

/-- What 'Wide' has made behind 'k' rounds of its loop. -/
def wideTo (l : List Int) (k : Nat) : List Int := l ++ (([7, 7, 7] : List Int).take k ++ ([0, 0, 0] : List Int).drop k)

theorem wideTo_length (l : List Int) (k : Nat) (h : k ≤ 3) : (wideTo l k).length = l.length + 3 := by
  unfold wideTo
  match k, h with
  | 0, _ => simp
  | 1, _ => simp
  | 2, _ => simp
  | 3, _ => simp

theorem wideTo_step (l : List Int) (k : Nat) (h : k < 3) : (wideTo l k).set (l.length + k) 7 = wideTo l (k + 1) := by
  unfold wideTo
  rw [List.set_append_right _ _ (by omega), Nat.add_sub_cancel_left]
  match k, h with
  | 0, _ => rfl
  | 1, _ => rfl
  | 2, _ => rfl

theorem made_ints (n : Nat) : (madeCells #[Value.int .u8 0] n).toList = (List.replicate n (0 : Int)).map (Value.int .u8) := by
  rw [toList_madeCells_one]
  simp

theorem own_block {w : World} {base e g n : Nat} {xs : List Value} (h : w.ownsRow base e 1 (.slice (some ⟨g, 0, none⟩) n n) n xs) : w.heap[g]? = some (.cells xs.toArray e (0, 0)) := by
  obtain ⟨h0, h1 | ⟨g', cap, cur, h1, h2, h3, h4, h5, h6, h7⟩⟩ := h
  · simp at h1
  · simp only [Value.slice.injEq, Option.some.injEq, Addr.mk.injEq, and_true, true_and] at h1
    obtain ⟨rfl, rfl⟩ := h1
    rw [List.take_of_length_le (by simp [h6])] at h7
    rw [h3, ← h7]

theorem block_own {w : World} {base e g n : Nat} {xs : List Value} (h : w.heap[g]? = some (.cells xs.toArray e (0, 0))) (hn : xs.length = n) (hm : n ≤ maxLen) (hb : base ≤ g) : w.ownsRow base e 1 (.slice (some ⟨g, 0, none⟩) n n) n xs := by
  refine ⟨by omega, .inr ⟨g, n, xs.toArray, rfl, hb, h, Nat.le_refl _, hm, by simp [hn], ?_⟩⟩
  exact List.take_of_length_le (by simp [hn])

def WidePost (l : List Int) (w : World) (e : Ending) (w' : World) : Prop :=
  e = .returned (.slice (some ⟨w.heap.size, 0, none⟩) l.length (l.length + 3)) ∧
    w'.heap[w.heap.size]? = some (.cells ((l ++ [7, 7, 7]).map (Value.int .u8)).toArray 5 (0, 0)) ∧ Below w.heap.size w w'

theorem row_wide {w : World} {g : Nat} {l : List Int} (hb : Leb.Bytes l) (hr : l.length ≤ 140737488351232) (h : w.heap[g]? = some (.cells ((l ++ [7, 7, 7]).map (Value.int .u8)).toArray 5 (0, 0))) :
    Row w (some ⟨g, 0, none⟩) l.length (l.length + 3) l := by
  refine ⟨rfl, by omega, by unfold maxLen; omega, hb, (fun h => by cases h), fun _ => ⟨g, 0, rfl, fun i hi => ?_⟩⟩
  rw [Nat.zero_add, cell_of_row w g i _ _ _ h, List.getElem?_toArray, get_map8 (by simp; omega), List.getElem?_append_left hi]

end Go.Proofs.Yteacjhmbamcegaa
