/-
  The walk of the document's 'number'.
-/
import Derived.Test.YteacjhmbamcegabLebWorks
import Derived.Test.YteacjhmbamcegabRefMath
import Derived.OwnWalk
namespace Go.Proofs.Yteacjhmbamcegab
open Go.RowKit
set_option linter.unusedVariables false

/-- What a walk is told of a slice of digits. -/
def RowD (w : World) (a : Option Addr) (len cap : Nat) (ds : List Int) : Prop :=
  ds.length = len ∧ len ≤ cap ∧ len ≤ 10 ∧ Leb.Digits ds ∧
  (0 < len → ∃ b off, a = some ⟨b, off, none⟩ ∧ ∀ i, i < len → w.cell? ⟨b, off + i, none⟩ = some (.int .u64 (ds[i]?.getD 0)))

def numb (ds : List Int) (M : Int) : Value := if Leb.dval ds ≤ M then .tuple #[.int .u64 (Leb.dval ds), .bool true] else .tuple #[.int .u64 0, .bool false]

theorem Try.infoWord : (Try.prog.info? 36).map (fun i => (i.zero, i.size, i.bytes)) = some (some (.int .u64 0), 1, 8) := by kernel_rfl

theorem one_cell64 (x : Int) : ∀ u ∈ [Value.int .u64 x], u.oneCell' = true := by
  intro u hu; simp at hu; subst hu; rfl

theorem own_shape {w : World} {base e size : Nat} {v : Value} {n : Nat} {xs : List Value} (h : w.ownsRow base e size v n xs) : ∃ a c, v = .slice a n c := by
  obtain ⟨_, ⟨rfl, rfl⟩ | ⟨g, cap, cur, rfl, _⟩⟩ := h
  · exact ⟨_, _, rfl⟩
  · exact ⟨_, _, rfl⟩

theorem own_slice64 {w : World} {base : Nat} {v : Value} {n : Nat} {l : List Int} (hl : l.length = n) (h : w.ownsRow base 36 1 v n (l.map (Value.int .u64))) (h1 : 1 ≤ n) :
    ∃ g cap, v = .slice (some ⟨g, 0, none⟩) n cap ∧ base ≤ g ∧ n ≤ cap ∧ ∀ i, i < n → w.cell? ⟨g, 0 + i, none⟩ = some (.int .u64 (l[i]?.getD 0)) := by
  obtain ⟨_, ⟨rfl, h0⟩ | ⟨g, cap, cur, rfl, hbase, hblk, hn, hm, hsz, htake⟩⟩ := id h
  · omega
  · refine ⟨g, cap, rfl, hbase, hn, fun i hi => ?_⟩
    have hc := h.cellAt i (by omega)
    rw [Nat.zero_add, hc, List.getElem?_map, List.getElem?_eq_getElem (by omega)]
    simp

/-- What the document's 'groups' answers: nothing, where the digits don't end; or they, in memory of its own. -/
def GroupsPost (L : List Int) (most : Int) (w : World) (e : Ending) (w' : World) : Prop :=
  Below w.heap.size w w' ∧
    (Leb.fin L most.toNat = none ∧ e = .returned (.tuple #[.slice none 0 0, .bool false]) ∨
     ∃ k v, Leb.fin L most.toNat = some k ∧ e = .returned (.tuple #[v, .bool true]) ∧ w'.ownsRow w.heap.size 36 1 v (k + 1) ((Leb.low L (k + 1)).map (Value.int .u64)))

end Go.Proofs.Yteacjhmbamcegab
