/-
  Two or three arrays of bytes that are made by calls in one statement.
-/
import Derived.Test.YtdhanapmknlobaaDoorLanOrders
import Derived.Test.YtdhanapmknlobaaDoorLanMove
import Derived.Test.YtdhanapmknlobaaDoorLanOf
set_option linter.unusedVariables false
set_option linter.unusedSimpArgs false
namespace Go.Proofs.YtdhanapmknlobaaDoor
open Go.RowKit Lan

/-- A block of the call's own, if it is there by now: A if it was written by now, else zeros. -/
def OwnB (there full : Bool) (v : Value) (b : Nat) (A : List Nat) (w : World) : Prop := (full = true → there = true) ∧ (there = true → ∃ g, v = .pointer (some ⟨g, 0, none⟩) ∧ b ≤ g ∧ Blk w g (if full then A else zero16))
theorem OwnB.later {t f : Bool} {v : Value} {b : Nat} {A : List Nat} {w w' : World} (h : OwnB t f v b A w) (hb : Below w.heap.size w w') : OwnB t f v b A w' :=
  ⟨h.1, fun ht => let ⟨g, e, hg, hk⟩ := h.2 ht; ⟨g, e, hg, hk.later hb hk.lt⟩⟩
theorem OwnB.fresh {t f : Bool} {v : Value} {b : Nat} {A : List Nat} {w w' : World} (h : OwnB t f v b A w) (ht : t = false) {wa : World} (hs : wa.heap.size ≤ w.heap.size) (hk : w'.heap[w.heap.size]? = some (.cells (cellsB zero16) 39 (0, 0))) :
    OwnB true f (.pointer (some ⟨w.heap.size, 0, none⟩)) wa.heap.size A w' := by
  have hf : f = false := by
    cases f with
    | false => rfl
    | true => rw [h.1 rfl] at ht; cases ht
  subst hf
  exact ⟨fun h => rfl, fun _ => ⟨_, rfl, hs, hk⟩⟩
theorem OwnB.ne {t f : Bool} {v : Value} {b : Nat} {A : List Nat} {w : World} (h : OwnB t f v b A w) (ht : t = true) {g : Nat} (hg : g = w.heap.size) : v ≠ .pointer (some ⟨g, 0, none⟩) := by
  obtain ⟨g', rfl, _, hk⟩ := h.2 ht
  intro e
  have hlt := hk.lt
  simp only [Value.pointer.injEq, Option.some.injEq, Addr.mk.injEq] at e
  omega
theorem setRow_apart {w : World} {g g' : Nat} (h : g' ≠ g) (cs : Array Value) : (w.setRow g cs).heap[g']? = w.heap[g']? := by
  simp only [World.setRow, Array.getElem?_modify]
  rw [if_neg (by omega)]
theorem OwnB.other {t f : Bool} {v : Value} {b : Nat} {A : List Nat} {w : World} {g : Nat} {cs : Array Value} (h : OwnB t f v b A w) (hne : t = true → Value.pointer (some ⟨g, 0, none⟩) ≠ v) : OwnB t f v b A (w.setRow g cs) := by
  refine ⟨h.1, fun ht => ?_⟩
  obtain ⟨g', rfl, hg, hk⟩ := h.2 ht
  have hn : g' ≠ g := fun e => hne ht (by rw [e])
  exact ⟨g', rfl, hg, (setRow_apart hn cs).trans hk⟩

def Par2 (V1 V2 : Value) (A B : List Nat) (wa : World) (d : Nat → Bool) (vs : List Value) (w : World) : Prop :=
  (d 0 = true → vs[0]?.getD undef = V1) ∧ (d 1 = true → vs[1]?.getD undef = .agg (cellsB A)) ∧ (d 2 = true → vs[2]?.getD undef = V2) ∧ (d 3 = true → vs[3]?.getD undef = .agg (cellsB B)) ∧ OwnB (d 4) (d 6) (vs[4]?.getD undef) wa.heap.size A w ∧ OwnB (d 5) (d 7) (vs[5]?.getD undef) wa.heap.size B w ∧ (d 4 = true → d 5 = true → vs[4]?.getD undef ≠ vs[5]?.getD undef) ∧ Below wa.heap.size wa w

def Par3 (V1 V2 V3 : Value) (A B C : List Nat) (wa : World) (d : Nat → Bool) (vs : List Value) (w : World) : Prop :=
  (d 0 = true → vs[0]?.getD undef = V1) ∧ (d 1 = true → vs[1]?.getD undef = .agg (cellsB A)) ∧ (d 2 = true → vs[2]?.getD undef = V2) ∧ (d 3 = true → vs[3]?.getD undef = .agg (cellsB B)) ∧ (d 4 = true → vs[4]?.getD undef = V3) ∧ (d 5 = true → vs[5]?.getD undef = .agg (cellsB C)) ∧ OwnB (d 6) (d 9) (vs[6]?.getD undef) wa.heap.size A w ∧ OwnB (d 7) (d 10) (vs[7]?.getD undef) wa.heap.size B w ∧ OwnB (d 8) (d 11) (vs[8]?.getD undef) wa.heap.size C w ∧ (d 6 = true → d 7 = true → vs[6]?.getD undef ≠ vs[7]?.getD undef) ∧ (d 6 = true → d 8 = true → vs[6]?.getD undef ≠ vs[8]?.getD undef) ∧ (d 7 = true → d 8 = true → vs[7]?.getD undef ≠ vs[8]?.getD undef) ∧ Below wa.heap.size wa w

/-- Of a loop that fills bytes in: the result's block, three others, the bytes. -/
def ShAt (W : World) (gr g1 g2 g3 gl : Nat) (A B O L : List Nat) (wr : World) : Prop :=
  VBlk wr gr (0, 0) ∧ Blk wr g1 A ∧ Blk wr g2 B ∧ Blk wr g3 O ∧ Blk wr gl L ∧ Below W.heap.size W wr
theorem ShAt.later {W : World} {gr g1 g2 g3 gl : Nat} {A B O L : List Nat} {w w' : World} (h : ShAt W gr g1 g2 g3 gl A B O L w) (hb : Below w.heap.size w w') : ShAt W gr g1 g2 g3 gl A B O L w' :=
  ⟨h.1.later hb h.1.lt, h.2.1.later hb h.2.1.lt, h.2.2.1.later hb h.2.2.1.lt, h.2.2.2.1.later hb h.2.2.2.1.lt, h.2.2.2.2.1.later hb h.2.2.2.2.1.lt, h.2.2.2.2.2.trans (hb.mono h.2.2.2.2.2.size)⟩
theorem ShAt.put {W : World} {gr g1 g2 g3 gl : Nat} {A B O L : List Nat} {w : World} (h : ShAt W gr g1 g2 g3 gl A B O L w) (k y : Nat) (hr : gr ≠ g3) (h1 : g1 ≠ g3) (h2 : g2 ≠ g3) (hl : gl ≠ g3) (hW : W.heap.size ≤ g3) :
    ShAt W gr g1 g2 g3 gl A B (O.set k y) L (w.setCell ⟨g3, k, none⟩ (.int .u8 (y : Int))) :=
  ⟨h.1.other hr _ _, h.2.1.other h1 _ _, h.2.2.1.other h2 _ _, h.2.2.2.1.set k y, h.2.2.2.2.1.other hl _ _, h.2.2.2.2.2.setCell hW _⟩
theorem fill_same {f : Nat → Nat} {k : Nat} (h : f k = 0) : fillTo f (k + 1) = fillTo f k := by
  apply List.map_congr_left
  intro j hj
  by_cases e : j = k
  · subst e; simp [h]
  · by_cases c : j < k
    · simp [c, show j < k + 1 by omega]
    · simp [c, show ¬ j < k + 1 by omega]
end Go.Proofs.YtdhanapmknlobaaDoor
