/-
  VinList, VinLists, VinRNar.
-/
import Derived.Test.YtpeckiaimellmaaDoorPkRef
import Derived.Test.YtpeckiaimellmaaDoorPkBase
/-
  Two rows of words that are made by calls in one statement.
-/
set_option linter.unusedVariables false
set_option linter.unusedSimpArgs false
namespace Go.Proofs.YtpeckiaimellmaaDoor
open Go.RowKit Lan

def blkOf : Value → Nat
  | .slice (some a) _ _ => a.block
  | _ => 0
/-- A row of the call's own, if it is there by now. -/
def OwnX (there : Bool) (v : Value) (b c : Nat) (L : List Nat) (w : World) : Prop := there = true → ∃ g cap, v = .slice (some ⟨g, 0, none⟩) c cap ∧ b ≤ g ∧ c ≤ cap ∧ XBlk w g c L
theorem OwnX.later {t : Bool} {v : Value} {b c : Nat} {L : List Nat} {w w' : World} (h : OwnX t v b c L w) (hb : Below w.heap.size w w') : OwnX t v b c L w' :=
  fun ht => let ⟨g, cap, e, hg, hc, hk⟩ := h ht; ⟨g, cap, e, hg, hc, hk.later hb hk.lt⟩
theorem OwnX.ne {t : Bool} {v : Value} {b c : Nat} {L : List Nat} {w : World} (h : OwnX t v b c L w) (ht : t = true) {g n cap : Nat} (hg : w.heap.size ≤ g) : blkOf v ≠ blkOf (.slice (some ⟨g, 0, none⟩) n cap) := by
  obtain ⟨g', cap', rfl, _, _, hk⟩ := h ht
  have hlt := hk.lt
  show g' ≠ g
  omega
end Go.Proofs.YtpeckiaimellmaaDoor
/-
  Two rows of lanes, as the document makes them.
-/
set_option linter.unusedVariables false
set_option linter.unusedSimpArgs false
namespace Go.Proofs.YtpeckiaimellmaaDoor
open Go.RowKit Lan

def ListsJ (V1 V2 : Value) (w c : Nat) (A B : List Nat) (wa : World) (d : Nat → Bool) (vs : List Value) (wz : World) : Prop :=
  (d 0 = true → vs[0]?.getD undef = V1) ∧ (d 1 = true → vs[1]?.getD undef = (.int .i64 (w : Int))) ∧ OwnX (d 2) (vs[2]?.getD undef) wa.heap.size c A wz ∧ (d 3 = true → vs[3]?.getD undef = V2) ∧ (d 4 = true → vs[4]?.getD undef = (.int .i64 (w : Int))) ∧ OwnX (d 5) (vs[5]?.getD undef) wa.heap.size c B wz ∧ (d 6 = true → d 2 = true ∧ vs[6]?.getD undef = vs[2]?.getD undef) ∧ (d 7 = true → d 5 = true ∧ vs[7]?.getD undef = vs[5]?.getD undef) ∧ (d 2 = true → d 5 = true → blkOf (vs[2]?.getD undef) ≠ blkOf (vs[5]?.getD undef)) ∧ Below wa.heap.size wa wz

/-- The result's block, two rows. -/
def TwAt (W : World) (gr g1 g2 c : Nat) (A B : List Nat) (wr : World) : Prop := VBlk wr gr (0, 0) ∧ XBlk wr g1 c A ∧ XBlk wr g2 c B ∧ Below W.heap.size W wr
theorem TwAt.later {W : World} {gr g1 g2 c : Nat} {A B : List Nat} {w w' : World} (h : TwAt W gr g1 g2 c A B w) (hb : Below w.heap.size w w') : TwAt W gr g1 g2 c A B w' :=
  ⟨h.1.later hb h.1.lt, h.2.1.later hb h.2.1.lt, h.2.2.1.later hb h.2.2.1.lt, h.2.2.2.trans (hb.mono h.2.2.2.size)⟩
theorem TwAt.drewN {W : World} {gr g1 g2 c : Nat} {A B : List Nat} {w : World} (h : TwAt W gr g1 g2 c A B w) (n : Nat) : TwAt W gr g1 g2 c A B (w.drewN n) :=
  ⟨h.1, h.2.1, h.2.2.1, below_drewNq h.2.2.2 n⟩
theorem TwAt.put {W : World} {gr g1 g2 c : Nat} {A B : List Nat} {w : World} (h : TwAt W gr g1 g2 c A B w) (hl : A.length = c) (k n : Nat) (hk : k < c) (hr : gr ≠ g1) (h2 : g2 ≠ g1) (hW : W.heap.size ≤ g1) :
    TwAt W gr g1 g2 c (A.set k n) B (w.setCell ⟨g1, k, none⟩ (.int .u64 (n : Int))) :=
  ⟨h.1.other hr _ _, h.2.1.set hl k n hk, h.2.2.1.other h2 _ _, h.2.2.2.setCell hW _⟩
/-- The result's block, a row. -/
def OnAt (W : World) (gr g1 c : Nat) (A : List Nat) (wr : World) : Prop := VBlk wr gr (0, 0) ∧ XBlk wr g1 c A ∧ Below W.heap.size W wr
theorem OnAt.later {W : World} {gr g1 c : Nat} {A : List Nat} {w w' : World} (h : OnAt W gr g1 c A w) (hb : Below w.heap.size w w') : OnAt W gr g1 c A w' :=
  ⟨h.1.later hb h.1.lt, h.2.1.later hb h.2.1.lt, h.2.2.trans (hb.mono h.2.2.size)⟩
theorem OnAt.drewN {W : World} {gr g1 c : Nat} {A : List Nat} {w : World} (h : OnAt W gr g1 c A w) (n : Nat) : OnAt W gr g1 c A (w.drewN n) :=
  ⟨h.1, h.2.1, below_drewNq h.2.2 n⟩
theorem OnAt.put {W : World} {gr g1 c : Nat} {A : List Nat} {w : World} (h : OnAt W gr g1 c A w) (hl : A.length = c) (k n : Nat) (hk : k < c) (hr : gr ≠ g1) (hW : W.heap.size ≤ g1) :
    OnAt W gr g1 c (A.set k n) (w.setCell ⟨g1, k, none⟩ (.int .u64 (n : Int))) :=
  ⟨h.1.other hr _ _, h.2.1.set hl k n hk, h.2.2.setCell hW _⟩
end Go.Proofs.YtpeckiaimellmaaDoor
/-
  The document's Narrow of lanes.
-/
set_option linter.unusedVariables false
set_option linter.unusedSimpArgs false
namespace Go.Proofs.YtpeckiaimellmaaDoor
open Go.RowKit Lan

/-- Two rows of c, one behind the other. -/
def joinF (c : Nat) (f g : Nat → Nat) (i : Nat) : Nat := if i < c then f i else g (i - c)
theorem join_append (c : Nat) (f g : Nat → Nat) : (List.range c).map f ++ (List.range c).map g = (List.range (c + c)).map (joinF c f g) := by
  apply List.ext_getElem
  · simp
  · intro j h1 h2
    simp only [List.getElem_append, List.getElem_map, List.getElem_range, List.length_map, List.length_range, joinF]
    split <;> rfl
theorem OwnW.later {w w' : World} {b : Nat} {v : Value} {l : List Nat} (h : OwnW w b v l) (hb : Below w.heap.size w w') : OwnW w' b v l := by
  unfold OwnW at *
  obtain ⟨h1, h2 | ⟨g, cap, cur, e, hg, hblk, h3⟩⟩ := h
  · exact ⟨h1, .inl h2⟩
  · exact ⟨h1, .inr ⟨g, cap, cur, e, hg, (hb.block g (Array.getElem?_eq_some_iff.1 hblk).1).trans hblk, h3⟩⟩

end Go.Proofs.YtpeckiaimellmaaDoor
