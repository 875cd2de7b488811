/-
  The law TypesFresh, over what is asked of types (genfresh9.py wrote it).
-/
import Derived.Test.YteacjhmbamcegaaTypLaw7
import Derived.Test.YteacjhmbamcegaaFreshParts
set_option linter.unusedVariables false
set_option linter.unusedSimpArgs false
namespace Go.Proofs.Yteacjhmbamcegaa
open Go.RowKit Typ

/-- What is asked of Put, its spare cells told. -/
def TPutIOK : Prop := ∀ (v1 v2 : Value) (l1 l2 : List Int) (w : World), RowT w v1 l1 → RowT w v2 l2 → Leb.Bytes l1 → Leb.Bytes l2 → l1.length ≤ 1048576 → l2.length ≤ 1048576 →
  Calls Try.prog 38 #[funcV v1 v2] w fun e w' => ∃ v, e = .returned v ∧ OwnI w' w.heap.size 5 .u8 v (putFunc l1 l2) ∧ Below w.heap.size w w'
theorem TPutIOK.put (h : TPutIOK) : TPutOK := fun v1 v2 l1 l2 w R1 R2 y1 y2 k1 k2 =>
  (h v1 v2 l1 l2 w R1 R2 y1 y2 k1 k2).mono fun e w' ⟨v, he, ho, hb⟩ => ⟨v, he, ho.row, hb⟩

theorem infoVT : (Try.prog.info? 22).map (fun i => (i.zero, i.size, i.bytes)) = some (some (.int .u8 0), 1, 1) := by kernel_rfl
theorem OwnT.addr {w : World} {b : Nat} {v : Value} {l : List Int} (h : OwnT w b v l) (h0 : 0 < l.length) : ∃ g cap, v = .slice (some ⟨g, 0, none⟩) l.length cap ∧ b ≤ g ∧ ∃ cur, w.heap[g]? = some (.cells cur 22 (0, 0)) := by
  obtain ⟨_, ⟨rfl, h1⟩ | ⟨g, cap, cur, rfl, hb, hblk, _⟩⟩ := id h
  · omega
  · exact ⟨g, cap, rfl, hb, cur, hblk⟩
theorem types_apart {w : World} {g g' : Nat} {cs cur : Array Value} (h : SBlk w g 38 cs) (h' : w.heap[g']? = some (.cells cur 22 (0, 0))) : g ≠ g' := by
  rintro rfl
  unfold SBlk at h
  rw [h] at h'
  simp only [Option.some.injEq, Obj.cells.injEq] at h'
  exact absurd h'.2.1 (by decide)
theorem OwnT.aside {w : World} {b : Nat} {v : Value} {l : List Int} (h : OwnT w b v l) {g : Nat} {cs : Array Value} (hg : SBlk w g 38 cs) (k : Nat) (u : Value) : OwnT (w.setCell ⟨g, k, none⟩ u) b v l := by
  obtain ⟨h1, h2 | ⟨g', cap, cur, e, hb, hblk, h3⟩⟩ := id h
  · exact ⟨h1, .inl h2⟩
  · exact ⟨h1, .inr ⟨g', cap, cur, e, hb, (heap_setCell_other _ _ _ _ (Ne.symm (types_apart hg hblk))).trans hblk, h3⟩⟩
theorem SBlk.aside {w : World} {g g' : Nat} {t : TypeId} {cs : Array Value} (h : SBlk w g t cs) (hg : g ≠ g') (k : Nat) (u : Value) : SBlk (w.setCell ⟨g', k, none⟩ u) g t cs := (heap_setCell_other _ _ _ _ hg).trans h

/-- In the loop that writes over what was read. -/
def OverJ (wa : World) (g6 : Nat) (x1 x2 : Value) (n : Nat) (wr : World) : Prop :=
  (∃ ys : List Int, ys.length = n ∧ OwnT wr wa.heap.size x1 ys) ∧ SBlk wr g6 38 #[x1, x2] ∧ wa.heap.size ≤ g6 ∧ Below wa.heap.size wa wr
def OwnJ (v1 v2 : Value) (g3 : Nat) (l1 l2 : List Int) (wa : World) (d : Nat → Bool) (vs : List Value) (w : World) : Prop :=
  (d 0 = true → vs[0]?.getD undef = .pointer (some ⟨g3, 0, none⟩)) ∧ (d 1 = true → vs[1]?.getD undef = v1) ∧ (d 2 = true → OwnT w wa.heap.size (vs[2]?.getD undef) l1) ∧ (d 3 = true → vs[3]?.getD undef = .pointer (some ⟨g3, 1, none⟩)) ∧ (d 4 = true → vs[4]?.getD undef = v2) ∧ (d 5 = true → OwnT w wa.heap.size (vs[5]?.getD undef) l2) ∧
  (d 6 = true → vs[6]?.getD undef = .agg #[vs[2]?.getD undef, vs[5]?.getD undef]) ∧ (d 7 = true → ∃ g cs, vs[7]?.getD undef = .pointer (some ⟨g, 0, none⟩) ∧ wa.heap.size ≤ g ∧ SBlk w g 38 cs ∧ cs.size = 2 ∧ (d 8 = true → cs = #[vs[2]?.getD undef, vs[5]?.getD undef])) ∧ (d 6 = true → d 2 = true) ∧ (d 6 = true → d 5 = true) ∧ (d 8 = true → d 6 = true) ∧ (d 8 = true → d 7 = true) ∧ Below wa.heap.size wa w
def FreshJ (VW VB y1 y2 v1 v2 : Value) (A : List Int) (wa : World) (d : Nat → Bool) (vs : List Value) (w : World) : Prop :=
  (d 0 = true → vs[0]?.getD undef = VW) ∧ (d 1 = true → vs[1]?.getD undef = VB) ∧ (d 2 = true → vs[2]?.getD undef = (.bool true)) ∧ (d 3 = true → vs[3]?.getD undef = (.bool true)) ∧ (d 4 = true → vs[4]?.getD undef = (.agg #[y1, y2])) ∧ (d 5 = true → vs[5]?.getD undef = (.agg #[v1, v2])) ∧ (d 6 = true → vs[6]?.getD undef = (.bool true)) ∧ (d 7 = true → vs[7]?.getD undef = (.bool true)) ∧ (d 8 = true → vs[8]?.getD undef = (.bool true)) ∧ (d 9 = true → vs[9]?.getD undef = (.agg #[y1, y2])) ∧ (d 10 = true → OwnU w wa.heap.size (vs[10]?.getD undef) A) ∧ (d 11 = true → vs[11]?.getD undef = (.agg #[v1, v2])) ∧ (d 12 = true → OwnU w wa.heap.size (vs[12]?.getD undef) A) ∧ (d 13 = true → vs[13]?.getD undef = (.bool true)) ∧ (d 14 = true → vs[14]?.getD undef = (.bool true)) ∧ (d 15 = true → vs[15]?.getD undef = (.bool true)) ∧ (d 16 = true → vs[16]?.getD undef = (.bool true)) ∧ (d 17 = true → vs[17]?.getD undef = (.bool true)) ∧ (d 18 = true → vs[18]?.getD undef = (.bool true)) ∧ Below wa.heap.size wa w

end Go.Proofs.Yteacjhmbamcegaa
