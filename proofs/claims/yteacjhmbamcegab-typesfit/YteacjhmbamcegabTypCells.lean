/-
  Blocks of structs: stored, read, answered.
-/
import Derived.Test.YteacjhmbamcegabTypList
set_option linter.unusedVariables false
set_option linter.unusedSimpArgs false
namespace Go.Proofs.Yteacjhmbamcegab
open Go.RowKit Typ

/-- A block of a struct's cells. -/
def SBlk (w : World) (g : Nat) (t : TypeId) (cs : Array Value) : Prop := w.heap[g]? = some (.cells cs t (0, 0))
theorem SBlk.later {w w' : World} {g : Nat} {t : TypeId} {cs : Array Value} (h : SBlk w g t cs) {B : Nat} (hb : Below B w w') (hg : g < B) : SBlk w' g t cs := (hb.block g hg).trans h
theorem SBlk.lt {w : World} {g : Nat} {t : TypeId} {cs : Array Value} (h : SBlk w g t cs) : g < w.heap.size := (Array.getElem?_eq_some_iff.1 h).1
theorem SBlk.cell {w : World} {g : Nat} {t : TypeId} {cs : Array Value} (h : SBlk w g t cs) {k : Nat} {v : Value} (hk : cs[k]? = some v) : w.cell? ⟨g, k, none⟩ = some v := by
  unfold SBlk at h
  simp [World.cell?, h, hk]
theorem SBlk.frozen {w : World} {g : Nat} {t : TypeId} {cs : Array Value} (h : SBlk w g t cs) (k : Nat) : w.frozen? ⟨g, k, none⟩ = false := frozen_of_row w g k _ _ h
theorem SBlk.set {w : World} {g : Nat} {t : TypeId} {cs : Array Value} (h : SBlk w g t cs) (k : Nat) (v : Value) : SBlk (w.setCell ⟨g, k, none⟩ v) g t (cs.setIfInBounds k v) := heap_setCell_same w g k _ _ v h
theorem sblk_new (w : World) (t : TypeId) (cs : Array Value) : SBlk (w.alloc (.cells cs t)) w.heap.size t cs := heap_alloc_new w _
theorem infoF : (Try.prog.info? 33).map (·.size) = some 2 := by kernel_rfl
theorem infoL : (Try.prog.info? 25).map (·.size) = some 3 := by kernel_rfl
theorem infoTT : (Try.prog.info? 27).map (·.size) = some 4 := by kernel_rfl
theorem resultF {w : World} {g : Nat} {a b : Value} (h : SBlk w g 33 #[a, b]) {fn : Func} {p q r : Tmp} (hf : fn.results = #[.cell p 33, .tmp q, .tmp r]) (tmps : Array Value) (hp : tmps.getD p undef = .pointer (some ⟨g, 0, none⟩)) {x y : Value} (hq : tmps.getD q undef = x) (hr : tmps.getD r undef = y) :
    (results fn tmps).run Try.prog w = .ok (.tuple #[.agg #[a, b], x, y]) w := by
  have hp' : tmps[p]?.getD undef = .pointer (some ⟨g, 0, none⟩) := by simpa using hp
  have hq' : tmps[q]?.getD undef = x := by simpa using hq
  have hr' : tmps[r]?.getD undef = y := by simpa using hr
  simp [results, hf, hp', hq', hr', asAddr, run_loadVar_row w g _ _ _ _ _ h Try.underlying33 rfl infoF]
theorem resultL {w : World} {g : Nat} {a b c : Value} (h : SBlk w g 25 #[a, b, c]) {fn : Func} {p q r : Tmp} (hf : fn.results = #[.cell p 25, .tmp q, .tmp r]) (tmps : Array Value) (hp : tmps.getD p undef = .pointer (some ⟨g, 0, none⟩)) {x y : Value} (hq : tmps.getD q undef = x) (hr : tmps.getD r undef = y) :
    (results fn tmps).run Try.prog w = .ok (.tuple #[.agg #[a, b, c], x, y]) w := by
  have hp' : tmps[p]?.getD undef = .pointer (some ⟨g, 0, none⟩) := by simpa using hp
  have hq' : tmps[q]?.getD undef = x := by simpa using hq
  have hr' : tmps[r]?.getD undef = y := by simpa using hr
  simp [results, hf, hp', hq', hr', asAddr, run_loadVar_row w g _ _ _ _ _ h Try.underlying25 rfl infoL]
theorem resultT {w : World} {g : Nat} {a b c d : Value} (h : SBlk w g 27 #[a, b, c, d]) {fn : Func} {p q r : Tmp} (hf : fn.results = #[.cell p 27, .tmp q, .tmp r]) (tmps : Array Value) (hp : tmps.getD p undef = .pointer (some ⟨g, 0, none⟩)) {x y : Value} (hq : tmps.getD q undef = x) (hr : tmps.getD r undef = y) :
    (results fn tmps).run Try.prog w = .ok (.tuple #[.agg #[a, b, c, d], x, y]) w := by
  have hp' : tmps[p]?.getD undef = .pointer (some ⟨g, 0, none⟩) := by simpa using hp
  have hq' : tmps[q]?.getD undef = x := by simpa using hq
  have hr' : tmps[r]?.getD undef = y := by simpa using hr
  simp [results, hf, hp', hq', hr', asAddr, run_loadVar_row w g _ _ _ _ _ h Try.underlying27 rfl infoTT]
end Go.Proofs.Yteacjhmbamcegab
