/-
  Loops over iterators within loops: the marks that they leave; a store of a whole block; an append that tells where the row lies.
-/
import Derived.Test.YthggbimnjneeaaaDoorOcName
import Derived.Test.YthggbimnjneeaaaDoorOcDat
import Derived.Maps.AppendAt
set_option linter.unusedVariables false
set_option maxRecDepth 100000
set_option linter.unusedSimpArgs false
namespace Go.Proofs.YthggbimnjneeaaaDoor
open Go.RowKit Go.Shelf Opp Opc

theorem wpListIn_store_row {F : Fence} {n : Nat} {P : Program} {ops : Array Oper} {rest : List Oper} {o : Oper} {a : Act} {w : World} {Q : Exit → Act → World → Prop} (hgd : o.guard = none) (ty : TypeId) (x y : Operand) (ho : o.op = .store ty x y)
    (g : Nat) (cells : Array Value) (hx : a.eval x = .pointer (some ⟨g, 0, none⟩)) (hy : a.eval y = .agg cells)
    (t : TypeId) (old : Array Value) (hg : w.heap[g]? = some (.cells old t (0, 0))) (hi : (P.info? ty).map (·.size) = some cells.size)
    (hold : old.size = cells.size) (h1 : cells.all (·.oneCell') = true)
    (h : wpListIn F n P ops Q rest (a.put o.dst undef) (w.setRow g cells)) : wpListIn F n P ops Q (o :: rest) a w := by
  refine wpListIn_plain hgd fun K hK => ?_
  unfold Oper.wpIn
  refine ⟨?_, ?_⟩
  · simp [Oper.about, ho]
  · rw [Oper.semAt_plain F _ _ (by rw [ho]; intro c hc'; cases hc')]
    simp only [execOp, ho, hx, hy, Instr.storeAt, Instr.sureAddr, Sem.run_bind, Sem.run_pure, Result.andThen_ok, run_storeVar_row w g t ty old cells hg hi hold h1]
    exact hK _ _ h
theorem wpListIn_append_at {F : Fence} {n : Nat} {P : Program} (w : World) {ops : Array Oper} {rest : List Oper} {o : Oper} {a : Act} {Q : Exit → Act → World → Prop}
    (hg : o.guard = none) (s x : Operand) (t : TypeId) (hop : o.op = Op.call { callee := Callee.builtin Builtin.append, args := #[s, x], argTypes := #[t, t] })
    (base : Nat) (e : TypeId) (i : TypeInfo) (z : Value) (size bytes : Nat) (h1 : P.underlying t = some (.slice e)) (h2 : P.info? e = some i) (h3 : i.zero = some z) (h4 : i.size = size) (h5 : i.bytes = bytes) (h6 : z.cells.size = size) (h7 : 0 < size)
    (v : Value) (k : Nat) (xs : List Value) (hs : a.eval s = v) (hown : w.ownsRow base e size v k xs) (ad : Addr) (m c : Nat) (news : List Value) (hx : a.eval x = .slice (some ad) m c) (hn : news.length = m * size)
    (hc : ∀ j u, news[j]? = some u → w.cell? (ad.add j) = some u) (h1c : ∀ u ∈ news, u.oneCell' = true) (b1 : k + m ≤ maxLen) (b2 : (k + m) * bytes ≤ 140737488355328) (b3 : base ≤ w.heap.size)
    (hK : ∀ v' w', w'.ownsRow base e size v' (k + m) (xs ++ news) → w.grownBy w' v.ownBlock → (v'.ownBlock = v.ownBlock ∨ v'.ownBlock = some w.heap.size) → wpListIn F n P ops Q rest (a.put o.dst v') w') :
    wpListIn F n P ops Q (o :: rest) a w := by
  refine wpListIn_plain hg fun K hK' => ?_
  obtain ⟨v', w', hrun, r1, r2, _, r3⟩ := run_append_own_at (P := P) w base t o.type e i z size bytes h1 h2 h3 h4 h5 h6 h7 v k xs hown ad m c news hn hc h1c b1 b2 b3
  unfold Oper.wpIn
  refine ⟨?_, ?_⟩
  · simp [Oper.about, hop, resolve, Target.leads, Sem.run_pure]
  · rw [Oper.semAt_plain F _ _ (by rw [hop]; intro c hc'; cases hc')]
    simp [execOp, hop, resolve, invoke, builtin, hs, hx, hrun, Result.andThen]
    exact hK' _ _ (hK v' w' r1 r2 r3)

/-! ### The marks -/
def markOf (D : Nat) : Deferred := { target := .collected D, args := #[] }
/-- These blocks are open for deferred calls, and hold none; they lie at or beyond B. -/
def Open (B : Nat) (V : World) (Ds : List Nat) : Prop := Ds.Nodup ∧ ∀ D ∈ Ds, B ≤ D ∧ V.heap[D]? = some (.deferred (some []))
theorem Open.nil (B : Nat) (V : World) : Open B V [] := ⟨List.nodup_nil, fun D h => by cases h⟩
theorem Open.lt {B : Nat} {V : World} {Ds : List Nat} (h : Open B V Ds) {D : Nat} (hD : D ∈ Ds) : D < V.heap.size := (Array.getElem?_eq_some_iff.1 (h.2 D hD).2).1
theorem Open.later {B : Nat} {V V' : World} {Ds : List Nat} (h : Open B V Ds) (hb : Below V.heap.size V V') : Open B V' Ds :=
  ⟨h.1, fun D hD => ⟨(h.2 D hD).1, (hb.block _ (h.lt hD)).trans (h.2 D hD).2⟩⟩
theorem Open.others {B : Nat} {V V' : World} {Ds : List Nat} (h : Open B V Ds) (hb : KeepsOthers V V') : Open B V' Ds :=
  ⟨h.1, fun D hD => ⟨(h.2 D hD).1, hb.same _ _ (h.2 D hD).2 rfl⟩⟩
theorem Open.kept {B C : Nat} {V V' : World} {row : Option Nat} {Ds : List Nat} (h : Open B V Ds) (hC : ∀ D ∈ Ds, D < C) (hg : V.grownBy V' row) (hr : ∀ r, row = some r → C ≤ r) : Open B V' Ds :=
  ⟨h.1, fun D hD => ⟨(h.2 D hD).1, (hg.block _ (h.lt hD) (fun e => by have h1 := hC D hD; have h2 := hr D e.symm; omega)).trans (h.2 D hD).2⟩⟩
theorem Open.cons {B C D : Nat} {V : World} {Ds : List Nat} (h : Open B V Ds) (hC : ∀ E ∈ Ds, E < C) (hB : B ≤ C) (hD : C ≤ D) (hk : V.heap[D]? = some (.deferred (some []))) : Open B V (D :: Ds) := by
  refine ⟨List.nodup_cons.2 ⟨fun hm => by have := hC D hm; omega, h.1⟩, fun E hE => ?_⟩
  rcases List.mem_cons.1 hE with rfl | hE
  · exact ⟨Nat.le_trans hB hD, hk⟩
  · exact h.2 E hE
/-- A function leaves with so many marks: what holds of the world whatever of these blocks is shut. -/
theorem leaves_marks {F : Fence} {n : Nat} {P : Program} {fn : Func} {tmps : Array Value} {R : Ending → World → Prop} {B : Nat} (K : World → Prop)
    (hK : ∀ V D, B ≤ D → V.heap[D]? = some (.deferred (some [])) → K V → K (V.putObj D (.deferred none)))
    (hfin : ∀ V, K V → ∃ v, (results fn tmps).run P V = .ok v V ∧ R (.returned v) V) :
    ∀ (Ds : List Nat) (V : World), Open B V Ds → K V → LeavesInM F n P fn tmps R (Ds.map markOf) .returning V
  | [], V, _, hk => hfin V hk
  | D :: Ds, V, ho, hk => by
    obtain ⟨hnd, hall⟩ := ho
    obtain ⟨hB, hD⟩ := hall D (List.mem_cons_self ..)
    refine ⟨by simp, .inl ⟨D, _, rfl, run_takeDeferred hD, ?_⟩⟩
    refine leaves_marks K hK hfin Ds _ ⟨(List.nodup_cons.1 hnd).2, fun E hE => ?_⟩ (hK V D hB hD hk)
    have hne : E ≠ D := fun e => by subst e; exact (List.nodup_cons.1 hnd).1 hE
    exact ⟨(hall E (List.mem_cons_of_mem _ hE)).1, (World.putObj_heap_other hne).trans (hall E (List.mem_cons_of_mem _ hE)).2⟩

/-! ### A struct out of an array's value -/
theorem index_part {P : Program} {t e : TypeId} {n sz i : Nat} {cs : Array Value} {d : TypeDesc} (ht : P.underlying t = some (.array n e)) (he : P.underlying e = some d) (hd : d.isRow = true) (hi : (P.info? e).map (·.size) = some sz) (hlt : i < n) (w : World) :
    (Instr.index t (.agg cs) (.int .i64 (i : Int))).run P w = .ok (.agg (cs.extract (i * sz) (i * sz + sz))) w := by
  obtain ⟨i0, hi0, hz⟩ := Option.map_eq_some_iff.1 hi
  have A : (isAgg e).run P w = .ok true w := by
    unfold isAgg
    rw [Sem.run_bind, run_underlying he w]
    cases d <;> simp_all
  have c0 : (0 : Int) ≤ (i : Int) ∧ (i : Int) < (n : Int) := by omega
  simp [Instr.index, asIntOf, run_underlying ht, part, sizeOf, typeInfo, hi0, hz, A, go_sem, c0, hlt]
theorem span_index {i : Nat} (hi : i < 17) (w : World) : (Instr.index 64 (.agg spansCC.toArray) (.int .i64 (i : Int))).run Tryd.prog w = .ok (.agg #[.int .u16 ((spanAt i).1 : Int), .bool (spanAt i).2.2, .func (.func (fnAt i)) #[] #[]]) w := by
  rw [index_part Tryd.underlying64 Tryd.underlying43 rfl span_info hi]
  congr 2
  apply Array.ext'
  have : ∀ k : Nat, (spansCC.toArray.extract (i * 3) (i * 3 + 3)).toList[k]? = [Value.int .u16 ((spanAt i).1 : Int), .bool (spanAt i).2.2, .func (.func (fnAt i)) #[] #[]][k]? := by
    intro k
    simp only [Array.toList_extract, List.extract_eq_take_drop]
    rw [List.getElem?_take]
    split
    · next h =>
      rw [List.getElem?_drop, Nat.mul_comm, spansCC_at hi (by omega)]
      rfl
    · next h =>
      rw [List.getElem?_eq_none]
      simp
      omega
  exact List.ext_getElem? this
theorem fam_index {l : List FamC} {j : Nat} (hj : j < 20) (w : World) : (Instr.index 49 (.agg (listCC l).toArray) (.int .i64 (j : Int))).run Tryd.prog w = .ok (.agg (famCC (famAtC l j)).toArray) w := by
  rw [index_part Tryd.underlying49 Tryd.underlying46 rfl fam_info hj]
  congr 2
  apply Array.ext'
  have : ∀ k : Nat, ((listCC l).toArray.extract (j * 5) (j * 5 + 5)).toList[k]? = (famCC (famAtC l j))[k]? := by
    intro k
    simp only [Array.toList_extract, List.extract_eq_take_drop]
    rw [List.getElem?_take]
    split
    · next h =>
      rw [List.getElem?_drop, Nat.mul_comm, listCC_at l hj (by omega)]
    · next h =>
      rw [List.getElem?_eq_none]
      simp [famCC]
      omega
  exact List.ext_getElem? this
end Go.Proofs.YthggbimnjneeaaaDoor
