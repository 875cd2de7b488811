/-
  A function that lays one new block, fills it with what straight code builds, and answers it: run out by the kernel but for the block.
-/
import Derived.Test.YthggbimnjneeaaaDoorRunOut
import Derived.Deep.WholeRow
import Derived.Laws.Tables
import Derived.Laws.Rows
import Derived.Below
set_option linter.unusedVariables false
set_option maxRecDepth 100000
namespace Go.Proofs.YthggbimnjneeaaaDoor
open Go.RowKit

theorem runOps_pre {P : Program} {ops : Array Oper} {Q : Exit → Act → World → Prop} {l2 : List Oper} : ∀ (l1 : List Oper) (a : Act) (w : World) (a' : Act) (w' : World),
    runOps P l1 a w = some (a', w') → wpList P ops Q l2 a' w' → wpList P ops Q (l1 ++ l2) a w
  | [], a, w, a', w', h, hq => by
    simp only [runOps, Option.some.injEq, Prod.mk.injEq] at h
    obtain ⟨rfl, rfl⟩ := h
    exact hq
  | o :: l, a, w, a', w', h, hq => by
    unfold runOps at h
    split at h
    · next hg =>
      split at h
      · next v w1 hr =>
        refine wpList_plain hg fun K hK => ?_
        unfold Oper.wp
        rw [hr]
        exact hK _ _ (runOps_pre l _ _ _ _ h hq)
      · cases h
    · cases h

theorem results_row {P : Program} {fn : Func} {k : Nat} {t : TypeId} (h : fn.results = #[.cell k t]) {tmps : Array Value} {a : Addr} (hp : tmps.getD k undef = .pointer (some a)) {v : Value} {w : World}
    (hl : (loadVar t a).run P w = .ok v w) : (results fn tmps).run P w = .ok v w := by
  have ha : (asAddr (tmps.getD k undef)).run P w = .ok a w := by rw [hp]; rfl
  unfold results
  rw [h]
  simp only [List.mapM_toArray, List.mapM_cons, List.mapM_nil, Sem.run_bind, ha, Result.andThen_ok, hl, Sem.run_map, Sem.run_pure]
  rfl

/-- The frame's look: slots 0 and k, no deferred calls. -/
def look (k : Nat) (r : Act × World) : Value × Value × Nat × World := (r.1.tmps.getD 0 undef, r.1.tmps.getD k undef, r.1.defers.length, r.2)

theorem calls_row {P : Program} {f : FuncId} {fn : Func} {id0 id1 : Nat} {ops0 ops1 : Array Oper} {w : World} {t : TypeId} {d : TypeDesc} {zs cells : Array Value} (m k : Nat) (oS : Oper)
    (hf : P.funcs[f]? = some fn) (hb : fn.body = some (.seq (.region id0 ops0 false) (.seq (.region id1 ops1 false) .ret))) (hr : fn.results = #[.cell 0 t])
    (h0 : runOps P ops0.toList { tmps := #[] ++ Array.replicate (fn.ntmps - 0) undef, defers := [] } w = some ({ tmps := #[.pointer (some ⟨w.heap.size, 0, none⟩)] ++ Array.replicate (fn.ntmps - 1) undef, defers := [] }, w.alloc (.cells zs t)))
    (hB : ∀ p V, (runOps P (ops1.toList.take m) { tmps := #[p] ++ Array.replicate (fn.ntmps - 1) undef, defers := [] } V).map (look k) = some (p, .agg cells, 0, V))
    (hl : ops1.toList.drop m = [oS]) (hg : oS.guard = none) (ho : oS.op = .store t (.tmp 0) (.tmp k)) (hd : oS.dst = none)
    (hu : P.underlying t = some d) (hdr : (match d with | .struct _ | .array _ _ => true | _ => false) = true) (hi : (P.info? t).map (·.size) = some cells.size) (hz : zs.size = cells.size) (h1 : cells.all (·.oneCell') = true) :
    Calls P f #[] w fun e W => e = .returned (.agg cells) ∧ W = w.alloc (.cells cells t) := by
  refine calls_of_wp hf hb ?_
  refine wp_seq ?_
  refine wp_region_list (runOps_wp _ _ _ _ _ (by simpa using h0) ?_)
  refine wp_seq ?_
  have hBx := hB (.pointer (some ⟨w.heap.size, 0, none⟩)) (w.alloc (.cells zs t))
  cases hx : runOps P (ops1.toList.take m) { tmps := #[Value.pointer (some ⟨w.heap.size, 0, none⟩)] ++ Array.replicate (fn.ntmps - 1) undef, defers := [] } (w.alloc (.cells zs t)) with
  | none => rw [hx] at hBx; cases hBx
  | some r =>
    obtain ⟨a1, w1⟩ := r
    rw [hx] at hBx
    simp only [look, Option.map_some, Option.some.injEq, Prod.mk.injEq] at hBx
    obtain ⟨e0, ek, ed, rfl⟩ := hBx
    have hops : ops1 = (ops1.toList.take m ++ [oS]).toArray := by
      apply Array.ext'
      rw [← hl, List.take_append_drop]
    rw [hops]
    refine wp_region_list (runOps_pre _ _ _ _ _ hx ?_)
    have hgr : (w.alloc (.cells zs t)).heap[w.heap.size]? = some (.cells zs t (0, 0)) := heap_alloc_new w _
    refine wpList_store_row hg t (.tmp 0) (.tmp k) ho w.heap.size cells e0 ek t zs hgr hi hz h1 ?_
    rw [hd, World.setRow_alloc_new]
    refine wpList_nil ?_
    refine wp_ret ?_
    refine bodyPost_ret (v := .agg cells) ?_ (List.eq_nil_of_length_eq_zero ed) ⟨rfl, rfl⟩
    have hld := run_loadVar_row (P := P) (w.alloc (.cells cells t)) w.heap.size t t cells (0, 0) d (heap_alloc_new w _) hu hdr hi
    exact results_row hr e0 hld
end Go.Proofs.YthggbimnjneeaaaDoor
