/-
  A row of the call's own whose cells, the spare ones too, are integers of one kind: append to it, read it, write it.
-/
import Derived.WalkKit
import Derived.OwnWalk
import Derived.Below
import Derived.WalkSmall
namespace Go.Proofs.Yteacjhmbamcegab
open Go.RowKit

/-- The slice value v owns the numbers l, from block 'base' on; its spare cells are numbers, too. -/
def OwnI (w : World) (base : Nat) (e : TypeId) (k : IntKind) (v : Value) (l : List Int) : Prop :=
  (v = .slice none 0 0 ∧ l = []) ∨
  ∃ g cap, ∃ zs : List Int, v = .slice (some ⟨g, 0, none⟩) l.length cap ∧ base ≤ g ∧ w.heap[g]? = some (.cells (zs.map (Value.int k)).toArray e (0, 0)) ∧
    l.length ≤ cap ∧ cap ≤ maxLen ∧ zs.length = cap ∧ zs.take l.length = l ∧ ∀ z ∈ zs, (Lit.int k z).wf = true

theorem OwnI.nil (w : World) (base : Nat) (e : TypeId) (k : IntKind) : OwnI w base e k (.slice none 0 0) [] := .inl ⟨rfl, rfl⟩

theorem OwnI.row {w : World} {base : Nat} {e : TypeId} {k : IntKind} {v : Value} {l : List Int} (h : OwnI w base e k v l) : w.ownsRow base e 1 v l.length (l.map (Value.int k)) := by
  rcases h with ⟨rfl, rfl⟩ | ⟨g, cap, zs, rfl, hb, hg, h1, h2, h3, h4, _⟩
  · exact World.ownsRow_nil _ _ _ _
  · refine ⟨by simp, .inr ⟨g, cap, _, rfl, hb, hg, h1, h2, by simp [h3], ?_⟩⟩
    rw [Nat.mul_one]
    show (zs.map (Value.int k)).take l.length = _
    rw [← List.map_take, h4]

theorem OwnI.below {w w' : World} {B base : Nat} {e : TypeId} {k : IntKind} {v : Value} {l : List Int} (h : OwnI w base e k v l) (hb : Below B w w') (hv : ∀ j, v.ownBlock = some j → j < B) : OwnI w' base e k v l := by
  rcases h with h | ⟨g, cap, zs, rfl, h1, hg, h2⟩
  · exact .inl h
  · exact .inr ⟨g, cap, zs, rfl, h1, by rw [hb.block g (hv g rfl)]; exact hg, h2⟩

theorem OwnI.alloc {w : World} {base : Nat} {e : TypeId} {k : IntKind} {v : Value} {l : List Int} (h : OwnI w base e k v l) (o : Obj) : OwnI (w.alloc o) base e k v l :=
  h.below ((Below.refl _ _).alloc (Nat.le_refl _) o) (fun j hj => (h.row.lt j hj).2)

theorem OwnI.drewN {w : World} {base : Nat} {e : TypeId} {k : IntKind} {v : Value} {l : List Int} (h : OwnI w base e k v l) (n : Nat) : OwnI (w.drewN n) base e k v l := h

theorem OwnI.mono {w : World} {base base' : Nat} {e : TypeId} {k : IntKind} {v : Value} {l : List Int} (h : OwnI w base e k v l) (hb : base' ≤ base) : OwnI w base' e k v l := by
  rcases h with h | ⟨g, cap, zs, rfl, h1, h2⟩
  · exact .inl h
  · exact .inr ⟨g, cap, zs, rfl, Nat.le_trans hb h1, h2⟩

theorem zeroCells_ints (k : IntKind) (n : Nat) : (Builtin.zeroCells #[Value.int k 0] n).toList = (List.replicate n (0 : Int)).map (Value.int k) := by
  simp [Builtin.zeroCells, Nat.mod_one, List.eq_replicate_iff]

theorem wf_zero (k : IntKind) : (Lit.int k 0).wf = true := by cases k <;> rfl

section
variable {P : Program}

theorem run_append_ownI (w : World) (base : Nat) (t ty e : TypeId) (i : TypeInfo) (k : IntKind) (bytes : Nat) (ht : P.underlying t = some (.slice e)) (hi : P.info? e = some i) (hz : i.zero = some (.int k 0))
    (hsize : i.size = 1) (hby : i.bytes = bytes) (v : Value) (l : List Int) (hown : OwnI w base e k v l)
    (a : Addr) (m c : Nat) (r : List Int) (hl : r.length = m) (hnews : ∀ j u, (r.map (Value.int k))[j]? = some u → w.cell? (a.add j) = some u) (hr : ∀ z ∈ r, (Lit.int k z).wf = true)
    (h63 : l.length + m ≤ maxLen) (hbytes : (l.length + m) * bytes ≤ 140737488355328) (hbase : base ≤ w.heap.size) :
    ∃ v' w', (Builtin.append_ #[t, t] ty #[v, .slice (some a) m c]).run P w = .ok v' w' ∧ OwnI w' base e k v' (l ++ r) ∧ w.grownBy w' v.ownBlock := by
  subst hby
  have hl' : (r.map (Value.int k)).length = m * i.size := by simp [hl, hsize]
  have h1 : ∀ u ∈ r.map (Value.int k), u.oneCell' = true := ints_oneCell k r
  have grown : ∀ (old : Nat) (row : Option Nat), (∀ z ∈ l, (Lit.int k z).wf = true) →
      OwnI (w.drew.alloc (.cells ((l.map (Value.int k)).toArray ++ (r.map (Value.int k)).toArray ++ Builtin.zeroCells (Value.int k 0).cells (grownCap w (l.length + m) old e - (l.length + m))) e)) base e k
        (.slice (some ⟨w.heap.size, 0, none⟩) (l.length + m) (grownCap w (l.length + m) old e)) (l ++ r) ∧
      w.grownBy (w.drew.alloc (.cells ((l.map (Value.int k)).toArray ++ (r.map (Value.int k)).toArray ++ Builtin.zeroCells (Value.int k 0).cells (grownCap w (l.length + m) old e - (l.length + m))) e)) row := by
    intro old row hwl
    have hge := grownCap_ge w (l.length + m) old e
    have hcm : grownCap w (l.length + m) old e ≤ maxLen := grownCap_le_maxLen w (l.length + m) old e h63
    refine ⟨.inr ⟨w.heap.size, grownCap w (l.length + m) old e, l ++ r ++ List.replicate (grownCap w (l.length + m) old e - (l.length + m)) 0, by rw [List.length_append, hl], hbase, ?_, by simp [hl]; omega, hcm, by simp [hl]; omega, List.take_left, ?_⟩,
      ⟨rfl, rfl, rfl, by simp, fun j hj _ => heap_alloc_old w.drew _ hj⟩⟩
    · rw [show w.heap.size = w.drew.heap.size from rfl, heap_alloc_new]
      congr 2
      apply Array.ext'
      simp only [Array.toList_append, Value.cells, zeroCells_ints]
      simp
    · intro z hz
      simp only [List.mem_append, List.mem_replicate] at hz
      rcases hz with (hz | hz) | ⟨_, rfl⟩
      · exact hwl z hz
      · exact hr z hz
      · exact wf_zero k
  rcases hown with ⟨rfl, rfl⟩ | ⟨g, cap, zs, rfl, hbg, hg, hnc, hcm, hcs, htake, hwf⟩
  · by_cases hm : m = 0
    · subst hm
      have hn : r = [] := List.eq_nil_of_length_eq_zero hl
      subst hn
      refine ⟨.slice none 0 0, w, ?_, OwnI.nil w base e k, World.grownBy.refl _ _⟩
      simp [Builtin.append_, run_underlying ht, sizeOf, typeInfo, hi, Builtin.lenOf, Builtin.firstCells, loadCells, loadCellsFrom]
    · have hrun := run_append_nil (P := P) w t ty e i (.int k 0) ht hi hz a m c (r.map (Value.int k)) hl' hnews (by omega) (by simp only [List.length_nil, maxLen] at h63; omega) (by have hb := hbytes; simp only [List.length_nil, Nat.zero_add] at hb; omega)
      have hgr := grown 0 (Value.ownBlock (.slice none 0 0)) (by simp)
      simp only [List.length_nil, Nat.zero_add, List.map_nil, List.nil_append, Array.empty_append] at hgr ⊢
      exact ⟨_, _, hrun, hgr.1, hgr.2⟩
  · have hwl : ∀ z ∈ l, (Lit.int k z).wf = true := fun z hz => hwf z (by rw [← htake] at hz; exact List.mem_of_mem_take hz)
    by_cases hroom : l.length + m ≤ cap
    · have hrun := run_append_room (P := P) w t ty e i ht hi g l.length cap _ hg a m c (r.map (Value.int k)) hl' hnews h1 hroom (by simp [hsize, hl, hcs]; omega)
      refine ⟨_, _, hrun, .inr ⟨g, cap, l ++ r ++ zs.drop (l.length + m), by rw [List.length_append, hl], hbg, ?_, by simp [hl]; omega, hcm, by simp [hl, hcs]; omega, List.take_left, ?_⟩,
        ⟨rfl, rfl, rfl, by simp, fun j _ hj => setRow_other w g j _ (fun e => hj (by simp [Value.ownBlock, e]))⟩⟩
      · rw [setRow_heap w g _ _ e _ hg]
        congr 2
        apply Array.ext'
        simp only [hsize, Nat.mul_one, List.length_map, hl]
        rw [← List.map_take, htake, ← List.map_drop]
        simp
      · intro z hz
        simp only [List.mem_append] at hz
        rcases hz with (hz | hz) | hz
        · exact hwl z hz
        · exact hr z hz
        · exact hwf z (List.mem_of_mem_drop hz)
    · have hO : w.ownsRow base e 1 (.slice (some ⟨g, 0, none⟩) l.length cap) l.length (l.map (Value.int k)) := OwnI.row (.inr ⟨g, cap, zs, rfl, hbg, hg, hnc, hcm, hcs, htake, hwf⟩)
      have holds : ∀ j u, (l.map (Value.int k))[j]? = some u → w.cell? ((⟨g, 0, none⟩ : Addr).add j) = some u := hO.cells (g := g) rfl
      have hrun := run_append_grow (P := P) w t ty e i (.int k 0) ht hi hz ⟨g, 0, none⟩ l.length cap (l.map (Value.int k)) (by simp [hsize]) holds a m c (r.map (Value.int k)) hl' hnews (by omega) (by simp only [maxLen] at h63; omega) (growslice_fits (by omega) hbytes)
      have hgr := grown cap (Value.ownBlock (.slice (some ⟨g, 0, none⟩) l.length cap)) hwl
      exact ⟨_, _, hrun, hgr.1, hgr.2⟩

/-- 'append' onto a row of numbers of the call's own. -/
theorem wpList_append_ownI (w : World) {ops : Array Oper} {rest : List Oper} {o : Oper} {a : Act} {Q : Exit → Act → World → Prop} (hgd : o.guard = none) (s x : Operand) (t : TypeId)
    (ho : o.op = .call { callee := .builtin .append, args := #[s, x], argTypes := #[t, t] })
    (base : Nat) (e : TypeId) (i : TypeInfo) (k : IntKind) (bytes : Nat) (ht : P.underlying t = some (.slice e)) (hi : P.info? e = some i) (hz : i.zero = some (.int k 0)) (hsize : i.size = 1) (hby : i.bytes = bytes)
    (v : Value) (l : List Int) (hs : a.eval s = v) (hown : OwnI w base e k v l)
    (ad : Addr) (m c : Nat) (r : List Int) (hx : a.eval x = .slice (some ad) m c) (hl : r.length = m) (hnews : ∀ j u, (r.map (Value.int k))[j]? = some u → w.cell? (ad.add j) = some u) (hr : ∀ z ∈ r, (Lit.int k z).wf = true)
    (h63 : l.length + m ≤ maxLen) (hbytes : (l.length + m) * bytes ≤ 140737488355328) (hbase : base ≤ w.heap.size)
    (h : ∀ v' w', OwnI w' base e k v' (l ++ r) → w.grownBy w' v.ownBlock → wpList P ops Q rest (a.put o.dst v') w') : wpList P ops Q (o :: rest) a w := by
  refine wpList_plain hgd fun K hK => ?_
  obtain ⟨v', w', hrun, h2, h3⟩ := run_append_ownI (P := P) w base t o.type e i k bytes ht hi hz hsize hby v l hown ad m c r hl hnews hr h63 hbytes hbase
  unfold Oper.wp execOp
  simp only [ho, resolve, invoke, builtin, Sem.run_bind, Sem.run_pure, Result.andThen_ok, List.map_toArray, List.map_cons, List.map_nil, hs, hx, hrun]
  exact hK _ _ (h v' w' h2 h3)
end
end Go.Proofs.Yteacjhmbamcegab
