/-
  Contracts from a base world; two arrays that are the same.
-/
import Derived.Test.YtdhanapmknlobabDoorLanWorks
import Derived.Test.YtdhanapmknlobabDoorLanAll
import Derived.Deep.RegionWith
import Derived.ChangeKeysEq
import Derived.Deep.QuietTactic
import Derived.Laws.StructEq
set_option linter.unusedVariables false
set_option linter.unusedSimpArgs false
namespace Go.Proofs.YtdhanapmknlobabDoor
open Go.RowKit Lan

theorem from_base {wa : World} {f : FuncId} {args : Array Value} {r : Ending} (h : ∀ W : World, Calls Tryd.prog f args W fun e W' => e = r ∧ Below W.heap.size W W') :
    ∀ W : World, Below wa.heap.size wa W → Calls Tryd.prog f args W fun e W' => e = r ∧ Below wa.heap.size wa W' :=
  fun W hB => (h W).mono fun e W' ⟨he, hb⟩ => ⟨he, hB.trans (hb.mono hB.size)⟩
theorem from_tabs {wa : World} (hT : WTabs wa) {f : FuncId} {args : Array Value} {r : Ending} (h : ∀ W : World, WTabs W → Calls Tryd.prog f args W fun e W' => e = r ∧ Below W.heap.size W W') :
    ∀ W : World, Below wa.heap.size wa W → Calls Tryd.prog f args W fun e W' => e = r ∧ Below wa.heap.size wa W' :=
  fun W hB => (h W (hT.later hB)).mono fun e W' ⟨he, hb⟩ => ⟨he, hB.trans (hb.mono hB.size)⟩

theorem Blk.all {w : World} {g : Nat} {x0 x1 x2 x3 x4 x5 x6 x7 x8 x9 x10 x11 x12 x13 x14 x15 : Nat} (h : Blk w g [x0, x1, x2, x3, x4, x5, x6, x7, x8, x9, x10, x11, x12, x13, x14, x15]) :
    w.cell? ⟨g, 0, none⟩ = some (.int .u8 (x0 : Int)) ∧ w.cell? ⟨g, 1, none⟩ = some (.int .u8 (x1 : Int)) ∧ w.cell? ⟨g, 2, none⟩ = some (.int .u8 (x2 : Int)) ∧ w.cell? ⟨g, 3, none⟩ = some (.int .u8 (x3 : Int)) ∧
    w.cell? ⟨g, 4, none⟩ = some (.int .u8 (x4 : Int)) ∧ w.cell? ⟨g, 5, none⟩ = some (.int .u8 (x5 : Int)) ∧ w.cell? ⟨g, 6, none⟩ = some (.int .u8 (x6 : Int)) ∧ w.cell? ⟨g, 7, none⟩ = some (.int .u8 (x7 : Int)) ∧
    w.cell? ⟨g, 8, none⟩ = some (.int .u8 (x8 : Int)) ∧ w.cell? ⟨g, 9, none⟩ = some (.int .u8 (x9 : Int)) ∧ w.cell? ⟨g, 10, none⟩ = some (.int .u8 (x10 : Int)) ∧ w.cell? ⟨g, 11, none⟩ = some (.int .u8 (x11 : Int)) ∧
    w.cell? ⟨g, 12, none⟩ = some (.int .u8 (x12 : Int)) ∧ w.cell? ⟨g, 13, none⟩ = some (.int .u8 (x13 : Int)) ∧ w.cell? ⟨g, 14, none⟩ = some (.int .u8 (x14 : Int)) ∧ w.cell? ⟨g, 15, none⟩ = some (.int .u8 (x15 : Int)) := by
  unfold Blk cellsB at h
  simp [World.cell?, h]

theorem eq16 {L : List Nat} (hL : L.length = 16) (w : World) :
    (Op.equalIn 10000 34 (.agg (cellsB L)) (.agg (cellsB L))).run Tryd.prog w = .ok true w := by
  have hs : (Tryd.prog.info? 5).isSome = true := by kernel_rfl
  obtain ⟨i0, hi⟩ := Option.isSome_iff_exists.1 hs
  rw [show (10000 : Nat) = 9999 + 1 from rfl, run_equalIn_array w 9999 _ _ under16 hi, show Tryd.prog.cellsOf 5 = 1 by kernel_rfl]
  have key : ∀ is : List Nat, (∀ i ∈ is, i < 16) → (Op.eqItems 9999 5 1 (cellsB L) (cellsB L) is).run Tryd.prog w = .ok true w := by
    intro is
    induction is with
    | nil => intro _; simp [Op.eqItems]
    | cons i is ih =>
      intro h
      have hi' := h i (by simp)
      have p := run_part_plain w (P := Tryd.prog) (e := 5) (by kernel_rfl) (cellsB_get L (i * 1) (by omega))
      have q := run_equalIn_int w 9998 5 .u8 .u8 (at0 L (i * 1) : Int) (at0 L (i * 1) : Int) Tryd.underlying5
      simp only [Op.eqItems, Sem.run_bind, p, Result.andThen_ok, q]
      simpa using ih (fun j hj => h j (by simp [hj]))
  exact key _ (fun i h => by simpa using h)

theorem Blk.load {w : World} {g : Nat} {L : List Nat} (hL : L.length = 16) (h : Blk w g L) : (Instr.loadAt 34 (.pointer (some ⟨g, 0, none⟩))).run Tryd.prog w = .ok (.agg (cellsB L)) w := by
  simp [Instr.loadAt, Instr.sureAddr, run_loadVar_row w g _ _ (cellsB L) (0, 0) _ h under16 rfl (info16' hL)]
theorem Blk.drew {w : World} {g : Nat} {L : List Nat} (h : Blk w g L) : Blk w.drew g L := h
theorem Blk.drewN {w : World} {g : Nat} {L : List Nat} (h : Blk w g L) (q : Nat) : Blk (w.drewN q) g L := h


/-- A region that draws its order, whose operations only read and whose callees leave what lies below: one walk, in the order of the text, for every world of a family. -/
theorem wp_region_class {I : Type} (F : I → World) {P : Program} {id : Nat} {Q : Exit → Act → World → Prop} {a : Act} {w : World} {l : List Oper} (hm : P.follows .mixedOrders = true) (hB : Region.lexB .any l.toArray = true)
    (h0 : ∃ i, w.drew = F i)
    (h : wpQuiet P l.toArray (fun w' => ∃ i, w' = F i) (fun a' => ∀ w', (∃ i, w' = F i) → Q .normal a' w') l a) : (Code.region id l.toArray true).wp P Q a w :=
  wp_region_quiet (C := fun w' => ∃ i, w' = F i) hm hB h0 (by simpa using h)

theorem family (wa : World) : ∃ (I : Type) (F : I → World), Nonempty I ∧ (∀ i, Below wa.heap.size wa (F i)) ∧ (∀ w', Below wa.heap.size wa w' → ∃ i, w' = F i) :=
  ⟨{ w' // Below wa.heap.size wa w' }, Subtype.val, ⟨⟨wa, Below.refl _ _⟩⟩, fun i => i.2, fun w' h => ⟨⟨w', h⟩, rfl⟩⟩

theorem in_family {wa : World} {I : Type} {F : I → World} (hF : ∀ i, Below wa.heap.size wa (F i)) (hin : ∀ w', Below wa.heap.size wa w' → ∃ i, w' = F i) {f : FuncId} {args : Array Value} {r : Ending}
    (h : ∀ W : World, Below wa.heap.size wa W → Calls Tryd.prog f args W fun e W' => e = r ∧ Below wa.heap.size wa W') : ∀ i, Calls Tryd.prog f args (F i) fun e W' => e = r ∧ ∃ j, W' = F j :=
  fun i => (h (F i) (hF i)).mono fun e W' ⟨he, hb⟩ => ⟨he, hin W' hb⟩
end Go.Proofs.YtdhanapmknlobabDoor
