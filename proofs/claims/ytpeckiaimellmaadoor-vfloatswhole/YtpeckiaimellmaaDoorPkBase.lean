/-
  VinBoth, LanWorks, LanBase, LanQuiet, LanOrders.
-/
import Derived.Test.YtpeckiaimellmaaDoorPkLan
import Derived.Laws.EntriesVeiled
import Derived.Deep.RegionWith
import Derived.ChangeKeysEq
import Derived.Deep.QuietTactic
import Derived.Laws.StructEq
/-
  vints.both, each: what a function value answers, lane by lane.
-/
set_option linter.unusedVariables false
set_option linter.unusedSimpArgs false
namespace Go.Proofs.YtpeckiaimellmaaDoor
open Go.RowKit Lan

/-- A function value of two words: what it answers at the first c words of two rows, from W on. -/
def Fun2 (g : Nat) (lb : Array Value) (c : Nat) (L M : List Nat) (R : Nat → Nat) (E : Int) (W : World) : Prop :=
  ∀ (W' : World) (i : Nat), i < c → Below W.heap.size W W' → Calls Tryd.prog g (#[.int .u64 (at0 L i : Int), .int .u64 (at0 M i : Int)] ++ lb) W' fun e W'' => e = .returned (.tuple #[.int .u64 (R i : Int), .int .i64 E]) ∧ Below W'.heap.size W' W''
/-- A function value of one word. -/
def Fun1 (g : Nat) (lb : Array Value) (c : Nat) (L : List Nat) (R : Nat → Nat) (E : Int) (W : World) : Prop :=
  ∀ (W' : World) (i : Nat), i < c → Below W.heap.size W W' → Calls Tryd.prog g (#[.int .u64 (at0 L i : Int)] ++ lb) W' fun e W'' => e = .returned (.tuple #[.int .u64 (R i : Int), .int .i64 E]) ∧ Below W'.heap.size W' W''
def Enters (g : Nat) : Prop := ∀ args w, (callFunc g args).run Tryd.prog w = .ok (.enter g args) w
/-- The words of a slice lie from here on. -/
def Words (W : World) (b o c : Nat) (L : List Nat) : Prop := ∀ i, i < c → W.cell? ⟨b, o + i, none⟩ = some (.int .u64 (at0 L i : Int))

theorem Fun2.later {g : Nat} {lb : Array Value} {c : Nat} {L M : List Nat} {R : Nat → Nat} {E : Int} {W W' : World} (h : Fun2 g lb c L M R E W) (hb : Below W.heap.size W W') : Fun2 g lb c L M R E W' :=
  fun V i hi hV => h V i hi (hb.trans (hV.mono hb.size))
theorem Fun1.later {g : Nat} {lb : Array Value} {c : Nat} {L : List Nat} {R : Nat → Nat} {E : Int} {W W' : World} (h : Fun1 g lb c L R E W) (hb : Below W.heap.size W W') : Fun1 g lb c L R E W' :=
  fun V i hi hV => h V i hi (hb.trans (hV.mono hb.size))
theorem Words.later {W W' : World} {b o c : Nat} {L : List Nat} (h : Words W b o c L) (hb : Below W.heap.size W W') : Words W' b o c L :=
  fun i hi => cell_later hb (h i hi) (Nat.le_refl _)
theorem WBlk.words {w : World} {g c : Nat} {L : List Nat} (h : WBlk w g L) (hl : L.length = c) : Words w g 0 c L := fun i hi => by rw [Nat.zero_add]; exact h.cell i (by omega)

end Go.Proofs.YtpeckiaimellmaaDoor
/-
  works; whether two vectors are the same.
-/
set_option linter.unusedVariables false
set_option linter.unusedSimpArgs false
namespace Go.Proofs.YtpeckiaimellmaaDoor
open Go.RowKit Lan

theorem works_get : getV (506097522914230528, 1084818905618843912) 16 1 = (770, 0) := by decide
theorem works_splat : splatV 32 1 = ((4294967297, 4294967297), 0) := by decide

end Go.Proofs.YtpeckiaimellmaaDoor
/-
  Contracts from a base world; two arrays that are the same.
-/
set_option linter.unusedVariables false
set_option linter.unusedSimpArgs false
namespace Go.Proofs.YtpeckiaimellmaaDoor
open Go.RowKit Lan

theorem from_base {wa : World} {f : FuncId} {args : Array Value} {r : Ending} (h : ∀ W : World, Calls Tryd.prog f args W fun e W' => e = r ∧ Below W.heap.size W W') :
    ∀ W : World, Below wa.heap.size wa W → Calls Tryd.prog f args W fun e W' => e = r ∧ Below wa.heap.size wa W' :=
  fun W hB => (h W).mono fun e W' ⟨he, hb⟩ => ⟨he, hB.trans (hb.mono hB.size)⟩
theorem from_tabs {wa : World} (hT : WTabs wa) {f : FuncId} {args : Array Value} {r : Ending} (h : ∀ W : World, WTabs W → Calls Tryd.prog f args W fun e W' => e = r ∧ Below W.heap.size W W') :
    ∀ W : World, Below wa.heap.size wa W → Calls Tryd.prog f args W fun e W' => e = r ∧ Below wa.heap.size wa W' :=
  fun W hB => (h W (hT.later hB)).mono fun e W' ⟨he, hb⟩ => ⟨he, hB.trans (hb.mono hB.size)⟩

theorem Blk.all {w : World} {g : Nat} {x0 x1 x2 x3 x4 x5 x6 x7 x8 x9 x10 x11 x12 x13 x14 x15 : Nat} (h : Blk w g [x0, x1, x2, x3, x4, x5, x6, x7, x8, x9, x10, x11, x12, x13, x14, x15]) :
    w.cell? ⟨g, 0, none⟩ = some (.int .u8 (x0 : Int)) ∧ w.cell? ⟨g, 1, none⟩ = some (.int .u8 (x1 : Int)) ∧ w.cell? ⟨g, 2, none⟩ = some (.int .u8 (x2 : Int)) ∧ w.cell? ⟨g, 3, none⟩ = some (.int .u8 (x3 : Int)) ∧
    w.cell? ⟨g, 4, none⟩ = some (.int .u8 (x4 : Int)) ∧ w.cell? ⟨g, 5, none⟩ = some (.int .u8 (x5 : Int)) ∧ w.cell? ⟨g, 6, none⟩ = some (.int .u8 (x6 : Int)) ∧ w.cell? ⟨g, 7, none⟩ = some (.int .u8 (x7 : Int)) ∧
    w.cell? ⟨g, 8, none⟩ = some (.int .u8 (x8 : Int)) ∧ w.cell? ⟨g, 9, none⟩ = some (.int .u8 (x9 : Int)) ∧ w.cell? ⟨g, 10, none⟩ = some (.int .u8 (x10 : Int)) ∧ w.cell? ⟨g, 11, none⟩ = some (.int .u8 (x11 : Int)) ∧
    w.cell? ⟨g, 12, none⟩ = some (.int .u8 (x12 : Int)) ∧ w.cell? ⟨g, 13, none⟩ = some (.int .u8 (x13 : Int)) ∧ w.cell? ⟨g, 14, none⟩ = some (.int .u8 (x14 : Int)) ∧ w.cell? ⟨g, 15, none⟩ = some (.int .u8 (x15 : Int)) := by
  unfold Blk cellsB at h
  simp [World.cell?, h]

theorem eq16 {L : List Nat} (hL : L.length = 16) (w : World) :
    (Op.equalIn 10000 70 (.agg (cellsB L)) (.agg (cellsB L))).run Tryd.prog w = .ok true w := by
  have hs : (Tryd.prog.info? 5).isSome = true := by kernel_rfl
  obtain ⟨i0, hi⟩ := Option.isSome_iff_exists.1 hs
  rw [show (10000 : Nat) = 9999 + 1 from rfl, run_equalIn_array w 9999 _ _ under16 hi, show Tryd.prog.cellsOf 5 = 1 by kernel_rfl]
  have key : ∀ is : List Nat, (∀ i ∈ is, i < 16) → (Op.eqItems 9999 5 1 (cellsB L) (cellsB L) is).run Tryd.prog w = .ok true w := by
    intro is
    induction is with
    | nil => intro _; simp [Op.eqItems]
    | cons i is ih =>
      intro h
      have hi' := h i (by simp)
      have p := run_part_plain w (P := Tryd.prog) (e := 5) (by kernel_rfl) (cellsB_get L (i * 1) (by omega))
      have q := run_equalIn_int w 9998 5 .u8 .u8 (at0 L (i * 1) : Int) (at0 L (i * 1) : Int) Tryd.underlying5
      simp only [Op.eqItems, Sem.run_bind, p, Result.andThen_ok, q]
      simpa using ih (fun j hj => h j (by simp [hj]))
  exact key _ (fun i h => by simpa using h)

theorem Blk.load {w : World} {g : Nat} {L : List Nat} (hL : L.length = 16) (h : Blk w g L) : (Instr.loadAt 70 (.pointer (some ⟨g, 0, none⟩))).run Tryd.prog w = .ok (.agg (cellsB L)) w := by
  simp [Instr.loadAt, Instr.sureAddr, run_loadVar_row w g _ _ (cellsB L) (0, 0) _ h under16 rfl (info16' hL)]
theorem Blk.drew {w : World} {g : Nat} {L : List Nat} (h : Blk w g L) : Blk w.drew g L := h
theorem Blk.drewN {w : World} {g : Nat} {L : List Nat} (h : Blk w g L) (q : Nat) : Blk (w.drewN q) g L := h


/-- A region that draws its order, whose operations only read and whose callees leave what lies below: one walk, in the order of the text, for every world of a family. -/
theorem wp_region_class {I : Type} (F : I → World) {P : Program} {id : Nat} {Q : Exit → Act → World → Prop} {a : Act} {w : World} {l : List Oper} (hm : P.follows .mixedOrders = true) (hB : Region.lexB .any l.toArray = true)
    (h0 : ∃ i, w.drew = F i)
    (h : wpQuiet P l.toArray (fun w' => ∃ i, w' = F i) (fun a' => ∀ w', (∃ i, w' = F i) → Q .normal a' w') l a) : (Code.region id l.toArray true).wp P Q a w :=
  wp_region_quiet (C := fun w' => ∃ i, w' = F i) hm hB h0 (by simpa using h)

theorem family (wa : World) : ∃ (I : Type) (F : I → World), Nonempty I ∧ (∀ i, Below wa.heap.size wa (F i)) ∧ (∀ w', Below wa.heap.size wa w' → ∃ i, w' = F i) :=
  ⟨{ w' // Below wa.heap.size wa w' }, Subtype.val, ⟨⟨wa, Below.refl _ _⟩⟩, fun i => i.2, fun w' h => ⟨⟨w', h⟩, rfl⟩⟩

theorem in_family {wa : World} {I : Type} {F : I → World} (hF : ∀ i, Below wa.heap.size wa (F i)) (hin : ∀ w', Below wa.heap.size wa w' → ∃ i, w' = F i) {f : FuncId} {args : Array Value} {r : Ending}
    (h : ∀ W : World, Below wa.heap.size wa W → Calls Tryd.prog f args W fun e W' => e = r ∧ Below wa.heap.size wa W') : ∀ i, Calls Tryd.prog f args (F i) fun e W' => e = r ∧ ∃ j, W' = F j :=
  fun i => (h (F i) (hF i)).mono fun e W' ⟨he, hb⟩ => ⟨he, hin W' hb⟩
end Go.Proofs.YtpeckiaimellmaaDoor
/-
  Steps of a region that only reads, over a class of worlds: a load by its run.
-/
set_option linter.unusedVariables false
namespace Go.Proofs.YtpeckiaimellmaaDoor
open Go.RowKit Lan

theorem wpQuiet_load {P : Program} {ops : Array Oper} {C : World → Prop} {Q : Act → Prop} {rest : List Oper} {o : Oper} {a : Act} (t : TypeId) (x : Operand) (ho : o.op = .load t x)
    (hw : Region.wanted o (yielded ops a.tmps) = true) (v u : Value) (hx : a.eval x = v) (hrun : ∀ w, C w → (Instr.loadAt t v).run P w = .ok u w)
    (h : wpQuiet P ops C Q rest (a.put o.dst u)) : wpQuiet P ops C Q (o :: rest) a := by
  simp only [wpQuiet, hw, if_true]
  refine ⟨u, fun w hC => ?_, h⟩
  unfold Oper.quietAt execOp
  simp [ho, hx, hrun w hC, Oper.quietUpon]
end Go.Proofs.YtpeckiaimellmaaDoor
/-
  A region that draws its order, by what holds of each set of operations that were carried out: one walk an operation, none an order.
-/
set_option linter.unusedVariables false
namespace Go.Proofs.YtpeckiaimellmaaDoor
open Go.RowKit Lan

/-- It goes on, and nothing else. -/
def Nly (J : Act → World → Prop) : Exit → Act → World → Prop := fun e a w => e = .normal ∧ J a w
/-- What an operation waits for. -/
def waits (o : Oper) : List Nat := (o.after.toList.filter (Region.binds .any)).map (·.on)
/-- No operation waits for a later one. -/
def backB (l : List Oper) : Bool := (List.range l.length).all fun i => match l[i]? with | some o => (waits o).all fun j => decide (j < i) | none => true
def upd (d : Nat → Bool) (i : Nat) : Nat → Bool := fun j => j == i || d j

theorem wpOp_only {P : Program} {ops : Array Oper} {Q : Exit → Act → World → Prop} {J : Act → World → Prop} {i : Nat} {o : Oper} {a : Act} {w : World} (ho : ops[i]? = some o)
    (h : wpList P ops (Nly J) [o] a w) : wpOp P ops Q i J a w := by
  unfold wpOp
  simp only [ho]
  unfold wpList at h
  split
  · next hw =>
    rw [if_pos hw] at h
    rcases h with h | ⟨_, _, _, h, _⟩
    · left
      unfold Oper.wp at *
      generalize (execOp a.eval o).run P w = r at *
      cases r with
      | ok n w' =>
        cases n <;> simp only [Oper.upon] at h ⊢
        case value => exact h.2
        case skip => exact h.2
        case defer => exact h.2
        case enter f args =>
          refine Calls.mono h fun e w'' he => ?_
          cases e with
          | returned v => exact he.2
          | panicked c => exact absurd he.1 (by simp)
          | outgrown => obtain ⟨_, _, he, _⟩ := he; exact absurd he (by simp)
        case row => exact Rows.mono h fun v w'' he => he.2
      | halt x w' =>
        cases x <;> simp only [Oper.upon] at h ⊢
        case panic => exact absurd h.1 (by simp)
    · cases h
  · next hw =>
    rw [if_neg hw] at h
    exact h.2

theorem wpAny_inv {P : Program} {l : List Oper} {Q : Exit → Act → World → Prop} (hback : backB l = true) (J : (Nat → Bool) → Act → World → Prop)
    (hstep : ∀ (i : Nat) (o : Oper), l[i]? = some o → ∀ d a w, J d a w → d i = false → (waits o).all d = true → wpList P l.toArray (Nly (J (upd d i))) [o] a w)
    (hend : ∀ d a w, (∀ i, i < l.length → d i = true) → J d a w → Q .normal a w) :
    ∀ (fuel : Nat) (listed : Array Bool) (a : Act) (w : World), listed.size = l.length → (listed.toList.countP fun b => b == false) = fuel → J (fun j => listed.getD j false) a w →
      wpAny P .any l.toArray Q fuel listed a w := by
  have full : ∀ listed : Array Bool, listed.size = l.length → Region.ready .any l.toArray listed = [] → ∀ i, i < l.length → listed.getD i false = true := by
    intro listed hs hr i
    induction i using Nat.strongRecOn with
    | _ i ih =>
      intro hi
      cases hl : listed.getD i false with
      | true => rfl
      | false =>
        exfalso
        obtain ⟨o, ho⟩ : ∃ o, l[i]? = some o := ⟨_, List.getElem?_eq_getElem hi⟩
        have hb := List.all_eq_true.1 hback i (List.mem_range.2 hi)
        rw [ho] at hb
        have hm : i ∈ Region.ready .any l.toArray listed := by
          refine mem_ready.2 ⟨?_, o, by simpa using ho, fun e he hbi => ?_⟩
          · simp [show i < listed.size by omega] at hl ⊢; exact hl
          · have hj : e.on < i := by
              have := List.all_eq_true.1 hb e.on (List.mem_map.2 ⟨e, List.mem_filter.2 ⟨by simpa using he, hbi⟩, rfl⟩)
              simpa using this
            exact ih e.on hj (by omega)
        rw [hr] at hm; cases hm
  intro fuel
  induction fuel with
  | zero =>
    intro listed a w hs hc hJ
    have hr : Region.ready .any l.toArray listed = [] := by
      rw [List.eq_nil_iff_forall_not_mem]
      intro i hi
      obtain ⟨h1, o, ho, _⟩ := mem_ready.1 hi
      have hi' : i < listed.size := by rw [hs]; exact (Array.getElem?_eq_some_iff.1 ho).1
      have h2 := (List.countP_eq_zero.1 hc) listed[i] (by simp)
      simp [hi'] at h1 h2
      rw [h1] at h2; cases h2
    exact ⟨hr, hend _ _ _ (full listed hs hr) hJ⟩
  | succ fuel ih =>
    intro listed a w hs hc hJ
    refine ⟨fun hr => hend _ _ _ (full listed hs hr) hJ, fun i hi => ?_⟩
    obtain ⟨h1, o, ho, hpre⟩ := mem_ready.1 hi
    have hi' : i < listed.size := by rw [hs]; exact (Array.getElem?_eq_some_iff.1 ho).1
    have hf : listed[i] = false := by simpa [hi'] using h1
    refine wpOp_mono (fun a' w' hJ' => ih _ a' w' (by simpa using hs) ?_ ?_) (wpOp_only ho (hstep i o (by simpa using ho) _ a w hJ (by simp [hi', hf]) ?_))
    · rw [Array.setIfInBounds_def, dif_pos hi', Array.toList_set, List.countP_set (by simpa using hi')]
      have e2 : (listed.toList[i]'(by simpa using hi') == false) = true := by simpa using hf
      rw [if_pos e2, hc, if_neg (by decide)]; rfl
    · have e : upd (fun j => listed.getD j false) i = fun j => (listed.setIfInBounds i true).getD j false := by
        funext j
        unfold upd
        by_cases hji : j = i
        · subst hji; simp [hi']
        · rw [getD_set_ne false (Ne.symm hji)]; simp [hji]
      rw [← e]; exact hJ'
    · rw [List.all_eq_true]
      intro j hj
      obtain ⟨e, he, rfl⟩ := List.mem_map.1 hj
      obtain ⟨he1, he2⟩ := List.mem_filter.1 he
      exact hpre e (by simpa using he1) he2

theorem wp_region_inv {P : Program} {id : Nat} {l : List Oper} {Q : Exit → Act → World → Prop} {a : Act} {w : World} (hm : P.follows .mixedOrders = true) (hback : backB l = true)
    (J : (Nat → Bool) → Act → World → Prop) (h0 : J (fun _ => false) a w.drew)
    (hend : ∀ d a w, (∀ i, i < l.length → d i = true) → J d a w → Q .normal a w)
    (hstep : ∀ (i : Nat) (o : Oper), l[i]? = some o → ∀ d a w, J d a w → d i = false → (waits o).all d = true → wpList P l.toArray (Nly (J (upd d i))) [o] a w) :
    (Code.region id l.toArray true).wp P Q a w := by
  refine wp_region_any hm ?_
  refine wpAny_inv hback J hstep hend _ _ _ _ (by simp) ?_ ?_
  · simp [List.countP_replicate]
  · have e : (fun j => (Array.replicate l.toArray.size false).getD j false) = fun _ => false := by
      funext j; simp [Array.getElem?_replicate]
      split <;> rfl
    rw [e]; exact h0

/-- The frame, with other values in these slots. -/
def putL (a : Act) : List Tmp → List Value → Act
  | s :: ss, v :: vs => putL (a.put (some s) v) ss vs
  | _, _ => a

theorem put_self (a : Act) (s : Tmp) : a.put (some s) (a.tmps.getD s undef) = a := by
  unfold Act.put
  cases a with
  | mk tmps defers =>
    simp only
    congr 1
    by_cases h : s < tmps.size
    · rw [Array.setIfInBounds_def, dif_pos h]; simp [h]
    · rw [Array.setIfInBounds_def, dif_neg h]

theorem putL_self (a : Act) : ∀ ss : List Tmp, putL a ss (ss.map fun s => a.tmps.getD s undef) = a
  | [] => rfl
  | s :: ss => by
    simp only [List.map_cons, putL]
    rw [put_self]
    exact putL_self a ss

/-- A region that draws its order and fills these slots: J says what holds of the slots' values and the world, once the operations of d were carried out. -/
theorem wp_region_par {P : Program} {id : Nat} {l : List Oper} {Q : Exit → Act → World → Prop} {a : Act} {w : World} (slots : List Tmp) (J : (Nat → Bool) → List Value → World → Prop)
    (hm : P.follows .mixedOrders = true) (hback : backB l = true)
    (h0 : ∀ vs, J (fun _ => false) vs w.drew)
    (hend : ∀ d vs w, (∀ i, i < l.length → d i = true) → vs.length = slots.length → J d vs w → Q .normal (putL a slots vs) w)
    (hstep : ∀ (i : Nat) (o : Oper), l[i]? = some o → ∀ d vs w, vs.length = slots.length → J d vs w → d i = false → (waits o).all d = true →
      wpList P l.toArray (Nly fun a' w' => ∃ vs', vs'.length = slots.length ∧ a' = putL a slots vs' ∧ J (upd d i) vs' w') [o] (putL a slots vs) w) :
    (Code.region id l.toArray true).wp P Q a w := by
  refine wp_region_inv hm hback (fun d a' w' => ∃ vs, vs.length = slots.length ∧ a' = putL a slots vs ∧ J d vs w') ?_ ?_ ?_
  · exact ⟨_, by simp, (putL_self a slots).symm, h0 _⟩
  · rintro d _ w' hd ⟨vs, hl, rfl, hJ⟩
    exact hend d vs w' hd hl hJ
  · rintro i o ho d _ w' ⟨vs, hl, rfl, hJ⟩ hi hw
    exact hstep i o ho d vs w' hl hJ hi hw
end Go.Proofs.YtpeckiaimellmaaDoor
