/-
  The laws of vfloats, over what is asked of its functions.
-/
import Derived.Test.YtpeckiaimellmaaDoorVfRefsP
import Derived.Test.YtpeckiaimellmaaDoorVfLaw1P
import Derived.Test.YtpeckiaimellmaaDoorPkLan
set_option linter.unusedVariables false
set_option linter.unusedSimpArgs false
namespace Go.Proofs.YtpeckiaimellmaaDoor
open Go.RowKit Lan

/-! What is asked of vfloats: T says of a world what its tables hold. -/
def FTwoOK (T : World → Prop) : Prop := ∀ (op w : Int) (a b : Nat × Nat), 0 ≤ op → Vok a → Vok b → ∀ W : World, T W → Calls Tryd.prog 9 #[.int .u8 op, .int .i64 w, vecV a, vecV b] W fun e W' => e = .returned (vecE (vf2 op w a b)) ∧ Below W.heap.size W W'
def FOneOK (T : World → Prop) : Prop := ∀ (op w : Int) (a : Nat × Nat), 0 ≤ op → Vok a → ∀ W : World, T W → Calls Tryd.prog 12 #[.int .u8 op, .int .i64 w, vecV a] W fun e W' => e = .returned (vecE (vf1 op w a)) ∧ Below W.heap.size W W'
def FThanOK (T : World → Prop) : Prop := ∀ (op w : Int) (a b : Nat × Nat), 0 ≤ op → Vok a → Vok b → ∀ W : World, T W → Calls Tryd.prog 14 #[.int .u8 op, .int .i64 w, vecV a, vecV b] W fun e W' => e = .returned (vecE (vft op w a b)) ∧ Below W.heap.size W W'
def FHeldOK (T : World → Prop) : Prop := ∀ (w : Int) (s : Bool) (a : Nat × Nat), Vok a → ∀ W : World, T W → Calls Tryd.prog 16 #[.int .i64 w, .bool s, vecV a] W fun e W' => e = .returned (vecE (vfh w s a)) ∧ Below W.heap.size W W'
def FFltOK (T : World → Prop) : Prop := ∀ (w : Int) (s : Bool) (a : Nat × Nat), Vok a → ∀ W : World, T W → Calls Tryd.prog 18 #[.int .i64 w, .bool s, vecV a] W fun e W' => e = .returned (vecE (vff w s a)) ∧ Below W.heap.size W W'
def FPromOK (T : World → Prop) : Prop := ∀ (a : Nat × Nat), Vok a → ∀ W : World, T W → Calls Tryd.prog 20 #[vecV a] W fun e W' => e = .returned (vecV (vfp a)) ∧ Below W.heap.size W W'
def FDemOK (T : World → Prop) : Prop := ∀ (a : Nat × Nat), Vok a → ∀ W : World, T W → Calls Tryd.prog 22 #[vecV a] W fun e W' => e = .returned (vecV (vfd a)) ∧ Below W.heap.size W W'
structure TabsLike (T : World → Prop) : Prop where
  later : ∀ W W' : World, T W → Below W.heap.size W W' → T W'
  widths : ∀ W : World, T W → WTabs W
theorem like_w : TabsLike WTabs := ⟨fun _ _ h hb => h.later hb, fun _ h => h⟩

theorem works_one : splatV 32 1065353216 = ((4575657222473777152, 4575657222473777152), 0) := by decide +kernel
theorem works_two : splatV 32 1073741824 = ((4611686019501129728, 4611686019501129728), 0) := by decide +kernel
theorem works_sum : vf2 1 32 (4575657222473777152, 4575657222473777152) (4575657222473777152, 4575657222473777152) = ((4611686019501129728, 4611686019501129728), 0) := by decide +kernel

theorem works_c0 {T : World → Prop} (TL : TabsLike T) (W : World) (hT : T W) : Calls Tryd.prog 33 #[.int .i64 32, .int .u64 1065353216] W fun e W' => e = .returned (vecE ((4575657222473777152, 4575657222473777152), 0)) ∧ Below W.heap.size W W' := by
  have C0 := lsplat_calls 32 1065353216 W (TL.widths W hT)
  rw [works_one] at C0
  exact C0
theorem works_c1 {T : World → Prop} (TL : TabsLike T) (W : World) (hT : T W) : Calls Tryd.prog 33 #[.int .i64 32, .int .u64 1073741824] W fun e W' => e = .returned (vecE ((4611686019501129728, 4611686019501129728), 0)) ∧ Below W.heap.size W W' := by
  have C0 := lsplat_calls 32 1073741824 W (TL.widths W hT)
  rw [works_two] at C0
  exact C0
theorem works_c2 {T : World → Prop} (h2 : FTwoOK T) (W : World) (hT : T W) : Calls Tryd.prog 9 #[.int .u8 1, .int .i64 32, vecV (4575657222473777152, 4575657222473777152), vecV (4575657222473777152, 4575657222473777152)] W fun e W' => e = .returned (vecE ((4611686019501129728, 4611686019501129728), 0)) ∧ Below W.heap.size W W' := by
  have C2 := h2 1 32 (4575657222473777152, 4575657222473777152) (4575657222473777152, 4575657222473777152) (by decide) ⟨by decide, by decide⟩ ⟨by decide, by decide⟩ W hT
  rw [works_sum] at C2
  exact C2
theorem vfworks {T : World → Prop} (TL : TabsLike T) (h2 : FTwoOK T) (W : World) (hT : T W) :
    Calls Tryd.prog 11 #[] W fun e W' => e = .returned (.bool true) ∧ Below W.heap.size W W' :=
  vfworks_walk T (hide TL.later) 4575657222473777152 4611686019501129728 (hide (works_c0 TL)) (hide (works_c1 TL)) (hide (works_c2 h2)) W (hide hT)

theorem vfloatsTwo_law {T : World → Prop} (TL : TabsLike T) (h2 : FTwoOK T) (op : Nat) (w : Int) (a : Nat × Nat) (ha : Vok a) (b : Nat × Nat) (hb : Vok b) (W : World) (hT : T W) :
    Calls Tryd.prog 3 #[.int .u8 (op : Int), .int .i64 w, vecV a, vecV b] W fun e W' => e = .returned (.bool true) ∧ Below W.heap.size W W' :=
  vftwo_walk T (hide TL.later) op w a.1 a.2 b.1 b.2 (vf2 op w a b).1.1 (vf2 op w a b).1.2 (vf2 op w a b).2 (hide fun W hT => h2 op w a b (by omega) ha hb W hT) (hide fun W => rf2_calls op w (by omega) a b W) (hide fun W hT => vfworks TL h2 W hT) W (hide hT)
theorem vfloatsOne_law {T : World → Prop} (TL : TabsLike T) (h2 : FTwoOK T) (h1 : FOneOK T) (op : Nat) (w : Int) (a : Nat × Nat) (ha : Vok a) (W : World) (hT : T W) :
    Calls Tryd.prog 4 #[.int .u8 (op : Int), .int .i64 w, vecV a] W fun e W' => e = .returned (.bool true) ∧ Below W.heap.size W W' :=
  vfone_walk T (hide TL.later) op w a.1 a.2 (vf1 op w a).1.1 (vf1 op w a).1.2 (vf1 op w a).2 (hide fun W hT => h1 op w a (by omega) ha W hT) (hide fun W => rf1_calls op w (by omega) a W) (hide fun W hT => vfworks TL h2 W hT) W (hide hT)
theorem vfloatsThan_law {T : World → Prop} (TL : TabsLike T) (h2 : FTwoOK T) (ht : FThanOK T) (op : Nat) (w : Int) (a : Nat × Nat) (ha : Vok a) (b : Nat × Nat) (hb : Vok b) (W : World) (hT : T W) :
    Calls Tryd.prog 5 #[.int .u8 (op : Int), .int .i64 w, vecV a, vecV b] W fun e W' => e = .returned (.bool true) ∧ Below W.heap.size W W' :=
  vfthan_walk T (hide TL.later) op w a.1 a.2 b.1 b.2 (vft op w a b).1.1 (vft op w a b).1.2 (vft op w a b).2 (hide fun W hT => ht op w a b (by omega) ha hb W hT) (hide fun W => rft_calls op w (by omega) a b W) (hide fun W hT => vfworks TL h2 W hT) W (hide hT)
theorem vfloatsConvs_law {T : World → Prop} (TL : TabsLike T) (h2 : FTwoOK T) (hh : FHeldOK T) (hf : FFltOK T) (w : Int) (s : Bool) (a : Nat × Nat) (ha : Vok a) (W : World) (hT : T W) :
    Calls Tryd.prog 6 #[.int .i64 w, .bool s, vecV a] W fun e W' => e = .returned (.bool true) ∧ Below W.heap.size W W' :=
  vfconvs_walk T (hide TL.later) w s a.1 a.2 (vfh w s a).1.1 (vfh w s a).1.2 (vff w s a).1.1 (vff w s a).1.2 (vfh w s a).2 (vff w s a).2 (hide fun W hT => hh w s a ha W hT) (hide fun W => rfh_calls w s a W) (hide fun W hT => hf w s a ha W hT) (hide fun W => rff_calls w s a W) (hide fun W hT => vfworks TL h2 W hT) W (hide hT)
theorem vfloatsWidths_law {T : World → Prop} (TL : TabsLike T) (h2 : FTwoOK T) (hp : FPromOK T) (hd : FDemOK T) (a : Nat × Nat) (ha : Vok a) (W : World) (hT : T W) :
    Calls Tryd.prog 7 #[vecV a] W fun e W' => e = .returned (.bool true) ∧ Below W.heap.size W W' := by
  have C0 := fun W hT => hp a ha W hT
  have C1 := fun W => rfp_calls a W
  have C2 := fun W hT => hd a ha W hT
  have C3 := fun W => rfd_calls a ha W
  generalize vfp a = P at C0 C1
  generalize vfd a = Q at C2 C3
  obtain ⟨p, q⟩ := P
  obtain ⟨r, x⟩ := Q
  exact vfwidths_walk T (hide TL.later) a.1 a.2 p q r x (hide C0) (hide C1) (hide C2) (hide C3) (hide fun W hT => vfworks TL h2 W hT) W (hide hT)
end Go.Proofs.YtpeckiaimellmaaDoor
