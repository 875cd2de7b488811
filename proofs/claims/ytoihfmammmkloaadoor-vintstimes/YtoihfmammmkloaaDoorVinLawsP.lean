/-
  The laws of vints, over what is asked of its functions.
-/
import Derived.Test.YtoihfmammmkloaaDoorPkVinA
import Derived.Test.YtoihfmammmkloaaDoorPkVinB
import Derived.Test.YtoihfmammmkloaaDoorVinLaw1P
import Derived.Test.YtoihfmammmkloaaDoorVinLaw2P
import Derived.Test.YtoihfmammmkloaaDoorVinFactsP
set_option linter.unusedVariables false
set_option linter.unusedSimpArgs false
namespace Go.Proofs.YtoihfmammmkloaaDoor
open Go.RowKit Lan

/-! What is asked of vints: T says of a world what its tables hold. -/
def VTwoOK (T : World → Prop) : Prop := ∀ (op w : Int) (a b : Nat × Nat), 0 ≤ op → Vok a → Vok b → ∀ W : World, T W → Calls Tryd.prog 9 #[.int .u8 op, .int .i64 w, vecV a, vecV b] W fun e W' => e = .returned (vecE (vtwo op w a b)) ∧ Below W.heap.size W W'
def VOneOK (T : World → Prop) : Prop := ∀ (op w : Int) (a : Nat × Nat), 0 ≤ op → Vok a → ∀ W : World, T W → Calls Tryd.prog 12 #[.int .u8 op, .int .i64 w, vecV a] W fun e W' => e = .returned (vecE (vone op w a)) ∧ Below W.heap.size W W'
def VShiftOK (T : World → Prop) : Prop := ∀ (op w : Int) (a : Nat × Nat) (n : Nat), 0 ≤ op → Vok a → n < 2 ^ 64 → ∀ W : World, T W → Calls Tryd.prog 14 #[.int .u8 op, .int .i64 w, vecV a, .int .u64 (n : Int)] W fun e W' => e = .returned (vecE (vshift op w a n)) ∧ Below W.heap.size W W'
def VThanOK (T : World → Prop) : Prop := ∀ (op w : Int) (a b : Nat × Nat), 0 ≤ op → Vok a → Vok b → ∀ W : World, T W → Calls Tryd.prog 16 #[.int .u8 op, .int .i64 w, vecV a, vecV b] W fun e W' => e = .returned (vecE (vthan op w a b)) ∧ Below W.heap.size W W'
def VAllOK (T : World → Prop) : Prop := ∀ (w : Int) (a : Nat × Nat), Vok a → ∀ W : World, T W → Calls Tryd.prog 18 #[.int .i64 w, vecV a] W fun e W' => e = .returned (.tuple #[.bool (vall w a).1, .int .i64 (vall w a).2]) ∧ Below W.heap.size W W'
def VMaskOK (T : World → Prop) : Prop := ∀ (w : Int) (a : Nat × Nat), Vok a → ∀ W : World, T W → Calls Tryd.prog 20 #[.int .i64 w, vecV a] W fun e W' => e = .returned (.tuple #[.int .u64 (vmask w a).1, .int .i64 (vmask w a).2]) ∧ Below W.heap.size W W'
def VNarOK (T : World → Prop) : Prop := ∀ (w : Int) (s : Bool) (a b : Nat × Nat), Vok a → Vok b → ∀ W : World, T W → Calls Tryd.prog 22 #[.int .i64 w, .bool s, vecV a, vecV b] W fun e W' => e = .returned (vecE (vnar w s a b)) ∧ Below W.heap.size W W'
def VWideOK (T : World → Prop) : Prop := ∀ (w : Int) (s h : Bool) (a : Nat × Nat), Vok a → ∀ W : World, T W → Calls Tryd.prog 24 #[.int .i64 w, .bool s, .bool h, vecV a] W fun e W' => e = .returned (vecE (vwide w s h a)) ∧ Below W.heap.size W W'
def VTimesOK (T : World → Prop) : Prop := ∀ (w : Int) (s h : Bool) (a b : Nat × Nat), Vok a → Vok b → ∀ W : World, T W → Calls Tryd.prog 26 #[.int .i64 w, .bool s, .bool h, vecV a, vecV b] W fun e W' => e = .returned (vecE (vtimes w s h a b)) ∧ Below W.heap.size W W'
def VPairsOK (T : World → Prop) : Prop := ∀ (w : Int) (s : Bool) (a : Nat × Nat), Vok a → ∀ W : World, T W → Calls Tryd.prog 28 #[.int .i64 w, .bool s, vecV a] W fun e W' => e = .returned (vecE (vpairs w s a)) ∧ Below W.heap.size W W'
def VDotOK (T : World → Prop) : Prop := ∀ (a b : Nat × Nat), Vok a → Vok b → ∀ W : World, T W → Calls Tryd.prog 30 #[vecV a, vecV b] W fun e W' => e = .returned (vecE (vdot a b)) ∧ Below W.heap.size W W'
structure TabsLike (T : World → Prop) : Prop where
  later : ∀ W W' : World, T W → Below W.heap.size W W' → T W'
  widths : ∀ W : World, T W → WTabs W

theorem vworks {T : World → Prop} (TL : TabsLike T) (h2 : VTwoOK T) (hm : VMaskOK T) (W : World) (hT : T W) :
    Calls Tryd.prog 11 #[] W fun e W' => e = .returned (.bool true) ∧ Below W.heap.size W W' := by
  have C0 := fun W hT => lsplat_calls 8 255 W (TL.widths W hT)
  have C1 := fun W hT => lsplat_calls 8 1 W (TL.widths W hT)
  have C2 := fun W hT => h2 1 8 (18446744073709551615, 18446744073709551615) (72340172838076673, 72340172838076673) (by decide) ⟨by decide, by decide⟩ ⟨by decide, by decide⟩ W hT
  have C3 := fun W hT => hm 8 (18446744073709551615, 18446744073709551615) ⟨by decide, by decide⟩ W hT
  rw [works_splat1] at C0
  rw [works_splat2] at C1
  rw [works_two] at C2
  rw [works_mask] at C3
  exact vworks_walk T (hide TL.later) 18446744073709551615 72340172838076673 (hide C0) (hide C1) (hide C2) (hide C3) W (hide hT)

theorem vintsTwo_law {T : World → Prop} (TL : TabsLike T) (h2 : VTwoOK T) (hm : VMaskOK T) (op : Nat) (w : Int) (a : Nat × Nat) (ha : Vok a) (b : Nat × Nat) (hb : Vok b) (W : World) (hT : T W) :
    Calls Tryd.prog 3 #[.int .u8 (op : Int), .int .i64 w, vecV a, vecV b] W fun e W' => e = .returned (.bool true) ∧ Below W.heap.size W W' :=
  vtwo_walk T (hide TL.later) op w a.1 a.2 b.1 b.2 (vtwo op w a b).1.1 (vtwo op w a b).1.2 (vtwo op w a b).2 (hide fun W hT => h2 op w a b (by omega) ha hb W hT) (hide fun W => rv2_calls op w (by omega) a b W) (hide fun W hT => vworks TL h2 hm W hT) W (hide hT)

theorem vintsOne_law {T : World → Prop} (TL : TabsLike T) (h2 : VTwoOK T) (hm : VMaskOK T) (h1 : VOneOK T) (hs : VShiftOK T) (op : Nat) (w : Int) (a : Nat × Nat) (ha : Vok a) (n : Nat) (hn : n < 2 ^ 64) (W : World) (hT : T W) :
    Calls Tryd.prog 4 #[.int .u8 (op : Int), .int .i64 w, vecV a, .int .u64 (n : Int)] W fun e W' => e = .returned (.bool true) ∧ Below W.heap.size W W' :=
  vone_walk T (hide TL.later) op w a.1 a.2 n (vone op w a).1.1 (vone op w a).1.2 (vshift op w a n).1.1 (vshift op w a n).1.2 (vone op w a).2 (vshift op w a n).2 (hide fun W hT => h1 op w a (by omega) ha W hT) (hide fun W => rv1_calls op w (by omega) a W)
    (hide fun W hT => hs op w a n (by omega) ha hn W hT) (hide fun W => rvs_calls op w (by omega) a n hn W) (hide fun W hT => vworks TL h2 hm W hT) W (hide hT)

theorem vintsThan_law {T : World → Prop} (TL : TabsLike T) (h2 : VTwoOK T) (hm : VMaskOK T) (ht : VThanOK T) (hA : VAllOK T) (op : Nat) (w : Int) (a : Nat × Nat) (ha : Vok a) (b : Nat × Nat) (hb : Vok b) (W : World) (hT : T W) :
    Calls Tryd.prog 5 #[.int .u8 (op : Int), .int .i64 w, vecV a, vecV b] W fun e W' => e = .returned (.bool true) ∧ Below W.heap.size W W' :=
  vthan_walk T (hide TL.later) op w a.1 a.2 b.1 b.2 (vthan op w a b).1.1 (vthan op w a b).1.2 (vthan op w a b).2 (vall w a).2 (vmask w a).2 (vmask w a).1 (vall w a).1 (hide fun W hT => ht op w a b (by omega) ha hb W hT) (hide fun W => rvt_calls op w (by omega) a b W)
    (hide fun W hT => hA w a ha W hT) (hide fun W => rva_calls w a W) (hide fun W hT => hm w a ha W hT) (hide fun W => rvm_calls w a W) (hide fun W hT => vworks TL h2 hm W hT) W (hide hT)

theorem vintsHalves_law {T : World → Prop} (TL : TabsLike T) (h2 : VTwoOK T) (hm : VMaskOK T) (hn : VNarOK T) (hw : VWideOK T) (w : Int) (s h : Bool) (a : Nat × Nat) (ha : Vok a) (b : Nat × Nat) (hb : Vok b) (W : World) (hT : T W) :
    Calls Tryd.prog 6 #[.int .i64 w, .bool s, .bool h, vecV a, vecV b] W fun e W' => e = .returned (.bool true) ∧ Below W.heap.size W W' :=
  vhalves_walk T (hide TL.later) w s h a.1 a.2 b.1 b.2 (vnar w s a b).1.1 (vnar w s a b).1.2 (vwide w s h a).1.1 (vwide w s h a).1.2 (vnar w s a b).2 (vwide w s h a).2 (hide fun W hT => hn w s a b ha hb W hT) (hide fun W => rvn_calls w s a b W)
    (hide fun W hT => hw w s h a ha W hT) (hide fun W => rvw_calls w s h a W) (hide fun W hT => vworks TL h2 hm W hT) W (hide hT)

theorem vintsTimes_law {T : World → Prop} (TL : TabsLike T) (h2 : VTwoOK T) (hm : VMaskOK T) (hx : VTimesOK T) (hp : VPairsOK T) (hd : VDotOK T) (w : Int) (s h : Bool) (a : Nat × Nat) (ha : Vok a) (b : Nat × Nat) (hb : Vok b) (W : World) (hT : T W) :
    Calls Tryd.prog 7 #[.int .i64 w, .bool s, .bool h, vecV a, vecV b] W fun e W' => e = .returned (.bool true) ∧ Below W.heap.size W W' := by
  have X1 := fun W hT => hx w s h a b ha hb W hT
  have X2 := fun W => rvx_calls w s h a b W
  have P1 := fun W hT => hp w s a ha W hT
  have P2 := fun W => rvp_calls w s a W
  have D1 := fun W hT => hd a b ha hb W hT
  have D2 := fun W => rvd_calls a b W
  obtain ⟨⟨⟨p, q⟩, e1⟩, h1⟩ : ∃ F, vtimes w s h a b = F := ⟨_, rfl⟩
  obtain ⟨⟨⟨r, t⟩, e2⟩, h2'⟩ : ∃ F, vpairs w s a = F := ⟨_, rfl⟩
  obtain ⟨⟨⟨x, y⟩, e3⟩, h3⟩ : ∃ F, vdot a b = F := ⟨_, rfl⟩
  rw [h1] at X1 X2
  rw [h2'] at P1 P2
  rw [h3] at D1 D2
  exact vtimes_walk T (hide TL.later) w s h a.1 a.2 b.1 b.2 p q r t x y e1 e2 e3 (hide X1) (hide X2) (hide P1) (hide P2) (hide D1) (hide D2) (hide fun W hT => vworks TL h2 hm W hT) W (hide hT)
end Go.Proofs.YtoihfmammmkloaaDoor
