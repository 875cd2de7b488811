/-
  What is asked of ops; works; OpsOf, OpsNamed, OpsBack.
-/
import Derived.Test.YthggbimnjneeaaaDoorOpsFact
import Derived.Test.YthggbimnjneeaaaDoorOcTabs
set_option linter.unusedVariables false
set_option maxRecDepth 100000
set_option linter.unusedSimpArgs false
namespace Go.Proofs.YthggbimnjneeaaaDoor
open Go.RowKit Opp

def TOfOK : Prop := ∀ (o : Nat) (w : World), o < 65536 → STab w → Calls Tryd.prog 9 #[.int .u16 (o : Int)] w fun e w' => OfPost o w e w'
def namedV (s : ByteArray) : Value := .tuple #[.int .u16 (((namedD s).getD 0 : Nat) : Int), .int .i64 (if (namedD s).isSome then 0 else 11)]
def TNamedOK : Prop := ∀ (s : ByteArray) (w : World), s.size ≤ 9223372036854775807 → STab w → Calls Tryd.prog 13 #[.string s] w fun e w' => e = .returned (namedV s) ∧ Below w.heap.size w w'
/-- A row of numbers of the call's own. -/
def OwnO (w : World) (b : Nat) (v : Value) (l : List Nat) : Prop := w.ownsRow b 23 1 v l.length (l.map fun (o : Nat) => Value.int .u16 (o : Int))
def TAllOK : Prop := ∀ (w : World), STab w → Calls Tryd.prog 15 #[] w fun e w' => ∃ v, e = .returned v ∧ OwnO w' w.heap.size v allOps ∧ Below w.heap.size w w'

def InfoQ (R : InfoD) (er : Int) (b : Nat) (w : World) (e : Ending) (w' : World) : Prop :=
  ∃ a1 c1 a2 c2, e = .returned (.tuple #[.agg #[.int .u16 (R.op : Int), .string (str R.name), .int .u8 (R.imm : Int), .slice a1 R.fr.length c1, .slice a2 R.to.length c2, .int .i64 (R.bits : Int), .bool R.plain], .int .i64 er]) ∧
    OwnY w' b (.slice a1 R.fr.length c1) R.fr ∧ OwnY w' b (.slice a2 R.to.length c2) R.to ∧ Below b w w'
theorem OfPost.q {o : Nat} {w : World} {e : Ending} {w' : World} (h : OfPost o w e w') : InfoQ (ofR o) (ofE o) w.heap.size w e w' := by
  obtain ⟨v, rfl, ⟨a1, c1, a2, c2, rfl, h1, h2⟩, hb⟩ := h
  exact ⟨a1, c1, a2, c2, rfl, h1, h2, hb⟩

theorem of_6a : ofR 106 = ⟨106, [105, 51, 50, 46, 97, 100, 100], 0, [127, 127], [127], 0, true⟩ := by kernel_rfl
theorem of_6a_e : ofE 106 = 0 := by kernel_rfl
theorem of_dot_n : (ofR 64954).name = [105, 51, 50, 120, 52, 46, 100, 111, 116, 95, 105, 49, 54, 120, 56, 95, 115] := by kernel_rfl
theorem of_dot_e : ofE 64954 = 0 := by kernel_rfl
theorem of_6_e : ofE 6 = 11 := by kernel_rfl
theorem infoCells (R : InfoD) (a1 a2 : Option Addr) (n1 c1 n2 c2 : Nat) (w : World) :
    (w.alloc (.cells #[.int .u16 (R.op : Int), .string (str R.name), .int .u8 (R.imm : Int), .slice a1 n1 c1, .slice a2 n2 c2, .int .i64 (R.bits : Int), .bool R.plain] 27)).heap[w.heap.size]? = some (.cells #[.int .u16 (R.op : Int), .string (str R.name), .int .u8 (R.imm : Int), .slice a1 n1 c1, .slice a2 n2 c2, .int .i64 (R.bits : Int), .bool R.plain] 27 (0, 0)) := heap_alloc_new w _

set_option maxHeartbeats 4000000 in
theorem works10_calls (hO : TOfOK) (w : World) (hT : STab w) : Calls Tryd.prog 12 #[] w fun e w' => e = .returned (.bool true) ∧ Below w.heap.size w w' := by
  have CA := hideT (fun V (hV : Below w.heap.size w V) => (hO 106 V (by decide) (hT.later hV)).mono fun e w' h => h.q)
  have CB := hideT (fun V (hV : Below w.heap.size w V) => (hO 64954 V (by decide) (hT.later hV)).mono fun e w' h => h.q)
  have CC := hideT (fun V (hV : Below w.heap.size w V) => (hO 6 V (by decide) (hT.later hV)).mono fun e w' h => h.q)
  rw [of_6a, of_6a_e] at CA
  rw [of_dot_e] at CB
  rw [of_6_e] at CC
  have hn : str (ofR 64954).name = ⟨#[105, 51, 50, 120, 52, 46, 100, 111, 116, 95, 105, 49, 54, 120, 56, 95, 115]⟩ := by rw [of_dot_n]; rfl
  have HN := hideT hn
  clear hn
  generalize ofR 64954 = RB at *
  generalize ofR 6 = RC at *
  go_enter Tryd.func12, Tryd.ntmps12
  go_wp2_with fail
  refine (CA.out _ (by first | exact Below.refl _ _ | exact BAA.out | exact BAB.out | exact BAC.out | exact BA.out | exact B1.out | exact B2.out | exact B3.out | exact HB2.out | exact HB3.out | exact HB.out | exact BL.out | exact BM.out | exact BW.out)).mono ?_
  rintro e wA ⟨a1A, c1A, a2A, c2A, rfl, _, _, hbA⟩
  obtain ⟨waA, hwaA⟩ : ∃ x, wA.alloc (.cells #[.int .u16 106, .string ⟨#[105, 51, 50, 46, 97, 100, 100]⟩, .int .u8 0, .slice a1A 2 c1A, .slice a2A 1 c2A, .int .i64 0, .bool true] 27) = x := ⟨_, rfl⟩
  have KAA := hideT (show waA.heap[wA.heap.size]? = some (.cells #[.int .u16 106, .string ⟨#[105, 51, 50, 46, 97, 100, 100]⟩, .int .u8 0, .slice a1A 2 c1A, .slice a2A 1 c2A, .int .i64 0, .bool true] 27 (0, 0)) by rw [← hwaA]; exact heap_alloc_new wA _)
  have BAA := hideT (show Below w.heap.size w waA by rw [← hwaA]; exact hbA.alloc hbA.size _)
  have HWAA := hideT hwaA
  clear hwaA hbA
  dsimp only
  clear CA
  go_wp2_with fail
  rw [show (str [105, 51, 50, 46, 97, 100, 100]) = ⟨#[105, 51, 50, 46, 97, 100, 100]⟩ from rfl]
  rw [HWAA.out]
  refine (CB.out _ (by first | exact Below.refl _ _ | exact BAA.out | exact BAB.out | exact BAC.out | exact BA.out | exact B1.out | exact B2.out | exact B3.out | exact HB2.out | exact HB3.out | exact HB.out | exact BL.out | exact BM.out | exact BW.out)).mono ?_
  rintro e wB ⟨a1B, c1B, a2B, c2B, rfl, _, _, hbB⟩
  obtain ⟨waB, hwaB⟩ : ∃ x, wB.alloc (.cells #[.int .u16 (RB.op : Int), .string (str RB.name), .int .u8 (RB.imm : Int), .slice a1B RB.fr.length c1B, .slice a2B RB.to.length c2B, .int .i64 (RB.bits : Int), .bool RB.plain] 27) = x := ⟨_, rfl⟩
  have KAB := hideT (show waB.heap[wB.heap.size]? = some (.cells #[.int .u16 (RB.op : Int), .string (str RB.name), .int .u8 (RB.imm : Int), .slice a1B RB.fr.length c1B, .slice a2B RB.to.length c2B, .int .i64 (RB.bits : Int), .bool RB.plain] 27 (0, 0)) by rw [← hwaB]; exact heap_alloc_new wB _)
  have BSB := hideT (show Below waA.heap.size waA waB by rw [← hwaB]; exact hbB.alloc hbB.size _)
  have BAB := hideT (BAA.out.trans (BSB.out.mono BAA.out.size))
  have KAA := hideT ((BSB.out.block _ (Array.getElem?_eq_some_iff.1 KAA.out).1).trans KAA.out)
  have HWAB := hideT hwaB
  clear hwaB hbB
  dsimp only
  clear CB
  go_wp2_with fail
  rw [HWAB.out]
  refine (CC.out _ (by first | exact Below.refl _ _ | exact BAA.out | exact BAB.out | exact BAC.out | exact BA.out | exact B1.out | exact B2.out | exact B3.out | exact HB2.out | exact HB3.out | exact HB.out | exact BL.out | exact BM.out | exact BW.out)).mono ?_
  rintro e wC ⟨a1C, c1C, a2C, c2C, rfl, _, _, hbC⟩
  obtain ⟨waC, hwaC⟩ : ∃ x, wC.alloc (.cells #[.int .u16 (RC.op : Int), .string (str RC.name), .int .u8 (RC.imm : Int), .slice a1C RC.fr.length c1C, .slice a2C RC.to.length c2C, .int .i64 (RC.bits : Int), .bool RC.plain] 27) = x := ⟨_, rfl⟩
  have KAC := hideT (show waC.heap[wC.heap.size]? = some (.cells #[.int .u16 (RC.op : Int), .string (str RC.name), .int .u8 (RC.imm : Int), .slice a1C RC.fr.length c1C, .slice a2C RC.to.length c2C, .int .i64 (RC.bits : Int), .bool RC.plain] 27 (0, 0)) by rw [← hwaC]; exact heap_alloc_new wC _)
  have BSC := hideT (show Below waB.heap.size waB waC by rw [← hwaC]; exact hbC.alloc hbC.size _)
  have BAC := hideT (BAB.out.trans (BSC.out.mono BAB.out.size))
  have KAA := hideT ((BSC.out.block _ (Array.getElem?_eq_some_iff.1 KAA.out).1).trans KAA.out)
  have KAB := hideT ((BSC.out.block _ (Array.getElem?_eq_some_iff.1 KAB.out).1).trans KAB.out)
  have HWAC := hideT hwaC
  clear hwaC hbC
  dsimp only
  clear CC
  have zA : waC.cell? ⟨wA.heap.size, 1, none⟩ = some (.string ⟨#[105, 51, 50, 46, 97, 100, 100]⟩) := by simp [World.cell?, KAA.out]
  have zP : waC.cell? ⟨wA.heap.size, 6, none⟩ = some (.bool true) := by simp [World.cell?, KAA.out]
  have zB : waC.cell? ⟨wB.heap.size, 1, none⟩ = some (.string ⟨#[105, 51, 50, 120, 52, 46, 100, 111, 116, 95, 105, 49, 54, 120, 56, 95, 115]⟩) := by rw [← HN.out]; simp [World.cell?, KAB.out]
  rw [← HWAC.out] at zA zP zB
  go_wp2_with fail
  rw [HWAC.out]
  go_ret
  exact ⟨rfl, BAC.out⟩
end Go.Proofs.YthggbimnjneeaaaDoor
