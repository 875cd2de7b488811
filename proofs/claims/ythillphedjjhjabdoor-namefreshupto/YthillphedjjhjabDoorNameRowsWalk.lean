/-
  'name.Row', 'name.Name'; the document's 'Row' and 'Name'; the walk of NameRows.
-/
import Derived.Test.YthillphedjjhjabDoorNameLaws1
import Derived.Test.YthillphedjjhjabDoorNameCut
import Derived.Test.YthillphedjjhjabDoorRefReads
set_option linter.unusedVariables false
namespace Go.Proofs.YthillphedjjhjabDoor
open Go.RowKit

def RowPost (l : List Int) (p : Int) (w : World) (e : Ending) (w' : World) : Prop :=
  Below w.heap.size w w' ∧ ∃ v, e = .returned (.tuple #[v, .int .i64 (rowAt l p).2.1, .int .i64 (rowAt l p).2.2]) ∧ w'.ownsRow w.heap.size 5 1 v (rowAt l p).1.length ((rowAt l p).1.map (Value.int .u8))

set_option maxHeartbeats 1000000 in
theorem Row_calls (a : Option Addr) (len cap : Nat) (l : List Int) (p : Int) (w : World) (H : Row w a len cap l) :
    Calls Tryd.prog 10 #[.slice a len cap, .int .i64 p] w fun e w' => RowPost l p w e w' := by
  have C1 := hide (cut_calls a len cap l p w H)
  clear H
  go_enter Tryd.func10, Tryd.ntmps10
  go_wp2_with fail
  refine C1.out.mono ?_
  rintro e w1 ⟨a1, m, c, rfl, hrow, n1, rfl⟩
  have hlen := rowAt_len l p
  have hm : (rowAt l p).1.length = m := hrow.1
  have R := hide hrow
  have HLIM : Hid (0 + m ≤ 140737488355328) := by show _ ≤ _; omega
  clear hlen hrow C1
  have hb1 : Below w.heap.size w (w.drewN n1) := below_drewNq (Below.refl _ _) n1
  generalize w.drewN n1 = w1 at R hb1 ⊢
  have B1 := hide hb1
  clear hb1
  obtain ⟨nx, hnx⟩ : ∃ nx, (rowAt l p).2.1 = nx := ⟨_, rfl⟩
  obtain ⟨er, her⟩ : ∃ er, (rowAt l p).2.2 = er := ⟨_, rfl⟩
  rw [hnx, her]
  have HNX := hide hnx
  have HER := hide her
  have HM := hide hm
  clear hnx her hm
  go_wp2_with (at_builtin; go_must (refine append_rowB rfl _ _ rfl w.heap.size _ 0 [] rfl (World.ownsRow_nil _ _ _ _) a1 m c (rowAt l p).1 rfl R.out HLIM.out B1.out.size ?_))
  intro v2 w2 hown2 hgrow2
  have H4 : Hid (Below w.heap.size w w2) := B1.out.grown hgrow2 B1.out.size (fun j hj => by simp [Value.ownBlock] at hj)
  have H5 : Hid (w2.ownsRow w.heap.size 5 1 v2 (rowAt l p).1.length ((rowAt l p).1.map (Value.int .u8))) := by
    show World.ownsRow _ _ _ _ _ _ _
    rw [HM.out]; simpa using hown2
  clear hown2 hgrow2 R B1
  obtain ⟨av, cv, hv⟩ := own_shape H5.out
  subst hv
  go_wp2
  refine bodyPost_ret (v := .tuple #[.slice av (rowAt l p).1.length cv, .int .i64 nx, .int .i64 er]) (by simp [results, Tryd.results10, go_sem]) rfl ?_
  exact ⟨H4.out, _, by rw [HNX.out, HER.out], H5.out⟩

def NamePost (l : List Int) (p : Int) (w : World) (e : Ending) (w' : World) : Prop :=
  Below w.heap.size w w' ∧ e = .returned (.tuple #[.string (strOfNums (nameAt l p).1), .int .i64 (nameAt l p).2.1, .int .i64 (nameAt l p).2.2])

theorem nameAt_err {l : List Int} {p : Int} (h : (rowAt l p).2.2 ≠ 0) : nameAt l p = ([], 0, (rowAt l p).2.2) := by unfold nameAt; rw [if_pos h]
theorem nameAt_no {l : List Int} {p : Int} (h : (rowAt l p).2.2 = 0) (ht : Utf.isText (rowAt l p).1 = false) : nameAt l p = ([], 0, 4) := by unfold nameAt; rw [if_neg (by simp [h]), ht]; rfl
theorem nameAt_yes {l : List Int} {p : Int} (h : (rowAt l p).2.2 = 0) (ht : Utf.isText (rowAt l p).1 = true) : nameAt l p = rowAt l p := by unfold nameAt; rw [if_neg (by simp [h]), if_pos ht]
theorem rowAt_e (l : List Int) (p : Int) : (rowAt l p).2.2 = 0 ∨ (rowAt l p).2.2 = 2 ∨ (rowAt l p).2.2 = 4 := by
  rcases readU_parts l p with ⟨x, hx, h⟩ | ⟨N, f, h, h1, h2, h3⟩
  · rw [rowAt_err hx h]; simp only; omega
  · by_cases hs : l.length < f + N
    · rw [rowAt_short h hs h3]; simp
    · rw [rowAt_yes h (by omega)]; simp

end Go.Proofs.YthillphedjjhjabDoor
