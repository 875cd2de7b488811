/-
  'name.PutRow', the document's; the walk of NamePutRow.
-/
import Derived.Test.YthillphedjjhjabDoorNameLaws2
import Derived.Test.YthillphedjjhjabDoorRefPuts
set_option linter.unusedVariables false
namespace Go.Proofs.YthillphedjjhjabDoor
open Go.RowKit

def rowP (l : List Int) : List Int := Leb.putU l.length ++ l

theorem putU_bytes (n : Nat) (h : n ≤ 140737488355328) : Leb.Bytes (Leb.putU n) := Leb.putUF_bytes 9 n (by omega) (Int.lt_trans (show (n : Int) < 18446744073709551616 by omega) (by decide))
theorem rowP_bytes {l : List Int} (hb : Leb.Bytes l) (h : l.length ≤ 140737488355328) : Leb.Bytes (rowP l) := bytes_append (putU_bytes _ h) hb
theorem rowP_len (l : List Int) : l.length + 1 ≤ (rowP l).length ∧ (rowP l).length ≤ l.length + 10 := by
  have := putU_len l.length
  unfold rowP; rw [List.length_append]; omega

def PutRowPost (l : List Int) (w : World) (e : Ending) (w' : World) : Prop :=
  Below w.heap.size w w' ∧ ∃ g c, e = .returned (.slice (some ⟨g, 0, none⟩) (rowP l).length c) ∧ w.heap.size ≤ g ∧ Row w' (some ⟨g, 0, none⟩) (rowP l).length c (rowP l) ∧
    w'.ownsRow w.heap.size 5 1 (.slice (some ⟨g, 0, none⟩) (rowP l).length c) (rowP l).length ((rowP l).map (Value.int .u8))

set_option maxHeartbeats 1000000 in
theorem PutRow_calls (a : Option Addr) (len cap : Nat) (l : List Int) (w : World) (H : Row w a len cap l) (hlim : len ≤ 140737488355000) :
    Calls Tryd.prog 12 #[.slice a len cap] w fun e w' => PutRowPost l w e w' := by
  have HH := hide H
  have hl := H.1
  have HBY := hide (rowP_bytes H.2.2.2.1 (by omega))
  have hpl := putU_len len
  have hrl := rowP_len l
  have C1 := hide (PutU_calls len w (by omega) (by omega))
  have hlz : (len : Int) ≤ 140737488355000 := by omega
  have HL := hide hl
  have HR := hide hrl
  have HPL := hide hpl
  clear H hl hrl hpl
  go_enter Tryd.func12, Tryd.ntmps12
  go_wp2_with fail
  refine C1.out.mono ?_
  rintro e w1 ⟨g, c, rfl, hg, hrow, hown, hb1⟩
  have B1 := hide hb1
  have O1 := hide hown
  have R1 := hide (HH.out.later hb1)
  have HLIM : Hid ((Leb.putU (len : Int)).length + len ≤ 140737488355328) := by show _ ≤ _; have := HPL.out; omega
  clear hb1 hown hrow hg C1
  go_wp2_with (at_builtin; go_must (refine append_rowB rfl _ _ rfl w.heap.size _ _ _ rfl O1.out a len cap l rfl R1.out HLIM.out B1.out.size ?_))
  intro v2 w2 hown2 hgrow2
  have H4 : Hid (Below w.heap.size w w2) := B1.out.grown hgrow2 B1.out.size (fun j hj => (O1.out.lt j hj).1)
  have hown3 : w2.ownsRow w.heap.size 5 1 v2 (rowP l).length ((rowP l).map (Value.int .u8)) := by
    unfold rowP; rw [HL.out, List.length_append, List.map_append, HL.out]; exact hown2
  obtain ⟨g2, c2, hv, hg2, hrow2⟩ := own_slice hown3 (by have := HR.out; omega) HBY.out
  subst hv
  have O3 := hide hown3
  have R3 := hide hrow2
  clear hown2 hgrow2 hown3 hrow2 O1 R1 B1
  go_wp2
  go_ret
  exact ⟨H4.out, g2, c2, rfl, hg2, R3.out, O3.out⟩

theorem rowAt_put (l1 l l2 : List Int) (h : l.length ≤ 1048576) : rowAt (l1 ++ (rowP l ++ l2)) l1.length = (l, (l1.length : Int) + (rowP l).length, 0) := by
  have hr := (readU_put l1 (l ++ l2) l.length 32 (by decide) (by decide) (by omega) (by
    have e32 : (2 : Int) ^ (32 : Int).toNat = 4294967296 := by decide
    rw [e32]; omega)).1
  have e : l1 ++ (rowP l ++ l2) = l1 ++ (Leb.putU l.length ++ (l ++ l2)) := by unfold rowP; rw [List.append_assoc]
  rw [e]
  have hr2 : Leb.readU (l1 ++ (Leb.putU l.length ++ (l ++ l2))) l1.length 32 = ((l.length : Int), ((l1.length + (Leb.putU l.length).length : Nat) : Int), 0) := by rw [hr]; simp
  rw [rowAt_yes hr2 (by simp; omega)]
  have e2 : (l1 ++ (Leb.putU l.length ++ (l ++ l2))).drop (l1.length + (Leb.putU l.length).length) = l ++ l2 := by
    rw [← List.append_assoc, ← List.length_append, List.drop_left]
  rw [e2, List.take_left]
  unfold rowP
  rw [List.length_append]
  simp
  omega

end Go.Proofs.YthillphedjjhjabDoor
