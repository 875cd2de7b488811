/-
  'name.PutRow', the document's; the walk of NamePutRow.
-/
import Derived.Test.YthillphedjjhjaaDoorNameLaws2
import Derived.Test.YthillphedjjhjaaDoorRefPuts
set_option linter.unusedVariables false
namespace Go.Proofs.YthillphedjjhjaaDoor
open Go.RowKit

def rowP (l : List Int) : List Int := Leb.putU l.length ++ l

theorem putU_bytes (n : Nat) (h : n ≤ 140737488355328) : Leb.Bytes (Leb.putU n) := Leb.putUF_bytes 9 n (by omega) (Int.lt_trans (show (n : Int) < 18446744073709551616 by omega) (by decide))
theorem rowP_bytes {l : List Int} (hb : Leb.Bytes l) (h : l.length ≤ 140737488355328) : Leb.Bytes (rowP l) := bytes_append (putU_bytes _ h) hb
theorem rowP_len (l : List Int) : l.length + 1 ≤ (rowP l).length ∧ (rowP l).length ≤ l.length + 10 := by
  have := putU_len l.length
  unfold rowP; rw [List.length_append]; omega

def PutRowPost (l : List Int) (w : World) (e : Ending) (w' : World) : Prop :=
  Below w.heap.size w w' ∧ ∃ g c, e = .returned (.slice (some ⟨g, 0, none⟩) (rowP l).length c) ∧ w.heap.size ≤ g ∧ Row w' (some ⟨g, 0, none⟩) (rowP l).length c (rowP l) ∧
    w'.ownsRow w.heap.size 5 1 (.slice (some ⟨g, 0, none⟩) (rowP l).length c) (rowP l).length ((rowP l).map (Value.int .u8))

set_option maxHeartbeats 1000000 in
theorem PutRow_calls (a : Option Addr) (len cap : Nat) (l : List Int) (w : World) (H : Row w a len cap l) (hlim : len ≤ 140737488355000) :
    Calls Tryd.prog 22 #[.slice a len cap] w fun e w' => PutRowPost l w e w' := by
  have HH := hide H
  have hl := H.1
  have HBY := hide (rowP_bytes H.2.2.2.1 (by omega))
  have hpl := putU_len len
  have hrl := rowP_len l
  have C1 := hide (PutU_calls len w (by omega) (by omega))
  have hlz : (len : Int) ≤ 140737488355000 := by omega
  have HL := hide hl
  have HR := hide hrl
  have HPL := hide hpl
  clear H hl hrl hpl
  go_enter Tryd.func22, Tryd.ntmps22
  go_wp2_with fail
  refine C1.out.mono ?_
  rintro e w1 ⟨g, c, rfl, hg, hrow, hown, hb1⟩
  have B1 := hide hb1
  have O1 := hide hown
  have R1 := hide (HH.out.later hb1)
  have HLIM : Hid ((Leb.putU (len : Int)).length + len ≤ 140737488355328) := by show _ ≤ _; have := HPL.out; omega
  clear hb1 hown hrow hg C1
  go_wp2_with (at_builtin; go_must (refine append_rowB rfl _ _ rfl w.heap.size _ _ _ rfl O1.out a len cap l rfl R1.out HLIM.out B1.out.size ?_))
  intro v2 w2 hown2 hgrow2
  have H4 : Hid (Below w.heap.size w w2) := B1.out.grown hgrow2 B1.out.size (fun j hj => (O1.out.lt j hj).1)
  have hown3 : w2.ownsRow w.heap.size 5 1 v2 (rowP l).length ((rowP l).map (Value.int .u8)) := by
    unfold rowP; rw [HL.out, List.length_append, List.map_append, HL.out]; exact hown2
  obtain ⟨g2, c2, hv, hg2, hrow2⟩ := own_slice hown3 (by have := HR.out; omega) HBY.out
  subst hv
  have O3 := hide hown3
  have R3 := hide hrow2
  clear hown2 hgrow2 hown3 hrow2 O1 R1 B1
  go_wp2
  go_ret
  exact ⟨H4.out, g2, c2, rfl, hg2, R3.out, O3.out⟩

set_option maxHeartbeats 1000000 in
theorem rPutRow_calls (a : Option Addr) (len cap : Nat) (l : List Int) (w : World) (H : Row w a len cap l) (hlim : len ≤ 140737488355000) :
    Calls Tryd.prog 23 #[.slice a len cap] w fun e w' => PutRowPost l w e w' := by
  have HH := hide H
  have hl := H.1
  have HBY := hide (rowP_bytes H.2.2.2.1 (by omega))
  have hpl := putU_len len
  have hrl := rowP_len l
  have C1 := hide (refPutU_calls 9 len w (by omega) (Int.lt_trans (show (len : Int) < 18446744073709551616 by omega) (by decide)) (by omega) (by decide))
  have hlz : (len : Int) ≤ 140737488355000 := by omega
  have HL := hide hl
  have HR := hide hrl
  have HPL := hide hpl
  clear H hl hrl hpl
  go_enter Tryd.func23, Tryd.ntmps23
  go_wp2_with fail
  refine C1.out.mono ?_
  rintro e w1 ⟨v1, rfl, hown, hb1⟩
  have B1 := hide hb1
  have O1 : Hid (w1.ownsRow w.heap.size 5 1 v1 (Leb.putU (len : Int)).length ((Leb.putU (len : Int)).map (Value.int .u8))) := hown
  have R1 := hide (HH.out.later hb1)
  have HLIM : Hid ((Leb.putU (len : Int)).length + len ≤ 140737488355328) := by show _ ≤ _; have := HPL.out; omega
  clear hb1 hown C1
  go_wp2_with (at_builtin; go_must (refine append_rowB rfl _ _ rfl w.heap.size _ _ _ rfl O1.out a len cap l rfl R1.out HLIM.out B1.out.size ?_))
  intro v2 w2 hown2 hgrow2
  have H4 : Hid (Below w.heap.size w w2) := B1.out.grown hgrow2 B1.out.size (fun j hj => (O1.out.lt j hj).1)
  have hown3 : w2.ownsRow w.heap.size 5 1 v2 (rowP l).length ((rowP l).map (Value.int .u8)) := by
    unfold rowP; rw [HL.out, List.length_append, List.map_append, HL.out]; exact hown2
  obtain ⟨g2, c2, hv, hg2, hrow2⟩ := own_slice hown3 (by have := HR.out; omega) HBY.out
  subst hv
  have O3 := hide hown3
  have R3 := hide hrow2
  clear hown2 hgrow2 hown3 hrow2 O1 R1 B1
  go_wp2
  go_ret
  exact ⟨H4.out, g2, c2, rfl, hg2, R3.out, O3.out⟩

theorem rowAt_put (l1 l l2 : List Int) (h : l.length ≤ 1048576) : rowAt (l1 ++ (rowP l ++ l2)) l1.length = (l, (l1.length : Int) + (rowP l).length, 0) := by
  have hr := (readU_put l1 (l ++ l2) l.length 32 (by decide) (by decide) (by omega) (by
    have e32 : (2 : Int) ^ (32 : Int).toNat = 4294967296 := by decide
    rw [e32]; omega)).1
  have e : l1 ++ (rowP l ++ l2) = l1 ++ (Leb.putU l.length ++ (l ++ l2)) := by unfold rowP; rw [List.append_assoc]
  rw [e]
  have hr2 : Leb.readU (l1 ++ (Leb.putU l.length ++ (l ++ l2))) l1.length 32 = ((l.length : Int), ((l1.length + (Leb.putU l.length).length : Nat) : Int), 0) := by rw [hr]; simp
  rw [rowAt_yes hr2 (by simp; omega)]
  have e2 : (l1 ++ (Leb.putU l.length ++ (l ++ l2))).drop (l1.length + (Leb.putU l.length).length) = l ++ l2 := by
    rw [← List.append_assoc, ← List.length_append, List.drop_left]
  rw [e2, List.take_left]
  unfold rowP
  rw [List.length_append]
  simp
  omega

set_option maxHeartbeats 1000000 in
theorem namePutRow_calls (a a1 a2 : Option Addr) (len cap len1 cap1 len2 cap2 : Nat) (l l1 l2 : List Int) (w : World) (H : Row w a len cap l) (H1 : Row w a1 len1 cap1 l1) (H2 : Row w a2 len2 cap2 l2) (hT : Tabs w) (nb : len + len1 + len2 ≤ 1048576) :
    Calls Tryd.prog 6 #[.slice a len cap, .slice a1 len1 cap1, .slice a2 len2 cap2] w fun e w' => e = .returned (.bool true) ∧ Below w.heap.size w w' := by
  have HH := hide H
  have HH1 := hide H1
  have HH2 := hide H2
  have HT := hide hT
  have HLIM : Hid (len ≤ 140737488355000) := by show _ ≤ _; omega
  clear H H1 H2 hT
  go_enter Tryd.func6, Tryd.ntmps6
  go_wp2_with fail
  refine (PutRow_calls a len cap l w HH.out HLIM.out).mono ?_
  rintro e w1 ⟨hb1, g1, c1, rfl, hg1, hr1, _⟩
  have B1 := hide hb1
  have R1 := hide hr1
  clear hb1 hr1 hg1
  go_wp2_with fail
  refine (rPutRow_calls a len cap l w1 (HH.out.later B1.out) HLIM.out).mono ?_
  rintro e w2 ⟨hb2, g2, c2, rfl, hg2, hr2, _⟩
  have B2 := hide (B1.out.trans (hb2.mono B1.out.size))
  have R2 := hide hr2
  have R1' := hide (R1.out.later hb2)
  clear hb2 hr2 R1 B1 hg2
  go_wp2_with fail
  refine (same_calls' _ _ c1 c2 _ (rowP l) w2 R1'.out R2.out).mono ?_
  rintro e w3 ⟨rfl, n3, rfl⟩
  have B3 := hide (below_drewNq B2.out n3)
  have R3 := hide (Row.drewN R1'.out n3)
  generalize w2.drewN n3 = w3 at B3 R3 ⊢
  clear R1' R2 B2
  have hrl := rowP_len l
  have hl := HH.out.1
  have hl1 := HH1.out.1
  have hl2 := HH2.out.1
  obtain ⟨P, hP⟩ : ∃ P, (rowP l).length = P := ⟨_, rfl⟩
  rw [hP] at R3 ⊢
  have K1 : Hid (0 + len1 ≤ 140737488355328) := by show _ ≤ _; omega
  have K2 : Hid (len1 + P ≤ 140737488355328) := by show _ ≤ _; omega
  have K3 : Hid (len1 + P + len2 ≤ 140737488355328) := by show _ ≤ _; omega
  have HPP := hide hP
  have hPz : (P : Int) ≤ 1048586 := by omega
  have hl1z : (len1 : Int) ≤ 1048576 := by omega
  have HL := hide hl
  have HL1 := hide hl1
  have HL2 := hide hl2
  have NB := hide nb
  have A1 := hide (HH1.out.later B3.out)
  clear hrl hl hl1 hl2 hP nb
  go_wp2_with (at_builtin; go_must (refine append_rowB rfl _ _ rfl w3.heap.size _ 0 [] rfl (World.ownsRow_nil _ _ _ _) a1 len1 cap1 l1 rfl A1.out K1.out (Nat.le_refl _) ?_))
  intro v4 w4 hown4 hgrow4
  have hb4 : Below w3.heap.size w3 w4 := (Below.refl _ _).grown hgrow4 (Nat.le_refl _) (fun j hj => by simp [Value.ownBlock] at hj)
  have O4 := hide hown4
  have B4 := hide hb4
  have R4 := hide (R3.out.later hb4)
  clear hown4 hgrow4 hb4 R3 A1
  go_wp2_with (at_builtin; go_must (refine append_rowB rfl _ _ rfl w3.heap.size _ _ _ rfl O4.out _ P c1 (rowP l) rfl R4.out K2.out B4.out.size ?_))
  intro v5 w5 hown5 hgrow5
  have hb5 : Below w3.heap.size w3 w5 := B4.out.grown hgrow5 B4.out.size (fun j hj => (O4.out.lt j hj).1)
  have O5 := hide hown5
  have B5 := hide hb5
  have A5 := hide (HH2.out.later (B3.out.trans (hb5.mono B3.out.size)))
  clear hown5 hgrow5 hb5 R4 O4 B4
  go_wp2_with (at_builtin; go_must (refine append_rowB rfl _ _ rfl w3.heap.size _ _ _ rfl O5.out a2 len2 cap2 l2 rfl A5.out K3.out B5.out.size ?_))
  intro v6 w6 hown6 hgrow6
  have hb6 : Below w3.heap.size w3 w6 := B5.out.grown hgrow6 B5.out.size (fun j hj => (O5.out.lt j hj).1)
  have hlen : (l1 ++ (rowP l ++ l2)).length = len1 + P + len2 := by
    rw [List.length_append, List.length_append, HPP.out, HL1.out, HL2.out]; omega
  have hown7 : w6.ownsRow w3.heap.size 5 1 v6 (l1 ++ (rowP l ++ l2)).length ((l1 ++ (rowP l ++ l2)).map (Value.int .u8)) := by
    rw [hlen]; simpa using hown6
  obtain ⟨a7, c7, hv, hr7⟩ := own_rowB hown7 (bytes_append HH1.out.2.2.2.1 (bytes_append (rowP_bytes HH.out.2.2.2.1 (by rw [HL.out]; have := NB.out; omega)) HH2.out.2.2.2.1))
  subst hv
  have B6 := hide (B3.out.trans (hb6.mono B3.out.size))
  have R7 := hide hr7
  have hat := rowAt_put l1 l l2 (by rw [HL.out]; have := NB.out; omega)
  rw [HL1.out, HPP.out] at hat
  have HAT := hide hat
  clear hown6 hgrow6 hb6 O5 B5 A5 hown7 hr7 hlen hat B3
  generalize l1 ++ (rowP l ++ l2) = all at R7 HAT ⊢
  go_wp2_with fail
  refine (Row_calls a7 _ c7 all len1 w6 R7.out).mono ?_
  intro e w8 hp
  obtain ⟨hb8, a8, c8, rfl, hr8⟩ := hp.one R7.out.2.2.2.1
  rw [HAT.out] at hr8 ⊢
  have B8 := hide (B6.out.trans (hb8.mono B6.out.size))
  have R8 := hide hr8
  have hlen8 := HL.out
  clear hp hb8 hr8 R7 HAT B6
  simp only at R8 ⊢
  rw [hlen8] at R8 ⊢
  clear hlen8
  have RB := hide (HH.out.later B8.out)
  go_wp2_with fail
  refine (same_calls' a8 a c8 cap len l w8 R8.out RB.out).mono ?_
  rintro e w9 ⟨rfl, n9, rfl⟩
  have B9 := hide (below_drewNq B8.out n9)
  generalize w8.drewN n9 = w9 at B9 ⊢
  clear R8 RB B8
  go_wp2_with fail
  refine (works_calls w9 (HT.out.later B9.out)).mono ?_
  rintro e w10 ⟨rfl, hb10⟩
  have B10 := hide (B9.out.trans (hb10.mono B9.out.size))
  clear hb10
  go_wp2
  go_ret
  exact ⟨rfl, B10.out⟩

end Go.Proofs.YthillphedjjhjaaDoor
