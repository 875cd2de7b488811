/-
  The document's 'Name'; the walk of NameRows.
-/
import Derived.Test.YthillphedjjhjaaDoorNameRowsWalk
set_option linter.unusedVariables false
namespace Go.Proofs.YthillphedjjhjaaDoor
open Go.RowKit

theorem RowPost.one {l : List Int} {p : Int} {w w' : World} {e : Ending} (hb : Leb.Bytes l) (h : RowPost l p w e w') :
    Below w.heap.size w w' ∧ ∃ a c, e = .returned (.tuple #[.slice a (rowAt l p).1.length c, .int .i64 (rowAt l p).2.1, .int .i64 (rowAt l p).2.2]) ∧ Row w' a (rowAt l p).1.length c (rowAt l p).1 := by
  obtain ⟨h1, v, rfl, hown⟩ := h
  obtain ⟨a, c, hv, hr⟩ := own_rowB hown (rowAt_bytes l p hb)
  subst hv
  exact ⟨h1, a, c, rfl, hr⟩

set_option maxHeartbeats 1000000 in
theorem rName_calls (a : Option Addr) (len cap : Nat) (l : List Int) (p : Int) (w : World) (H : Row w a len cap l) :
    Calls Tryd.prog 21 #[.slice a len cap, .int .i64 p] w fun e w' => NamePost l p w e w' := by
  have C1 := hide (rRow_calls a len cap l p w H)
  have HBY := hide H.2.2.2.1
  have hE := rowAt_e l p
  have hlen := rowAt_len l p
  clear H
  go_enter Tryd.func21, Tryd.ntmps21
  go_wp2_with fail
  refine C1.out.mono ?_
  intro e w1 hp
  obtain ⟨hb1, a1, c, rfl, hrow⟩ := hp.one HBY.out
  have R := hide hrow
  have B1 := hide hb1
  clear hrow C1 hp hb1
  obtain ⟨nx, hnx⟩ : ∃ nx, (rowAt l p).2.1 = nx := ⟨_, rfl⟩
  obtain ⟨er, her⟩ : ∃ er, (rowAt l p).2.2 = er := ⟨_, rfl⟩
  obtain ⟨m, hm⟩ : ∃ m, (rowAt l p).1.length = m := ⟨_, rfl⟩
  rw [hnx, her]
  rw [hm] at R hlen ⊢
  rw [her] at hE
  have HNX := hide hnx
  have HER := hide her
  have HLIM : Hid (m * 4 ≤ 140737488355328) := by show _ ≤ _; omega
  clear hnx her hm hlen
  by_cases he : er = 0
  · subst he
    clear hE
    go_wp2_with fail
    refine (rIs_calls a1 m c (rowAt l p).1 w1 R.out HLIM.out).mono ?_
    rintro e w2 ⟨rfl, hb2⟩
    have B2 := hide (B1.out.trans (hb2.mono B1.out.size))
    have R2 := hide (R.out.later hb2)
    clear hb2 R B1
    cases ht : Utf.isText (rowAt l p).1 with
    | true =>
      have HY := hide (nameAt_yes HER.out ht)
      have hcv : (convert 22 9 (.slice a1 m c)).run Tryd.prog w2 = .ok (.string (strOfNums (rowAt l p).1)) w2 := conv_row a1 m c _ w2 R2.out
      obtain ⟨sv, hsv⟩ : ∃ sv, strOfNums (rowAt l p).1 = sv := ⟨_, rfl⟩
      rw [hsv] at hcv
      have HSV := hide hsv
      clear ht hsv R2
      go_wp2
      refine bodyPost_ret (v := .tuple #[.string sv, .int .i64 nx, .int .i64 0]) (by simp [results, Tryd.results21, go_sem]) rfl ?_
      exact ⟨B2.out, by rw [HY.out, HNX.out, HER.out, HSV.out]⟩
    | false =>
      have HY := hide (nameAt_no HER.out ht)
      clear ht R2
      go_wp2
      refine bodyPost_ret (v := .tuple #[.string ⟨#[]⟩, .int .i64 0, .int .i64 4]) (by simp [results, Tryd.results21, go_sem]) rfl ?_
      exact ⟨B2.out, by rw [HY.out]; rfl⟩
  · have u1 : (er != 0) = true := by simp; omega
    have HY := hide (nameAt_err (l := l) (p := p) (by rw [HER.out]; exact he))
    clear R hE
    go_wp2
    refine bodyPost_ret (v := .tuple #[.string ⟨#[]⟩, .int .i64 0, .int .i64 er]) (by simp [results, Tryd.results21, go_sem]) rfl ?_
    exact ⟨B1.out, by rw [HY.out, HER.out]; rfl⟩

set_option maxHeartbeats 1000000 in
theorem nameRows_calls (a : Option Addr) (len cap : Nat) (l : List Int) (p : Int) (w : World) (H : Row w a len cap l) (hT : Tabs w) :
    Calls Tryd.prog 5 #[.slice a len cap, .int .i64 p] w fun e w' => e = .returned (.bool true) ∧ Below w.heap.size w w' := by
  have HH := hide H
  have HT := hide hT
  have HBY := hide H.2.2.2.1
  clear H hT
  go_enter Tryd.func5, Tryd.ntmps5
  go_wp2_with fail
  refine (Row_calls a len cap l p w HH.out).mono ?_
  intro e w1 hp
  obtain ⟨hb1, a1, c1, rfl, hr1⟩ := hp.one HBY.out
  have B1 := hide hb1
  have R1 := hide hr1
  clear hp hb1 hr1
  go_wp2_with fail
  refine (rRow_calls a len cap l p w1 (HH.out.later B1.out)).mono ?_
  intro e w2 hp
  obtain ⟨hb2, a2, c2, rfl, hr2⟩ := hp.one HBY.out
  have B2 := hide (B1.out.trans (hb2.mono B1.out.size))
  have R2 := hide hr2
  have R1' := hide (R1.out.later hb2)
  clear hp hb2 hr2 R1 B1
  go_wp2_with fail
  refine (Name_calls a len cap l p w2 (HH.out.later B2.out) (HT.out.later B2.out)).mono ?_
  rintro e w3 ⟨hb3, rfl⟩
  have B3 := hide (B2.out.trans (hb3.mono B2.out.size))
  have R1'' := hide (R1'.out.later hb3)
  have R2' := hide (R2.out.later hb3)
  clear hb3 R1' R2 B2
  go_wp2_with fail
  refine (rName_calls a len cap l p w3 (HH.out.later B3.out)).mono ?_
  rintro e w4 ⟨hb4, rfl⟩
  have B4 := hide (B3.out.trans (hb4.mono B3.out.size))
  have R5 := hide (R1''.out.later hb4)
  have R6 := hide (R2'.out.later hb4)
  clear hb4 R1'' R2' B3
  go_wp2_with fail
  refine (same_calls' a1 a2 c1 c2 _ (rowAt l p).1 w4 R5.out R6.out).mono ?_
  rintro e w5 ⟨rfl, n5, rfl⟩
  have B5 := hide (below_drewNq B4.out n5)
  generalize w4.drewN n5 = w5 at B5 ⊢
  clear R5 R6 B4
  go_wp2_with fail
  refine (works_calls w5 (HT.out.later B5.out)).mono ?_
  rintro e w6 ⟨rfl, hb6⟩
  have B6 := hide (B5.out.trans (hb6.mono B5.out.size))
  clear hb6
  go_wp2
  go_ret
  exact ⟨rfl, B6.out⟩

end Go.Proofs.YthillphedjjhjaaDoor
