/-
  The document's types, Put, PutLimits.
-/
import Derived.Test.YteacjhmbamcegabTypSame
import Derived.Test.YteacjhmbamcegabRefPuts
set_option linter.unusedVariables false
set_option linter.unusedSimpArgs false
namespace Go.Proofs.Yteacjhmbamcegab
open Go.RowKit Typ

theorem refPutU_at (n : Int) (w : World) (h0 : 0 ≤ n) (h1 : n ≤ 18446744073709551615) : Calls Try.prog 31 #[.int .u64 n] w fun e w' => PutPost (Leb.putU n) w e w' := by
  have h10 : n < 128 ^ (9 + 1) := Int.lt_of_le_of_lt h1 (by decide)
  exact refPutU_calls 9 n w h0 h10 h1 (by omega)

set_option maxHeartbeats 4000000 in
theorem rtypes_calls (v : Value) (l : List Int) (w : World) (H : RowT w v l) (hlen : l.length ≤ 4194000) :
    Calls Try.prog 28 #[v] w fun e w' => PutPost (putList l) w e w' := by
  obtain ⟨i0, hi, hz0, hz1, hz2⟩ := info_parts Try.infoByte
  have hP := putU_len (l.length : Int)
  have C1 := hideT (refPutU_at (l.length : Int) w (by omega) (by omega))
  have HROW := hideT H
  obtain ⟨a, cap, rfl, hc, hm, hcell⟩ := H
  have m1 : l.length ≤ 2 ^ 63 - 1 := by omega
  have HP := hideT hP
  have HL := hideT hlen
  clear hcell hlen hP hm
  unfold putList
  generalize Leb.putU (l.length : Int) = P at *
  go_enter Try.func28, Try.ntmps28
  go_wp2_with fail
  refine C1.out.mono ?_
  rintro e w1 ⟨vo, rfl, hown, hb1⟩
  have B1 := hideT hb1
  have O1 := hideT hown
  clear hown hb1 C1
  go_wp2_with fail
  go_loopw [3, 4] (fun v x wr => ∃ (k : Nat), x = .int .i64 (k : Int) ∧ k ≤ l.length ∧ wr.ownsRow w.heap.size 5 1 v (P.length + k) ((P ++ l.take k).map (Value.int .u8)) ∧ Below w.heap.size w wr) (fun _ x _ => l.length - (intOf x).toNat)
  case atStart => exact ⟨0, rfl, by omega, by simpa using O1.out, B1.out⟩
  case round =>
    obtain ⟨k, rfl, hk, hown, hr⟩ := hrel
    have HR := hideT hr
    obtain ⟨va, vc, hva⟩ := shape_own hown
    subst hva
    have HO := hideT hown
    by_cases c0 : k < l.length
    · have PS := hideT (take_more (l := l) (f := 0) (k := k) (by omega))
      have R2 := HROW.out.later hr
      obtain ⟨a', cap', e', _, _, hq⟩ := R2
      simp only [Value.slice.injEq, true_and] at e'
      obtain ⟨rfl, rfl⟩ := e'
      obtain ⟨b, off, rfl, hcell⟩ := hq (by omega)
      have h1 := hcell k c0
      have C3 : Hid (P.length + k + 1 ≤ maxLen) := by show P.length + k + 1 ≤ maxLen; have := HL.out; have := HP.out; unfold maxLen; omega
      have C4 : Hid ((P.length + k + 1) * 1 ≤ 140737488355328) := by show (P.length + k + 1) * 1 ≤ 140737488355328; have := HL.out; have := HP.out; omega
      have C5 : Hid (∀ o : Obj, w.heap.size ≤ (wr.alloc o).heap.size) := by intro o; have := HR.out.size; simp; omega
      have HC := hideT c0
      simp only [Nat.zero_add, List.drop_zero] at PS
      generalize l[k]?.getD 0 = x at *
      clear hcell hr hq
      go_wp2_with (at_builtin; refine wpList_append_own _ rfl _ _ 43 rfl w.heap.size 5 i0 (.int .u8 0) 1 1 Try.underlying43 hi hz0 hz1 hz2 rfl (by decide) _ _ _ rfl (hown.alloc _) ⟨wr.heap.size, 0, none⟩ 1 1 [.int .u8 x] rfl rfl (cell_one_new _ _ _) (one_cell8 _) C3.out C4.out (C5.out _) ?_)
      intro v' w3 hown' hgrow _
      have hown2 : w3.ownsRow w.heap.size 5 1 v' (P.length + (k + 1)) ((P ++ l.take (k + 1)).map (Value.int .u8)) := by
        rw [PS.out]
        simpa [Nat.add_assoc] using hown'
      have hb3 : Below w.heap.size w w3 := by
        have hx : Below w.heap.size w (wr.alloc (.cells #[.int .u8 x] 5)) := HR.out.alloc HR.out.size _
        exact hx.grown hgrow hx.size (fun j hj => (hown.lt j hj).1)
      have H2 := hideT hown2
      have H3 := hideT hb3
      clear hown2 hb3 hown' hgrow hown HO
      go_wp2
      go_roundw
      case rel => exact ⟨k + 1, by simp, HC.out, H2.out, H3.out⟩
      case measure =>
        have := HC.out
        simp only [intOf]
        omega
    · obtain rfl : k = l.length := by omega
      clear hown hr c0
      go_wp2
      go_ret
      have HF := HO.out
      rw [List.take_length] at HF
      exact ⟨_, rfl, by simpa using HF, HR.out⟩
end Go.Proofs.Yteacjhmbamcegab
