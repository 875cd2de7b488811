/-
  The walks of 'leb.PutU' and 'leb.PutS', the spare cells told, too.
-/
import Derived.Test.YteacjhmbamcegabLebPuts
import Derived.Test.YteacjhmbamcegabOwnInts
namespace Go.Proofs.Yteacjhmbamcegab
open Go.RowKit
set_option linter.unusedVariables false

theorem wf8 (m : Int) (h0 : 0 ≤ m) (h1 : m ≤ 255) : (Lit.int .u8 m).wf = true := by
  simp [Lit.wf, IntKind.min, IntKind.max, IntKind.bits, IntKind.signed]; omega

theorem wf8_one (m : Int) (h0 : 0 ≤ m) (h1 : m ≤ 255) : ∀ z ∈ [m], (Lit.int .u8 z).wf = true := by
  intro z hz
  simp at hz
  subst hz
  exact wf8 z h0 h1

set_option maxHeartbeats 400000 in
theorem PutU_walkI (n : Int) (w : World) (h0 : 0 ≤ n) (h1 : n < 18446744073709551616) :
    Calls Try.prog 26 #[.int .u64 n] w fun e w' => ∃ v, e = .returned v ∧ OwnI w' w.heap.size 5 .u8 v (Leb.putU n) ∧ Below w.heap.size w w' := by
  obtain ⟨i0, hi, hz0, hz1, hz2⟩ := info_parts Try.infoByte
  have hn : n < 128 ^ 10 := Int.lt_trans h1 (by decide)
  clear h1
  go_enter Try.func26, Try.ntmps26
  go_wp2
  go_loopw [0, 3] (fun x v wr => ∃ (f : Nat) (m : Int) (g : List Int), x = .int .u64 m ∧ 0 ≤ m ∧ m < 128 ^ (f + 1) ∧ g.length + f = 9 ∧ Leb.putU n = g ++ Leb.putUF f m ∧
      OwnI wr w.heap.size 5 .u8 v g ∧ Below w.heap.size w wr) (fun x _ _ => (intOf x).toNat)
  case atStart => exact ⟨9, n, [], rfl, h0, hn, rfl, rfl, OwnI.nil _ _ _ _, Below.refl _ _⟩
  case round =>
    obtain ⟨f, m, g, rfl, hm0, hm, hgf, hput, hown, hbel⟩ := hrel
    have HM := hide hm
    have HP := hide hput
    have HB := hide hbel
    have hor := or128_wrap m
    have C3 : Hid (g.length + 1 ≤ maxLen) := by show g.length + 1 ≤ maxLen; unfold maxLen; omega
    have C4 : Hid ((g.length + 1) * 1 ≤ 140737488355328) := by show (g.length + 1) * 1 ≤ 140737488355328; omega
    have C5 : Hid (∀ o : Obj, w.heap.size ≤ (wr.alloc o).heap.size) := by intro o; have := hbel.size; simp; omega
    clear hm hput hbel hn
    by_cases hlt : m < 128
    · have W8 := hide (wf8_one m (by omega) (by omega))
      go_wp2_with (at_builtin; refine wpList_append_ownI _ rfl _ _ 43 rfl w.heap.size 5 i0 .u8 1 Try.underlying43 hi hz0 hz1 hz2 _ _ rfl (hown.alloc _) ⟨wr.heap.size, 0, none⟩ 1 1 [m] rfl rfl (cell_one_new _ _ _) W8.out C3.out C4.out (C5.out _) ?_)
      · intro v' w1 hown' hgrow
        have hown2 : OwnI w1 w.heap.size 5 .u8 v' (Leb.putU n) := by
          rw [HP.out, Leb.putUF_small _ hlt]; exact hown'
        have hbel : Below w.heap.size w w1 := (HB.out.alloc HB.out.size _).grown hgrow (by have := HB.out.size; simp; omega) (fun k hk => (hown.row.lt k hk).1)
        clear hown' hgrow hown
        have H2 := hide hown2
        have H3 := hide hbel
        clear hown2 hbel
        go_wp2
        go_ret
        exact ⟨_, rfl, H2.out, H3.out⟩
    · have W8 := hide (wf8_one (m % 128 + 128) (by omega) (by omega))
      go_wp2_with (at_builtin; refine wpList_append_ownI _ rfl _ _ 43 rfl w.heap.size 5 i0 .u8 1 Try.underlying43 hi hz0 hz1 hz2 _ _ rfl (hown.alloc _) ⟨wr.heap.size, 0, none⟩ 1 1 [(m % 128 + 128)] rfl rfl (cell_one_new _ _ _) W8.out C3.out C4.out (C5.out _) ?_)
      · intro v' w1 hown' hgrow
        obtain ⟨f', rfl⟩ : ∃ f', f = f' + 1 := by
          cases f with
          | zero => have := HM.out; simp at this; omega
          | succ f' => exact ⟨f', rfl⟩
        have hown2 := hown'
        have hbel : Below w.heap.size w w1 := (HB.out.alloc HB.out.size _).grown hgrow (by have := HB.out.size; simp; omega) (fun k hk => (hown.row.lt k hk).1)
        have hput : Leb.putU n = (g ++ [m % 128 + 128]) ++ Leb.putUF f' (m / 128) := by rw [HP.out, Leb.putUF_more (by omega)]; simp
        have hm2 : m / 128 < 128 ^ (f' + 1) := by have := HM.out; rw [Leb.pow128_succ] at this; omega
        clear hown' hgrow hown
        have H2 := hide hown2
        have H3 := hide hbel
        have H4 := hide hput
        have H5 := hide hm2
        clear hown2 hbel hput hm2
        go_wp2
        go_roundw
        case rel => exact ⟨f', m / 128, g ++ [m % 128 + 128], rfl, by omega, H5.out, by simp; omega, H4.out, H2.out, H3.out⟩
        case measure => simp [intOf]; omega
end Go.Proofs.Yteacjhmbamcegab
