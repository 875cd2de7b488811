/-
  The document's 'Letter' and 'bytes'.
-/
import Derived.Test.YthillphedjjhjaaDoorNamePutWalk
set_option linter.unusedVariables false
namespace Go.Proofs.YthillphedjjhjaaDoor
open Go.RowKit

theorem Letter1 (r : Int) (w : World) (h : r < 0) : Calls Tryd.prog 28 #[.int .i32 r] w fun e w' => e = .returned (.bool false) ∧ w' = w := by
  have t1 : decide (0 ≤ r) = false := by simp; omega
  go_enter Tryd.func28, Tryd.ntmps28
  go_wp2
  go_ret
  exact ⟨rfl, rfl⟩

theorem Letter2 (r : Int) (w : World) (h : 1114111 < r) : Calls Tryd.prog 28 #[.int .i32 r] w fun e w' => e = .returned (.bool false) ∧ w' = w := by
  have t1 : decide (0 ≤ r) = true := by simp; omega
  have t2 : decide (r ≤ 1114111) = false := by simp; omega
  go_enter Tryd.func28, Tryd.ntmps28
  go_wp2
  go_ret
  exact ⟨rfl, rfl⟩

theorem Letter3 (r : Int) (w : World) (h : 0 ≤ r) (h1 : r < 55296) : Calls Tryd.prog 28 #[.int .i32 r] w fun e w' => e = .returned (.bool true) ∧ w' = w := by
  have t1 : decide (0 ≤ r) = true := by simp; omega
  have t2 : decide (r ≤ 1114111) = true := by simp; omega
  have t3 : decide (r < 55296) = true := by simp; omega
  go_enter Tryd.func28, Tryd.ntmps28
  go_wp2
  go_ret
  exact ⟨rfl, rfl⟩

theorem Letter4 (r : Int) (w : World) (h : 57343 < r) (h1 : r ≤ 1114111) : Calls Tryd.prog 28 #[.int .i32 r] w fun e w' => e = .returned (.bool true) ∧ w' = w := by
  have t1 : decide (0 ≤ r) = true := by simp; omega
  have t2 : decide (r ≤ 1114111) = true := by simp; omega
  have t3 : decide (r < 55296) = false := by simp; omega
  have t4 : decide (57343 < r) = true := by simp; omega
  go_enter Tryd.func28, Tryd.ntmps28
  go_wp2
  go_ret
  exact ⟨rfl, rfl⟩

theorem Letter5 (r : Int) (w : World) (h : 55296 ≤ r) (h1 : r ≤ 57343) : Calls Tryd.prog 28 #[.int .i32 r] w fun e w' => e = .returned (.bool false) ∧ w' = w := by
  have t1 : decide (0 ≤ r) = true := by simp; omega
  have t2 : decide (r ≤ 1114111) = true := by simp; omega
  have t3 : decide (r < 55296) = false := by simp; omega
  have t4 : decide (57343 < r) = false := by simp; omega
  go_enter Tryd.func28, Tryd.ntmps28
  go_wp2
  go_ret
  exact ⟨rfl, rfl⟩

theorem Letter_calls (r : Int) (w : World) : Calls Tryd.prog 28 #[.int .i32 r] w fun e w' => e = .returned (.bool (Utf.letter r)) ∧ w' = w := by
  cases hr : Utf.letter r with
  | true =>
    have := letter_true hr
    by_cases h : r < 55296
    · exact Letter3 r w (by omega) h
    · exact Letter4 r w (by omega) (by omega)
  | false =>
    have := letter_false hr
    by_cases h : r < 0
    · exact Letter1 r w h
    · by_cases h2 : 1114111 < r
      · exact Letter2 r w h2
      · exact Letter5 r w (by omega) (by omega)

/-- The slice that the document's 'bytes' makes, and its world. -/
def BytesPost (l : List Int) (w : World) (e : Ending) (w' : World) : Prop :=
  e = .returned (.slice (some ⟨w.heap.size, 0, none⟩) l.length l.length) ∧ w' = w.alloc (.cells (l.map (Value.int .u8)).toArray 5)

theorem bytes1 (r : Int) (w : World) (h0 : 0 ≤ r) (h1 : r < 128) : Calls Tryd.prog 29 #[.int .i32 r] w fun e w' => BytesPost [r] w e w' := by
  have t1 : decide (r < 128) = true := by simp; omega
  go_enter Tryd.func29, Tryd.ntmps29
  go_wp2
  go_ret
  exact ⟨rfl, rfl⟩

theorem bytes2 (r : Int) (w : World) (h0 : 128 ≤ r) (h1 : r < 2048) : Calls Tryd.prog 29 #[.int .i32 r] w fun e w' => BytesPost [192 + r / 64, 128 + r % 64] w e w' := by
  have t1 : decide (r < 128) = false := by simp; omega
  have t2 : decide (r < 2048) = true := by simp; omega
  go_enter Tryd.func29, Tryd.ntmps29
  go_wp2
  go_ret
  exact ⟨rfl, rfl⟩

theorem bytes3 (r : Int) (w : World) (h0 : 2048 ≤ r) (h1 : r < 65536) : Calls Tryd.prog 29 #[.int .i32 r] w fun e w' => BytesPost [224 + r / 4096, 128 + r / 64 % 64, 128 + r % 64] w e w' := by
  have t1 : decide (r < 128) = false := by simp; omega
  have t2 : decide (r < 2048) = false := by simp; omega
  have t3 : decide (r < 65536) = true := by simp; omega
  go_enter Tryd.func29, Tryd.ntmps29
  go_wp2
  go_ret
  exact ⟨rfl, rfl⟩

theorem bytes4 (r : Int) (w : World) (h0 : 65536 ≤ r) (h1 : r ≤ 1114111) : Calls Tryd.prog 29 #[.int .i32 r] w fun e w' => BytesPost [240 + r / 262144, 128 + r / 4096 % 64, 128 + r / 64 % 64, 128 + r % 64] w e w' := by
  have t1 : decide (r < 128) = false := by simp; omega
  have t2 : decide (r < 2048) = false := by simp; omega
  have t3 : decide (r < 65536) = false := by simp; omega
  go_enter Tryd.func29, Tryd.ntmps29
  go_wp2
  go_ret
  exact ⟨rfl, rfl⟩

theorem bytes_calls (r : Int) (w : World) (h0 : 0 ≤ r) (h1 : r ≤ 1114111) : Calls Tryd.prog 29 #[.int .i32 r] w fun e w' => BytesPost (Utf.enc r) w e w' := by
  unfold Utf.enc
  by_cases g1 : r < 128
  · rw [if_pos g1]; exact bytes1 r w h0 g1
  · rw [if_neg g1]
    by_cases g2 : r < 2048
    · rw [if_pos g2]; exact bytes2 r w (by omega) g2
    · rw [if_neg g2]
      by_cases g3 : r < 65536
      · rw [if_pos g3]; exact bytes3 r w (by omega) g3
      · rw [if_neg g3]; exact bytes4 r w (by omega) h1

end Go.Proofs.YthillphedjjhjaaDoor
