/-
  The walks of the document's 'PutU' and 'PutS'.
-/
import Derived.Test.YthillphedjjhjabDoorLebPuts
namespace Go.Proofs.YthillphedjjhjabDoor
open Go.RowKit
set_option linter.unusedVariables false

theorem own_slice' {w : World} {base : Nat} {v : Value} {l : List Int} (h : w.ownsRow base 5 1 v l.length (l.map (Value.int .u8))) (hl : 1 ≤ l.length) :
    ∃ g cap, v = .slice (some ⟨g, 0, none⟩) l.length cap ∧ base ≤ g ∧ l.length ≤ cap := by
  obtain ⟨_, ⟨rfl, h0⟩ | ⟨g, cap, cur, rfl, hbase, hblk, hn, hm, hsz, htake⟩⟩ := h
  · omega
  · exact ⟨g, cap, rfl, hbase, hn⟩

/-- What the document's short forms are put as. -/
def PutPost (l : List Int) (w : World) (e : Ending) (w' : World) : Prop :=
  ∃ v, e = .returned v ∧ w'.ownsRow w.heap.size 5 1 v l.length (l.map (Value.int .u8)) ∧ Below w.heap.size w w'

theorem neg_mod (n : Int) : wrap64 (n.tmod 128 + 128) = n.tmod 128 + 128 ∧ (n.tmod 128 + 128).tmod 128 = n % 128 := by
  have h := Int.tmod_add_mul_tdiv n 128
  have h1 := Int.lt_tmod_of_pos n (b := 128) (by decide)
  have h2 := Int.tmod_lt_of_pos n (b := 128) (by decide)
  generalize n.tmod 128 = r at *
  generalize n.tdiv 128 = q at *
  refine ⟨by unfold wrap64; omega, ?_⟩
  rw [Int.tmod_eq_emod_of_nonneg (by omega)]
  omega

theorem neg_byte (n : Int) (h1 : n < 0) : ((wrap64 (n.tmod 128 + 128)).tmod 128 + 128) % 256 = n % 128 + 128 := by
  rw [(neg_mod n).1, (neg_mod n).2]; omega

theorem neg_arg (n : Int) (h0 : -9223372036854775808 ≤ n) (h1 : n < 0) : wrap64 ((wrap64 (n - (wrap64 (n.tmod 128 + 128)).tmod 128)).tdiv 128) = n / 128 := by
  rw [(neg_mod n).1, (neg_mod n).2]
  have e : wrap64 (n - n % 128) = 128 * (n / 128) := by unfold wrap64; omega
  rw [e, Int.mul_tdiv_cancel_left _ (by decide)]
  unfold wrap64; omega

end Go.Proofs.YthillphedjjhjabDoor
