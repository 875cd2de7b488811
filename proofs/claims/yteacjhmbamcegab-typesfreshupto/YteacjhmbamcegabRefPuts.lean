/-
  The walks of the document's 'PutU' and 'PutS'.
-/
import Derived.Test.YteacjhmbamcegabLebPuts
namespace Go.Proofs.Yteacjhmbamcegab
open Go.RowKit
set_option linter.unusedVariables false

theorem own_slice' {w : World} {base : Nat} {v : Value} {l : List Int} (h : w.ownsRow base 5 1 v l.length (l.map (Value.int .u8))) (hl : 1 ≤ l.length) :
    ∃ g cap, v = .slice (some ⟨g, 0, none⟩) l.length cap ∧ base ≤ g ∧ l.length ≤ cap := by
  obtain ⟨_, ⟨rfl, h0⟩ | ⟨g, cap, cur, rfl, hbase, hblk, hn, hm, hsz, htake⟩⟩ := h
  · omega
  · exact ⟨g, cap, rfl, hbase, hn⟩

/-- What the document's short forms are put as. -/
def PutPost (l : List Int) (w : World) (e : Ending) (w' : World) : Prop :=
  ∃ v, e = .returned v ∧ w'.ownsRow w.heap.size 5 1 v l.length (l.map (Value.int .u8)) ∧ Below w.heap.size w w'

set_option maxHeartbeats 400000 in
theorem refPutU_small (n : Int) (w : World) (h0 : 0 ≤ n) (h1 : n < 128) :
    Calls Try.prog 31 #[.int .u64 n] w fun e w' => PutPost [n] w e w' := by
  go_enter Try.func31, Try.ntmps31
  go_wp2_with fail
  go_ret
  exact ⟨_, rfl, World.ownsRow_lit _ _ 1 (Nat.le_refl _) (by decide) rfl, (Below.refl _ _).alloc (Nat.le_refl _) _⟩

set_option maxHeartbeats 400000 in
theorem refPutU_more (n : Int) (w : World) (P : List Int) (h0 : 128 ≤ n) (h1 : n ≤ 18446744073709551615) (hP1 : 1 ≤ P.length) (hP : P.length ≤ 100)
    (ih : ∀ w : World, Calls Try.prog 31 #[.int .u64 (n / 128)] w fun e w' => PutPost P w e w') :
    Calls Try.prog 31 #[.int .u64 n] w fun e w' => PutPost ((n % 128 + 128) :: P) w e w' := by
  obtain ⟨i0, hi, hz0, hz1, hz2⟩ := info_parts Try.infoByte
  have IH := hide ih
  clear ih
  go_enter Try.func31, Try.ntmps31
  go_wp2_with fail
  refine (IH.out _).mono ?_
  rintro e w2 ⟨v, rfl, hown2, hbel2⟩
  obtain ⟨g, c, rfl, hg, hrow⟩ := own_slice' hown2 hP1
  have hown1 : w2.ownsRow w.heap.size 5 1 (.slice (some ⟨w.heap.size, 0, none⟩) 1 1) 1 [Value.int .u8 (n % 128 + 128)] :=
    own_below (World.ownsRow_lit (base := w.heap.size) (e := 5) (size := 1) w #[Value.int .u8 (n % 128 + 128)] 1 (Nat.le_refl _) (by decide) rfl) hbel2 (fun k hk => by simp [Value.ownBlock] at hk; subst hk; simp)
  have hsz : w.heap.size ≤ w2.heap.size := by have := hbel2.size; simp at this; omega
  have hnews : ∀ j u, (P.map (Value.int .u8))[j]? = some u → w2.cell? ((⟨g, 0, none⟩ : Addr).add j) = some u := hown2.cells rfl
  have h1c := ints_oneCell .u8 P
  have hbel1 : Below w.heap.size w w2 := ((Below.refl _ _).alloc (Nat.le_refl _) _).trans (hbel2.mono (by simp))
  have N1 := hide hnews
  have N2 := hide h1c
  have N3 : Hid (1 + P.length ≤ maxLen) := by show 1 + P.length ≤ maxLen; unfold maxLen; omega
  have N4 : Hid ((1 + P.length) * 1 ≤ 140737488355328) := by show (1 + P.length) * 1 ≤ 140737488355328; omega
  have N5 := hide hown1
  have N6 := hide hbel1
  clear hnews h1c hown1 hbel1 hown2 hbel2 hrow
  go_wp2_with (at_builtin; go_must (refine wpList_append_own _ rfl _ _ 43 rfl w.heap.size 5 i0 (.int .u8 0) 1 1 Try.underlying43 hi hz0 hz1 hz2 rfl (by decide) _ _ _ rfl N5.out ⟨g, 0, none⟩ P.length c (P.map (Value.int .u8)) rfl (by simp) N1.out N2.out N3.out N4.out hsz ?_))
  intro v' w3 hown3 hgrow _
  have hfin : PutPost ((n % 128 + 128) :: P) w (.returned v') w3 :=
    ⟨v', rfl, by simpa [Nat.add_comm] using hown3, N6.out.grown hgrow hsz (fun k hk => by simp [Value.ownBlock] at hk; omega)⟩
  have HF := hide hfin
  clear hown3 hgrow hfin
  go_wp2
  go_ret
  exact HF.out

theorem refPutU_calls (f : Nat) : ∀ (n : Int) (w : World), 0 ≤ n → n < 128 ^ (f + 1) → n ≤ 18446744073709551615 → f ≤ 20 →
    Calls Try.prog 31 #[.int .u64 n] w fun e w' => PutPost (Leb.putUF f n) w e w' := by
  induction f with
  | zero => intro n w h0 h1 _ _; exact refPutU_small n w h0 (by simpa using h1)
  | succ f ih =>
    intro n w h0 h1 h2 h3
    by_cases hn : n < 128
    · rw [Leb.putUF_small _ hn]; exact refPutU_small n w h0 hn
    · rw [Leb.putUF_more (by omega)]
      have hl := Leb.putUF_length f (n / 128)
      exact refPutU_more n w _ (by omega) h2 hl.1 (by omega) (fun w => ih (n / 128) w (by omega) (by rw [Leb.pow128_succ] at h1; omega) (by omega) (by omega))

theorem neg_mod (n : Int) : wrap64 (n.tmod 128 + 128) = n.tmod 128 + 128 ∧ (n.tmod 128 + 128).tmod 128 = n % 128 := by
  have h := Int.tmod_add_mul_tdiv n 128
  have h1 := Int.lt_tmod_of_pos n (b := 128) (by decide)
  have h2 := Int.tmod_lt_of_pos n (b := 128) (by decide)
  generalize n.tmod 128 = r at *
  generalize n.tdiv 128 = q at *
  refine ⟨by unfold wrap64; omega, ?_⟩
  rw [Int.tmod_eq_emod_of_nonneg (by omega)]
  omega

theorem neg_byte (n : Int) (h1 : n < 0) : ((wrap64 (n.tmod 128 + 128)).tmod 128 + 128) % 256 = n % 128 + 128 := by
  rw [(neg_mod n).1, (neg_mod n).2]; omega

theorem neg_arg (n : Int) (h0 : -9223372036854775808 ≤ n) (h1 : n < 0) : wrap64 ((wrap64 (n - (wrap64 (n.tmod 128 + 128)).tmod 128)).tdiv 128) = n / 128 := by
  rw [(neg_mod n).1, (neg_mod n).2]
  have e : wrap64 (n - n % 128) = 128 * (n / 128) := by unfold wrap64; omega
  rw [e, Int.mul_tdiv_cancel_left _ (by decide)]
  unfold wrap64; omega

end Go.Proofs.Yteacjhmbamcegab
