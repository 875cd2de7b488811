/-
  The document's rounded, root, One (genflo.py wrote it).
-/
import Derived.Test.YtgmakjmlkepfbabFloRTwo
import Derived.Test.YtgmakjmlkepfbabFloRWhole
import Derived.Test.YtgmakjmlkepfbabFloOne
set_option linter.unusedVariables false
set_option linter.unusedSimpArgs false
namespace Go.Proofs.Ytgmakjmlkepfbab
open Go.RowKit Flo

theorem up_ok {f : Ieee.Format} (g : Flo.Good f) {way : Ieee.Toward} {s : Bool} {r : Nat} (h : goesF f way s r = true) : (wholeF f r).1 = 0 ∨ (bias f ≤ (wholeF f r).1 / f.binade ∧ (wholeF f r).1 / f.binade ≤ f.fractionBits + bias f) := by
  have hB := binade_pos f
  cases kind_of g r with
  | great _ _ w => unfold goesF at h; rw [w] at h; cases way <;> simp at h
  | small _ _ _ _ w => left; rw [w]
  | mid q t k hq hk hk' hs hr ht ex u b mt w =>
    right
    rw [w]
    have hmle := Nat.mod_le t (2 ^ k)
    have e1 : r - t % 2 ^ k = f.binade * q + (t - t % 2 ^ k) := by omega
    have ed : (f.binade * q + (t - t % 2 ^ k)) / f.binade = q := by
      rw [Nat.mul_add_div hB, Nat.div_eq_of_lt (by omega), Nat.add_zero]
    simp only
    rw [e1, ed]
    omega
theorem wide_run {a : Nat} (ha : a < 2 ^ 32) (W : World) : ∃ x : Nat, ∃ W' : World, (convert 52 45 (.float .f32 a)).run Try.prog W = .ok (.float .f64 x) W' ∧ Wor 32 a x ∧ (W' = W ∨ W' = W.drew) := by
  cases hn : na 32 a with
  | false =>
    refine ⟨worthN 32 a, W, wide_num _ _ _ isSome54 Try.underlying45 a hn W, ⟨?_, fun h => (by rw [hn] at h; cases h), fun _ => rfl⟩, .inl rfl⟩
    have h1 : rung Ieee.single a ≤ Ieee.single.infRung := na_false hn
    have := prom_le h1
    have hsw := inf_lt_sw Ieee.double
    exact Ieee.double.word_lt _ (by omega)
  | true =>
    have T := tape64 (q := .nanConv .f64 a) (fun t => rfl) W
    exact ⟨_, W.drew, conv_nan _ _ _ .f32 .f64 (by decide) isSome54 Try.underlying45 a _ _ (read_nan good_single (na_true hn)) W, ⟨T.2, fun _ => T.1, fun h => (by rw [hn] at h; cases h)⟩, .inr rfl⟩
theorem narrow_run {x : Nat} (hf : Fits 32 x) (W : World) : ∃ r : Nat, ∃ W' : World, (convert 45 52 (.float .f64 x)).run Try.prog W = .ok (.float .f32 r) W' ∧ Bk 32 x r ∧ (W' = W ∨ W' = W.drew) := by
  cases hn : na 64 x with
  | false => exact ⟨back 32 x, W, narrow_num _ _ _ isSome44 Try.underlying52 x hn hf W, ⟨back_lt x, fun h => (by rw [hn] at h; cases h), fun _ => rfl⟩, .inl rfl⟩
  | true =>
    have T := tape32 (q := .nanConv .f32 x) (fun t => rfl) W
    exact ⟨_, W.drew, conv_nan _ _ _ .f64 .f32 (by decide) isSome44 Try.underlying52 x _ _ (read_nan good_double (na_true hn)) W, ⟨T.2, fun _ => T.1, fun h => (by rw [hn] at h; cases h)⟩, .inr rfl⟩

end Go.Proofs.Ytgmakjmlkepfbab
