/-
  The walks of the laws 'LebBack' and 'LebBackSigned'.
-/
import Derived.Test.YteacjhmbamcegabLebPuts
import Derived.Laws.AppendOwnNone
namespace Go.Proofs.Yteacjhmbamcegab
open Go.RowKit
set_option linter.unusedVariables false

/-- Bytes appended to a row of the call's own, from whatever slice. -/
theorem append_row {w : World} {ops : Array Oper} {rest : List Oper} {o : Oper} {a : Act} {Q : Exit → Act → World → Prop} (hgd : o.guard = none) (s x : Operand)
    (ho : o.op = .call { callee := .builtin .append, args := #[s, x], argTypes := #[43, 43] })
    (base : Nat) (v : Value) (n : Nat) (xs : List Value) (hs : a.eval s = v) (hown : w.ownsRow base 5 1 v n xs)
    (ad : Option Addr) (m c : Nat) (l : List Int) (hx : a.eval x = .slice ad m c) (H : Row w ad m c l) (h63 : n + m ≤ 4194304) (hbase : base ≤ w.heap.size)
    (h : ∀ v' w', w'.ownsRow base 5 1 v' (n + m) (xs ++ l.map (Value.int .u8)) → w.grownBy w' v.ownBlock → wpList Try.prog ops Q rest (a.put o.dst v') w') :
    wpList Try.prog ops Q (o :: rest) a w := by
  obtain ⟨i0, hi, hz0, hz1, hz2⟩ := info_parts Try.infoByte
  obtain ⟨hl, hcap, hcm, hb, ha, hc⟩ := H
  cases ad with
  | none =>
    obtain rfl := ha rfl
    obtain rfl : m = 0 := by omega
    have hl0 : l = [] := List.eq_nil_of_length_eq_zero hl
    subst hl0
    refine wpList_append_own_none hgd s x 43 ho base 5 i0 1 Try.underlying43 hi v n xs hs hown hx ?_
    exact h v w (by simpa using hown) (World.grownBy.refl _ _)
  | some ad =>
    refine wpList_append_own w hgd s x 43 ho base 5 i0 (.int .u8 0) 1 1 Try.underlying43 hi hz0 hz1 hz2 rfl (by decide) v n xs hs hown ad m c (l.map (Value.int .u8)) hx (by simp [hl]) ?_ (ints_oneCell .u8 l) (by unfold maxLen; omega) (by omega) hbase (fun v' w' h1 h2 _ => h v' w' h1 h2)
    intro j u hj
    rw [List.getElem?_map] at hj
    by_cases hjm : j < m
    · obtain ⟨b, off, e, hcell⟩ := hc (by omega)
      simp only [Option.some.injEq] at e
      subst e
      have hg := hcell j hjm
      rw [List.getElem?_eq_getElem (by omega)] at hj hg
      simp only [Option.map_some, Option.some.injEq] at hj
      subst hj
      simp only [Option.getD_some] at hg
      by_cases h0 : j = 0
      · subst h0; simpa [Addr.add] using hg
      · simpa [Addr.add, h0] using hg
    · rw [List.getElem?_eq_none (by omega)] at hj
      simp at hj

theorem bytes_append {l r : List Int} (hl : Leb.Bytes l) (hr : Leb.Bytes r) : Leb.Bytes (l ++ r) := by
  intro i
  by_cases h : i < l.length
  · rw [List.getElem?_append_left h]; exact hl i
  · rw [List.getElem?_append_right (by omega)]; exact hr _

theorem own_row {w : World} {base : Nat} {v : Value} {n : Nat} {l : List Int} (hn : l.length = n) (h : w.ownsRow base 5 1 v n (l.map (Value.int .u8))) (hl : 1 ≤ n) (hb : Leb.Bytes l) :
    ∃ g cap, v = .slice (some ⟨g, 0, none⟩) n cap ∧ base ≤ g ∧ Row w (some ⟨g, 0, none⟩) n cap l := by
  subst hn
  exact own_slice h hl hb

theorem readU_put (l r : List Int) (N wd : Int) (h1 : 1 ≤ wd) (h2 : wd ≤ 64) (h0 : 0 ≤ N) (hN : N < 2 ^ wd.toNat) :
    Leb.readU (l ++ (Leb.putU N ++ r)) l.length wd = (N, (l.length : Int) + (Leb.putU N).length, 0) ∧ ((Leb.putU N).length : Int) ≤ (wd + 6) / 7 := by
  have h64 := Leb.pow_mono (a := wd.toNat) (b := 64) (by omega)
  have e64 : (2 : Int) ^ 64 = 18446744073709551616 := by decide
  have h10 : N < 128 ^ (9 + 1) := Int.lt_trans (show N < 18446744073709551616 by omega) (by decide)
  have hlen := putU_len N
  have hleast : (Leb.putU N).length ≤ ((wd + 6) / 7).toNat - 1 + 1 := by
    refine Leb.putUF_least 9 N _ ?_ h0
    rw [← Leb.pow7]
    exact Int.lt_of_lt_of_le hN (Leb.pow_mono (by omega))
  obtain ⟨hf, hv⟩ := Leb.putUF_fin 9 N h0 h10 r (m := ((wd + 6) / 7).toNat) (by show (Leb.putU N).length ≤ _; omega)
  change Leb.fin (Leb.putU N ++ r) _ = some ((Leb.putU N).length - 1) at hf
  change Leb.val (Leb.putU N ++ r) (Leb.putU N).length = N at hv
  have hd : (l ++ (Leb.putU N ++ r)).drop l.length = Leb.putU N ++ r := by simp
  have ok : Leb.OkU (l ++ (Leb.putU N ++ r)) l.length wd l.length ((Leb.putU N).length - 1) := by
    refine ⟨rfl, h1, h2, by simp, by rw [hd]; exact hf, ?_⟩
    rw [hd, show (Leb.putU N).length - 1 + 1 = (Leb.putU N).length by omega, hv]; exact hN
  rw [Leb.readU_of ok, hd, show (Leb.putU N).length - 1 + 1 = (Leb.putU N).length by omega, hv]
  refine ⟨?_, by omega⟩
  simp only [Prod.mk.injEq, true_and, and_true]
  omega

theorem readS_put (l r : List Int) (N wd : Int) (h1 : 1 ≤ wd) (h2 : wd ≤ 64) (h0 : -2 ^ (wd - 1).toNat ≤ N) (hN : N < 2 ^ (wd - 1).toNat) :
    Leb.readS (l ++ (Leb.putS N ++ r)) l.length wd = (N, (l.length : Int) + (Leb.putS N).length, 0) ∧ ((Leb.putS N).length : Int) ≤ (wd + 6) / 7 := by
  have h63 := pow_le_64 (k := (wd - 1).toNat) (by omega)
  have e69 : (64 : Int) * 128 ^ 9 = 590295810358705651712 := by decide
  have hlen := putS_len N
  have hpow : (2 : Int) ^ (wd - 1).toNat ≤ 64 * 128 ^ (((wd + 6) / 7).toNat - 1) := by
    rw [← Leb.pow7, show (64 : Int) = 2 ^ 6 by decide, ← Int.pow_add]
    exact Leb.pow_mono (by omega)
  have hleast : (Leb.putS N).length ≤ ((wd + 6) / 7).toNat - 1 + 1 := Leb.putSF_least 9 N _ (by omega) (by omega)
  obtain ⟨hf, hv⟩ := Leb.putSF_fin 9 N (by omega) (by omega) r (m := ((wd + 6) / 7).toNat) (by show (Leb.putS N).length ≤ _; omega)
  change Leb.fin (Leb.putS N ++ r) _ = some ((Leb.putS N).length - 1) at hf
  change Leb.sval (Leb.putS N ++ r) ((Leb.putS N).length - 1) = N at hv
  have hd : (l ++ (Leb.putS N ++ r)).drop l.length = Leb.putS N ++ r := by simp
  have ok : Leb.OkS (l ++ (Leb.putS N ++ r)) l.length wd l.length ((Leb.putS N).length - 1) := by
    refine ⟨rfl, h1, h2, by simp, by rw [hd]; exact hf, ?_⟩
    rw [hd, hv]; exact ⟨h0, hN⟩
  rw [Leb.readS_of ok, hd, hv]
  refine ⟨?_, by omega⟩
  simp only [Prod.mk.injEq, true_and, and_true]
  omega

end Go.Proofs.Yteacjhmbamcegab
