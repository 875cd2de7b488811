/-
  What values, limits, tables' and functions' types are, as they are handed in.
-/
import Derived.Test.YteacjhmbamcegabRows
import Derived.Test.YteacjhmbamcegabTypSame
import Derived.Test.YteacjhmbamcegabLebWorks
import Derived.ProofKit
import Derived.OpenShut
set_option linter.unusedVariables false
namespace Go.Proofs.Yteacjhmbamcegab
open Go.ChangeShapes Go.WideShapes Go.ChangeAt Go.RowKit Typ

theorem bulk_one {H : Type} (d : DataW H) : 1 ≤ Rows.uptoBulk d := by
  cases d with
  | lit l => cases l <;> simp [Rows.uptoBulk]
  | nil => simp [Rows.uptoBulk]
  | ptr d => simp [Rows.uptoBulk]
  | slice elems spare => simp [Rows.uptoBulk]
  | agg parts => simp [Rows.uptoBulk]
  | iface t d => simp [Rows.uptoBulk]
  | map entries => simp [Rows.uptoBulk]
  | held h => simp [Rows.uptoBulk]
theorem bulk_length {H : Type} (l : List (DataW H)) : l.length ≤ Rows.uptoBulkAll l := by
  induction l with
  | nil => simp [Rows.uptoBulkAll]
  | cons x r ih => have := bulk_one x; simp only [Rows.uptoBulkAll, List.length_cons]; omega
theorem bulk_slice {H : Type} (elems spare : List (DataW H)) : elems.length + spare.length + 1 ≤ Rows.uptoBulk (.slice elems spare) := by
  have h1 := bulk_length elems
  have h2 := bulk_length spare
  simp only [Rows.uptoBulk]
  omega

theorem u32_wf {n : Int} (h : (Lit.int .u32 n).wf = true) : 0 ≤ n ∧ n ≤ 4294967295 := by
  simp [Lit.wf, IntKind.min, IntKind.max, IntKind.bits, IntKind.signed] at h
  omega

section
variable {H : Type} {enc : TypeId × Value → H} {W : World} {base b2 : Nat} {sp : Nat → Bool} {held : Bool}

theorem c_u8 : Try.prog.cellsOf 22 = 1 := by kernel_rfl
theorem c_u32 : Try.prog.cellsOf 23 = 1 := by kernel_rfl
theorem c_u64 : Try.prog.cellsOf 36 = 1 := by kernel_rfl
theorem c_bool : Try.prog.cellsOf 4 = 1 := by kernel_rfl
theorem c_lim : Try.prog.cellsOf 25 = 3 := by kernel_rfl
theorem c_tab : Try.prog.cellsOf 27 = 4 := by kernel_rfl
theorem c_val : Try.prog.cellsOf 38 = 3 := by kernel_rfl
theorem c_func : Try.prog.cellsOf 33 = 2 := by kernel_rfl
theorem c_sl : Try.prog.cellsOf 31 = 1 := by kernel_rfl

theorem trod_three {t : TypeId} {f0 f1 f2 : Field} {fuel : Nat} {cs : List Value} {x : DataW H × List MemPlace} (ht : Try.prog.underlying t = some (.struct #[f0, f1, f2])) (h : DataW.trod enc Try.prog W b2 sp held fuel t cs = some x) :
    ∃ y0 y1 y2 n, DataW.trod enc Try.prog W b2 sp held n f0.type ((cs.drop f0.offset).take (Try.prog.cellsOf f0.type)) = some y0 ∧ DataW.trod enc Try.prog W b2 sp held n f1.type ((cs.drop f1.offset).take (Try.prog.cellsOf f1.type)) = some y1 ∧
      DataW.trod enc Try.prog W b2 sp held n f2.type ((cs.drop f2.offset).take (Try.prog.cellsOf f2.type)) = some y2 := by
  obtain ⟨xs, n, _, _, _, hlen, hf⟩ := DataW.trod_struct ht h
  match xs, hlen with
  | [y0, y1, y2], _ => exact ⟨y0, y1, y2, n, by simpa using hf 0 f0 rfl, by simpa using hf 1 f1 rfl, by simpa using hf 2 f2 rfl⟩

theorem lim_cells {fuel : Nat} {c0 c1 c2 : Value} {x : DataW H × List MemPlace} (h : DataW.trod enc Try.prog W b2 sp held fuel 25 [c0, c1, c2] = some x) :
    ∃ n m b, c0 = .int .u32 n ∧ c1 = .int .u32 m ∧ c2 = .bool b ∧ (0 ≤ n ∧ n ≤ 4294967295) ∧ (0 ≤ m ∧ m ≤ 4294967295) := by
  obtain ⟨y0, y1, y2, k, h0, h1, h2⟩ := trod_three Try.underlying25 h
  simp only [c_u32, c_bool] at h0 h1 h2
  obtain ⟨n, e0, _, w0⟩ := DataW.trod_int Try.underlying23 h0
  obtain ⟨m, e1, _, w1⟩ := DataW.trod_int Try.underlying23 h1
  obtain ⟨b, e2, _⟩ := DataW.trod_bool Try.underlying4 h2
  simp at e0 e1 e2
  exact ⟨n, m, b, e0, e1, e2, u32_wf w0, u32_wf w1⟩

theorem lim_arg {v : Value} {d : DataW H} {p : List MemPlace} (hk : Value.okWide Try.prog W .any base 25 v) (h : DataW.Trod enc Try.prog W b2 sp held 25 v d p) :
    ∃ n x b, v = limV n x b ∧ (0 ≤ n ∧ n ≤ 4294967295) ∧ (0 ≤ x ∧ x ≤ 4294967295) := by
  obtain ⟨cs, rfl, hs⟩ := okWide_struct Try.underlying25 hk
  rw [c_lim] at hs
  obtain ⟨l⟩ := cs
  match l, hs with
  | [c0, c1, c2], _ =>
    obtain ⟨fuel, hf⟩ := h
    obtain ⟨n, m, b, rfl, rfl, rfl, h0, h1⟩ := lim_cells hf
    exact ⟨n, m, b, rfl, h0, h1⟩

theorem tab_arg {v : Value} {d : DataW H} {p : List MemPlace} (hk : Value.okWide Try.prog W .any base 27 v) (h : DataW.Trod enc Try.prog W b2 sp held 27 v d p) :
    ∃ t n x b, v = tabV t n x b ∧ (0 ≤ n ∧ n ≤ 4294967295) ∧ (0 ≤ x ∧ x ≤ 4294967295) := by
  obtain ⟨cs, rfl, hs⟩ := okWide_struct Try.underlying27 hk
  rw [c_tab] at hs
  obtain ⟨l⟩ := cs
  match l, hs with
  | [c, c0, c1, c2], _ =>
    obtain ⟨fuel, hf⟩ := h
    obtain ⟨y0, y1, n, _, _, h0, h1⟩ := trod_struct2 Try.underlying27 hf
    simp only [c_u8, c_lim] at h0 h1
    obtain ⟨t, e0, _, _⟩ := DataW.trod_int Try.underlying22 h0
    obtain ⟨n, m, b, rfl, rfl, rfl, g0, g1⟩ := lim_cells h1
    simp [Value.cells] at e0
    exact ⟨t, n, m, b, by rw [e0]; rfl, g0, g1⟩

theorem val_arg {v : Value} {d : DataW H} {p : List MemPlace} (hk : Value.okWide Try.prog W .any base 38 v) (h : DataW.Trod enc Try.prog W b2 sp held 38 v d p) :
    ∃ t lo hi, v = valV t lo hi := by
  obtain ⟨cs, rfl, hs⟩ := okWide_struct Try.underlying38 hk
  rw [c_val] at hs
  obtain ⟨l⟩ := cs
  match l, hs with
  | [c0, c1, c2], _ =>
    obtain ⟨fuel, hf⟩ := h
    obtain ⟨y0, y1, y2, k, h0, h1, h2⟩ := trod_three Try.underlying38 hf
    simp only [c_u8, c_u64] at h0 h1 h2
    obtain ⟨t, e0, _, _⟩ := DataW.trod_int Try.underlying22 h0
    obtain ⟨lo, e1, _, _⟩ := DataW.trod_int Try.underlying36 h1
    obtain ⟨hi, e2, _, _⟩ := DataW.trod_int Try.underlying36 h2
    simp [Value.cells] at e0 e1 e2
    exact ⟨t, lo, hi, by rw [e0, e1, e2]; rfl⟩

theorem list_arg {fuel : Nat} {c : Value} {x : DataW H × List MemPlace} (h : DataW.trod enc Try.prog W b2 sp held fuel 31 [c] = some x) :
    ∃ l, RowT W c l ∧ Leb.Bytes l ∧ l.length ≤ Rows.uptoBulk x.1 := by
  rcases open_ints Try.underlying31 Try.underlying22 c_u8 h with ⟨hcs, _⟩ | ⟨a, len, cap, zs, hcs, _, hl, hm, hz, hx, hcell, hwf⟩
  · simp at hcs
    subst hcs
    exact ⟨[], RowT.nil W, fun i => by simp, Nat.zero_le _⟩
  · simp at hcs
    subst hcs
    have hzl : len ≤ zs.length := by split at hz <;> omega
    have htl : (zs.take len).length = len := by simp; omega
    refine ⟨zs.take len, ⟨some a, cap, by rw [htl], by omega, hm, fun h0 => ?_⟩, ?_, ?_⟩
    · rw [htl] at h0 ⊢
      obtain ⟨b, off, spot⟩ := a
      have hc0 := hcell 0 (by omega)
      have hspot : spot = none := by simpa [Addr.add] using World.cell?_spot hc0
      subst hspot
      refine ⟨b, off, rfl, fun i hi => ?_⟩
      have hc := hcell i (by omega)
      rw [List.getElem?_take_of_lt hi]
      by_cases h0 : i = 0
      · subst h0; simpa [Addr.add] using hc
      · simpa [Addr.add, h0] using hc
    · intro i
      by_cases hi : i < len
      · have hiz : i < zs.length := by omega
        have hw := hwf zs[i] (List.getElem_mem hiz)
        rw [List.getElem?_take_of_lt hi, List.getElem?_eq_getElem hiz]
        simp [Lit.wf, IntKind.min, IntKind.max, IntKind.bits, IntKind.signed] at hw
        simp
        omega
      · rw [List.getElem?_eq_none (by simp; omega)]; simp
    · rw [hx]
      have hb := bulk_slice (H := H) (lits .u8 (zs.take len)) (lits .u8 (zs.drop len))
      have : (lits (H := H) .u8 (zs.take len)).length = (zs.take len).length := by simp [lits]
      simp only
      omega

theorem func_arg {v : Value} {d : DataW H} {p : List MemPlace} (hk : Value.okWide Try.prog W .any base 33 v) (h : DataW.Trod enc Try.prog W b2 sp held 33 v d p) :
    ∃ v1 v2 l1 l2, v = funcV v1 v2 ∧ RowT W v1 l1 ∧ RowT W v2 l2 ∧ Leb.Bytes l1 ∧ Leb.Bytes l2 ∧ l1.length + l2.length ≤ Rows.uptoBulk d := by
  obtain ⟨cs, rfl, hs⟩ := okWide_struct Try.underlying33 hk
  rw [c_func] at hs
  obtain ⟨l⟩ := cs
  match l, hs with
  | [c0, c1], _ =>
    obtain ⟨fuel, hf⟩ := h
    obtain ⟨y0, y1, n, hxy, _, h0, h1⟩ := trod_struct2 Try.underlying33 hf
    simp only [c_sl] at h0 h1
    obtain ⟨l1, r1, g1, b1⟩ := list_arg h0
    obtain ⟨l2, r2, g2, b2⟩ := list_arg h1
    refine ⟨c0, c1, l1, l2, rfl, r1, r2, g1, g2, ?_⟩
    have hd := congrArg Prod.fst hxy
    simp only at hd
    rw [hd]
    simp only [Rows.uptoBulk, Rows.uptoBulkAll]
    omega

theorem row_arg {v : Value} {d : DataW H} {p : List MemPlace} (h : DataW.Trod enc Try.prog W b2 sp held 43 v d p) (hk : Value.okWide Try.prog W .any base 43 v) :
    ∃ a cap l, v = .slice a l.length cap ∧ Row W a l.length cap l ∧ l.length ≤ Rows.uptoBulk d := by
  obtain ⟨a, len, cap, rfl⟩ := okWide_slice Try.underlying43 hk
  obtain ⟨fuel, hf⟩ := h
  rcases open_ints Try.underlying43 Try.underlying5 (by kernel_rfl) hf with ⟨hcs, _⟩ | ⟨x, ln, c, zs, hcs, _, hl, hm, hz, hx, hcell, hwz⟩
  · simp [Value.cells] at hcs
    obtain ⟨rfl, rfl, rfl⟩ := hcs
    exact ⟨none, 0, [], rfl, ⟨rfl, Nat.le_refl _, Nat.zero_le _, fun i => by simp, fun _ => rfl, fun h => absurd h (by decide)⟩, Nat.zero_le _⟩
  · simp [Value.cells] at hcs
    obtain ⟨rfl, rfl, rfl⟩ := hcs
    have hzl : len ≤ zs.length := by split at hz <;> omega
    have htl : (zs.take len).length = len := by simp; omega
    refine ⟨some x, cap, zs.take len, by rw [htl], ?_, ?_⟩
    · rw [htl]
      refine ⟨htl, hl, hm, ?_, (fun h => by cases h), fun h0 => ?_⟩
      · intro i
        by_cases hi : i < len
        · have hiz : i < zs.length := by omega
          have hw := hwz zs[i] (List.getElem_mem hiz)
          rw [List.getElem?_take_of_lt hi, List.getElem?_eq_getElem hiz]
          simp [Lit.wf, IntKind.min, IntKind.max, IntKind.bits, IntKind.signed] at hw
          simp
          omega
        · rw [List.getElem?_eq_none (by simp; omega)]; simp
      · obtain ⟨b, off, spot⟩ := x
        have hc0 := hcell 0 (by omega)
        have hspot : spot = none := by simpa [Addr.add] using World.cell?_spot hc0
        subst hspot
        refine ⟨b, off, rfl, fun i hi => ?_⟩
        have hc := hcell i (by omega)
        rw [List.getElem?_take_of_lt hi]
        by_cases h0 : i = 0
        · subst h0; simpa [Addr.add] using hc
        · simpa [Addr.add, h0] using hc
    · have hd := congrArg Prod.fst hx
      simp only at hd
      rw [hd]
      have hb := bulk_slice (H := H) (lits .u8 (zs.take len)) (lits .u8 (zs.drop len))
      have : (lits (H := H) .u8 (zs.take len)).length = (zs.take len).length := by simp [lits]
      omega
end
end Go.Proofs.Yteacjhmbamcegab
