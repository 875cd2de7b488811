/-
  What a vector and sixteen bytes are, as they are handed in.
-/
import Derived.Test.YtoihfmammmkloaaDoorPkLan
import Derived.ProofKit
import Derived.OpenShut
set_option linter.unusedVariables false
namespace Go.Proofs.YtoihfmammmkloaaDoor
open Go.ChangeShapes Go.WideShapes Go.ChangeAt Go.RowKit Lan

theorem wf_nat64 {x : Int} (h : (Lit.int .u64 x).wf = true) : ∃ n : Nat, x = n ∧ n < 2 ^ 64 := by
  simp [Lit.wf, IntKind.min, IntKind.max, IntKind.bits, IntKind.signed] at h
  exact ⟨x.toNat, by omega, by omega⟩
theorem wf_nat8 {x : Int} (h : (Lit.int .u8 x).wf = true) : ∃ n : Nat, x = n ∧ n < 2 ^ 8 := by
  simp [Lit.wf, IntKind.min, IntKind.max, IntKind.bits, IntKind.signed] at h
  exact ⟨x.toNat, by omega, by omega⟩

theorem vec_arg {H : Type} {enc : TypeId × Value → H} {W : World} {base b2 : Nat} {sp : Nat → Bool} {held : Bool} {v : Value} {d : DataW H} {p : List MemPlace}
    (hk : Value.okWide Tryd.prog W .any base 25 v) (h : DataW.Trod enc Tryd.prog W b2 sp held 25 v d p) : ∃ x : Nat × Nat, v = vecV x ∧ Vok x := by
  obtain ⟨cs, rfl, hs⟩ := okWide_struct Tryd.underlying25 hk
  have e : Tryd.prog.cellsOf 25 = 2 := by kernel_rfl
  have e1 : Tryd.prog.cellsOf 23 = 1 := by kernel_rfl
  rw [e] at hs
  obtain ⟨l⟩ := cs
  match l, hs with
  | [c0, c1], _ =>
    obtain ⟨fuel, hf⟩ := h
    obtain ⟨y0, y1, n, _, _, h0, h1⟩ := trod_struct2 Tryd.underlying25 hf
    simp only [e1] at h0 h1
    obtain ⟨x0, e0, _, w0⟩ := DataW.trod_int Tryd.underlying23 h0
    obtain ⟨x1, e1, _, w1⟩ := DataW.trod_int Tryd.underlying23 h1
    simp [Value.cells] at e0 e1
    obtain ⟨n0, rfl, l0⟩ := wf_nat64 w0
    obtain ⟨n1, rfl, l1⟩ := wf_nat64 w1
    exact ⟨(n0, n1), by rw [e0, e1]; rfl, l0, l1⟩

theorem arr_arg {H : Type} {enc : TypeId × Value → H} {W : World} {base b2 : Nat} {sp : Nat → Bool} {held : Bool} {v : Value} {d : DataW H} {p : List MemPlace}
    (hk : Value.okWide Tryd.prog W .any base 80 v) (h : DataW.Trod enc Tryd.prog W b2 sp held 80 v d p) : ∃ L : List Nat, v = arrV L ∧ L.length = 16 ∧ Lanes 8 L := by
  simp only [Value.okWide, Tryd.underlying80] at hk
  obtain ⟨cs, rfl, h2, _⟩ := hk
  have e : Tryd.prog.cellsOf 80 = 16 := by kernel_rfl
  have e1 : Tryd.prog.cellsOf 5 = 1 := by kernel_rfl
  rw [e] at h2
  obtain ⟨fuel, hf⟩ := h
  obtain ⟨xs, m, _, _, _, hlen, hi⟩ := DataW.trod_array Tryd.underlying80 hf
  rw [e1] at hi
  obtain ⟨l⟩ := cs
  have h2' : l.length = 16 := by simpa using h2
  have one : ∀ i, i < 16 → ∃ n : Nat, l[i]? = some (.int .u8 (n : Int)) ∧ n < 2 ^ 8 := by
    intro i hi16
    have hg : l[i]? = some (l[i]'(by omega)) := List.getElem?_eq_getElem (by omega)
    have h1 := hi i hi16
    have hx : i < xs.length := by omega
    rw [List.getElem?_eq_getElem hx] at h1
    have hd : (l.drop (i * 1)).take 1 = [l[i]'(by omega)] := by
      rw [Nat.mul_one, List.drop_eq_getElem_cons (by omega)]; rfl
    simp only [Value.cells] at h1
    rw [hd] at h1
    obtain ⟨z, e0, _, wz⟩ := DataW.trod_int Tryd.underlying5 h1
    simp at e0
    obtain ⟨n, rfl, ln⟩ := wf_nat8 wz
    exact ⟨n, by rw [hg, e0], ln⟩
  refine ⟨l.map fun c => match c with | .int _ x => x.toNat | _ => 0, ?_, by simpa using h2', ?_⟩
  · unfold arrV cellsB
    congr 1
    apply Array.ext'
    apply List.ext_getElem?
    intro i
    simp only [List.getElem?_map]
    by_cases c : i < 16
    · obtain ⟨n, hn, _⟩ := one i c
      rw [hn]; simp
    · have : l[i]? = none := List.getElem?_eq_none (by omega)
      rw [this]; rfl
  · intro i
    unfold at0
    rw [List.getElem?_map]
    by_cases c : i < 16
    · obtain ⟨n, hn, ln⟩ := one i c
      rw [hn]; simpa using ln
    · have : l[i]? = none := List.getElem?_eq_none (by omega)
      rw [this]; exact Nat.two_pow_pos 8
end Go.Proofs.YtoihfmammmkloaaDoor
