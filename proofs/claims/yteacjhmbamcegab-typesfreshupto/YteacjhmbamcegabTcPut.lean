/-
  The landed types.Put, its spare cells told (gentcput.py wrote it).
-/
import Derived.Test.YteacjhmbamcegabTypLaw9
set_option linter.unusedVariables false
set_option linter.unusedSimpArgs false
namespace Go.Proofs.Yteacjhmbamcegab
open Go.RowKit Typ

theorem ownI_shape {w : World} {b : Nat} {e : TypeId} {k : IntKind} {v : Value} {l : List Int} (h : OwnI w b e k v l) : ∃ a c, v = .slice a l.length c := by
  rcases h with ⟨rfl, rfl⟩ | ⟨g, cap, zs, rfl, _⟩
  · exact ⟨none, 0, rfl⟩
  · exact ⟨_, cap, rfl⟩
theorem ownI_news {w : World} {b : Nat} {v : Value} {l : List Int} (h : OwnI w b 5 .u8 v l) (hl : 1 ≤ l.length) :
    ∃ g c, v = .slice (some ⟨g, 0, none⟩) l.length c ∧ ∀ j u, (l.map (Value.int .u8))[j]? = some u → w.cell? ((⟨g, 0, none⟩ : Addr).add j) = some u := by
  rcases id h with ⟨rfl, rfl⟩ | ⟨g, cap, zs, rfl, _⟩
  · exact absurd hl (by decide)
  · exact ⟨g, cap, rfl, h.row.cells (g := g) rfl⟩
theorem wf_bytes {l : List Int} (h : Leb.Bytes l) : ∀ z ∈ l, (Lit.int .u8 z).wf = true := by
  intro z hz
  obtain ⟨i, hi⟩ := List.mem_iff_getElem?.1 hz
  have := h i
  rw [hi] at this
  exact wf8 z this.1 this.2
theorem ownI_lit (w : World) (b : Nat) (hb : b ≤ w.heap.size) (x : Int) (h0 : 0 ≤ x) (h1 : x ≤ 255) : OwnI (w.alloc (.cells #[.int .u8 x] 5)) b 5 .u8 (.slice (some ⟨w.heap.size, 0, none⟩) 1 1) [x] :=
  .inr ⟨w.heap.size, 1, [x], rfl, hb, heap_alloc_new w _, Nat.le_refl _, by decide, rfl, rfl, wf8_one x h0 h1⟩
theorem infoST : (Try.prog.info? 31).map (·.size) = some 1 := by kernel_rfl
theorem index_two (u v : Value) (w : World) : (Instr.index 58 (.agg #[u, v]) (.int .i64 0)).run Try.prog w = .ok u w ∧ (Instr.index 58 (.agg #[u, v]) (.int .i64 1)).run Try.prog w = .ok v w := by
  obtain ⟨i0, hi, hz⟩ := Option.map_eq_some_iff.1 infoST
  have A : (isAgg 31).run Try.prog w = .ok false w := by simp [isAgg, run_underlying Try.underlying31, go_sem]
  constructor <;> simp [Instr.index, asIntOf, run_underlying Try.underlying58, part, sizeOf, typeInfo, hi, hz, A, go_sem]
theorem take_snoc {l : List Int} {k : Nat} (h : k < l.length) : l.take (k + 1) = l.take k ++ [l[k]?.getD 0] := by
  rw [List.take_add_one, List.getElem?_eq_getElem h]
  rfl

set_option maxHeartbeats 8000000 in
theorem tPut_calls (v1 v2 : Value) (l1 l2 : List Int) (w : World) (H1 : RowT w v1 l1) (H2 : RowT w v2 l2) (hy1 : Leb.Bytes l1) (hy2 : Leb.Bytes l2) (h1 : l1.length ≤ 1048576) (h2 : l2.length ≤ 1048576) :
    Calls Try.prog 16 #[funcV v1 v2] w fun e w' => ∃ v, e = .returned v ∧ OwnI w' w.heap.size 5 .u8 v (putFunc l1 l2) ∧ Below w.heap.size w w' := by
  obtain ⟨i0, hi, hz0, hz1, hz2⟩ := info_parts Try.infoByte
  obtain ⟨wa, hwa⟩ : ∃ wa, (w.alloc (.cells #[v1, v2] 33)).alloc (.cells #[.int .u8 96] 5) = wa := ⟨_, rfl⟩
  have BA : Hid (Below w.heap.size w wa) := hideT (by rw [← hwa]; exact ((Below.refl _ _).alloc (Nat.le_refl _) _).alloc (by simp) _)
  have K1 : SBlk wa w.heap.size 33 #[v1, v2] := by rw [← hwa]; exact (heap_alloc_old _ _ (by simp)).trans (sblk_new _ _ _)
  have O0 : Hid (OwnI wa w.heap.size 5 .u8 (.slice (some ⟨w.heap.size + 1, 0, none⟩) 1 1) [96]) := hideT (by
    rw [← hwa]
    have := ownI_lit (w.alloc (.cells #[v1, v2] 33)) w.heap.size (by simp) 96 (by decide) (by decide)
    simpa using this)
  have CP := hideT (fun (n : Int) V h0 h1 => PutU_walkI n V h0 h1)
  obtain ⟨q1, z1, rfl, g1, g2, g3⟩ := H1
  obtain ⟨q2, z2, rfl, k1, k2, k3⟩ := H2
  have c0 : wa.cell? ⟨w.heap.size, 0, none⟩ = some (.slice q1 l1.length z1) := K1.cell rfl
  have c1 : wa.cell? ⟨w.heap.size, 1, none⟩ = some (.slice q2 l2.length z2) := K1.cell rfl
  have hu1 : IntKind.u64.wrap (l1.length : Int) = (l1.length : Int) := by rw [IntKind.wrap_u64]; omega
  have hu2 : IntKind.u64.wrap (l2.length : Int) = (l2.length : Int) := by rw [IntKind.wrap_u64]; omega
  have G1 := hideT g3
  have G2 := hideT k3
  have Y1 := hideT hy1
  have Y2 := hideT hy2
  have E1 := hideT h1
  have E2 := hideT h2
  have HWA := hideT hwa
  have XA := fun V => (index_two (.slice q1 l1.length z1) (.slice q2 l2.length z2) V).1
  have XB := fun V => (index_two (.slice q1 l1.length z1) (.slice q2 l2.length z2) V).2
  unfold funcV
  clear hwa K1 g1 g2 g3 k1 k2 k3 hy1 hy2 h1 h2
  go_enter Try.func16, Try.ntmps16
  go_wp2_with fail
  rw [HWA.out]
  go_wp2_with fail
  go_loopw [14, 3] (fun x v wr => ∃ (j : Nat) (P : List Int) (vo : Value), x = .int .i64 (j : Int) ∧ v = vo ∧ OwnI wr w.heap.size 5 .u8 vo P ∧ Below w.heap.size w wr ∧ ((j = 0 ∧ P = [96]) ∨ (j = 1 ∧ P = 96 :: putList l1) ∨ (j = 2 ∧ P = putFunc l1 l2))) (fun x _ _ => 2 - (intOf x).toNat)
  case atStart => exact ⟨0, [96], _, rfl, rfl, O0.out, BA.out, .inl ⟨rfl, rfl⟩⟩
  case round =>
    obtain ⟨j, P, vo, rfl, rfl, hown, hbel, hj⟩ := hrel
    have HB := hideT hbel
    clear hbel c0 c1 O0
    obtain ⟨va, vc, hva⟩ := ownI_shape hown
    subst hva
    have HO := hideT hown
    clear hown
    rcases hj with ⟨rfl, hP⟩ | ⟨rfl, hP⟩ | ⟨rfl, hP⟩
    · have PL : Hid (P.length ≤ 1) := hideT (by have := E1.out; have := (putU_len (l1.length : Int)).2; rw [hP]; simp [putList]; try omega)
      have HP := hideT hP
      clear hP
      go_wp2_with fail
      refine (CP.out (l1.length : Int) _ (by omega) (by have := E1.out; omega)).mono ?_
      rintro e w2 ⟨vp, rfl, hop, hbp⟩
      have LP := hideT (putU_len (l1.length : Int))
      have YP := hideT (bytes_putU (n := (l1.length : Int)) (by omega) (by have := E1.out; omega))
      obtain ⟨gp, cp, hvp, hnews⟩ := ownI_news hop LP.out.1
      subst hvp
      have NEWS := hideT hnews
      have WF := hideT (wf_bytes YP.out)
      have B2 : Hid (Below w.heap.size w w2) := hideT (HB.out.trans (hbp.mono HB.out.size))
      have O2 : Hid (OwnI w2 w.heap.size 5 .u8 (.slice va P.length vc) P) := hideT (HO.out.below hbp (fun j hj => (HO.out.row.lt j hj).2))
      have C3 : Hid (P.length + (Leb.putU (l1.length : Int)).length ≤ maxLen) := by show P.length + _ ≤ maxLen; have := PL.out; have := LP.out.2; unfold maxLen; omega
      have C4 : Hid ((P.length + (Leb.putU (l1.length : Int)).length) * 1 ≤ 140737488355328) := by show (P.length + _) * 1 ≤ _; have := PL.out; have := LP.out.2; omega
      have C5 : Hid (w.heap.size ≤ w2.heap.size) := B2.out.size
      clear hop hbp hnews
      generalize hU : Leb.putU (l1.length : Int) = U at *
      have HU := hideT hU
      clear hU
      go_wp2_with (at_builtin; go_must (refine wpList_append_ownI _ rfl _ _ 43 rfl w.heap.size 5 i0 .u8 1 Try.underlying43 hi hz0 hz1 hz2 _ _ rfl O2.out ⟨gp, 0, none⟩ _ _ U rfl rfl NEWS.out WF.out C3.out C4.out C5.out ?_))
      intro v3 w3 hown3 hgrow3
      have B3 : Hid (Below w.heap.size w w3) := hideT (B2.out.grown hgrow3 C5.out (fun k hk => (O2.out.row.lt k hk).1))
      have O3 := hideT hown3
      clear hown3 hgrow3 HO O2 NEWS WF C3 C4 C5
      go_wp2_with fail
      go_loopw [25, 3] (fun x v wr => ∃ (k : Nat) (vo : Value), x = .int .i64 (k : Int) ∧ v = vo ∧ k ≤ l1.length ∧ OwnI wr w.heap.size 5 .u8 vo (P ++ U ++ l1.take k) ∧ Below w.heap.size w wr) (fun x _ _ => l1.length - (intOf x).toNat)
      case atStart => exact ⟨0, _, rfl, rfl, Nat.zero_le _, by simpa using O3.out, B3.out⟩
      case round =>
        obtain ⟨k, vk, rfl, rfl, hk, hown, hbel⟩ := hrel
        have HR := hideT hbel
        clear hbel O3 B3 HB B2
        obtain ⟨vb, vd, hvb⟩ := ownI_shape hown
        subst hvb
        have HO := hideT hown
        clear hown
        by_cases hlt : k < l1.length
        · obtain ⟨bb, off, hq, hcell⟩ := G1.out (by omega)
          subst hq
          have hc1 := cell_later HR.out (hcell k hlt)
          have W8 := hideT (wf8_one (l1[k]?.getD 0) (Y1.out k).1 (Y1.out k).2)
          have TS := hideT (take_snoc hlt)
          have hlen : (P ++ U ++ l1.take k).length ≤ 3000000 := by
            have := PL.out
            have := LP.out.2
            have := E1.out
            simp
            omega
          have C3 : Hid ((P ++ U ++ l1.take k).length + 1 ≤ maxLen) := by show (P ++ U ++ l1.take k).length + 1 ≤ maxLen; unfold maxLen; omega
          have C4 : Hid (((P ++ U ++ l1.take k).length + 1) * 1 ≤ 140737488355328) := by show ((P ++ U ++ l1.take k).length + 1) * 1 ≤ _; omega
          have C5 : Hid (∀ o : Obj, w.heap.size ≤ (wr.alloc o).heap.size) := by intro o; have := HR.out.size; simp; omega
          have HLT := hideT hlt
          have m9 : l1.length ≤ 2 ^ 63 - 1 := by have := E1.out; omega
          have lt' : (k : Int) < (l1.length : Int) := by omega
          have HN : Hid (l1.length < 4294967296) := by show l1.length < 4294967296; have := E1.out; omega
          clear hlen hk hcell
          generalize l1[k]?.getD 0 = x at *
          generalize hQ : P ++ U ++ l1.take k = Q at *
          have HQ := hideT hQ
          clear hQ
          go_wp2_with (at_builtin; go_must (refine wpList_append_ownI _ rfl _ _ 43 rfl w.heap.size 5 i0 .u8 1 Try.underlying43 hi hz0 hz1 hz2 _ _ rfl (HO.out.alloc _) ⟨wr.heap.size, 0, none⟩ 1 1 [x] rfl rfl (cell_one_new _ _ _) W8.out C3.out C4.out (C5.out _) ?_))
          intro v4 w4 hown4 hgrow4
          have B4 : Hid (Below w.heap.size w w4) := hideT ((HR.out.alloc HR.out.size _).grown hgrow4 (C5.out _) (fun k hk => (HO.out.row.lt k hk).1))
          have O4 : Hid (OwnI w4 w.heap.size 5 .u8 v4 (P ++ U ++ l1.take (k + 1))) := hideT (by rw [TS.out, ← List.append_assoc, HQ.out]; exact hown4)
          clear hown4 hgrow4 HO W8 C3 C4 C5
          go_wp2
          go_roundw
          case rel => exact ⟨k + 1, _, by go_num, rfl, HLT.out, O4.out, B4.out⟩
          case measure =>
            have := HLT.out
            simp only [intOf]
            omega
        · obtain rfl : k = l1.length := by omega
          clear hlt hk
          go_wp2
          go_roundw
          case rel => exact ⟨1, _, _, rfl, rfl, HO.out, HR.out, .inr <| .inl ⟨rfl, by rw [HP.out, ← HU.out, List.take_length]; simp [putList, putFunc]⟩⟩
          case measure => simp [intOf]
    · have PL : Hid (P.length ≤ 1048600) := hideT (by have := E1.out; have := (putU_len (l1.length : Int)).2; rw [hP]; simp [putList]; try omega)
      have HP := hideT hP
      clear hP
      go_wp2_with fail
      refine (CP.out (l2.length : Int) _ (by omega) (by have := E2.out; omega)).mono ?_
      rintro e w2 ⟨vp, rfl, hop, hbp⟩
      have LP := hideT (putU_len (l2.length : Int))
      have YP := hideT (bytes_putU (n := (l2.length : Int)) (by omega) (by have := E2.out; omega))
      obtain ⟨gp, cp, hvp, hnews⟩ := ownI_news hop LP.out.1
      subst hvp
      have NEWS := hideT hnews
      have WF := hideT (wf_bytes YP.out)
      have B2 : Hid (Below w.heap.size w w2) := hideT (HB.out.trans (hbp.mono HB.out.size))
      have O2 : Hid (OwnI w2 w.heap.size 5 .u8 (.slice va P.length vc) P) := hideT (HO.out.below hbp (fun j hj => (HO.out.row.lt j hj).2))
      have C3 : Hid (P.length + (Leb.putU (l2.length : Int)).length ≤ maxLen) := by show P.length + _ ≤ maxLen; have := PL.out; have := LP.out.2; unfold maxLen; omega
      have C4 : Hid ((P.length + (Leb.putU (l2.length : Int)).length) * 1 ≤ 140737488355328) := by show (P.length + _) * 1 ≤ _; have := PL.out; have := LP.out.2; omega
      have C5 : Hid (w.heap.size ≤ w2.heap.size) := B2.out.size
      clear hop hbp hnews
      generalize hU : Leb.putU (l2.length : Int) = U at *
      have HU := hideT hU
      clear hU
      go_wp2_with (at_builtin; go_must (refine wpList_append_ownI _ rfl _ _ 43 rfl w.heap.size 5 i0 .u8 1 Try.underlying43 hi hz0 hz1 hz2 _ _ rfl O2.out ⟨gp, 0, none⟩ _ _ U rfl rfl NEWS.out WF.out C3.out C4.out C5.out ?_))
      intro v3 w3 hown3 hgrow3
      have B3 : Hid (Below w.heap.size w w3) := hideT (B2.out.grown hgrow3 C5.out (fun k hk => (O2.out.row.lt k hk).1))
      have O3 := hideT hown3
      clear hown3 hgrow3 HO O2 NEWS WF C3 C4 C5
      go_wp2_with fail
      go_loopw [25, 3] (fun x v wr => ∃ (k : Nat) (vo : Value), x = .int .i64 (k : Int) ∧ v = vo ∧ k ≤ l2.length ∧ OwnI wr w.heap.size 5 .u8 vo (P ++ U ++ l2.take k) ∧ Below w.heap.size w wr) (fun x _ _ => l2.length - (intOf x).toNat)
      case atStart => exact ⟨0, _, rfl, rfl, Nat.zero_le _, by simpa using O3.out, B3.out⟩
      case round =>
        obtain ⟨k, vk, rfl, rfl, hk, hown, hbel⟩ := hrel
        have HR := hideT hbel
        clear hbel O3 B3 HB B2
        obtain ⟨vb, vd, hvb⟩ := ownI_shape hown
        subst hvb
        have HO := hideT hown
        clear hown
        by_cases hlt : k < l2.length
        · obtain ⟨bb, off, hq, hcell⟩ := G2.out (by omega)
          subst hq
          have hc1 := cell_later HR.out (hcell k hlt)
          have W8 := hideT (wf8_one (l2[k]?.getD 0) (Y2.out k).1 (Y2.out k).2)
          have TS := hideT (take_snoc hlt)
          have hlen : (P ++ U ++ l2.take k).length ≤ 3000000 := by
            have := PL.out
            have := LP.out.2
            have := E2.out
            simp
            omega
          have C3 : Hid ((P ++ U ++ l2.take k).length + 1 ≤ maxLen) := by show (P ++ U ++ l2.take k).length + 1 ≤ maxLen; unfold maxLen; omega
          have C4 : Hid (((P ++ U ++ l2.take k).length + 1) * 1 ≤ 140737488355328) := by show ((P ++ U ++ l2.take k).length + 1) * 1 ≤ _; omega
          have C5 : Hid (∀ o : Obj, w.heap.size ≤ (wr.alloc o).heap.size) := by intro o; have := HR.out.size; simp; omega
          have HLT := hideT hlt
          have m9 : l2.length ≤ 2 ^ 63 - 1 := by have := E2.out; omega
          have lt' : (k : Int) < (l2.length : Int) := by omega
          have HN : Hid (l2.length < 4294967296) := by show l2.length < 4294967296; have := E2.out; omega
          clear hlen hk hcell
          generalize l2[k]?.getD 0 = x at *
          generalize hQ : P ++ U ++ l2.take k = Q at *
          have HQ := hideT hQ
          clear hQ
          go_wp2_with (at_builtin; go_must (refine wpList_append_ownI _ rfl _ _ 43 rfl w.heap.size 5 i0 .u8 1 Try.underlying43 hi hz0 hz1 hz2 _ _ rfl (HO.out.alloc _) ⟨wr.heap.size, 0, none⟩ 1 1 [x] rfl rfl (cell_one_new _ _ _) W8.out C3.out C4.out (C5.out _) ?_))
          intro v4 w4 hown4 hgrow4
          have B4 : Hid (Below w.heap.size w w4) := hideT ((HR.out.alloc HR.out.size _).grown hgrow4 (C5.out _) (fun k hk => (HO.out.row.lt k hk).1))
          have O4 : Hid (OwnI w4 w.heap.size 5 .u8 v4 (P ++ U ++ l2.take (k + 1))) := hideT (by rw [TS.out, ← List.append_assoc, HQ.out]; exact hown4)
          clear hown4 hgrow4 HO W8 C3 C4 C5
          go_wp2
          go_roundw
          case rel => exact ⟨k + 1, _, by go_num, rfl, HLT.out, O4.out, B4.out⟩
          case measure =>
            have := HLT.out
            simp only [intOf]
            omega
        · obtain rfl : k = l2.length := by omega
          clear hlt hk
          go_wp2
          go_roundw
          case rel => exact ⟨2, _, _, rfl, rfl, HO.out, HR.out, .inr <| .inr ⟨rfl, by rw [HP.out, ← HU.out, List.take_length]; simp [putList, putFunc]⟩⟩
          case measure => simp [intOf]
    · subst hP
      go_wp2
      go_ret
      exact ⟨_, rfl, HO.out, HB.out⟩
theorem tPutI : TPutIOK := fun v1 v2 l1 l2 w R1 R2 y1 y2 k1 k2 => tPut_calls v1 v2 l1 l2 w R1 R2 y1 y2 k1 k2
end Go.Proofs.Yteacjhmbamcegab
