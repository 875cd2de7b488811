/-
  OpsFresh (genopsfresh.py wrote it).
-/
import Derived.Test.YthggbimnjneeaabDoorOpsLaw2
set_option linter.unusedVariables false
set_option maxRecDepth 100000
set_option linter.unusedSimpArgs false
namespace Go.Proofs.YthggbimnjneeaabDoor
open Go.RowKit Opp

/-- A block of cells of a type, at least so many. -/
def Sp (t : TypeId) (w : World) (g n : Nat) : Prop := ∃ cur : Array Value, w.heap[g]? = some (.cells cur t (0, 0)) ∧ n ≤ cur.size
theorem Sp.set {t : TypeId} {w : World} {g n : Nat} (h : Sp t w g n) (g' k : Nat) (u : Value) : Sp t (w.setCell ⟨g', k, none⟩ u) g n := by
  obtain ⟨cur, h1, h2⟩ := h
  by_cases e : g = g'
  · subst e
    exact ⟨_, heap_setCell_same _ _ k _ _ u h1, by simpa using h2⟩
  · exact ⟨cur, (heap_setCell_other _ _ _ _ e).trans h1, h2⟩
theorem Sp.later {t : TypeId} {w w' : World} {g n : Nat} (h : Sp t w g n) (hb : Below w.heap.size w w') : Sp t w' g n := by
  obtain ⟨cur, h1, h2⟩ := h
  exact ⟨cur, (hb.block g (Array.getElem?_eq_some_iff.1 h1).1).trans h1, h2⟩
theorem Sp.cell {t : TypeId} {w : World} {g n k : Nat} (h : Sp t w g n) (hk : k < n) : (∃ u, w.cell? ⟨g, k, none⟩ = some u) ∧ w.frozen? ⟨g, k, none⟩ = false := by
  obtain ⟨cur, h1, h2⟩ := h
  exact ⟨⟨cur[k]'(by omega), by simp [World.cell?, h1, show k < cur.size by omega]⟩, frozen_of_row w g k _ _ h1⟩
theorem info_set {w : World} {gA g k n : Nat} {cs : Array Value} {t : TypeId} {u : Value} (h : w.heap[gA]? = some (.cells cs 27 (0, 0))) (hs : Sp t w g n) (ht : t ≠ 27) : (w.setCell ⟨g, k, none⟩ u).heap[gA]? = some (.cells cs 27 (0, 0)) := by
  refine (heap_setCell_other _ _ _ _ ?_).trans h
  rintro rfl
  obtain ⟨cur, h1, _⟩ := hs
  rw [h] at h1
  simp only [Option.some.injEq, Obj.cells.injEq] at h1
  exact ht h1.2.1.symm
theorem OwnY.sp {w : World} {b : Nat} {a : Option Addr} {c : Nat} {l : List Int} (h : OwnY w b (.slice a l.length c) l) (h0 : 0 < l.length) : ∃ g, a = some ⟨g, 0, none⟩ ∧ b ≤ g ∧ Sp 33 w g l.length := by
  obtain ⟨_, ⟨e1, e2⟩ | ⟨g, cap, cur, e1, hb, hblk, hn, hm, hs, _⟩⟩ := h
  · omega
  · simp only [Value.slice.injEq] at e1
    exact ⟨g, e1.1, hb, cur, hblk, by omega⟩
theorem OwnO.sp {w : World} {b : Nat} {g c : Nat} {l : List Nat} (h : OwnO w b (.slice (some ⟨g, 0, none⟩) l.length c) l) : b ≤ g ∧ Sp 23 w g l.length := by
  obtain ⟨_, ⟨e1, e2⟩ | ⟨g', cap, cur, e1, hb, hblk, hn, hm, hs, _⟩⟩ := h
  · cases e1
  · simp only [Value.slice.injEq, Option.some.injEq, Addr.mk.injEq, and_true, true_and] at e1
    obtain ⟨rfl, rfl⟩ := e1
    exact ⟨hb, cur, hblk, by omega⟩

set_option maxRecDepth 100000 in
set_option maxHeartbeats 16000000 in
theorem opsFresh_law (hO : TOfOK) (hA : TAllOK) (o : Nat) (ho : o < 65536) (w : World) (hT : STab w) : Calls Tryd.prog 4 #[.int .u16 (o : Int)] w fun e w' => e = .returned (.bool true) ∧ Below w.heap.size w w' := by
  have CA := hideT (fun V (hV : Below w.heap.size w V) => (hO o V ho (hT.later hV)).mono fun e w' h => h.q)
  have CR := hideT (fun V => (rOf_calls o ho V).mono fun e w' h => h.q)
  have CL := hideT (fun V (hV : Below w.heap.size w V) => hA V (hT.later hV))
  have CW := hideT (fun V (hV : Below w.heap.size w V) => works10_calls hO V (hT.later hV))
  generalize ofR o = R at *
  generalize ofE o = er at *
  clear ho
  go_enter Tryd.func4, Tryd.ntmps4
  go_wp2_with fail
  refine (CA.out _ (by first | exact Below.refl _ _ | exact BAA.out | exact BAB.out | exact BAC.out | exact BA.out | exact B1.out | exact B2.out | exact B3.out | exact HB2.out | exact HB3.out | exact HB.out | exact BL.out | exact BM.out | exact BW.out)).mono ?_
  rintro e wA ⟨a1A, c1A, a2A, c2A, rfl, h1, h2, hbA⟩
  obtain ⟨waA, hwaA⟩ : ∃ x, wA.alloc (.cells #[.int .u16 (R.op : Int), .string (str R.name), .int .u8 (R.imm : Int), .slice a1A R.fr.length c1A, .slice a2A R.to.length c2A, .int .i64 (R.bits : Int), .bool R.plain] 27) = x := ⟨_, rfl⟩
  have KAA := hideT (show waA.heap[wA.heap.size]? = some (.cells #[.int .u16 (R.op : Int), .string (str R.name), .int .u8 (R.imm : Int), .slice a1A R.fr.length c1A, .slice a2A R.to.length c2A, .int .i64 (R.bits : Int), .bool R.plain] 27 (0, 0)) by rw [← hwaA]; exact heap_alloc_new wA _)
  have BAA := hideT (show Below w.heap.size w waA by rw [← hwaA]; exact hbA.alloc hbA.size _)
  have S1 : Hid (0 < R.fr.length → ∃ g, a1A = some ⟨g, 0, none⟩ ∧ w.heap.size ≤ g ∧ Sp 33 waA g R.fr.length) := hideT (fun h0 => by
    obtain ⟨g, e, hb, hs⟩ := h1.sp h0
    exact ⟨g, e, hb, hs.later (by rw [← hwaA]; exact (Below.refl _ _).alloc (Nat.le_refl _) _)⟩)
  have S2 : Hid (0 < R.to.length → ∃ g, a2A = some ⟨g, 0, none⟩ ∧ w.heap.size ≤ g ∧ Sp 33 waA g R.to.length) := hideT (fun h0 => by
    obtain ⟨g, e, hb, hs⟩ := h2.sp h0
    exact ⟨g, e, hb, hs.later (by rw [← hwaA]; exact (Below.refl _ _).alloc (Nat.le_refl _) _)⟩)
  have HWAA := hideT hwaA
  have L1 : Hid (R.fr.length ≤ maxLen ∧ R.to.length ≤ maxLen) := hideT ⟨by
    obtain ⟨_, ⟨_, e2⟩ | ⟨g, cap, cur, _, _, _, hn, hm, _⟩⟩ := h1 <;> omega, by
    obtain ⟨_, ⟨_, e2⟩ | ⟨g, cap, cur, _, _, _, hn, hm, _⟩⟩ := h2 <;> omega⟩
  have CA2 := hideT CA.out
  clear hwaA hbA h1 h2
  dsimp only
  go_wp2_with fail
  rw [HWAA.out]
  obtain ⟨n1, hn1⟩ : ∃ x, R.fr.length = x := ⟨_, rfl⟩
  obtain ⟨n2, hn2⟩ : ∃ x, R.to.length = x := ⟨_, rfl⟩
  rw [hn1] at S1 KAA L1 ⊢
  rw [hn2] at S2 KAA L1 ⊢
  clear hn1 hn2
  have m1 : n1 ≤ 2 ^ 63 - 1 := by have := L1.out.1; unfold maxLen at this; omega
  have m2 : n2 ≤ 2 ^ 63 - 1 := by have := L1.out.2; unfold maxLen at this; omega
  go_loopw [5] (fun x wr => ∃ i : Nat, x = .int .i64 (i : Int) ∧ i ≤ n1 ∧ wr.heap[wA.heap.size]? = some (.cells #[.int .u16 (R.op : Int), .string (str R.name), .int .u8 (R.imm : Int), .slice a1A n1 c1A, .slice a2A n2 c2A, .int .i64 (R.bits : Int), .bool R.plain] 27 (0, 0)) ∧ (0 < n1 → ∃ g, a1A = some ⟨g, 0, none⟩ ∧ w.heap.size ≤ g ∧ Sp 33 wr g n1) ∧ (0 < n2 → ∃ g, a2A = some ⟨g, 0, none⟩ ∧ w.heap.size ≤ g ∧ Sp 33 wr g n2) ∧ Below w.heap.size w wr) (fun x _ => n1 - (intOf x).toNat)
  case atStart => exact ⟨0, rfl, Nat.zero_le _, KAA.out, S1.out, S2.out, BAA.out⟩
  case round =>
    obtain ⟨i, rfl, hi, hk, hs1, hs2, hb⟩ := hrel
    have HK := hideT hk
    have z3 : wr.cell? ⟨wA.heap.size, 3, none⟩ = some (.slice a1A n1 c1A) := by simp [World.cell?, hk]
    have HB := hideT hb
    have HS2 := hideT hs2
    clear hk hb hs2
    by_cases c0 : i < n1
    · obtain ⟨g, rfl, hg, hsp⟩ := hs1 (by omega)
      obtain ⟨⟨u, hu⟩, hf⟩ := hsp.cell c0
      have HSP := hideT hsp
      have HG := hideT hg
      have HI := hideT c0
      have ci : (i : Int) < (n1 : Int) := by omega
      clear hs1 hsp hg c0
      go_wp2
      go_roundw
      case rel => exact ⟨i + 1, by go_num, HI.out, info_set HK.out HSP.out (by decide), (fun _ => ⟨g, rfl, HG.out, HSP.out.set _ _ _⟩), (fun h => by obtain ⟨g2, e2, h3, h4⟩ := HS2.out h; exact ⟨g2, e2, h3, h4.set _ _ _⟩), HB.out.setCell HG.out _⟩
      case measure => have := HI.out; simp [intOf]; omega
    · have hin : i = n1 := by omega
      subst hin
      have z4 : wr.cell? ⟨wA.heap.size, 4, none⟩ = some (.slice a2A n2 c2A) := by simp [World.cell?, HK.out]
      clear hs1 c0 hi S1 S2 KAA BAA
      go_wp2_with fail
      go_loopw [6] (fun x ws => ∃ j : Nat, x = .int .i64 (j : Int) ∧ j ≤ n2 ∧ ws.heap[wA.heap.size]? = some (.cells #[.int .u16 (R.op : Int), .string (str R.name), .int .u8 (R.imm : Int), .slice a1A i c1A, .slice a2A n2 c2A, .int .i64 (R.bits : Int), .bool R.plain] 27 (0, 0)) ∧ (0 < n2 → ∃ g, a2A = some ⟨g, 0, none⟩ ∧ w.heap.size ≤ g ∧ Sp 33 ws g n2) ∧ Below w.heap.size w ws) (fun x _ => n2 - (intOf x).toNat)
      case atStart => exact ⟨0, rfl, Nat.zero_le _, HK.out, HS2.out, HB.out⟩
      case round =>
        obtain ⟨j, rfl, hj, hk, hs2, hb⟩ := hrel
        obtain ⟨wq, hwq⟩ : ∃ x, x = wr := ⟨_, rfl⟩
        subst hwq
        have HK2 := hideT hk
        have z4 : wq.cell? ⟨wA.heap.size, 4, none⟩ = some (.slice a2A n2 c2A) := by simp [World.cell?, hk]
        have HB2 := hideT hb
        clear hk hb HK HS2 HB
        by_cases c0 : j < n2
        · obtain ⟨g, rfl, hg, hsp⟩ := hs2 (by omega)
          obtain ⟨⟨u, hu⟩, hf⟩ := hsp.cell c0
          have HSP := hideT hsp
          have HG := hideT hg
          have HI := hideT c0
          have cj : (j : Int) < (n2 : Int) := by omega
          clear hs2 hsp hg c0
          go_wp2
          go_roundw
          case rel => exact ⟨j + 1, by go_num, HI.out, info_set HK2.out HSP.out (by decide), (fun _ => ⟨g, rfl, HG.out, HSP.out.set _ _ _⟩), HB2.out.setCell HG.out _⟩
          case measure => have := HI.out; simp [intOf]; omega
        · have hjn : j = n2 := by omega
          subst hjn
          clear hs2 c0 hj HK2
          go_wp2_with fail
          refine (CL.out _ (by first | exact Below.refl _ _ | exact BAA.out | exact BAB.out | exact BAC.out | exact BA.out | exact B1.out | exact B2.out | exact B3.out | exact HB2.out | exact HB3.out | exact HB.out | exact BL.out | exact BM.out | exact BW.out)).mono ?_
          rintro e wl ⟨v, rfl, hown, hbl⟩
          obtain ⟨g, c, rfl, _, _, _⟩ := hown.shape (by rw [ops_len]; decide)
          obtain ⟨hbg, hsp⟩ := hown.sp
          rw [ops_len] at hsp
          rw [ops_len]
          have HSL := hideT hsp
          have HGL : Hid (w.heap.size ≤ g) := hideT (Nat.le_trans HB2.out.size hbg)
          have BL := hideT (HB2.out.trans (hbl.mono HB2.out.size))
          clear hown hbl hbg hsp z4
          dsimp only
          go_wp2_with fail
          go_loopw [8] (fun x ws => ∃ k : Nat, x = .int .i64 (k : Int) ∧ k ≤ 435 ∧ Sp 23 ws g 435 ∧ Below w.heap.size w ws) (fun x _ => 435 - (intOf x).toNat)
          case atStart => exact ⟨0, rfl, Nat.zero_le _, HSL.out, BL.out⟩
          case round =>
            obtain ⟨k, rfl, hk, hs, hb⟩ := hrel
            obtain ⟨wz, hwz⟩ : ∃ x, x = wr := ⟨_, rfl⟩
            subst hwz
            have HS := hideT hs
            have HB3 := hideT hb
            clear hb
            by_cases c0 : k < 435
            · obtain ⟨⟨u, hu⟩, hf⟩ := hs.cell c0
              have HI := hideT c0
              have ck : (k : Int) < 435 := by omega
              clear hs c0
              go_wp2
              go_roundw
              case rel => exact ⟨k + 1, by go_num, HI.out, HS.out.set _ _ _, HB3.out.setCell HGL.out _⟩
              case measure => have := HI.out; simp [intOf]; omega
            · have hkn : k = 435 := by omega
              subst hkn
              clear hs c0 hk HSL BL
              go_wp2_with fail
              refine (CA2.out _ (by first | exact Below.refl _ _ | exact BAA.out | exact BAB.out | exact BAC.out | exact BA.out | exact B1.out | exact B2.out | exact B3.out | exact HB2.out | exact HB3.out | exact HB.out | exact BL.out | exact BM.out | exact BW.out)).mono ?_
              rintro e wB ⟨a1B, c1B, a2B, c2B, rfl, ho1B, ho2B, hbB⟩
              obtain ⟨waB, hwaB⟩ : ∃ x, wB.alloc (.cells #[.int .u16 (R.op : Int), .string (str R.name), .int .u8 (R.imm : Int), .slice a1B R.fr.length c1B, .slice a2B R.to.length c2B, .int .i64 (R.bits : Int), .bool R.plain] 27) = x := ⟨_, rfl⟩
              have KAB := hideT (show waB.heap[wB.heap.size]? = some (.cells #[.int .u16 (R.op : Int), .string (str R.name), .int .u8 (R.imm : Int), .slice a1B R.fr.length c1B, .slice a2B R.to.length c2B, .int .i64 (R.bits : Int), .bool R.plain] 27 (0, 0)) by rw [← hwaB]; exact heap_alloc_new wB _)
              have BAB := hideT (show Below w.heap.size w waB by rw [← hwaB]; exact (HB3.out.trans (hbB.mono HB3.out.size)).alloc (Nat.le_trans HB3.out.size hbB.size) _)
              have OVB : Hid (InfoV waB w.heap.size (.agg #[.int .u16 (R.op : Int), .string (str R.name), .int .u8 (R.imm : Int), .slice a1B R.fr.length c1B, .slice a2B R.to.length c2B, .int .i64 (R.bits : Int), .bool R.plain]) R) := hideT (InfoV.mono (InfoV.later ⟨a1B, c1B, a2B, c2B, rfl, ho1B, ho2B⟩ (by rw [← hwaB]; exact (Below.refl _ _).alloc (Nat.le_refl _) _)) HB3.out.size)
              have HWAB := hideT hwaB
              clear hwaB hbB ho1B ho2B CA CA2
              dsimp only
              go_wp2_with fail
              rw [HWAB.out]
              refine (CR.out _).mono ?_
              rintro e wC ⟨a1C, c1C, a2C, c2C, rfl, ho1C, ho2C, hbC⟩
              obtain ⟨waC, hwaC⟩ : ∃ x, wC.alloc (.cells #[.int .u16 (R.op : Int), .string (str R.name), .int .u8 (R.imm : Int), .slice a1C R.fr.length c1C, .slice a2C R.to.length c2C, .int .i64 (R.bits : Int), .bool R.plain] 27) = x := ⟨_, rfl⟩
              have KAC := hideT (show waC.heap[wC.heap.size]? = some (.cells #[.int .u16 (R.op : Int), .string (str R.name), .int .u8 (R.imm : Int), .slice a1C R.fr.length c1C, .slice a2C R.to.length c2C, .int .i64 (R.bits : Int), .bool R.plain] 27 (0, 0)) by rw [← hwaC]; exact heap_alloc_new wC _)
              have BSC := hideT (show Below waB.heap.size waB waC by rw [← hwaC]; exact hbC.alloc hbC.size _)
              have BAC := hideT (BAB.out.trans (BSC.out.mono BAB.out.size))
              have KAB := hideT ((BSC.out.block _ (Array.getElem?_eq_some_iff.1 KAB.out).1).trans KAB.out)
              have OVC : Hid (InfoV waC w.heap.size (.agg #[.int .u16 (R.op : Int), .string (str R.name), .int .u8 (R.imm : Int), .slice a1C R.fr.length c1C, .slice a2C R.to.length c2C, .int .i64 (R.bits : Int), .bool R.plain]) R) := hideT (InfoV.mono (InfoV.later ⟨a1C, c1C, a2C, c2C, rfl, ho1C, ho2C⟩ (by rw [← hwaC]; exact (Below.refl _ _).alloc (Nat.le_refl _) _)) BAB.out.size)
              clear ho1C ho2C
              have HWAC := hideT hwaC
              clear hwaC hbC
              dsimp only
              clear CR
              go_wp2_with fail
              rw [HWAC.out]
              refine (CL.out _ (by first | exact Below.refl _ _ | exact BAA.out | exact BAB.out | exact BAC.out | exact BA.out | exact B1.out | exact B2.out | exact B3.out | exact HB2.out | exact HB3.out | exact HB.out | exact BL.out | exact BM.out | exact BW.out)).mono ?_
              rintro e wm ⟨v, rfl, hown, hbm⟩
              obtain ⟨gm, cm, rfl, _, hcm, _⟩ := hown.shape (by rw [ops_len]; decide)
              rw [ops_len]
              have y1 : wm.cell? ⟨gm, 1, none⟩ = some (.int .u16 1) := by
                have := hcm 1 (by rw [ops_len]; decide)
                rw [ops_one] at this
                exact this
              have Y1 := hideT y1
              have KB := (hbm.block _ (Array.getElem?_eq_some_iff.1 KAB.out).1).trans KAB.out
              have KC := (hbm.block _ (Array.getElem?_eq_some_iff.1 KAC.out).1).trans KAC.out
              have CI := hideT (f0Info_calls _ _ R w.heap.size w.heap.size wm ((OVB.out.later BSC.out).later hbm) (OVC.out.later hbm))
              have BM := hideT (BAC.out.trans (hbm.mono BAC.out.size))
              clear hown hbm hcm CL y1 KAB KAC
              dsimp only
              go_wp2_with (first | (refine wpList_load_row rfl 27 _ rfl _ rfl _ _ _ _ KB Tryd.underlying27 rfl infoInfo ?_) | (refine wpList_load_row rfl 27 _ rfl _ rfl _ _ _ _ KC Tryd.underlying27 rfl infoInfo ?_))
              refine CI.out.mono ?_
              rintro e w3 ⟨rfl, hb3⟩
              have y1 := cell_laterF hb3 Y1.out
              have B3 := hideT (BM.out.trans (hb3.mono BM.out.size))
              clear hb3 KB KC
              dsimp only
              go_wp2_with fail
              refine (CW.out _ (by first | exact Below.refl _ _ | exact BAA.out | exact BAB.out | exact BAC.out | exact BA.out | exact B1.out | exact B2.out | exact B3.out | exact HB2.out | exact HB3.out | exact HB.out | exact BL.out | exact BM.out | exact BW.out)).mono ?_
              rintro e w4 ⟨rfl, hb4⟩
              have B4 := hideT (B3.out.trans (hb4.mono B3.out.size))
              clear hb4
              go_wp2
              go_ret
              exact ⟨rfl, B4.out⟩
end Go.Proofs.YthggbimnjneeaabDoor
