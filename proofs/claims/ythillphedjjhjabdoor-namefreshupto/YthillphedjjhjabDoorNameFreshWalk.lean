/-
  The walk of NameFresh.
-/
import Derived.Test.YthillphedjjhjabDoorNamePutI
import Derived.Test.YthillphedjjhjabDoorFreshParts
set_option linter.unusedVariables false
namespace Go.Proofs.YthillphedjjhjabDoor
open Go.RowKit

theorem append_rowR {w : World} {ops : Array Oper} {rest : List Oper} {o : Oper} {a : Act} {Q : Exit → Act → World → Prop} (hgd : o.guard = none) (s x : Operand)
    (ho : o.op = .call { callee := .builtin .append, args := #[s, x], argTypes := #[24, 24] })
    (base : Nat) (v : Value) (n : Nat) (xs : List Value) (hs : a.eval s = v) (hown : w.ownsRow base 21 1 v n xs)
    (ad : Option Addr) (m c : Nat) (l : List Int) (hx : a.eval x = .slice ad m c) (H : RowR w ad m c l) (h63 : n + m ≤ 35184372088832) (hbase : base ≤ w.heap.size)
    (h : ∀ v' w', w'.ownsRow base 21 1 v' (n + m) (xs ++ l.map (Value.int .i32)) → w.grownBy w' v.ownBlock → wpList Tryd.prog ops Q rest (a.put o.dst v') w') :
    wpList Tryd.prog ops Q (o :: rest) a w := by
  obtain ⟨i0, hi, hz0, hz1, hz2⟩ := info_parts Tryd.infoRune
  obtain ⟨hl, hcap, hcm, hb, ha, hc⟩ := H
  cases ad with
  | none =>
    obtain rfl := ha rfl
    obtain rfl : m = 0 := by omega
    have hl0 : l = [] := List.eq_nil_of_length_eq_zero hl
    subst hl0
    refine wpList_append_own_none hgd s x 24 ho base 21 i0 1 Tryd.underlying24 hi v n xs hs hown hx ?_
    exact h v w (by simpa using hown) (World.grownBy.refl _ _)
  | some ad =>
    refine wpList_append_own w hgd s x 24 ho base 21 i0 (.int .i32 0) 1 4 Tryd.underlying24 hi hz0 hz1 hz2 rfl (by decide) v n xs hs hown ad m c (l.map (Value.int .i32)) hx (by simp [hl]) ?_ (ints_oneCell .i32 l) (by unfold maxLen; omega) (by omega) hbase (fun v' w' h1 h2 _ => h v' w' h1 h2)
    intro j u hj
    rw [List.getElem?_map] at hj
    by_cases hjm : j < m
    · obtain ⟨b, off, e, hcell⟩ := hc (by omega)
      simp only [Option.some.injEq] at e
      subst e
      have hg := hcell j hjm
      rw [List.getElem?_eq_getElem (by omega)] at hj hg
      simp only [Option.map_some, Option.some.injEq] at hj
      subst hj
      simp only [Option.getD_some] at hg
      by_cases h0 : j = 0
      · subst h0; simpa [Addr.add] using hg
      · simpa [Addr.add, h0] using hg
    · rw [List.getElem?_eq_none (by omega)] at hj
      simp at hj

theorem Spoil_nil (w : World) : Calls Tryd.prog 11 #[.slice none 0 0, .int .u8 1] w fun e w' => e = .returned (.tuple #[]) ∧ w' = w := by
  go_enter Tryd.func11, Tryd.ntmps11
  go_wp2
  go_loopw [4] (fun x wr => x = .int .i64 0 ∧ wr = w) (fun _ _ => 0)
  case atStart => exact ⟨rfl, rfl⟩
  case round =>
    obtain ⟨rfl, rfl⟩ := hrel
    go_wp2
    go_end0
    exact ⟨rfl, rfl⟩

/-- A row of the call's own, nil or not, spoilt: nothing below it has changed. -/
theorem spoil_any {w : World} {base : Nat} {v : Value} {l : List Int} (h : OwnI w base 5 .u8 v l) :
    Calls Tryd.prog 11 #[v, .int .u8 1] w fun e w' => e = .returned (.tuple #[]) ∧ Below base w w' := by
  rcases h with ⟨rfl, rfl⟩ | ⟨g, cap, zs, rfl, hb, hg, h1, h2, h3, h4, h5⟩
  · exact (Spoil_nil w).mono fun e w' ⟨h1, h2⟩ => ⟨h1, by rw [h2]; exact Below.refl _ _⟩
  · exact Spoil_walk g l.length cap base zs w h1 (by unfold maxLen at h2; omega) h3 h5 hg hb

theorem get_map32 {zs : List Int} {j : Nat} (h : j < zs.length) : (zs.map (Value.int .i32))[j]? = some (.int .i32 (zs[j]?.getD 0)) := by
  rw [List.getElem?_map, List.getElem?_eq_getElem h]; rfl

theorem PutPostI.one {ls : List Int} {w w' : World} {e : Ending} (h : PutPostI ls w e w') :
    Below w.heap.size w w' ∧ ∃ v x, e = .returned (.tuple #[v, .int .i64 x]) ∧ ∃ l, OwnI w' w.heap.size 5 .u8 v l := by
  obtain ⟨h1, ⟨_, v, rfl, hown⟩ | ⟨_, rfl⟩⟩ := h
  · exact ⟨h1, v, 0, rfl, _, hown⟩
  · exact ⟨h1, _, 2, rfl, [], OwnI.nil _ _ _ _⟩

set_option maxHeartbeats 2000000 in
theorem nameFresh_calls (a a1 : Option Addr) (cap len1 cap1 : Nat) (b l : List Int) (w : World) (H : Row w a b.length cap b) (H1 : RowR w a1 len1 cap1 l) (hT : Tabs w) (nb : b.length + len1 ≤ 1048576) :
    Calls Tryd.prog 4 #[.slice a b.length cap, .slice a1 len1 cap1] w fun e w' => e = .returned (.bool true) ∧ Below w.heap.size w w' := by
  have hr : b.length ≤ 140737488351232 := by omega
  have CW := hide (Wide_walk a cap b w H hr)
  have HH := hide H
  have HH1 := hide H1
  have HT := hide hT
  have HBY := hide H.2.2.2.1
  have HR := hide hr
  have NB := hide nb
  have HL1 := hide H1.1
  have LB : Hid (b.length * 4 ≤ 140737488355328) := by show _ ≤ _; omega
  have LP : Hid (b.length ≤ 140737488355000) := by show _ ≤ _; omega
  have LR : Hid (0 + len1 ≤ 35184372088832) := by show _ ≤ _; omega
  have LQ : Hid (len1 * 4 ≤ 140737488355328) := by show _ ≤ _; omega
  clear H H1 hT nb hr
  go_enter Tryd.func4, Tryd.ntmps4
  go_wp2_with fail
  refine CW.out.mono ?_
  rintro e w1 ⟨rfl, hblk, hbel⟩
  have hz : w.heap.size < w1.heap.size := (Array.getElem?_eq_some_iff.mp hblk).1
  have BK1 := hide hblk
  have B1 := hide hbel
  clear hblk hbel CW
  generalize hg : w.heap.size = g at hz BK1 ⊢
  have HG := hide hg
  clear hg
  -- Row, spoilt
  go_wp2_with fail
  refine (Row_callsI (some ⟨g, 0, none⟩) b.length (b.length + 3) b 0 w1 (row_wide HBY.out HR.out BK1.out)).mono ?_
  rintro e w2 ⟨hb2, v2, rfl, hown2⟩
  have O2 := hide hown2
  have B2 := hide (B1.out.trans (hb2.mono B1.out.size))
  have BK2 := hide ((hb2.block g hz).trans BK1.out)
  have z2 : w1.heap.size ≤ w2.heap.size := hb2.size
  clear hown2 hb2
  generalize (rowAt b 0).2.1 = y1
  generalize (rowAt b 0).2.2 = y2
  obtain ⟨av2, cv2, hv2⟩ := O2.out.shape
  subst hv2
  generalize (rowAt b 0).1 = r2 at O2 ⊢
  go_wp2_with fail
  refine (spoil_any O2.out).mono ?_
  rintro e w3 ⟨rfl, hb3⟩
  have B3 := hide (B2.out.trans (hb3.mono B1.out.size))
  have BK3 := hide ((hb3.block g hz).trans BK2.out)
  have z3 : w2.heap.size ≤ w3.heap.size := hb3.size
  clear hb3 O2 B2 BK2
  have hz3 : g < w3.heap.size := by omega
  -- PutRow, spoilt
  go_wp2_with fail
  refine (PutRow_callsI (some ⟨g, 0, none⟩) b.length (b.length + 3) b w3 (row_wide HBY.out HR.out BK3.out) LP.out).mono ?_
  rintro e w4 ⟨hb4, v4, rfl, hown4⟩
  have O4 := hide hown4
  have B4 := hide (B3.out.trans (hb4.mono B3.out.size))
  have BK4 := hide ((hb4.block g hz3).trans BK3.out)
  have z4 : w3.heap.size ≤ w4.heap.size := hb4.size
  clear hown4 hb4
  obtain ⟨av4, cv4, hv4⟩ := O4.out.shape
  subst hv4
  generalize rowP b = r4 at O4 ⊢
  go_wp2_with fail
  refine (spoil_any O4.out).mono ?_
  rintro e w5 ⟨rfl, hb5⟩
  have B5 := hide (B4.out.trans (hb5.mono B3.out.size))
  have BK5 := hide ((hb5.block g hz3).trans BK4.out)
  have z5 : w4.heap.size ≤ w5.heap.size := hb5.size
  clear hb5 O4 B4 BK4 B3 BK3
  have hz5 : g < w5.heap.size := by omega
  -- Letters, written over
  go_wp2_with fail
  refine (Letters_calls (some ⟨g, 0, none⟩) b.length (b.length + 3) b w5 (row_wide HBY.out HR.out BK5.out) (HT.out.later B5.out) LB.out).mono ?_
  intro e w6 hp
  obtain ⟨hb6, a6, c6, rfl, hr6, hown6⟩ := hp.one HBY.out
  have O6 := hide hown6
  have B6 := hide (B5.out.trans (hb6.mono B5.out.size))
  have BK6 := hide ((hb6.block g hz5).trans BK5.out)
  have z6 : w5.heap.size ≤ w6.heap.size := hb6.size
  have hK : (lets b).length ≤ 2 ^ 63 - 1 := by have h1 := hr6.2.1; have h2 := hr6.2.2.1; unfold maxLen at h2; omega
  clear hp hb6 hr6 hown6 B1 BK1 z2 z3 z4 hz hz3 BK5
  generalize lerr b = y3
  generalize lets b = ks at O6 hK ⊢
  obtain ⟨K, hKe⟩ : ∃ K, ks.length = K := ⟨_, rfl⟩
  rw [hKe] at O6 hK ⊢
  have HB5 := hide B5.out.size
  go_wp2
  go_loopw [12] (fun x wr => ∃ (k : Nat) (ys : List Int), x = .int .i64 k ∧ k ≤ K ∧ ys.length = K ∧ Hid (wr.ownsRow w5.heap.size 21 1 (.slice a6 K c6) K (ys.map (Value.int .i32))) ∧ Hid (Below w.heap.size w wr) ∧ Hid (wr.heap[g]? = some (.cells ((b ++ [7, 7, 7]).map (Value.int .u8)).toArray 5 (0, 0))) ∧ w6.heap.size ≤ wr.heap.size) (fun x _ => K - (intOf x).toNat)
  case atStart => exact ⟨0, ks, rfl, Nat.zero_le _, hKe, O6, B6, BK6, Nat.le_refl _⟩
  case round =>
    obtain ⟨k, ys, rfl, hk, hy, hown, hbel, hbk, hsz⟩ := hrel
    by_cases hlt : k < K
    · have t1 : decide ((k : Int) < (K : Int)) = true := by simp; omega
      have hltz : (k : Int) < (K : Int) := by omega
      obtain ⟨_, ⟨hv, hn⟩ | ⟨gm, cm, cur, hv, hgm, _⟩⟩ := id hown.out
      · omega
      · simp only [Value.slice.injEq] at hv
        obtain ⟨hav, _, hcv⟩ := hv
        subst hav hcv
        have hcell := hown.out.cellAt k (by omega)
        rw [get_map32 (by omega)] at hcell
        have hfz := hown.out.frozenAt k
        have hst := (hown.out.stored k (.int .i32 5)).1
        rw [← List.map_set] at hst
        have hb2 : Below w.heap.size w (wr.setCell ⟨gm, k, none⟩ (.int .i32 5)) := hbel.out.setCell (p := ⟨gm, k, none⟩) (by have := HB5.out; simp only; omega) _
        have hbk2 : (wr.setCell ⟨gm, k, none⟩ (.int .i32 5)).heap[g]? = some (.cells ((b ++ [7, 7, 7]).map (Value.int .u8)).toArray 5 (0, 0)) := by
          rw [Below.heap_setCell _ _ _ _ (by simp only; omega)]; exact hbk.out
        have hsz2 : w6.heap.size ≤ (wr.setCell ⟨gm, k, none⟩ (.int .i32 5)).heap.size := by
          have := ((Below.refl gm wr).setCell (p := ⟨gm, k, none⟩) (Nat.le_refl _) (.int .i32 5)).size
          omega
        have H1 := hide hst
        have H2 := hide hb2
        have H3 := hide hbk2
        have H5 := hide hsz2
        have H4 : Hid ((ys.set k 5).length = K) := by show (ys.set k 5).length = K; rw [List.length_set, hy]
        clear hst hb2 hbk2 hsz2 hown hbel hbk hy
        generalize ys[k]?.getD 0 = c at *
        go_wp2
        go_roundw
        case rel => exact ⟨k + 1, _, by simp, by omega, H4.out, H1, H2, H3, H5.out⟩
        case measure => simp [intOf]; omega
    · have t1 : decide ((k : Int) < (K : Int)) = false := by simp; omega
      clear hown O6 B6 BK6 hK hKe hy
      have A1 := hide (HH1.out.later hbel.out)
      have hzr : g < wr.heap.size := by omega
      -- own, Put, spoilt
      go_wp2_with (at_builtin; go_must (refine append_rowR rfl _ _ rfl wr.heap.size _ 0 [] rfl (World.ownsRow_nil _ _ _ _) a1 len1 cap1 l rfl A1.out LR.out (Nat.le_refl _) ?_))
      intro v7 w7 hown7 hgrow7
      have hb7 : Below wr.heap.size wr w7 := (Below.refl _ _).grown hgrow7 (Nat.le_refl _) (fun j hj => by simp [Value.ownBlock] at hj)
      have hown8 : w7.ownsRow wr.heap.size 21 1 v7 l.length (l.map (Value.int .i32)) := by rw [HL1.out]; simpa using hown7
      obtain ⟨a7, c7, hv7, hr7⟩ := own_rowR hown8 HH1.out.2.2.2.1
      subst hv7
      rw [HL1.out] at hr7 ⊢
      have R7 := hide hr7
      have B7 := hide (hbel.out.trans (hb7.mono hbel.out.size))
      have BK7 := hide ((hb7.block g hzr).trans hbk.out)
      have z7 : wr.heap.size ≤ w7.heap.size := hb7.size
      have hz7 : g < w7.heap.size := by omega
      clear hown7 hgrow7 hb7 hown8 hr7 A1 hbel hbk
      go_wp2_with fail
      refine (Put_callsI a7 len1 c7 l w7 R7.out LQ.out).mono ?_
      intro e w8 hp
      obtain ⟨hb8, v8, x8, rfl, l8, hown8⟩ := hp.one
      have O8 := hide hown8
      have R8 := hide (R7.out.later hb8)
      have B8 := hide (B7.out.trans (hb8.mono B7.out.size))
      have BK8 := hide ((hb8.block g hz7).trans BK7.out)
      clear hp hb8 hown8
      obtain ⟨av8, cv8, hv8⟩ := O8.out.shape
      subst hv8
      go_wp2_with fail
      refine (spoil_any O8.out).mono ?_
      rintro e w9 ⟨rfl, hb9⟩
      have B9 := hide (B8.out.trans (hb9.mono B7.out.size))
      have BK9 := hide ((hb9.block g hz7).trans BK8.out)
      have R9 : Hid (RowR w9 a7 len1 c7 l) := by
        obtain ⟨h1, h2, h3, h4, h5, h6⟩ := R7.out
        obtain ⟨_, _, _, _, _, h6'⟩ := R8.out
        refine ⟨h1, h2, h3, h4, h5, fun h0 => ?_⟩
        obtain ⟨b1, o1, e1, hc1⟩ := h6 h0
        obtain ⟨b2, o2, e2, hc2⟩ := h6' h0
        refine ⟨b1, o1, e1, fun i hi => ?_⟩
        rw [e1] at e2
        simp only [Option.some.injEq, Addr.mk.injEq] at e2
        obtain ⟨rfl, rfl, _⟩ := e2
        rw [hb9.cell (p := ⟨b1, o1 + i, none⟩) (by first | exact block_lt_of_cell (hc1 i hi) | exact World.block_lt_of_cell? _ _ (hc1 i hi) | exact World.block_lt_of_cell? _ (hc1 i hi))]
        exact hc2 i hi
      clear hb9 O8 B8 BK8 R8 R7 B7 BK7
      have R0 := hide (HH.out.later B9.out)
      go_wp2_with fail
      refine (Left_walk a cap g b w9 R0.out HR.out BK9.out).mono ?_
      rintro e w10 ⟨rfl, n10, rfl⟩
      have B10 := hide (below_drewNq B9.out n10)
      have R10 : Hid (RowR (w9.drewN n10) a7 len1 c7 l) := R9.out
      have R11 := hide (HH1.out.later B10.out)
      generalize w9.drewN n10 = w10 at B10 R10 R11 ⊢
      clear R9 B9 BK9 R0
      go_wp2_with fail
      refine (runes_calls' a7 a1 c7 cap1 len1 l w10 R10.out R11.out).mono ?_
      rintro e w11 ⟨rfl, n11, rfl⟩
      have B11 := hide (below_drewNq B10.out n11)
      generalize w10.drewN n11 = w11 at B11 ⊢
      clear R10 R11 B10
      go_wp2_with fail
      refine (works_calls w11 (HT.out.later B11.out)).mono ?_
      rintro e w12 ⟨rfl, hb12⟩
      have B12 := hide (B11.out.trans (hb12.mono B11.out.size))
      clear hb12
      go_wp2
      go_ret
      exact ⟨rfl, B12.out⟩

theorem nameFresh_any (a a1 : Option Addr) (len cap len1 cap1 : Nat) (b l : List Int) (w : World) (H : Row w a len cap b) (H1 : RowR w a1 len1 cap1 l) (hT : Tabs w) (nb : len + len1 ≤ 1048576) :
    Calls Tryd.prog 4 #[.slice a len cap, .slice a1 len1 cap1] w fun e w' => e = .returned (.bool true) ∧ Below w.heap.size w w' := by
  have hl := H.1
  subst hl
  exact nameFresh_calls a a1 cap len1 cap1 b l w H H1 hT nb

end Go.Proofs.YthillphedjjhjabDoor
